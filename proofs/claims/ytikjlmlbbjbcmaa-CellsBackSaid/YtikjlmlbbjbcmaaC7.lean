/- CellsBack. -/
import Derived.Test.YtikjlmlbbjbcmaaC6
import Derived.Test.YtikjlmlbbjbcmaaP2
namespace Go.Proofs.Ytikjlmlbbjbcmaa
open Go.RowKit Go.Maps Go.ChangeMaps Go.MapKept

/-- Cells of the call's own, of which at one address x stands. -/
def Lk (w : World) (base B a x n : Nat) : Prop := ∃ L k a0 was is, St w base B L n k a0 was is ∧ look L a = x
theorem Lk.new {w w' : World} {base B a x n : Nat} (h : Lk w base B a x n) (b : Below w.heap.size w w') : Lk w' base B a x n := by
  obtain ⟨L, k, a0, was, is, s, e⟩ := h
  exact ⟨L, k, a0, was, is, s.new b, e⟩
theorem Lk.size {w : World} {base B a x n : Nat} (h : Lk w base B a x n) : base ≤ w.heap.size := let ⟨_, _, _, _, _, s, _⟩ := h; s.size
theorem Lk.lt {w : World} {base B a x n : Nat} (h : Lk w base B a x n) : x < 18446744073709551616 := by
  obtain ⟨L, k, a0, was, is, s, e⟩ := h
  rw [← e]
  exact look_lt s.good a
theorem lk_store (w : World) (base B a x n v y : Nat) (h : Lk w base B a x n) (ha : a < 4294967296) (hv : v < 18446744073709551616) (hn : n < 4611686018427387904) (hy : bring a (v) = y) :
    Calls Try.prog 19 #[Pt B, .int .u32 a, .int .u64 v] w fun e w' => e = .returned (.int .u64 x) ∧ Lk w' base B a y (n + 1) ∧ Below base w w' := by
  obtain ⟨L, k, a0, was, is, s, rfl⟩ := h
  subst hy
  exact (st_store w base B L n k a0 was is a v s ha hv hn).mono fun _ _ ⟨he, hs, hb⟩ => ⟨he, ⟨_, _, _, _, _, hs, look_put_same a _ L⟩, hb⟩
theorem lk_swap (w : World) (base B a x n v y : Nat) (h : Lk w base B a x n) (ha : a < 4294967296) (hv : v < 18446744073709551616) (hn : n < 4611686018427387904) (hy : bring a (v) = y) :
    Calls Try.prog 20 #[Pt B, .int .u32 a, .int .u64 v] w fun e w' => e = .returned (.int .u64 x) ∧ Lk w' base B a y (n + 1) ∧ Below base w w' := by
  obtain ⟨L, k, a0, was, is, s, rfl⟩ := h
  subst hy
  exact (st_swap w base B L n k a0 was is a v s ha hv hn).mono fun _ _ ⟨he, hs, hb⟩ => ⟨he, ⟨_, _, _, _, _, hs, look_put_same a _ L⟩, hb⟩
theorem lk_add (w : World) (base B a x n v y : Nat) (h : Lk w base B a x n) (ha : a < 4294967296) (hv : v < 18446744073709551616) (hn : n < 4611686018427387904) (hy : bring a ((x + v) % 18446744073709551616) = y) :
    Calls Try.prog 21 #[Pt B, .int .u32 a, .int .u64 v] w fun e w' => e = .returned (.int .u64 x) ∧ Lk w' base B a y (n + 1) ∧ Below base w w' := by
  obtain ⟨L, k, a0, was, is, s, rfl⟩ := h
  subst hy
  exact (st_add w base B L n k a0 was is a v s ha hv hn).mono fun _ _ ⟨he, hs, hb⟩ => ⟨he, ⟨_, _, _, _, _, hs, look_put_same a _ L⟩, hb⟩
theorem lk_and (w : World) (base B a x n v y : Nat) (h : Lk w base B a x n) (ha : a < 4294967296) (hv : v < 18446744073709551616) (hn : n < 4611686018427387904) (hy : bring a (x &&& v) = y) :
    Calls Try.prog 22 #[Pt B, .int .u32 a, .int .u64 v] w fun e w' => e = .returned (.int .u64 x) ∧ Lk w' base B a y (n + 1) ∧ Below base w w' := by
  obtain ⟨L, k, a0, was, is, s, rfl⟩ := h
  subst hy
  exact (st_and w base B L n k a0 was is a v s ha hv hn).mono fun _ _ ⟨he, hs, hb⟩ => ⟨he, ⟨_, _, _, _, _, hs, look_put_same a _ L⟩, hb⟩
theorem lk_or (w : World) (base B a x n v y : Nat) (h : Lk w base B a x n) (ha : a < 4294967296) (hv : v < 18446744073709551616) (hn : n < 4611686018427387904) (hy : bring a (x ||| v) = y) :
    Calls Try.prog 23 #[Pt B, .int .u32 a, .int .u64 v] w fun e w' => e = .returned (.int .u64 x) ∧ Lk w' base B a y (n + 1) ∧ Below base w w' := by
  obtain ⟨L, k, a0, was, is, s, rfl⟩ := h
  subst hy
  exact (st_or w base B L n k a0 was is a v s ha hv hn).mono fun _ _ ⟨he, hs, hb⟩ => ⟨he, ⟨_, _, _, _, _, hs, look_put_same a _ L⟩, hb⟩
theorem lk_cas (w : World) (base B a x n u v y : Nat) (h : Lk w base B a x n) (ha : a < 4294967296) (hv : v < 18446744073709551616) (hn : n < 4611686018427387904) (hy : bring a (casV x u v) = y) :
    Calls Try.prog 17 #[Pt B, .int .u32 a, .int .u64 u, .int .u64 v] w fun e w' => e = .returned (.tuple #[.int .u64 x, .bool (decide (x = u))]) ∧ Lk w' base B a y (n + 1) ∧ Below base w w' := by
  obtain ⟨L, k, a0, was, is, s, rfl⟩ := h
  subst hy
  exact (st_cas w base B L n k a0 was is a u v s ha hv hn).mono fun _ _ ⟨he, hs, hb⟩ => ⟨he, ⟨_, _, _, _, _, hs, look_put_same a _ L⟩, hb⟩
theorem lk_peek (w : World) (base B a x n : Nat) (h : Lk w base B a x n) (ha : a < 4294967296) :
    Calls Try.prog 12 #[Pt B, .int .u32 a] w fun e w' => e = .returned (.int .u64 x) ∧ w = w' := by
  obtain ⟨L, k, a0, was, is, s, rfl⟩ := h
  exact st_peek w base B L n k a0 was is a s ha
theorem lk_cas_no (w : World) (base B a x n u v : Nat) (h : Lk w base B a x n) (ha : a < 4294967296) (hv : v < 18446744073709551616) (hn : n < 4611686018427387904) (hx : bring a x = x) (hne : x ≠ u) :
    Calls Try.prog 17 #[Pt B, .int .u32 a, .int .u64 u, .int .u64 v] w fun e w' => e = .returned (.tuple #[.int .u64 x, .bool false]) ∧ Lk w' base B a x (n + 1) ∧ Below base w w' := by
  have := lk_cas w base B a x n u v x h ha hv hn (by unfold casV; rw [if_neg hne]; exact hx)
  rwa [decide_eq_false hne] at this
theorem lk_cas_yes (w : World) (base B a x n v y : Nat) (h : Lk w base B a x n) (ha : a < 4294967296) (hv : v < 18446744073709551616) (hn : n < 4611686018427387904) (hy : bring a v = y) :
    Calls Try.prog 17 #[Pt B, .int .u32 a, .int .u64 x, .int .u64 v] w fun e w' => e = .returned (.tuple #[.int .u64 x, .bool true]) ∧ Lk w' base B a y (n + 1) ∧ Below base w w' := by
  have := lk_cas w base B a x n x v y h ha hv hn (by unfold casV; rw [if_pos rfl]; exact hy)
  rwa [decide_eq_true rfl] at this
theorem lk_new (w : World) (a : Nat) : Calls Try.prog 8 #[.slice none 0 0] w fun e w' => e = .returned (Pt w.heap.size) ∧ Lk w' w.heap.size w.heap.size a 0 0 ∧ Below w.heap.size w w' :=
  (st_new w).mono fun _ _ ⟨he, hs, hb⟩ => ⟨he, ⟨[], 0, 0, 0, 0, hs, rfl⟩, hb⟩
set_option maxHeartbeats 400000 in
theorem back_z (x : Bool) (a v d z y1 y2 o1 r : Nat) (ha : a < 4294967296) (hv : v < 18446744073709551616) (hd : d < 18446744073709551616) (hx : byteB a = x) (hz : bring a v = z)
    (hs : (x = false ∧ v = z) ∨ (x = true ∧ (v : Int) % 256 = (z : Int)))
    (h1 : bring a ((z + d) % 18446744073709551616) = y1) (h2 : bring a ((y1 + negN d) % 18446744073709551616) = z) (h0 : bring a z = z) (h3 : bring a d = y2)
    (h4 : bring a (z ||| d) = o1) (h5 : bring a (o1 &&& cpl d) = r) (h6 : bits .andNot .u64 (z : Int) (d : Int) = (r : Int)) (w : World) :
    Calls Try.prog 6 #[.int .u32 a, .int .u64 v, .int .u64 d] w fun e w' => e = .returned (.bool true) ∧ Below w.heap.size w w' := by
  have q0 := lk_new w a
  have qb := fun W => byte_any a ha W
  rw [hx] at qb
  have ql := fun W => lives_any W
  obtain ⟨b, hb⟩ : ∃ b, b = w.heap.size := ⟨_, rfl⟩
  rw [← hb] at q0
  have Q0 := Lib.hid q0
  have QB := Lib.hid qb
  have QL := Lib.hid ql
  have HB := Lib.hid hb
  have f1 := wrap_neg d hd
  have f2 := bits_not d hd
  have f4 := wrap_one z
  have hzl : z < 18446744073709551616 := by rw [← hz]; exact bring_lt hv
  have hnl : negN d < 18446744073709551616 := by unfold negN; omega
  have hcl := cpl_lt d
  have hne : z ≠ (z + 1) % 18446744073709551616 := by omega
  generalize negN d = nd at *
  generalize cpl d = cd at *
  generalize hz1 : (z + 1) % 18446744073709551616 = z1 at *
  have K1 := Lib.hid h1
  have K2 := Lib.hid h2
  have K0 := Lib.hid h0
  have K3 := Lib.hid h3
  have K4 := Lib.hid h4
  have K5 := Lib.hid h5
  have KZ := Lib.hid hz
  have KN := Lib.hid hne
  have KX := Lib.hid hx
  clear q0 qb ql hb h1 h2 h0 h3 h4 h5 hz hne hx hz1
  rcases hs with ⟨rfl, rfl⟩ | ⟨rfl, hs'⟩
  all_goals
    go_enter Try.func6, Try.ntmps6
    go_wp2_with fail
    refine Q0.out.mono ?_
    rintro e w1 ⟨rfl, s1, b1⟩
    have S1 := Lib.hid s1; have B1 := Lib.hid b1; clear s1 b1
    go_wp2_with fail
    refine (lk_store w1 b b a 0 0 v _ S1.out ha hv (by omega) KZ.out).mono ?_
    rintro e w2 ⟨rfl, s2, b2⟩
    have S2 := Lib.hid s2; have B2 := Lib.hid b2; clear s2 b2
    go_wp2_with fail
    refine (QB.out _).mono ?_
    rintro e w2' ⟨rfl, rfl⟩
    go_wp2_with fail
    refine (lk_add w2 b b a _ 1 d y1 S2.out ha hd (by omega) K1.out).mono ?_
    rintro e w3 ⟨rfl, s3, b3⟩
    have S3 := Lib.hid s3; have B3 := Lib.hid b3; clear s3 b3
    go_wp2_with fail
    refine (lk_add w3 b b a _ 2 nd _ S3.out ha hnl (by omega) K2.out).mono ?_
    rintro e w4 ⟨rfl, s4, b4⟩
    have S4 := Lib.hid s4; have B4 := Lib.hid b4; clear s4 b4
    go_wp2_with fail
    refine (lk_peek w4 b b a _ 3 S4.out ha).mono ?_
    rintro e w4' ⟨rfl, rfl⟩
    go_wp2_with fail
    refine (lk_cas_no w4 b b a _ 3 z1 d S4.out ha hd (by omega) K0.out KN.out).mono ?_
    rintro e w5 ⟨rfl, s5, b5⟩
    have S5 := Lib.hid s5; have B5 := Lib.hid b5; clear s5 b5
    go_wp2_with fail
    refine (lk_cas_yes w5 b b a _ 4 d _ S5.out ha hd (by omega) K3.out).mono ?_
    rintro e w6 ⟨rfl, s6, b6⟩
    have S6 := Lib.hid s6; have B6 := Lib.hid b6; clear s6 b6
    go_wp2_with fail
    refine (lk_peek w6 b b a _ 5 S6.out ha).mono ?_
    rintro e w6' ⟨rfl, rfl⟩
    go_wp2_with fail
    refine (lk_swap w6 b b a _ 5 v _ S6.out ha hv (by omega) KZ.out).mono ?_
    rintro e w7 ⟨rfl, s7, b7⟩
    have S7 := Lib.hid s7; have B7 := Lib.hid b7; clear s7 b7
    go_wp2_with fail
    refine (lk_peek w7 b b a _ 6 S7.out ha).mono ?_
    rintro e w7' ⟨rfl, rfl⟩
    go_wp2_with fail
    refine (lk_or w7 b b a _ 6 d _ S7.out ha hd (by omega) K4.out).mono ?_
    rintro e w8 ⟨rfl, s8, b8⟩
    have S8 := Lib.hid s8; have B8 := Lib.hid b8; clear s8 b8
    go_wp2_with fail
    refine (lk_and w8 b b a _ 7 cd _ S8.out ha hcl (by omega) K5.out).mono ?_
    rintro e w9 ⟨rfl, s9, b9⟩
    have S9 := Lib.hid s9; have B9 := Lib.hid b9; clear s9 b9
    go_wp2_with fail
    refine (lk_peek w9 b b a _ 8 S9.out ha).mono ?_
    rintro e w9' ⟨rfl, rfl⟩
    go_wp2_with fail
    refine (QL.out _).mono ?_
    rintro e w10 ⟨rfl, b10⟩
    have B10 := Lib.hid b10; clear b10
    go_wp2
    go_ret
    refine ⟨rfl, ?_⟩
    rw [← HB.out]
    exact (((((((((B1.out.mono (by rw [HB.out]; exact Nat.le_refl _)).trans B2.out).trans B3.out).trans B4.out).trans B5.out).trans B6.out).trans B7.out).trans B8.out).trans B9.out).trans (B10.out.mono S9.out.size)
theorem law_back (a v d : Nat) (ha : a < 4294967296) (hv : v < 18446744073709551616) (hd : d < 18446744073709551616) (w : World) :
    Calls Try.prog 6 #[.int .u32 a, .int .u64 v, .int .u64 d] w fun e w' => e = .returned (.bool true) ∧ Below w.heap.size w w' := by
  refine back_z (byteB a) a v d (bring a v) _ _ _ (bring a v &&& cpl d) ha hv hd rfl rfl ?_ rfl (bring_neg a v d hv hd) (bring_bring a v) rfl rfl (bring_back a v d hd) (andNot_nat _ d (bring_lt hv) hd) w
  unfold bring
  by_cases h : byteB a = true
  · right
    rw [if_pos h]
    exact ⟨h, by simp⟩
  · left
    rw [if_neg h]
    exact ⟨by simpa using h, rfl⟩
end Go.Proofs.Ytikjlmlbbjbcmaa
