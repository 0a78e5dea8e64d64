import Derived.Test.YtopkdnjploipaaaDoorWe
import Derived.Deep.DeepCutAuto
namespace Go.Proofs.YtopkdnjploipaaaDoor
open Go.RowKit Go.Sort Go.Lib
/-- Two boxed words, in blocks n and n + 1, their heads threads or -1. -/
structure Two (w0 : World) (l q l2 q2 : Bool) (h h2 : Int) (w : World) : Prop where
  below : Below w0.heap.size w0 w
  size : w0.heap.size + 1 < w.heap.size
  a0 : w.cell? ⟨w0.heap.size, 0, none⟩ = some (.bool l)
  a1 : w.cell? ⟨w0.heap.size, 1, none⟩ = some (.bool q)
  a2 : w.cell? ⟨w0.heap.size, 2, none⟩ = some (.int .i64 h)
  fa : w.frozen? ⟨w0.heap.size, 2, none⟩ = false
  b0 : w.cell? ⟨w0.heap.size + 1, 0, none⟩ = some (.bool l2)
  b1 : w.cell? ⟨w0.heap.size + 1, 1, none⟩ = some (.bool q2)
  b2 : w.cell? ⟨w0.heap.size + 1, 2, none⟩ = some (.int .i64 h2)
  fb : w.frozen? ⟨w0.heap.size + 1, 2, none⟩ = false
theorem Two.setA {w0 w : World} {l q l2 q2 : Bool} {h h2 : Int} (H : Two w0 l q l2 q2 h h2 w) (v : Int) : Two w0 l q l2 q2 v h2 (w.setCell ⟨w0.heap.size, 2, none⟩ (.int .i64 v)) where
  below := H.below.setCell (by simp) _
  size := by simpa using H.size
  a0 := (World.cell?_setCell_other _ _ _ _ (by simp)).trans H.a0
  a1 := (World.cell?_setCell_other _ _ _ _ (by simp)).trans H.a1
  a2 := World.cell?_setCell_same _ _ _ H.a2
  fa := (World.frozen?_setCell _ _ _ _).trans H.fa
  b0 := (World.cell?_setCell_other _ _ _ _ (by simp)).trans H.b0
  b1 := (World.cell?_setCell_other _ _ _ _ (by simp)).trans H.b1
  b2 := (World.cell?_setCell_other _ _ _ _ (by simp)).trans H.b2
  fb := (World.frozen?_setCell _ _ _ _).trans H.fb
theorem Two.setB {w0 w : World} {l q l2 q2 : Bool} {h h2 : Int} (H : Two w0 l q l2 q2 h h2 w) (v : Int) : Two w0 l q l2 q2 h v (w.setCell ⟨w0.heap.size + 1, 2, none⟩ (.int .i64 v)) where
  below := H.below.setCell (by simp) _
  size := by simpa using H.size
  a0 := (World.cell?_setCell_other _ _ _ _ (by simp)).trans H.a0
  a1 := (World.cell?_setCell_other _ _ _ _ (by simp)).trans H.a1
  a2 := (World.cell?_setCell_other _ _ _ _ (by simp)).trans H.a2
  fa := (World.frozen?_setCell _ _ _ _).trans H.fa
  b0 := (World.cell?_setCell_other _ _ _ _ (by simp)).trans H.b0
  b1 := (World.cell?_setCell_other _ _ _ _ (by simp)).trans H.b1
  b2 := World.cell?_setCell_same _ _ _ H.b2
  fb := (World.frozen?_setCell _ _ _ _).trans H.fb
theorem Two.next {w0 w w' : World} {l q l2 q2 : Bool} {h h2 : Int} (H : Two w0 l q l2 q2 h h2 w) (hb : Below w.heap.size w w') : Two w0 l q l2 q2 h h2 w' := by
  have s := H.size
  exact ⟨H.below.trans (hb.mono (by omega)), Nat.lt_of_lt_of_le H.size hb.size, (hb.cell (by show w0.heap.size < _; omega)).trans H.a0, (hb.cell (by show w0.heap.size < _; omega)).trans H.a1, (hb.cell (by show w0.heap.size < _; omega)).trans H.a2, (hb.frozen (by show w0.heap.size < _; omega)).trans H.fa,
    (hb.cell (by show w0.heap.size + 1 < _; omega)).trans H.b0, (hb.cell (by show w0.heap.size + 1 < _; omega)).trans H.b1, (hb.cell (by show w0.heap.size + 1 < _; omega)).trans H.b2, (hb.frozen (by show w0.heap.size + 1 < _; omega)).trans H.fb⟩
theorem Two.drew {w0 w : World} {l q l2 q2 : Bool} {h h2 : Int} (H : Two w0 l q l2 q2 h h2 w) : Two w0 l q l2 q2 h h2 w.drew :=
  H.next (Below.refl _ _).drew
theorem Two.made (w : World) (l q l2 q2 : Bool) (h h2 : Int) : Two w l q l2 q2 h h2 ((w.alloc (.cells #[.bool l, .bool q, .int .i64 h] 23)).alloc (.cells #[.bool l2, .bool q2, .int .i64 h2] 23)) := by
  have e : (w.alloc (.cells #[.bool l, .bool q, .int .i64 h] 23)).heap.size = w.heap.size + 1 := by simp
  refine ⟨((Below.refl _ _).alloc (Nat.le_refl _) _).alloc (by simp) _, by simp, ?_, ?_, ?_, ?_, ?_, ?_, ?_, ?_⟩
  · rw [World.cell?_alloc_past _ _ _ (by simp), World.cell?_alloc_at _ _ _ _ rfl]; rfl
  · rw [World.cell?_alloc_past _ _ _ (by simp), World.cell?_alloc_at _ _ _ _ rfl]; rfl
  · rw [World.cell?_alloc_past _ _ _ (by simp), World.cell?_alloc_at _ _ _ _ rfl]; rfl
  · rw [World.frozen?_alloc_past _ _ _ (by simp)]; exact World.frozen?_alloc_at _ _ _ _ rfl
  · rw [World.cell?_alloc_at _ _ _ _ e.symm]; rfl
  · rw [World.cell?_alloc_at _ _ _ _ e.symm]; rfl
  · rw [World.cell?_alloc_at _ _ _ _ e.symm]; rfl
  · exact World.frozen?_alloc_at _ _ _ _ e.symm
def isHead (h : Int) : Prop := -1 ≤ h ∧ h ≤ 63
def offB (h : Int) : Bool := decide (h < 0) || decide (64 ≤ h)
theorem off_neg (h : Int) (c : h < 0) : offB h = true := by simp [offB, c]
theorem off_pos (h : Int) (c : ¬ h < 0) : offB h = decide (64 ≤ h) := by simp [offB, c]
theorem off_in (h : Int) (c : offB h = false) : isHead h := by
  simp [offB] at c; exact ⟨by omega, by omega⟩
theorem put_nat (l q : Bool) (h : Int) (hi : isHead h) : ∃ n : Nat, putN l q h = n ∧ n ≤ 259 ∧ bitB n 0 = l ∧ bitB n 1 = q ∧ headN n = h := by
  obtain ⟨i1, i2⟩ := hi
  unfold putN bitB headN
  by_cases c : 0 ≤ h
  · obtain ⟨k, rfl⟩ := Int.eq_ofNat_of_zero_le c
    rw [if_pos ⟨c, i2⟩]
    cases l <;> cases q
    · refine ⟨4 * (k + 1), by simp, by omega, ?_, ?_, ?_⟩
      · simp; omega
      · simp; omega
      · rw [if_pos (by omega)]; omega
    · refine ⟨4 * (k + 1) + 2, by simp, by omega, ?_, ?_, ?_⟩
      · simp; omega
      · simp; omega
      · rw [if_pos (by omega)]; omega
    · refine ⟨4 * (k + 1) + 1, by simp, by omega, ?_, ?_, ?_⟩
      · simp; omega
      · simp; omega
      · rw [if_pos (by omega)]; omega
    · refine ⟨4 * (k + 1) + 3, by simp; omega, by omega, ?_, ?_, ?_⟩
      · simp; omega
      · simp; omega
      · rw [if_pos (by omega)]; omega
  · have e : h = -1 := by omega
    subst e
    rw [if_neg (by omega)]
    cases l <;> cases q
    · exact ⟨0, by decide, by decide, by decide, by decide, by decide⟩
    · exact ⟨2, by decide, by decide, by decide, by decide, by decide⟩
    · exact ⟨1, by decide, by decide, by decide, by decide, by decide⟩
    · exact ⟨3, by decide, by decide, by decide, by decide, by decide⟩
theorem put_inj (l q l2 q2 : Bool) (h h2 : Int) (hi : isHead h) (hi2 : isHead h2) (he : putN l q h = putN l2 q2 h2) : l = l2 ∧ q = q2 ∧ h = h2 := by
  obtain ⟨n, e, _, a, b, c⟩ := put_nat l q h hi
  obtain ⟨n', e', _, a', b', c'⟩ := put_nat l2 q2 h2 hi2
  rw [e, e'] at he
  obtain rfl : n = n' := by omega
  exact ⟨a ▸ a', b ▸ b', c ▸ c'⟩
theorem as_put (l q : Bool) (h : Int) (hi : isHead h) (W : World) : Calls Tryd.prog 11 #[.int .u64 (putN l q h)] W fun e w' => e = .returned (.agg #[.bool l, .bool q, .int .i64 h]) ∧ Below W.heap.size W w' := by
  obtain ⟨n, e, hn, a, b, c⟩ := put_nat l q h hi
  have := as_any n (by omega) W
  unfold asV at this
  rw [a, b, c] at this
  rw [e]
  exact this
theorem put_as (u : Nat) (hu : u ≤ 259) : putN (bitB u 0) (bitB u 1) (headN u) = u := by
  unfold putN bitB headN
  by_cases c : 1 ≤ u / 4
  · rw [if_pos (show 1 ≤ u / 4 ∧ u / 4 ≤ 64 from ⟨c, by omega⟩), if_pos (by omega)]
    by_cases d : u / 2 ^ 0 % 2 = 1 <;> by_cases d2 : u / 2 ^ 1 % 2 = 1 <;> simp [d, d2] <;> simp at d d2 <;> omega
  · rw [if_neg (show ¬ (1 ≤ u / 4 ∧ u / 4 ≤ 64) by omega), if_neg (by omega)]
    by_cases d : u / 2 ^ 0 % 2 = 1 <;> by_cases d2 : u / 2 ^ 1 % 2 = 1 <;> simp [d, d2] <;> simp at d d2 <;> omega
theorem head_is (u : Nat) : isHead (headN u) := by
  unfold headN isHead; split <;> constructor <;> omega
def SomeTwo (w0 : World) (l q l2 q2 : Bool) (w : World) : Prop := ∃ h h2, isHead h ∧ isHead h2 ∧ Two w0 l q l2 q2 h h2 w
def SomeOne (w0 : World) (l q l2 q2 : Bool) (h2 : Int) (w : World) : Prop := ∃ h, isHead h ∧ Two w0 l q l2 q2 h h2 w
theorem kp {w0 w : World} {l q l2 q2 : Bool} {h h2 : Int} (H : Two w0 l q l2 q2 h h2 w) : w.cell? ⟨w0.heap.size, 0, none⟩ = some (.bool l) ∧ w.cell? ⟨w0.heap.size, 1, none⟩ = some (.bool q) ∧ w.cell? ⟨w0.heap.size, 2, none⟩ = some (.int .i64 h) ∧ w.cell? ⟨w0.heap.size + 1, 0, none⟩ = some (.bool l2) ∧ w.cell? ⟨w0.heap.size + 1, 1, none⟩ = some (.bool q2) ∧ w.cell? ⟨w0.heap.size + 1, 2, none⟩ = some (.int .i64 h2) ∧ Two w0 l q l2 q2 h h2 w :=
  ⟨H.a0, H.a1, H.a2, H.b0, H.b1, H.b2, H⟩
theorem kp0 {w0 w : World} {l q l2 q2 : Bool} {h h2 : Int} (H : Two w0 l q l2 q2 h h2 w) : w.drew.cell? ⟨w0.heap.size, 0, none⟩ = some (.bool l) ∧ w.drew.cell? ⟨w0.heap.size, 1, none⟩ = some (.bool q) ∧ w.drew.cell? ⟨w0.heap.size, 2, none⟩ = some (.int .i64 h) ∧ w.drew.cell? ⟨w0.heap.size + 1, 0, none⟩ = some (.bool l2) ∧ w.drew.cell? ⟨w0.heap.size + 1, 1, none⟩ = some (.bool q2) ∧ w.drew.cell? ⟨w0.heap.size + 1, 2, none⟩ = some (.int .i64 h2) ∧ Two w0 l q l2 q2 h h2 w.drew := kp H.drew
theorem kp1 {w0 w w' : World} {l q l2 q2 : Bool} {h h2 : Int} (hb : Below w.heap.size w w') (H : Two w0 l q l2 q2 h h2 w) : w'.cell? ⟨w0.heap.size, 0, none⟩ = some (.bool l) ∧ w'.cell? ⟨w0.heap.size, 1, none⟩ = some (.bool q) ∧ w'.cell? ⟨w0.heap.size, 2, none⟩ = some (.int .i64 h) ∧ w'.cell? ⟨w0.heap.size + 1, 0, none⟩ = some (.bool l2) ∧ w'.cell? ⟨w0.heap.size + 1, 1, none⟩ = some (.bool q2) ∧ w'.cell? ⟨w0.heap.size + 1, 2, none⟩ = some (.int .i64 h2) ∧ Two w0 l q l2 q2 h h2 w' := kp (H.next hb)
set_option maxHeartbeats 2000000 in
set_option maxRecDepth 100000 in
theorem law_back (l q l2 q2 : Bool) (h h2 : Int) (hh : -9223372036854775808 ≤ h) (hh' : h ≤ 9223372036854775807) (hh2 : -9223372036854775808 ≤ h2) (hh2' : h2 ≤ 9223372036854775807) (u : Nat) (hu : u < 18446744073709551616) (w : World) (hT : Tabs w) :
    Calls Tryd.prog 6 #[.agg #[.bool l, .bool q, .int .i64 h], .agg #[.bool l2, .bool q2, .int .i64 h2], .int .u64 u] w fun e w' => e = .returned (.bool true) ∧ Below w.heap.size w w' := by
  have hm := Two.made w l q l2 q2 h h2
  go_enter Tryd.func6, Tryd.ntmps6
  go_upto_region 1 with (fail)
  generalize (w.alloc (.cells #[.bool l, .bool q, .int .i64 h] 23)).alloc (.cells #[.bool l2, .bool q2, .int .i64 h2] 23) = wa at *
  go_cut [14] (fun s wx => s = .bool (offB h) ∧ Two w l q l2 q2 h h2 wx)
  case first =>
    have a2 := hm.a2
    by_cases c1 : h < 0
    · go_wp2
      go_meet
      exact ⟨by rw [off_neg h c1], hm⟩
    · go_wp2
      go_meet
      exact ⟨by rw [off_pos h (by omega)], hm⟩
  case rest =>
    obtain ⟨rfl, hm0⟩ := hcut
    clear hm
    go_upto_if 14 with (fail)
    go_cut [] (fun wx => SomeOne w l q l2 q2 h2 wx)
    case first =>
      have a2 := hm0.a2
      have fa := hm0.fa
      cases c1 : offB h
      · go_wp2
        go_meet
        exact ⟨h, off_in h c1, hm0⟩
      · go_wp2
        go_meet
        exact ⟨-1, ⟨by omega, by omega⟩, hm0.setA _⟩
    case rest =>
      obtain ⟨h', hi, hm1⟩ := hcut
      clear hm0
      go_upto_region 3 with (fail)
      go_cut [23] (fun s wx => s = .bool (offB h2) ∧ Two w l q l2 q2 h' h2 wx)
      case first =>
        have b2 := hm1.b2
        by_cases c1 : h2 < 0
        · go_wp2
          go_meet
          exact ⟨by rw [off_neg h2 c1], hm1⟩
        · go_wp2
          go_meet
          exact ⟨by rw [off_pos h2 (by omega)], hm1⟩
      case rest =>
        obtain ⟨rfl, hm2⟩ := hcut
        clear hm1
        go_upto_if 23 with (fail)
        go_cut [] (fun wx => SomeTwo w l q l2 q2 wx)
        case first =>
          have b2 := hm2.b2
          have fb := hm2.fb
          cases c1 : offB h2
          · go_wp2
            go_meet
            exact ⟨h', h2, hi, off_in h2 c1, hm2⟩
          · go_wp2
            go_meet
            exact ⟨h', -1, hi, ⟨by omega, by omega⟩, hm2.setB _⟩
        case rest =>
          obtain ⟨h1, h3, i1, i3, hm3⟩ := hcut
          clear hm2
          have k1 := fun W => put_any l q h1 (by have := i1.1; omega) (by have := i1.2; omega) W
          have k2 := fun W => put_any l2 q2 h3 (by have := i3.1; omega) (by have := i3.2; omega) W
          have k3 := fun W => as_put l q h1 i1 W
          have inj := put_inj l q l2 q2 h1 h3 i1 i3
          have c0 := hm3.a0
          have c1 := hm3.a1
          have c2 := hm3.a2
          have d0 := hm3.b0
          have d1 := hm3.b1
          have d2 := hm3.b2
          have hc : (l = l2 ∧ q = q2 ∧ h1 = h3) ∨ (¬ l = l2) ∨ (l = l2 ∧ ¬ q = q2) ∨ (l = l2 ∧ q = q2 ∧ ¬ h1 = h3) := by
            by_cases x1 : l = l2 <;> by_cases x2 : q = q2 <;> by_cases x3 : h1 = h3 <;> simp [x1, x2, x3]
          have hne : ¬ (l = l2 ∧ q = q2 ∧ h1 = h3) → (putN l q h1 == putN l2 q2 h3) = false := fun hn => by rw [beq_eq_false_iff_ne]; exact fun h => hn (inj h)
          clear inj
          go_upto_region 5 with (fail)
          go_cut [40] (fun s wx => s = .bool false ∧ ∃ l q l2 q2 h h2, isHead h ∧ isHead h2 ∧ Two w l q l2 q2 h h2 wx)
          case first =>
            rcases hc with ⟨rfl, rfl, rfl⟩ | x1 | ⟨rfl, x2⟩ | ⟨rfl, rfl, x3⟩
            · clear k2 hne
              generalize putN l q h1 = p at *
              have K1 := Lib.hid k1
              have K3 := Lib.hid k3
              clear k1 k3
              go_upto_region 5 with (fail)
              go_region_held3 (fun w' => w'.cell? ⟨w.heap.size, 0, none⟩ = some (.bool l) ∧ w'.cell? ⟨w.heap.size, 1, none⟩ = some (.bool q) ∧ w'.cell? ⟨w.heap.size, 2, none⟩ = some (.int .i64 h1) ∧ w'.cell? ⟨w.heap.size + 1, 0, none⟩ = some (.bool l) ∧ w'.cell? ⟨w.heap.size + 1, 1, none⟩ = some (.bool q) ∧ w'.cell? ⟨w.heap.size + 1, 2, none⟩ = some (.int .i64 h1) ∧ Two w l q l q h1 h1 w')
                (first
                  | exact kp0 hm3
                  | (go_split_ands; exact kp1 (by assumption) (by assumption)))
                (first
                  | (go_at_call 8; refine (K1.out _).mono ?_; rintro e w1 ⟨rfl, hb⟩)
                  | (go_at_call 11; refine (K3.out _).mono ?_; rintro e w1 ⟨rfl, hb⟩))
              all_goals (go_wp2_with fail; go_split_ands; go_meet; exact ⟨rfl, l, q, l, q, h1, h1, i1, i3, by assumption⟩)
            · have hn2 := hne (fun h => x1 h.1)
              clear hne
              generalize putN l q h1 = p at *
              generalize putN l2 q2 h3 = p2 at *
              have K1 := Lib.hid k1
              have K2 := Lib.hid k2
              have K3 := Lib.hid k3
              clear k1 k2 k3
              go_upto_region 5 with (fail)
              go_region_held3 (fun w' => w'.cell? ⟨w.heap.size, 0, none⟩ = some (.bool l) ∧ w'.cell? ⟨w.heap.size, 1, none⟩ = some (.bool q) ∧ w'.cell? ⟨w.heap.size, 2, none⟩ = some (.int .i64 h1) ∧ w'.cell? ⟨w.heap.size + 1, 0, none⟩ = some (.bool l2) ∧ w'.cell? ⟨w.heap.size + 1, 1, none⟩ = some (.bool q2) ∧ w'.cell? ⟨w.heap.size + 1, 2, none⟩ = some (.int .i64 h3) ∧ Two w l q l2 q2 h1 h3 w')
                (first
                  | exact kp0 hm3
                  | (go_split_ands; exact kp1 (by assumption) (by assumption)))
                (first
                  | (go_at_call 8; ((with_reducible refine (K1.out _).mono ?_)); rintro e w1 ⟨rfl, hb⟩)
                  | (go_at_call 8; ((with_reducible refine (K2.out _).mono ?_)); rintro e w1 ⟨rfl, hb⟩)
                  | (go_at_call 11; refine (K3.out _).mono ?_; rintro e w1 ⟨rfl, hb⟩))
              all_goals (go_wp2_with fail; go_split_ands; go_meet; exact ⟨rfl, l, q, l2, q2, h1, h3, i1, i3, by assumption⟩)
            · have hn2 := hne (fun h => x2 h.2.1)
              clear hne
              generalize putN l q h1 = p at *
              generalize putN l q2 h3 = p2 at *
              have K1 := Lib.hid k1
              have K2 := Lib.hid k2
              have K3 := Lib.hid k3
              clear k1 k2 k3
              go_upto_region 5 with (fail)
              go_region_held3 (fun w' => w'.cell? ⟨w.heap.size, 0, none⟩ = some (.bool l) ∧ w'.cell? ⟨w.heap.size, 1, none⟩ = some (.bool q) ∧ w'.cell? ⟨w.heap.size, 2, none⟩ = some (.int .i64 h1) ∧ w'.cell? ⟨w.heap.size + 1, 0, none⟩ = some (.bool l) ∧ w'.cell? ⟨w.heap.size + 1, 1, none⟩ = some (.bool q2) ∧ w'.cell? ⟨w.heap.size + 1, 2, none⟩ = some (.int .i64 h3) ∧ Two w l q l q2 h1 h3 w')
                (first
                  | exact kp0 hm3
                  | (go_split_ands; exact kp1 (by assumption) (by assumption)))
                (first
                  | (go_at_call 8; ((with_reducible refine (K1.out _).mono ?_)); rintro e w1 ⟨rfl, hb⟩)
                  | (go_at_call 8; ((with_reducible refine (K2.out _).mono ?_)); rintro e w1 ⟨rfl, hb⟩)
                  | (go_at_call 11; refine (K3.out _).mono ?_; rintro e w1 ⟨rfl, hb⟩))
              all_goals (go_wp2_with fail; go_split_ands; go_meet; exact ⟨rfl, l, q, l, q2, h1, h3, i1, i3, by assumption⟩)
            · have hn2 := hne (fun h => x3 h.2.2)
              clear hne
              generalize putN l q h1 = p at *
              generalize putN l q h3 = p2 at *
              have K1 := Lib.hid k1
              have K2 := Lib.hid k2
              have K3 := Lib.hid k3
              clear k1 k2 k3
              go_upto_region 5 with (fail)
              go_region_held3 (fun w' => w'.cell? ⟨w.heap.size, 0, none⟩ = some (.bool l) ∧ w'.cell? ⟨w.heap.size, 1, none⟩ = some (.bool q) ∧ w'.cell? ⟨w.heap.size, 2, none⟩ = some (.int .i64 h1) ∧ w'.cell? ⟨w.heap.size + 1, 0, none⟩ = some (.bool l) ∧ w'.cell? ⟨w.heap.size + 1, 1, none⟩ = some (.bool q) ∧ w'.cell? ⟨w.heap.size + 1, 2, none⟩ = some (.int .i64 h3) ∧ Two w l q l q h1 h3 w')
                (first
                  | exact kp0 hm3
                  | (go_split_ands; exact kp1 (by assumption) (by assumption)))
                (first
                  | (go_at_call 8; ((with_reducible refine (K1.out _).mono ?_)); rintro e w1 ⟨rfl, hb⟩)
                  | (go_at_call 8; ((with_reducible refine (K2.out _).mono ?_)); rintro e w1 ⟨rfl, hb⟩)
                  | (go_at_call 11; refine (K3.out _).mono ?_; rintro e w1 ⟨rfl, hb⟩))
              all_goals (go_wp2_with fail; go_split_ands; go_meet; exact ⟨rfl, l, q, l, q, h1, h3, i1, i3, by assumption⟩)
          case rest =>
            obtain ⟨rfl, l', q', l3, q3, h', h5, _, _, hm4⟩ := hcut
            have hT4 := hT.below hm4.below
            have hB4 := hm4.below
            have hs4 := hm4.size
            clear hm3 hm4 hc hne k1 k2 k3 c0 c1 c2 d0 d1 d2
            have k4 := fun W => as_any u hu W
            have k5 := fun W => put_any (bitB u 0) (bitB u 1) (headN u) (by have := (head_is u).1; omega) (by have := (head_is u).2; omega) W
            have k6 := fun W => as_put (bitB u 0) (bitB u 1) (headN u) (head_is u) W
            have pa := put_as u
            have h7 := fun W hW => lives_any W hW
            unfold asV at k4
            generalize bitB u 0 = x at *
            generalize bitB u 1 = y at *
            generalize headN u = z at *
            have K4 := Lib.hid k4
            have H7 := Lib.hid h7
            have t0 := hT4
            clear k4 h7
            by_cases c : u ≤ 259
            · rw [pa c] at k5
              clear k6 pa
              have K5 := Lib.hid k5
              clear k5
              go_wp2_with fail
              refine (K4.out _).mono ?_
              rintro e w1 ⟨rfl, b1⟩
              have t1 := t0.below b1
              have s1 := b1.size
              go_wp2_with fail
              refine (K5.out _).mono ?_
              rintro e w2 ⟨rfl, b2⟩
              have t2 := t1.below b2
              have s2 := b2.size
              go_wp2_with fail
              refine (K4.out _).mono ?_
              rintro e w3 ⟨rfl, b3⟩
              have t3 := t2.below b3
              have s3 := b3.size
              go_wp2_with fail
              refine (K5.out _).mono ?_
              rintro e w4 ⟨rfl, b4⟩
              have t4 := t3.below b4
              have s4 := b4.size
              go_wp2_with fail
              refine (K4.out _).mono ?_
              rintro e w5 ⟨rfl, b5⟩
              have t5 := t4.below b5
              have s5 := b5.size
              go_wp2_with fail
              refine (K4.out _).mono ?_
              rintro e w6 ⟨rfl, b6⟩
              have t6 := t5.below b6
              have s6 := b6.size
              go_wp2_with fail
              refine (H7.out _ t6).mono ?_
              rintro e w7 ⟨rfl, b7⟩
              have t7 := t6.below b7
              have s7 := b7.size
              go_wp2
              go_ret
              exact ⟨rfl, (((((((hB4.trans (b1.mono (by omega))).trans (b2.mono (by omega))).trans (b3.mono (by omega))).trans (b4.mono (by omega))).trans (b5.mono (by omega))).trans (b6.mono (by omega))).trans (b7.mono (by omega)))⟩
            · clear pa
              generalize putN x y z = p at *
              have K5 := Lib.hid k5
              have K6 := Lib.hid k6
              clear k5 k6
              go_wp2_with fail
              refine (K4.out _).mono ?_
              rintro e w1 ⟨rfl, b1⟩
              have t1 := t0.below b1
              have s1 := b1.size
              go_wp2_with fail
              refine (K5.out _).mono ?_
              rintro e w2 ⟨rfl, b2⟩
              have t2 := t1.below b2
              have s2 := b2.size
              go_wp2_with fail
              refine (K6.out _).mono ?_
              rintro e w3 ⟨rfl, b3⟩
              have t3 := t2.below b3
              have s3 := b3.size
              go_wp2_with fail
              refine (K4.out _).mono ?_
              rintro e w4 ⟨rfl, b4⟩
              have t4 := t3.below b4
              have s4 := b4.size
              go_wp2_with fail
              refine (H7.out _ t4).mono ?_
              rintro e w5 ⟨rfl, b5⟩
              have t5 := t4.below b5
              have s5 := b5.size
              go_wp2
              go_ret
              exact ⟨rfl, (((((hB4.trans (b1.mono (by omega))).trans (b2.mono (by omega))).trans (b3.mono (by omega))).trans (b4.mono (by omega))).trans (b5.mono (by omega)))⟩
end Go.Proofs.YtopkdnjploipaaaDoor
