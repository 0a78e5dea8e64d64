/- TablesApart's walk. -/
import Derived.Test.YtcdoklgjicfkmaaV9
namespace Go.Proofs.Ytcdoklgjicfkmaa
open Go.RowKit

/-- A set, and blocks Z beside it that no call on it turns. -/
structure Sn (W : World) (base : Nat) (own : Nat → Option Role) (s : Value) (n : Nat) (M : Int → List Bk) (Z : Nat → Prop) : Prop where
  st : St W base own s n M
  cl : ∀ g, Z g → g < W.heap.size ∧ ¬ Mine own g
section
variable {W w' : World} {base : Nat} {own own' : Nat → Option Role} {s : Value} {n n' : Nat} {M M' : Int → List Bk} {Z : Nat → Prop}
theorem Sn.new (h : Sn W base own s n M Z) (hb : Below W.heap.size W w') : Sn w' base own s n M Z := ⟨h.st.new hb, fun g hz => ⟨Nat.lt_of_lt_of_le (h.cl g hz).1 hb.size, (h.cl g hz).2⟩⟩
theorem Sn.drew (h : Sn W base own s n M Z) : Sn W.drew base own s n M Z := h.new (Below.refl _ W).drew
theorem Sn.one (h : Sn W base own s n M Z) (hs : St w' base own' s n' M') (t : Turns (Mine own) W w') (f : Fresh own own' W) : Sn w' base own' s n' M' Z ∧ Turns (fun g => ¬ Z g) W w' ∧ Below base W w' :=
  ⟨⟨hs, fun g hz => ⟨Nat.lt_of_lt_of_le (h.cl g hz).1 t.size, f.no (h.cl g hz).2 (h.cl g hz).1⟩⟩, t.mono (fun g _ hg hz => (h.cl g hz).2 hg), t.below h.st.le (fun k hk hm => by have := (h.st.fp hm).1; omega)⟩
theorem Sn.add (h : Sn W base own s n M Z) (hb : Below W.heap.size W w') {Y : Nat → Prop} (hy : ∀ g, Y g → W.heap.size ≤ g ∧ g < w'.heap.size) : Sn w' base own s n M (fun g => Z g ∨ Y g) := by
  refine ⟨h.st.new hb, fun g hg => ?_⟩
  rcases hg with hz | hy'
  · exact (h.new hb).cl g hz
  · have := hy g hy'
    exact ⟨this.2, fun hm => by have := (h.st.fp hm).2; omega⟩
theorem Sn.keepC (h : Sn W base own s n M Z) (t : Turns (fun g => ¬ Z g) W w') {g o : Nat} (hz : Z g) {v : Value} (hv : W.cell? ⟨g, o, none⟩ = some v) : w'.cell? ⟨g, o, none⟩ = some v :=
  (t.cell (h.cl g hz).1 (fun hn => hn hz)).trans hv
end
theorem Sn.sub {W : World} {base : Nat} {own : Nat → Option Role} {s : Value} {n : Nat} {M : Int → List Bk} {Z Y : Nat → Prop} (h : Sn W base own s n M Z) (hy : ∀ g, Y g → Z g) : Sn W base own s n M Y := ⟨h.st, fun g hg => h.cl g (hy g hg)⟩
theorem neqP30 (a b c d : Int) (w : World) : (binOp .neq 30 (.agg #[.int .i64 a, .int .i64 b]) (.agg #[.int .i64 c, .int .i64 d])).run Try.prog w = .ok (.bool (!decide (a = c ∧ b = d))) w := by
  simp [go_sem, Try.underlying30]
  by_cases h1 : a = c <;> by_cases h2 : b = d <;> simp [h1, h2]
theorem bk_nil (h : Nat → Nat) (i : Nat) : bk h i [] = [] := rfl
theorem set_at {L : List Bk} {i : Nat} (hi : i < L.length) (x : Bk) : (L.set i x)[i]! = x := by rw [get_set hi, if_pos rfl]
theorem upd_at (M : Int → List Bk) (b : Int) {i : Nat} (hi : i < (M b).length) (x : Bk) : (upd M b ((M b).set i x) b)[i]! = x := by rw [upd_same, set_at hi]
theorem upd_other (M : Int → List Bk) {b b' : Int} {i j : Nat} (hi : i < (M b).length) (x : Bk) (h : ¬ (b' = b ∧ j = i)) : (upd M b ((M b).set i x) b')[j]! = (M b')[j]! := by
  by_cases e : b' = b
  · subst e
    rw [upd_same, get_set hi, if_neg (fun e => h ⟨rfl, e⟩)]
  · rw [upd_ne _ _ e]
/-- The cells beside the set. -/
def Fc (X5 X8 X9 X10 : Nat) (ta tf ba ia bb ib ox oy : Int) (W : World) : Prop :=
  W.cell? ⟨X5, 0, none⟩ = some (.int .u64 ta) ∧ W.cell? ⟨X5, 1, none⟩ = some (.int .u64 tf) ∧ W.cell? ⟨X8, 0, none⟩ = some (.int .i64 ba) ∧ W.cell? ⟨X8, 1, none⟩ = some (.int .i64 ia) ∧
  W.cell? ⟨X9, 0, none⟩ = some (.int .i64 bb) ∧ W.cell? ⟨X9, 1, none⟩ = some (.int .i64 ib) ∧ W.cell? ⟨X10, 0, none⟩ = some (.int .u64 ox) ∧ W.cell? ⟨X10, 1, none⟩ = some (.int .u64 oy)
theorem Fc.turn {X5 X8 X9 X10 : Nat} {ta tf ba ia bb ib ox oy : Int} {W w' : World} {b base : Nat} {own : Nat → Option Role} {s : Value} {n : Nat} {M : Int → List Bk} (h : Fc X5 X8 X9 X10 ta tf ba ia bb ib ox oy W) (sn : Sn W base own s n M (fun g => g < b ∨ g = X8 ∨ g = X9 ∨ g = X10)) (t : Turns (fun g => ¬ (g < b ∨ g = X8 ∨ g = X9 ∨ g = X10)) W w') (h5 : X5 < b := by assumption) : Fc X5 X8 X9 X10 ta tf ba ia bb ib ox oy w' := by
  obtain ⟨a1, a2, a3, a4, a5, a6, a7, a8⟩ := h
  exact ⟨sn.keepC t (.inl h5) a1, sn.keepC t (.inl h5) a2, sn.keepC t (.inr (.inl rfl)) a3, sn.keepC t (.inr (.inl rfl)) a4, sn.keepC t (.inr (.inr (.inl rfl))) a5, sn.keepC t (.inr (.inr (.inl rfl))) a6, sn.keepC t (.inr (.inr (.inr rfl))) a7, sn.keepC t (.inr (.inr (.inr rfl))) a8⟩
theorem Fc.below {X5 X8 X9 X10 : Nat} {ta tf ba ia bb ib ox oy : Int} {W w' : World} {b base : Nat} {own : Nat → Option Role} {s : Value} {n : Nat} {M : Int → List Bk} (h : Fc X5 X8 X9 X10 ta tf ba ia bb ib ox oy W) (sn : Sn W base own s n M (fun g => g < b ∨ g = X8 ∨ g = X9 ∨ g = X10)) (hb : Below W.heap.size W w') (h5 : X5 < b := by assumption) : Fc X5 X8 X9 X10 ta tf ba ia bb ib ox oy w' :=
  h.turn sn (Turns.of_below hb) h5
/-- A set of two tables, both empty. -/
theorem two_tables : ∃ M1 : Int → List Bk, Good M1 0 ∧ (∀ b : Nat, b = 2 ∨ b = 3 → 4 ≤ (M1 (b : Int)).length ∧ ∀ i, i < 4 → (M1 (b : Int))[i]!.q = []) ∧
    ∀ W base own s n, St W base own s n (M0 3) → n < 1000000 → Calls Try.prog 17 #[s, .int .i64 2, .int .i64 3, .int .u64 4] W fun e w' => e = .returned (.bool true) ∧ ∃ own', St w' base own' s (n + 1) M1 ∧ Turns (Mine own) W w' ∧ Fresh own own' W := by
  obtain ⟨h, K, -⟩ := kit3
  have hE : ((M0 3 2).map Bk.q).flatten = [] := by rw [m02]; rfl
  have hM3 : grown (M0 3) h 8 2 3 4 3 = fresh 4 (reh h 8 []) := by unfold grown; rw [upd_same, hE]
  have hM2 : grown (M0 3) h 8 2 3 4 2 = hollow (M0 3 2) := by unfold grown; rw [upd_ne _ _ (by omega), upd_same]
  have hI2 : InI 2 := by unfold InI; omega
  have hI3 : InI 3 := by unfold InI; omega
  have hlt : ∀ k, k < 4294967296 → h k < 2 ^ (3 : Int).toNat := fun k hk => K.lt (by omega) k hk
  have g1 : Good (grown (M0 3) h 8 2 3 4) 0 := Good.grow (h := h) (fr := 2) (tg := 3) (good_first 3) 4 (by omega) (by omega) (by omega) hlt
  refine ⟨grown (M0 3) h 8 2 3 4, g1, fun b hb => ?_, fun W base own s n hst hn => ?_⟩
  · rcases hb with rfl | rfl
    · rw [show ((2 : Nat) : Int) = 2 from rfl, hM2, hollow_len, m0_len]
      exact ⟨by omega, fun i hi => by rw [hollow_at _ (by rw [m0_len]; exact hi)]⟩
    · rw [show ((3 : Nat) : Int) = 3 from rfl, hM3, fresh_len, reh_len]
      refine ⟨by omega, fun i hi => ?_⟩
      rw [fresh_at 4 _ (by rw [reh_len]; omega)]
      show (reh h 8 [])[i]! = []
      rw [reh_at h _ (by omega)]
      rfl
  · exact grow_yes hst hI2 hI3 4 (by rw [m02]; simp [fresh]) (by omega) (by omega) (upd_ne _ _ (by omega)) K (by rw [m0_len]; omega) (by rw [hE]; intro e he; simp at he) (by rw [hE]; simp) hn
theorem apart_big {W : World} (z0 z1 z2 z3 : Nat) (ta tf : Int) (A : Option Addr) (n c : Nat) (h : 60 < n) (hn9 : n ≤ 9223372036854775807) :
    Calls Try.prog 6 #[.agg #[.int .u8 (z0 : Int), .int .u8 (z1 : Int), .int .u8 (z2 : Int), .int .u8 (z3 : Int)], .slice A n c, .agg #[.int .u64 ta, .int .u64 tf]] W fun e w' => e = .returned (.bool true) ∧ Below W.heap.size W w' := by
  have g1 : decide ((60 : Int) < (n : Int)) = true := by simp; omega
  have QL := Lib.hid lives_any
  go_enter Try.func6, Try.ntmps6
  go_wp2_with fail
  have hb0 := (below1 W (.cells #[.int .u8 (z0 : Int), .int .u8 (z1 : Int), .int .u8 (z2 : Int), .int .u8 (z3 : Int)] 67)).alloc (by simp) (.cells #[.int .u64 ta, .int .u64 tf] 33)
  refine (QL.out _).mono ?_
  rintro e w2 ⟨rfl, b2⟩
  have B2 := Lib.hid (hb0.trans (b2.mono hb0.size))
  clear b2 hb0
  go_wp2_with fail
  go_ret
  exact ⟨rfl, B2.out⟩
set_option maxHeartbeats 4000000 in
set_option maxRecDepth 100000 in
theorem law_apart {W : World} (z0 z1 z2 z3 : Nat) (hz0 : z0 < 256) (hz1 : z1 < 256) (hz2 : z2 < 256) (hz3 : z3 < 256) (ta tf : Int) {A : Option Addr} {D : List Ent} (c : Nat) (hr : Rd W W.heap.size A (flat D)) (hkeys : Keys D) (hlen : D.length ≤ 60) :
    Calls Try.prog 6 #[.agg #[.int .u8 (z0 : Int), .int .u8 (z1 : Int), .int .u8 (z2 : Int), .int .u8 (z3 : Int)], .slice A D.length c, .agg #[.int .u64 ta, .int .u64 tf]] W fun e w' => e = .returned (.bool true) ∧ Below W.heap.size W w' := by
  have QL := Lib.hid lives_any
  obtain ⟨M1, hg1, hl1, hgrow⟩ := two_tables
  have HG1 := Lib.hid hg1; have HL1 := Lib.hid hl1; have HGROW := Lib.hid hgrow; have HR := Lib.hid hr; have HKEYS := Lib.hid hkeys
  obtain ⟨n, hn⟩ : ∃ n, n = D.length := ⟨_, rfl⟩
  rw [← hn] at hlen ⊢
  have HN := Lib.hid hn
  have g1 : decide ((60 : Int) < (n : Int)) = false := by simp; omega
  clear hg1 hl1 hgrow hr hkeys hn
  go_enter Try.func6, Try.ntmps6
  go_wp2_with fail
  have k1 := heap_alloc_new W (.cells #[.int .u8 (z0 : Int), .int .u8 (z1 : Int), .int .u8 (z2 : Int), .int .u8 (z3 : Int)] 67)
  have b1 := below1 W (.cells #[.int .u8 (z0 : Int), .int .u8 (z1 : Int), .int .u8 (z2 : Int), .int .u8 (z3 : Int)] 67)
  have s1 : (W.alloc (.cells #[.int .u8 (z0 : Int), .int .u8 (z1 : Int), .int .u8 (z2 : Int), .int .u8 (z3 : Int)] 67)).heap.size = W.heap.size + 1 := by simp
  generalize W.alloc (.cells #[.int .u8 (z0 : Int), .int .u8 (z1 : Int), .int .u8 (z2 : Int), .int .u8 (z3 : Int)] 67) = wa at *
  have k2 := heap_alloc_new wa (.cells #[.int .u64 ta, .int .u64 tf] 33)
  have b2 := below1 wa (.cells #[.int .u64 ta, .int .u64 tf] 33)
  have s2 : (wa.alloc (.cells #[.int .u64 ta, .int .u64 tf] 33)).heap.size = W.heap.size + 2 := by simp [s1]
  rw [s1] at k2
  generalize wa.alloc (.cells #[.int .u64 ta, .int .u64 tf] 33) = w0 at *
  have k1' := (b2.block W.heap.size (by omega)).trans k1
  have b00 := b1.trans (b2.mono (by omega))
  refine (new_any 3 w0).mono ?_
  rintro e w1 ⟨s, own1, rfl, hs1, hb1⟩
  have HS1 := Lib.hid hs1; have HB1 := Lib.hid hb1
  have k1 := (hb1.block _ (by omega)).trans k1'
  have k2 := (hb1.block _ (by omega)).trans k2
  obtain ⟨base, hbase⟩ : ∃ base, base = w0.heap.size := ⟨_, rfl⟩
  rw [← hbase] at HS1 HB1
  have hg2 := HGROW.out w1 base own1 s 1 HS1.out (by omega)
  obtain ⟨X3, hX3⟩ : ∃ X, X = W.heap.size := ⟨_, rfl⟩
  obtain ⟨X5, hX5⟩ : ∃ X, X = W.heap.size + 1 := ⟨_, rfl⟩
  rw [← hX3] at k1
  rw [← hX5] at k2 ⊢
  rw [← hX3]
  have hsn1 : Sn w1 base own1 s 1 (M0 3) (fun g => g < base) := ⟨HS1.out, fun g hg => ⟨by have := hb1.size; omega, fun hm => by have := (HS1.out.fp hm).1; omega⟩⟩
  have HSN1 := Lib.hid hsn1; have HG2 := Lib.hid hg2; have HB00 := Lib.hid b00
  have h3b : X3 < base := by omega
  have h5b : X5 < base := by omega
  have hWb : W.heap.size ≤ base := by omega
  have HK1 := Lib.hid k1; have HK2 := Lib.hid k2
  have hb1s := hb1.size
  clear hs1 hb1 k1' b1 b2 s1 s2 b00 hg2 hsn1 hbase hX3 hX5 k1 k2
  go_wp2_with fail
  refine HG2.out.mono ?_
  rintro e w2 ⟨rfl, own2, hs2, ht2, hf2⟩
  obtain ⟨sn2, t2, b2⟩ := HSN1.out.one hs2 ht2 hf2
  have k1 := (t2.block X3 (HSN1.out.cl X3 h3b).1 (fun hn => hn h3b)).trans HK1.out
  have k2 := (t2.block X5 (HSN1.out.cl X5 h5b).1 (fun hn => hn h5b)).trans HK2.out
  have c0 : w2.cell? ⟨X3, 0, none⟩ = some (.int .u8 (z0 : Int)) := cell_row k1 0
  have c1 : w2.cell? ⟨X3, 1, none⟩ = some (.int .u8 (z1 : Int)) := cell_row k1 1
  have c2 : w2.cell? ⟨X3, 2, none⟩ = some (.int .u8 (z2 : Int)) := cell_row k1 2
  have c3 : w2.cell? ⟨X3, 3, none⟩ = some (.int .u8 (z3 : Int)) := cell_row k1 3
  have HSN2 := Lib.hid sn2
  have HB2 := Lib.hid (HB1.out.trans b2)
  have HK5 := Lib.hid k2
  have hX3l := (sn2.cl X3 h3b).1
  clear hs2 ht2 hf2 sn2 t2 b2 k1 k2
  go_wp2_with fail
  obtain ⟨ba, hba⟩ : ∃ ba : Nat, (ba : Int) = 2 + (z0 : Int) % 2 := ⟨2 + z0 % 2, by omega⟩
  obtain ⟨ia, hia⟩ : ∃ ia : Nat, (ia : Int) = (z1 : Int) % 4 := ⟨z1 % 4, by omega⟩
  obtain ⟨bb, hbb⟩ : ∃ bb : Nat, (bb : Int) = 2 + (z2 : Int) % 2 := ⟨2 + z2 % 2, by omega⟩
  obtain ⟨ib, hib⟩ : ∃ ib : Nat, (ib : Int) = (z3 : Int) % 4 := ⟨z3 % 4, by omega⟩
  have hba2 : ba = 2 ∨ ba = 3 := by omega
  have hbb2 : bb = 2 ∨ bb = 3 := by omega
  have hia4 : ia < 4 := by omega
  have hib4 : ib < 4 := by omega
  rw [← hba, ← hia, ← hbb, ← hib]
  have k3 := heap_alloc_new w2 (.cells #[.int .i64 (ba : Int), .int .i64 (ia : Int)] 30)
  have b3 := below1 w2 (.cells #[.int .i64 (ba : Int), .int .i64 (ia : Int)] 30)
  have s3 : (w2.alloc (.cells #[.int .i64 (ba : Int), .int .i64 (ia : Int)] 30)).heap.size = w2.heap.size + 1 := by simp
  generalize w2.alloc (.cells #[.int .i64 (ba : Int), .int .i64 (ia : Int)] 30) = wx at *
  have k4 := heap_alloc_new wx (.cells #[.int .i64 (bb : Int), .int .i64 (ib : Int)] 30)
  have b4 := below1 wx (.cells #[.int .i64 (bb : Int), .int .i64 (ib : Int)] 30)
  have s4 : (wx.alloc (.cells #[.int .i64 (bb : Int), .int .i64 (ib : Int)] 30)).heap.size = w2.heap.size + 2 := by simp [s3]
  rw [s3] at k4
  generalize wx.alloc (.cells #[.int .i64 (bb : Int), .int .i64 (ib : Int)] 30) = w3 at *
  have k3' := (b4.block w2.heap.size (by omega)).trans k3
  have b23 : Below w2.heap.size w2 w3 := b3.trans (b4.mono (by omega))
  have k5' := (b23.block X5 (HSN2.out.cl X5 h5b).1).trans HK5.out
  obtain ⟨X8, hX8⟩ : ∃ X, X = w2.heap.size := ⟨_, rfl⟩
  obtain ⟨X9, hX9⟩ : ∃ X, X = w2.heap.size + 1 := ⟨_, rfl⟩
  have sn3 := HSN2.out.add b23 (Y := fun g => g = X8 ∨ g = X9) (fun g hg => by omega)
  rw [← hX9] at k4 ⊢
  rw [← hX8] at k3' ⊢
  have HSN3 := Lib.hid sn3; have HB3 := Lib.hid (HB2.out.trans (b23.mono (by have := HSN2.out.st.le; exact this)))
  have HK8 := Lib.hid k3'; have HK9 := Lib.hid k4; have HK5' := Lib.hid k5'
  have hIa : InI (ba : Int) := by unfold InI; omega
  have hIb : InI (bb : Int) := by unfold InI; omega
  have hla : ia < (M1 (ba : Int)).length := by have := (HL1.out ba hba2).1; omega
  have hlb : ib < (M1 (bb : Int)).length := by have := (HL1.out bb hbb2).1; omega
  obtain ⟨ox, hox⟩ : ∃ ox, ox = (M1 (bb : Int))[ib]!.a := ⟨_, rfl⟩
  obtain ⟨oy, hoy⟩ : ∃ oy, oy = (M1 (bb : Int))[ib]!.f := ⟨_, rfl⟩
  have htm : ∀ W, St W base own2 s 2 M1 → Calls Try.prog 20 #[s, .agg #[.int .i64 (bb : Int), .int .i64 (ib : Int)]] W fun e w' => e = .returned (.agg #[.int .u64 ox, .int .u64 oy]) ∧ Below W.heap.size W w' := fun W hst => by
    obtain ⟨F, hr⟩ := hst.rs
    rw [hox, hoy]
    exact timer_yes hr hIb hlb
  have HTM := Lib.hid htm; have HOX := Lib.hid hox; have HOY := Lib.hid hoy; have HLA := Lib.hid hla; have HLB := Lib.hid hlb
  clear k3 b3 s3 k4 b4 s4 k3' b23 k5' sn3 hX8 hX9 htm hox hoy c0 c1 c2 c3 hba hia hbb hib hla hlb hz0 hz1 hz2 hz3
  refine (HTM.out w3 HSN3.out.st).mono ?_
  rintro e w4 ⟨rfl, hb4⟩
  have sn4 := HSN3.out.new hb4
  have hb34 := HB3.out.trans (hb4.mono HSN3.out.st.le)
  have q8 := (hb4.block X8 (HSN3.out.cl X8 (.inr (.inl rfl))).1).trans HK8.out
  have q9 := (hb4.block X9 (HSN3.out.cl X9 (.inr (.inr rfl))).1).trans HK9.out
  have q5 := (hb4.block X5 (HSN3.out.cl X5 (.inl h5b)).1).trans HK5'.out
  have HSN4 := Lib.hid sn4; have HB4 := Lib.hid hb34; have HQ8 := Lib.hid q8; have HQ9 := Lib.hid q9; have HQ5 := Lib.hid q5
  have x8 : w4.cell? ⟨X8, 0, none⟩ = some (.int .i64 (ba : Int)) := cell_row q8 0
  have y8 : w4.cell? ⟨X8, 1, none⟩ = some (.int .i64 (ia : Int)) := cell_row q8 1
  have l8 := (sn4.cl X8 (.inr (.inl rfl))).1
  clear hb4 sn4 hb34 q8 q9 q5
  go_wp2_with fail
  have k5 := heap_alloc_new w4 (.cells #[.int .u64 ox, .int .u64 oy] 33)
  have b5 := below1 w4 (.cells #[.int .u64 ox, .int .u64 oy] 33)
  have s5 : (w4.alloc (.cells #[.int .u64 ox, .int .u64 oy] 33)).heap.size = w4.heap.size + 1 := by simp
  generalize w4.alloc (.cells #[.int .u64 ox, .int .u64 oy] 33) = w5 at *
  obtain ⟨X10, hX10⟩ : ∃ X, X = w4.heap.size := ⟨_, rfl⟩
  have q8 := (b5.block X8 (HSN4.out.cl X8 (.inr (.inl rfl))).1).trans HQ8.out
  have q9 := (b5.block X9 (HSN4.out.cl X9 (.inr (.inr rfl))).1).trans HQ9.out
  have q5 := (b5.block X5 (HSN4.out.cl X5 (.inl h5b)).1).trans HQ5.out
  have sn5 := (HSN4.out.add b5 (Y := fun g => g = X10) (fun g hg => by omega)).sub (Y := fun g => g < base ∨ g = X8 ∨ g = X9 ∨ g = X10) (fun g hg => by rcases hg with h | h | h | h; exact .inl (.inl h); exact .inl (.inr (.inl h)); exact .inl (.inr (.inr h)); exact .inr h)
  rw [← hX10] at k5 ⊢
  have HSN5 := Lib.hid sn5
  have HB5 := Lib.hid (HB4.out.trans (b5.mono HSN4.out.st.le))
  have hfc : Fc X5 X8 X9 X10 ta tf ba ia bb ib ox oy w5 := ⟨cell_row q5 0, cell_row q5 1, cell_row q8 0, cell_row q8 1, cell_row q9 0, cell_row q9 1, cell_row k5 0, cell_row k5 1⟩
  have HFC5 := Lib.hid hfc
  -- what is put
  have hrA : Rd w5 W.heap.size A (flat D) := (HR.out.below HB00.out (Nat.le_refl _)).below HB5.out hWb
  have hput := put_yes (c0 := c) HSN5.out.st hIa HLA.out hrA (by have := HSN5.out.st.le; omega) (by have := HN.out; omega)
  obtain ⟨M2, hM2⟩ : ∃ M2, M2 = upd M1 (ba : Int) ((M1 (ba : Int)).set ia { (M1 (ba : Int))[ia]! with q := D }) := ⟨_, rfl⟩
  rw [← hM2, ← HN.out] at hput
  have HPUT := Lib.hid hput; have HM2 := Lib.hid hM2
  have hl2 : ia < (M2 (ba : Int)).length := by rw [hM2, upd_len]; exact HLA.out
  obtain ⟨M3, hM3⟩ : ∃ M3, M3 = upd M2 (ba : Int) ((M2 (ba : Int)).set ia { (M2 (ba : Int))[ia]! with a := ta, f := tf }) := ⟨_, rfl⟩
  have hl3 : ia < (M3 (ba : Int)).length := by rw [hM3, upd_len]; exact hl2
  have hl3b : ib < (M3 (bb : Int)).length := by rw [hM3, upd_len, hM2, upd_len]; exact HLB.out
  have hat : (M3 (ba : Int))[ia]! = ⟨ta, tf, D⟩ := by rw [hM3, upd_at _ _ hl2, hM2, upd_at _ _ HLA.out]
  have hother : ¬ (bb = ba ∧ ib = ia) → (M3 (bb : Int))[ib]! = (M1 (bb : Int))[ib]! := fun h => by
    have h' : ¬ ((bb : Int) = (ba : Int) ∧ ib = ia) := fun ⟨h1, h2⟩ => h ⟨by omega, h2⟩
    rw [hM3, upd_other _ hl2 _ h', hM2, upd_other _ HLA.out _ h']
  have hI3 : InI (ba : Int) := hIa
  have HL2 := Lib.hid hl2; have HL3 := Lib.hid hl3; have HL3B := Lib.hid hl3b; have HAT := Lib.hid hat; have HOTH := Lib.hid hother; have HM3 := Lib.hid hM3
  obtain ⟨z50, z51, z80, z81, -⟩ := hfc
  clear k5 b5 s5 q8 q9 q5 sn5 hX10 hrA hput hM2 hl2 hM3 hl3 hl3b hat hother x8 y8 l8
  refine HPUT.out.mono ?_
  rintro e w6 ⟨rfl, own6, hs6, ht6, hf6⟩
  obtain ⟨sn6, t6, b6⟩ := HSN5.out.one hs6 ht6 hf6
  have hfc6 := HFC5.out.turn HSN5.out t6
  have HSN6 := Lib.hid sn6; have HFC6 := Lib.hid hfc6; have HB6 := Lib.hid (HB5.out.trans b6)
  have htp := putT_yes HSN6.out.st hIa HL2.out ta tf
  rw [← HM3.out] at htp
  have HTP := Lib.hid htp
  obtain ⟨u50, u51, u80, u81, -⟩ := hfc6
  clear hs6 ht6 hf6 sn6 t6 b6 htp z50 z51 z80 z81
  go_wp2_with fail
  refine HTP.out.mono ?_
  rintro e w7 ⟨rfl, hs7, ht7⟩
  obtain ⟨sn7, t7, b7⟩ := HSN6.out.one hs7 ht7 (Fresh.refl _ _)
  have hfc7 := HFC6.out.turn HSN6.out t7
  have HSN7 := Lib.hid sn7; have HFC7 := Lib.hid hfc7; have HB7 := Lib.hid (HB6.out.trans b7)
  obtain ⟨z50, z51, z80, z81, -⟩ := hfc7
  -- what is read of it
  have hq : ∀ W, St W base own6 s 2 M3 → Calls Try.prog 19 #[s, .agg #[.int .i64 (ba : Int), .int .i64 (ia : Int)]] W fun e w' => ∃ A', e = .returned (.slice A' n n) ∧ RowE w' W.heap.size (.slice A' n n) D ∧ Below W.heap.size W w' := fun W hst => by
    obtain ⟨F, hr⟩ := hst.rs
    have := queue_yes hr hIa HL3.out (by rw [HAT.out]; have := HN.out; show D.length ≤ _; omega)
    rw [HAT.out] at this
    rw [HN.out]
    exact this
  have hta : ∀ W, St W base own6 s 2 M3 → Calls Try.prog 20 #[s, .agg #[.int .i64 (ba : Int), .int .i64 (ia : Int)]] W fun e w' => e = .returned (.agg #[.int .u64 ta, .int .u64 tf]) ∧ Below W.heap.size W w' := fun W hst => by
    obtain ⟨F, hr⟩ := hst.rs
    have := timer_yes hr hIa HL3.out
    rwa [HAT.out] at this
  have hqb : ¬ (bb = ba ∧ ib = ia) → ∀ W, St W base own6 s 2 M3 → Calls Try.prog 19 #[s, .agg #[.int .i64 (bb : Int), .int .i64 (ib : Int)]] W fun e w' => ∃ A', e = .returned (.slice A' 0 0) ∧ Below W.heap.size W w' := fun hne W hst => by
    obtain ⟨F, hr⟩ := hst.rs
    have hq0 : (M3 (bb : Int))[ib]!.q = [] := by rw [HOTH.out hne]; exact (HL1.out bb hbb2).2 ib hib4
    have := queue_yes hr hIb HL3B.out (by rw [hq0]; decide)
    rw [hq0] at this
    refine this.mono ?_
    rintro e w' ⟨A', rfl, -, hb⟩
    exact ⟨A', rfl, hb⟩
  have htb : ¬ (bb = ba ∧ ib = ia) → ∀ W, St W base own6 s 2 M3 → Calls Try.prog 20 #[s, .agg #[.int .i64 (bb : Int), .int .i64 (ib : Int)]] W fun e w' => e = .returned (.agg #[.int .u64 ox, .int .u64 oy]) ∧ Below W.heap.size W w' := fun hne W hst => by
    obtain ⟨F, hr⟩ := hst.rs
    have := timer_yes hr hIb HL3B.out
    rw [HOTH.out hne] at this
    rwa [HOX.out, HOY.out]
  have HQA := Lib.hid hq; have HTA := Lib.hid hta; have HQB := Lib.hid hqb; have HTB := Lib.hid htb
  clear hs7 ht7 sn7 t7 b7 hq hta hqb htb u50 u51 u80 u81
  go_wp2_with fail
  refine (HQA.out w7 HSN7.out.st).mono ?_
  rintro e w8 ⟨A8, rfl, hr8, hb8⟩
  have HSN8 : Hid (Sn w8.drew base own6 s 2 M3 _) := Lib.hid (HSN7.out.new hb8).drew
  have HR8 : Hid (RowE w8.drew w7.heap.size (.slice A8 n n) D) := Lib.hid hr8.drew
  have HB8 : Hid (Below base w0 w8.drew) := Lib.hid (HB7.out.trans (hb8.mono HSN7.out.st.le)).drew
  have hfc8 : Fc X5 X8 X9 X10 ta tf ba ia bb ib ox oy w8.drew := HFC7.out.below HSN7.out hb8.drew
  have hne33 := fun W => neqT33 ta tf ta tf W
  simp only [and_self, decide_true, Bool.not_true] at hne33
  have hne33b := fun W => neqT33 ox oy ox oy W
  simp only [and_self, decide_true, Bool.not_true] at hne33b
  clear hr8 hb8 z50 z51 z80 z81
  go_upto_region 12 with (fail)
  have hend : ∀ w10, Below w8.drew.heap.size w8.drew w10 → Hid (Sn w10 base own6 s 2 M3 (fun g => g < base ∨ g = X8 ∨ g = X9 ∨ g = X10) ∧ Fc X5 X8 X9 X10 ta tf ba ia bb ib ox oy w10 ∧ RowE w10 w7.heap.size (.slice A8 n n) D ∧ Below base w0 w10) := fun w10 hb => Lib.hid
    ⟨HSN8.out.new hb, hfc8.below HSN8.out hb, HR8.out.new hb, HB8.out.trans (hb.mono HSN8.out.st.le)⟩
  have HEND := Lib.hid hend
  clear hend
  by_cases hab : bb = ba ∧ ib = ia
  · obtain ⟨rfl, rfl⟩ := hab
    have hneP := fun W => neqP30 (bb : Int) (ib : Int) (bb : Int) (ib : Int) W
    simp only [and_self, decide_true, Bool.not_true] at hneP
    refine wp_region_held_drew (S := fun w' => w'.cell? ⟨X5, 0, none⟩ = some (.int .u64 ta) ∧ w'.cell? ⟨X5, 1, none⟩ = some (.int .u64 tf) ∧ w'.cell? ⟨X8, 0, none⟩ = some (.int .i64 (bb : Int)) ∧ w'.cell? ⟨X8, 1, none⟩ = some (.int .i64 (ib : Int)) ∧ w'.cell? ⟨X9, 0, none⟩ = some (.int .i64 (bb : Int)) ∧ w'.cell? ⟨X9, 1, none⟩ = some (.int .i64 (ib : Int)) ∧ w'.cell? ⟨X10, 0, none⟩ = some (.int .u64 ox) ∧ w'.cell? ⟨X10, 1, none⟩ = some (.int .u64 oy)) (by kernel_rfl) ?_ (fun hHeld => ?_)
    · exact hfc8
    refine wpAnyH_take (i := 0) (oi := ({ dst := some 59, op := Op.move (Operand.tmp 11), type := 31, pos := "outright.go:116", after := #[], guard := none } : Oper)) (v := ?va0) rfl (by kernel_rfl) (by kernel_rfl) (by kernel_rfl) (fun _ _ _ h => h) (Or.inl ⟨by rfl, fun w hSw => ?hya0⟩) (by assumption) ?ra0
    case hya0 => (try dsimp only at hSw); go_simp; (try with_reducible rfl)
    (try simp only [Act.put, List.setIfInBounds_toArray, List.set_cons_zero, List.set_cons_succ])
    refine wpAnyH_take (i := 1) (oi := ({ dst := some 60, op := Op.call { callee := Callee.builtin Builtin.len, args := #[Operand.tmp 59], argTypes := #[31] }, type := 3, pos := "outright.go:116", after := #[{ on := 0, ground := Ground.data }], guard := none } : Oper)) (v := ?va1) rfl (by kernel_rfl) (by kernel_rfl) (by kernel_rfl) (fun _ _ _ h => h) (Or.inl ⟨by rfl, fun w hSw => ?hya1⟩) (by assumption) ?ra1
    case hya1 => (try dsimp only at hSw); go_simp; (try with_reducible rfl)
    (try simp only [Act.put, List.setIfInBounds_toArray, List.set_cons_zero, List.set_cons_succ])
    refine wpAnyH_take (i := 2) (oi := ({ dst := some 61, op := Op.move (Operand.tmp 1), type := 31, pos := "outright.go:116", after := #[], guard := none } : Oper)) (v := ?va2) rfl (by kernel_rfl) (by kernel_rfl) (by kernel_rfl) (fun _ _ _ h => h) (Or.inl ⟨by rfl, fun w hSw => ?hya2⟩) (by assumption) ?ra2
    case hya2 => (try dsimp only at hSw); go_simp; (try with_reducible rfl)
    (try simp only [Act.put, List.setIfInBounds_toArray, List.set_cons_zero, List.set_cons_succ])
    refine wpAnyH_take (i := 3) (oi := ({ dst := some 62, op := Op.call { callee := Callee.builtin Builtin.len, args := #[Operand.tmp 61], argTypes := #[31] }, type := 3, pos := "outright.go:116", after := #[{ on := 2, ground := Ground.data }], guard := none } : Oper)) (v := ?va3) rfl (by kernel_rfl) (by kernel_rfl) (by kernel_rfl) (fun _ _ _ h => h) (Or.inl ⟨by rfl, fun w hSw => ?hya3⟩) (by assumption) ?ra3
    case hya3 => (try dsimp only at hSw); go_simp; (try with_reducible rfl)
    (try simp only [Act.put, List.setIfInBounds_toArray, List.set_cons_zero, List.set_cons_succ])
    refine wpAnyH_take (i := 4) (oi := ({ dst := some 63, op := Op.binOp BinOp.neq 3 (Operand.tmp 60) (Operand.tmp 62) 3, type := 4, pos := "outright.go:116", after := #[{ on := 1, ground := Ground.data }, { on := 3, ground := Ground.data }], guard := none } : Oper)) (v := ?va4) rfl (by kernel_rfl) (by kernel_rfl) (by kernel_rfl) (fun _ _ _ h => h) (Or.inl ⟨by rfl, fun w hSw => ?hya4⟩) (by assumption) ?ra4
    case hya4 => (try dsimp only at hSw); go_simp; (try with_reducible rfl)
    (try simp only [Act.put, List.setIfInBounds_toArray, List.set_cons_zero, List.set_cons_succ])
    refine wpAnyH_take (i := 5) (oi := ({ dst := some 64, op := Op.move (Operand.tmp 63), type := 4, pos := "outright.go:116", after := #[{ on := 4, ground := Ground.data }], guard := none } : Oper)) (v := ?va5) rfl (by kernel_rfl) (by kernel_rfl) (by kernel_rfl) (fun _ _ _ h => h) (Or.inl ⟨by rfl, fun w hSw => ?hya5⟩) (by assumption) ?ra5
    case hya5 => (try dsimp only at hSw); go_simp; (try with_reducible rfl)
    (try simp only [Act.put, List.setIfInBounds_toArray, List.set_cons_zero, List.set_cons_succ])
    refine wpAnyH_take (i := 6) (oi := ({ dst := some 65, op := Op.move (Operand.tmp 7), type := 25, pos := "outright.go:116", after := #[{ on := 5, ground := Ground.guard }], guard := some (5, false) } : Oper)) (v := ?va6) rfl (by kernel_rfl) (by kernel_rfl) (by kernel_rfl) (fun _ _ _ h => h) (Or.inl ⟨by rfl, fun w hSw => ?hya6⟩) (by assumption) ?ra6
    case hya6 => (try dsimp only at hSw); go_simp; (try with_reducible rfl)
    (try simp only [Act.put, List.setIfInBounds_toArray, List.set_cons_zero, List.set_cons_succ])
    refine wpAnyH_take (i := 7) (oi := ({ dst := some 66, op := Op.load 30 (Operand.tmp 8), type := 30, pos := "outright.go:116", after := #[{ on := 5, ground := Ground.guard }], guard := some (5, false) } : Oper)) (v := ?va7) rfl (by kernel_rfl) (by kernel_rfl) (by kernel_rfl) (fun _ _ _ h => h) (Or.inl ⟨by rfl, fun w hSw => ?hya7⟩) (by assumption) ?ra7
    case hya7 => (try dsimp only at hSw); go_simp; (try with_reducible rfl)
    (try simp only [Act.put, List.setIfInBounds_toArray, List.set_cons_zero, List.set_cons_succ])
    refine wpAnyH_take (i := 9) (oi := ({ dst := some 68, op := Op.load 33 (Operand.tmp 5), type := 33, pos := "outright.go:116", after := #[{ on := 5, ground := Ground.guard }], guard := some (5, false) } : Oper)) (v := ?va9) rfl (by kernel_rfl) (by kernel_rfl) (by kernel_rfl) (fun _ _ _ h => h) (Or.inl ⟨by rfl, fun w hSw => ?hya9⟩) (by assumption) ?ra9
    case hya9 => (try dsimp only at hSw); go_simp; (try with_reducible rfl)
    (try simp only [Act.put, List.setIfInBounds_toArray, List.set_cons_zero, List.set_cons_succ])
    refine wpAnyH_ready (rs := [8]) (by kernel_rfl) (by simp) ?_
    refine AllReadyH.cons (o := ({ dst := some 67, op := Op.call { callee := Callee.value (Operand.func 20), args := #[Operand.tmp 65, Operand.tmp 66], argTypes := #[25, 30] }, type := 33, pos := "outright.go:116", after := #[{ on := 6, ground := Ground.data }, { on := 7, ground := Ground.data }, { on := 5, ground := Ground.chain }, { on := 5, ground := Ground.guard }], guard := some (5, false) } : Oper)) rfl (fun Kq hKq => ?_) AllReadyH.nil
    go_simp
    (have HC8 := Lib.hid (Below.refl w8.drew.heap.size w8.drew)); (refine (HTA.out _ HSN8.out.st).mono ?_; rintro e w9 ⟨rfl, hb9⟩; have HSN9 := Lib.hid (HSN8.out.new hb9); have HC9 := Lib.hid (HC8.out.trans (hb9.mono HC8.out.size)))
    refine hKq.out _ _ ?_ (fun hHeld => ?_)
    · exact ⟨(hb9.cell (p := ⟨X5, 0, none⟩) (HSN8.out.cl X5 (.inl h5b)).1).trans hHeld.1, (hb9.cell (p := ⟨X5, 1, none⟩) (HSN8.out.cl X5 (.inl h5b)).1).trans hHeld.2.1, (hb9.cell (p := ⟨X8, 0, none⟩) (HSN8.out.cl X8 (.inr (.inl rfl))).1).trans hHeld.2.2.1, (hb9.cell (p := ⟨X8, 1, none⟩) (HSN8.out.cl X8 (.inr (.inl rfl))).1).trans hHeld.2.2.2.1, (hb9.cell (p := ⟨X9, 0, none⟩) (HSN8.out.cl X9 (.inr (.inr (.inl rfl)))).1).trans hHeld.2.2.2.2.1, (hb9.cell (p := ⟨X9, 1, none⟩) (HSN8.out.cl X9 (.inr (.inr (.inl rfl)))).1).trans hHeld.2.2.2.2.2.1, (hb9.cell (p := ⟨X10, 0, none⟩) (HSN8.out.cl X10 (.inr (.inr (.inr rfl)))).1).trans hHeld.2.2.2.2.2.2.1, (hb9.cell (p := ⟨X10, 1, none⟩) (HSN8.out.cl X10 (.inr (.inr (.inr rfl)))).1).trans hHeld.2.2.2.2.2.2.2⟩
    clear hKq Kq
    (try simp only [Act.put, List.setIfInBounds_toArray, List.set_cons_zero, List.set_cons_succ])
    refine wpAnyH_take (i := 10) (oi := ({ dst := some 69, op := Op.binOp BinOp.neq 33 (Operand.tmp 67) (Operand.tmp 68) 33, type := 4, pos := "outright.go:116", after := #[{ on := 8, ground := Ground.data }, { on := 9, ground := Ground.data }, { on := 5, ground := Ground.guard }], guard := some (5, false) } : Oper)) (v := ?va10) rfl (by kernel_rfl) (by kernel_rfl) (by kernel_rfl) (fun _ _ _ h => h) (Or.inl ⟨by rfl, fun w hSw => ?hya10⟩) (by assumption) ?ra10
    case hya10 => (try dsimp only at hSw); go_simp; (try with_reducible rfl)
    (try simp only [Act.put, List.setIfInBounds_toArray, List.set_cons_zero, List.set_cons_succ])
    refine wpAnyH_take (i := 11) (oi := ({ dst := some 70, op := Op.pick (Operand.tmp 64) (Operand.const (Value.bool true)) (Operand.tmp 69), type := 4, pos := "outright.go:116", after := #[{ on := 5, ground := Ground.data }, { on := 10, ground := Ground.data }], guard := none } : Oper)) (v := ?va11) rfl (by kernel_rfl) (by kernel_rfl) (by kernel_rfl) (fun _ _ _ h => h) (Or.inl ⟨by rfl, fun w hSw => ?hya11⟩) (by assumption) ?ra11
    case hya11 => (try dsimp only at hSw); go_simp; (try with_reducible rfl)
    (try simp only [Act.put, List.setIfInBounds_toArray, List.set_cons_zero, List.set_cons_succ])
    refine wpAnyH_take (i := 12) (oi := ({ dst := some 71, op := Op.move (Operand.tmp 70), type := 4, pos := "outright.go:116", after := #[{ on := 11, ground := Ground.data }, { on := 8, ground := Ground.chain }], guard := none } : Oper)) (v := ?va12) rfl (by kernel_rfl) (by kernel_rfl) (by kernel_rfl) (fun _ _ _ h => h) (Or.inl ⟨by rfl, fun w hSw => ?hya12⟩) (by assumption) ?ra12
    case hya12 => (try dsimp only at hSw); go_simp; (try with_reducible rfl)
    (try simp only [Act.put, List.setIfInBounds_toArray, List.set_cons_zero, List.set_cons_succ])
    refine wpAnyH_take (i := 13) (oi := ({ dst := some 72, op := Op.load 30 (Operand.tmp 8), type := 30, pos := "outright.go:116", after := #[{ on := 12, ground := Ground.guard }], guard := some (12, false) } : Oper)) (v := ?va13) rfl (by kernel_rfl) (by kernel_rfl) (by kernel_rfl) (fun _ _ _ h => h) (Or.inl ⟨by rfl, fun w hSw => ?hya13⟩) (by assumption) ?ra13
    case hya13 => (try dsimp only at hSw); go_simp; (try with_reducible rfl)
    (try simp only [Act.put, List.setIfInBounds_toArray, List.set_cons_zero, List.set_cons_succ])
    refine wpAnyH_take (i := 14) (oi := ({ dst := some 73, op := Op.load 30 (Operand.tmp 9), type := 30, pos := "outright.go:116", after := #[{ on := 12, ground := Ground.guard }], guard := some (12, false) } : Oper)) (v := ?va14) rfl (by kernel_rfl) (by kernel_rfl) (by kernel_rfl) (fun _ _ _ h => h) (Or.inl ⟨by rfl, fun w hSw => ?hya14⟩) (by assumption) ?ra14
    case hya14 => (try dsimp only at hSw); go_simp; (try with_reducible rfl)
    (try simp only [Act.put, List.setIfInBounds_toArray, List.set_cons_zero, List.set_cons_succ])
    refine wpAnyH_take (i := 15) (oi := ({ dst := some 74, op := Op.binOp BinOp.neq 30 (Operand.tmp 72) (Operand.tmp 73) 30, type := 4, pos := "outright.go:116", after := #[{ on := 13, ground := Ground.data }, { on := 14, ground := Ground.data }, { on := 12, ground := Ground.guard }], guard := some (12, false) } : Oper)) (v := ?va15) rfl (by kernel_rfl) (by kernel_rfl) (by kernel_rfl) (fun _ _ _ h => h) (Or.inl ⟨by rfl, fun w hSw => ?hya15⟩) (by assumption) ?ra15
    case hya15 => (try dsimp only at hSw); go_simp; (try with_reducible rfl)
    (try simp only [Act.put, List.setIfInBounds_toArray, List.set_cons_zero, List.set_cons_succ])
    refine wpAnyH_take (i := 16) (oi := ({ dst := some 75, op := Op.move (Operand.tmp 74), type := 4, pos := "outright.go:116", after := #[{ on := 15, ground := Ground.data }, { on := 12, ground := Ground.chain }, { on := 12, ground := Ground.guard }], guard := some (12, false) } : Oper)) (v := ?va16) rfl (by kernel_rfl) (by kernel_rfl) (by kernel_rfl) (fun _ _ _ h => h) (Or.inl ⟨by rfl, fun w hSw => ?hya16⟩) (by assumption) ?ra16
    case hya16 => (try dsimp only at hSw); go_simp; (try with_reducible rfl)
    (try simp only [Act.put, List.setIfInBounds_toArray, List.set_cons_zero, List.set_cons_succ])
    refine wpAnyH_take (i := 17) (oi := ({ dst := some 76, op := Op.move (Operand.tmp 7), type := 25, pos := "outright.go:116", after := #[{ on := 16, ground := Ground.guard }], guard := some (16, true) } : Oper)) (v := undef) rfl (by kernel_rfl) (by kernel_rfl) (by kernel_rfl) (fun _ _ _ h => h) (Or.inr ⟨by rfl, rfl⟩) (by assumption) ?_
    (try simp only [Act.put, List.setIfInBounds_toArray, List.set_cons_zero, List.set_cons_succ])
    refine wpAnyH_take (i := 18) (oi := ({ dst := some 77, op := Op.load 30 (Operand.tmp 9), type := 30, pos := "outright.go:116", after := #[{ on := 16, ground := Ground.guard }], guard := some (16, true) } : Oper)) (v := undef) rfl (by kernel_rfl) (by kernel_rfl) (by kernel_rfl) (fun _ _ _ h => h) (Or.inr ⟨by rfl, rfl⟩) (by assumption) ?_
    (try simp only [Act.put, List.setIfInBounds_toArray, List.set_cons_zero, List.set_cons_succ])
    refine wpAnyH_take (i := 19) (oi := ({ dst := some 78, op := Op.call { callee := Callee.value (Operand.func 19), args := #[Operand.tmp 76, Operand.tmp 77], argTypes := #[25, 30] }, type := 31, pos := "outright.go:116", after := #[{ on := 17, ground := Ground.data }, { on := 18, ground := Ground.data }, { on := 16, ground := Ground.chain }, { on := 16, ground := Ground.guard }], guard := some (16, true) } : Oper)) (v := undef) rfl (by kernel_rfl) (by kernel_rfl) (by kernel_rfl) (fun _ _ _ h => h) (Or.inr ⟨by rfl, rfl⟩) (by assumption) ?_
    (try simp only [Act.put, List.setIfInBounds_toArray, List.set_cons_zero, List.set_cons_succ])
    refine wpAnyH_take (i := 20) (oi := ({ dst := some 79, op := Op.call { callee := Callee.builtin Builtin.len, args := #[Operand.tmp 78], argTypes := #[31] }, type := 3, pos := "outright.go:116", after := #[{ on := 19, ground := Ground.data }, { on := 16, ground := Ground.guard }], guard := some (16, true) } : Oper)) (v := undef) rfl (by kernel_rfl) (by kernel_rfl) (by kernel_rfl) (fun _ _ _ h => h) (Or.inr ⟨by rfl, rfl⟩) (by assumption) ?_
    (try simp only [Act.put, List.setIfInBounds_toArray, List.set_cons_zero, List.set_cons_succ])
    refine wpAnyH_take (i := 21) (oi := ({ dst := some 80, op := Op.binOp BinOp.neq 3 (Operand.tmp 79) (Operand.const (Value.int IntKind.i64 0)) 3, type := 4, pos := "outright.go:116", after := #[{ on := 20, ground := Ground.data }, { on := 16, ground := Ground.guard }], guard := some (16, true) } : Oper)) (v := undef) rfl (by kernel_rfl) (by kernel_rfl) (by kernel_rfl) (fun _ _ _ h => h) (Or.inr ⟨by rfl, rfl⟩) (by assumption) ?_
    (try simp only [Act.put, List.setIfInBounds_toArray, List.set_cons_zero, List.set_cons_succ])
    refine wpAnyH_take (i := 22) (oi := ({ dst := some 81, op := Op.move (Operand.tmp 80), type := 4, pos := "outright.go:116", after := #[{ on := 21, ground := Ground.data }, { on := 19, ground := Ground.chain }, { on := 16, ground := Ground.guard }], guard := some (16, true) } : Oper)) (v := undef) rfl (by kernel_rfl) (by kernel_rfl) (by kernel_rfl) (fun _ _ _ h => h) (Or.inr ⟨by rfl, rfl⟩) (by assumption) ?_
    (try simp only [Act.put, List.setIfInBounds_toArray, List.set_cons_zero, List.set_cons_succ])
    refine wpAnyH_take (i := 23) (oi := ({ dst := some 82, op := Op.move (Operand.tmp 7), type := 25, pos := "outright.go:116", after := #[{ on := 22, ground := Ground.guard }], guard := some (22, false) } : Oper)) (v := undef) rfl (by kernel_rfl) (by kernel_rfl) (by kernel_rfl) (fun _ _ _ h => h) (Or.inr ⟨by rfl, rfl⟩) (by assumption) ?_
    (try simp only [Act.put, List.setIfInBounds_toArray, List.set_cons_zero, List.set_cons_succ])
    refine wpAnyH_take (i := 24) (oi := ({ dst := some 83, op := Op.load 30 (Operand.tmp 9), type := 30, pos := "outright.go:116", after := #[{ on := 22, ground := Ground.guard }], guard := some (22, false) } : Oper)) (v := undef) rfl (by kernel_rfl) (by kernel_rfl) (by kernel_rfl) (fun _ _ _ h => h) (Or.inr ⟨by rfl, rfl⟩) (by assumption) ?_
    (try simp only [Act.put, List.setIfInBounds_toArray, List.set_cons_zero, List.set_cons_succ])
    refine wpAnyH_take (i := 25) (oi := ({ dst := some 84, op := Op.call { callee := Callee.value (Operand.func 20), args := #[Operand.tmp 82, Operand.tmp 83], argTypes := #[25, 30] }, type := 33, pos := "outright.go:116", after := #[{ on := 23, ground := Ground.data }, { on := 24, ground := Ground.data }, { on := 22, ground := Ground.chain }, { on := 22, ground := Ground.guard }], guard := some (22, false) } : Oper)) (v := undef) rfl (by kernel_rfl) (by kernel_rfl) (by kernel_rfl) (fun _ _ _ h => h) (Or.inr ⟨by rfl, rfl⟩) (by assumption) ?_
    (try simp only [Act.put, List.setIfInBounds_toArray, List.set_cons_zero, List.set_cons_succ])
    refine wpAnyH_take (i := 26) (oi := ({ dst := some 85, op := Op.load 33 (Operand.tmp 10), type := 33, pos := "outright.go:116", after := #[{ on := 22, ground := Ground.guard }], guard := some (22, false) } : Oper)) (v := undef) rfl (by kernel_rfl) (by kernel_rfl) (by kernel_rfl) (fun _ _ _ h => h) (Or.inr ⟨by rfl, rfl⟩) (by assumption) ?_
    (try simp only [Act.put, List.setIfInBounds_toArray, List.set_cons_zero, List.set_cons_succ])
    refine wpAnyH_take (i := 27) (oi := ({ dst := some 86, op := Op.binOp BinOp.neq 33 (Operand.tmp 84) (Operand.tmp 85) 33, type := 4, pos := "outright.go:116", after := #[{ on := 25, ground := Ground.data }, { on := 26, ground := Ground.data }, { on := 22, ground := Ground.guard }], guard := some (22, false) } : Oper)) (v := undef) rfl (by kernel_rfl) (by kernel_rfl) (by kernel_rfl) (fun _ _ _ h => h) (Or.inr ⟨by rfl, rfl⟩) (by assumption) ?_
    (try simp only [Act.put, List.setIfInBounds_toArray, List.set_cons_zero, List.set_cons_succ])
    refine wpAnyH_take (i := 28) (oi := ({ dst := some 87, op := Op.pick (Operand.tmp 81) (Operand.const (Value.bool true)) (Operand.tmp 86), type := 4, pos := "outright.go:116", after := #[{ on := 22, ground := Ground.data }, { on := 27, ground := Ground.data }, { on := 16, ground := Ground.guard }], guard := some (16, true) } : Oper)) (v := undef) rfl (by kernel_rfl) (by kernel_rfl) (by kernel_rfl) (fun _ _ _ h => h) (Or.inr ⟨by rfl, rfl⟩) (by assumption) ?_
    (try simp only [Act.put, List.setIfInBounds_toArray, List.set_cons_zero, List.set_cons_succ])
    refine wpAnyH_take (i := 29) (oi := ({ dst := some 88, op := Op.pick (Operand.tmp 75) (Operand.tmp 87) (Operand.const (Value.bool false)), type := 4, pos := "outright.go:116", after := #[{ on := 16, ground := Ground.data }, { on := 28, ground := Ground.data }, { on := 12, ground := Ground.guard }], guard := some (12, false) } : Oper)) (v := ?va29) rfl (by kernel_rfl) (by kernel_rfl) (by kernel_rfl) (fun _ _ _ h => h) (Or.inl ⟨by rfl, fun w hSw => ?hya29⟩) (by assumption) ?ra29
    case hya29 => (try dsimp only at hSw); go_simp; (try with_reducible rfl)
    (try simp only [Act.put, List.setIfInBounds_toArray, List.set_cons_zero, List.set_cons_succ])
    refine wpAnyH_take (i := 30) (oi := ({ dst := some 89, op := Op.pick (Operand.tmp 71) (Operand.const (Value.bool true)) (Operand.tmp 88), type := 4, pos := "outright.go:116", after := #[{ on := 12, ground := Ground.data }, { on := 29, ground := Ground.data }], guard := none } : Oper)) (v := ?va30) rfl (by kernel_rfl) (by kernel_rfl) (by kernel_rfl) (fun _ _ _ h => h) (Or.inl ⟨by rfl, fun w hSw => ?hya30⟩) (by assumption) ?ra30
    case hya30 => (try dsimp only at hSw); go_simp; (try with_reducible rfl)
    (try simp only [Act.put, List.setIfInBounds_toArray, List.set_cons_zero, List.set_cons_succ])
    refine wpAnyH_done (by kernel_rfl) ?_ _
    have HE := HEND.out w9 HC9.out
    obtain ⟨w10, hw10⟩ : ∃ w10, w10 = w9 := ⟨_, rfl⟩
    rw [← hw10] at HE ⊢
    clear hw10
    obtain ⟨hsn10, hfc10, hr10, hb10⟩ := HE.out
    have hrd10 : Rd w10 w10.heap.size A8 (flat D) := by
      have h := hr10
      unfold RowE at h
      rw [← HN.out] at h
      exact h.rd
    have hrA10 : Rd w10 W.heap.size A (flat D) := (HR.out.below HB00.out (Nat.le_refl _)).below hb10 hWb
    have hWl : W.heap.size ≤ w10.heap.size := Nat.le_trans hWb hsn10.st.le
    have HSN10 := Lib.hid hsn10; have HFC10 := Lib.hid hfc10; have HB10 := Lib.hid hb10; have HRD10 := Lib.hid hrd10; have HRA10 := Lib.hid hrA10
    clear hsn10 hfc10 hr10 hb10 hrd10 hrA10 HE HEND
    go_wp2_with fail
    go_loopg [12] n (fun q s12 wx => ∃ k : Nat, k ≤ n ∧ q = n - k ∧ s12 = .int .i64 (k : Int) ∧ Below w10.heap.size w10 wx)
    case atStart => exact ⟨0, by omega, rfl, rfl, Below.refl _ _⟩
    case round =>
      obtain ⟨k, hk, rfl, rfl, hb⟩ := hrel
      have HB := Lib.hid hb
      clear hb
      by_cases hkn : k < n
      · obtain ⟨ga, oa, rfl, hga, p0, p1, p2⟩ := (HRD10.out.below HB.out (Nat.le_refl _)).ent (i := k) (by have := HN.out; omega)
        obtain ⟨gb, ob, rfl, hgb, q0, q1, q2⟩ := (HRA10.out.below HB.out hWl).ent (i := k) (by have := HN.out; omega)
        generalize hd : D[k]! = d at *
        clear hd
        have hneE := fun W => neqE d d W
        simp only [decide_true, Bool.not_true] at hneE
        go_upto_region 17 with (fail)
        go_quiet (fail)
        go_wp2_with fail
        go_roundg (n - (k + 1))
        case measure => omega
        case rel => exact ⟨k + 1, by omega, rfl, by go_num, HB.out.trans ((below_drewN _ _).mono HB.out.size)⟩
      · obtain rfl : k = n := by omega
        have hsn := (HSN10.out.new HB.out).drew
        have hfc := HFC10.out.below HSN10.out HB.out
        have hbr := (HB10.out.trans (HB.out.mono HSN10.out.st.le)).drew
        obtain ⟨z50, z51, z80, z81, -⟩ := hfc
        have hput0 : ∀ W, St W base own6 s 2 M3 → Calls Try.prog 15 #[s, .agg #[.int .i64 (bb : Int), .int .i64 (ib : Int)], .slice none 0 0] W fun e w' => e = .returned (.bool true) ∧ ∃ own', St w' base own' s 2 (upd M3 (bb : Int) ((M3 (bb : Int)).set ib { (M3 (bb : Int))[ib]! with q := [] })) ∧ Turns (Mine own6) W w' ∧ Fresh own6 own' W := fun W hst =>
          put_yes hst hIa HL3.out (D := []) (A0 := none) (b0 := 0) (c0 := 0) Rd.nil (Nat.zero_le _) (by simp)
        obtain ⟨M4, hM4⟩ : ∃ M4, M4 = upd M3 (bb : Int) ((M3 (bb : Int)).set ib { (M3 (bb : Int))[ib]! with q := [] }) := ⟨_, rfl⟩
        rw [← hM4] at hput0
        have hl4 : ib < (M4 (bb : Int)).length := by rw [hM4, upd_len]; exact HL3.out
        have hat4 : (M4 (bb : Int))[ib]! = ⟨ta, tf, []⟩ := by rw [hM4, upd_at _ _ HL3.out, HAT.out]
        have hq4 : ∀ W own, St W base own s 2 M4 → Calls Try.prog 19 #[s, .agg #[.int .i64 (bb : Int), .int .i64 (ib : Int)]] W fun e w' => ∃ A', e = .returned (.slice A' 0 0) ∧ Below W.heap.size W w' := fun W own hst => by
          obtain ⟨F, hr⟩ := hst.rs
          have := queue_yes hr hIa hl4 (by rw [hat4]; simp)
          rw [hat4] at this
          refine this.mono ?_
          rintro e w' ⟨A', rfl, -, hb⟩
          exact ⟨A', rfl, hb⟩
        have ht4 : ∀ W own, St W base own s 2 M4 → Calls Try.prog 20 #[s, .agg #[.int .i64 (bb : Int), .int .i64 (ib : Int)]] W fun e w' => e = .returned (.agg #[.int .u64 ta, .int .u64 tf]) ∧ Below W.heap.size W w' := fun W own hst => by
          obtain ⟨F, hr⟩ := hst.rs
          have := timer_yes hr hIa hl4
          rwa [hat4] at this
        have heq33 : ∀ W, (binOp .eql 33 (.agg #[.int .u64 ta, .int .u64 tf]) (.agg #[.int .u64 ta, .int .u64 tf])).run Try.prog W = .ok (.bool true) W := fun W => by rw [eqlT33]; simp
        have HSNR := Lib.hid hsn; have HBR := Lib.hid hbr; have HPUT0 := Lib.hid hput0; have HQ4 := Lib.hid hq4; have HT4 := Lib.hid ht4
        clear hsn hbr hput0 hM4 hl4 hat4 hq4 ht4
        go_upto_region 19 with (fail)
        refine wp_region_held_drew (S := fun w' => w'.cell? ⟨X5, 0, none⟩ = some (.int .u64 ta) ∧ w'.cell? ⟨X5, 1, none⟩ = some (.int .u64 tf) ∧ w'.cell? ⟨X8, 0, none⟩ = some (.int .i64 (bb : Int)) ∧ w'.cell? ⟨X8, 1, none⟩ = some (.int .i64 (ib : Int))) (by kernel_rfl) ?_ (fun hHeld => ?_)
        · exact ⟨z50, z51, z80, z81⟩
        refine wpAnyH_take (i := 0) (oi := ({ dst := some 105, op := Op.move (Operand.tmp 7), type := 25, pos := "outright.go:124", after := #[], guard := none } : Oper)) (v := ?vs0) rfl (by kernel_rfl) (by kernel_rfl) (by kernel_rfl) (fun _ _ _ h => h) (Or.inl ⟨by rfl, fun w hSw => ?hys0⟩) (by assumption) ?rs0
        case hys0 => (try dsimp only at hSw); go_simp; (try with_reducible rfl)
        (try simp only [Act.put, List.setIfInBounds_toArray, List.set_cons_zero, List.set_cons_succ])
        refine wpAnyH_take (i := 1) (oi := ({ dst := some 106, op := Op.load 30 (Operand.tmp 8), type := 30, pos := "outright.go:124", after := #[], guard := none } : Oper)) (v := ?vs1) rfl (by kernel_rfl) (by kernel_rfl) (by kernel_rfl) (fun _ _ _ h => h) (Or.inl ⟨by rfl, fun w hSw => ?hys1⟩) (by assumption) ?rs1
        case hys1 => (try dsimp only at hSw); go_simp; (try with_reducible rfl)
        (try simp only [Act.put, List.setIfInBounds_toArray, List.set_cons_zero, List.set_cons_succ])
        refine wpAnyH_ready (rs := [2]) (by kernel_rfl) (by simp) ?_
        refine AllReadyH.cons (o := ({ dst := some 107, op := Op.call { callee := Callee.value (Operand.func 15), args := #[Operand.tmp 105, Operand.tmp 106, Operand.const (Value.slice none 0 0)], argTypes := #[25, 30, 31] }, type := 4, pos := "outright.go:124", after := #[{ on := 0, ground := Ground.data }, { on := 1, ground := Ground.data }], guard := none } : Oper)) rfl (fun Kq hKq => ?_) AllReadyH.nil
        go_simp
        (refine (HPUT0.out _ HSNR.out.st).mono ?_; rintro e w14 ⟨rfl, own14, hs14, ht14, hf14⟩; obtain ⟨sn14, t14, b14⟩ := HSNR.out.one hs14 ht14 hf14; have HSN14 := Lib.hid sn14; have HC14 := Lib.hid (HBR.out.trans b14); clear hs14 ht14 hf14 sn14 b14)
        refine hKq.out _ _ ?_ (fun hHeld => ?_)
        · exact ⟨HSNR.out.keepC t14 (.inl h5b) hHeld.1, HSNR.out.keepC t14 (.inl h5b) hHeld.2.1, HSNR.out.keepC t14 (.inr (.inl rfl)) hHeld.2.2.1, HSNR.out.keepC t14 (.inr (.inl rfl)) hHeld.2.2.2⟩
        clear hKq Kq
        (try simp only [Act.put, List.setIfInBounds_toArray, List.set_cons_zero, List.set_cons_succ])
        refine wpAnyH_take (i := 3) (oi := ({ dst := some 108, op := Op.move (Operand.tmp 107), type := 4, pos := "outright.go:124", after := #[{ on := 2, ground := Ground.data }, { on := 2, ground := Ground.chain }], guard := none } : Oper)) (v := ?vs3) rfl (by kernel_rfl) (by kernel_rfl) (by kernel_rfl) (fun _ _ _ h => h) (Or.inl ⟨by rfl, fun w hSw => ?hys3⟩) (by assumption) ?rs3
        case hys3 => (try dsimp only at hSw); go_simp; (try with_reducible rfl)
        (try simp only [Act.put, List.setIfInBounds_toArray, List.set_cons_zero, List.set_cons_succ])
        refine wpAnyH_take (i := 4) (oi := ({ dst := some 109, op := Op.move (Operand.tmp 7), type := 25, pos := "outright.go:124", after := #[{ on := 3, ground := Ground.guard }], guard := some (3, true) } : Oper)) (v := ?vs4) rfl (by kernel_rfl) (by kernel_rfl) (by kernel_rfl) (fun _ _ _ h => h) (Or.inl ⟨by rfl, fun w hSw => ?hys4⟩) (by assumption) ?rs4
        case hys4 => (try dsimp only at hSw); go_simp; (try with_reducible rfl)
        (try simp only [Act.put, List.setIfInBounds_toArray, List.set_cons_zero, List.set_cons_succ])
        refine wpAnyH_take (i := 5) (oi := ({ dst := some 110, op := Op.load 30 (Operand.tmp 8), type := 30, pos := "outright.go:124", after := #[{ on := 3, ground := Ground.guard }], guard := some (3, true) } : Oper)) (v := ?vs5) rfl (by kernel_rfl) (by kernel_rfl) (by kernel_rfl) (fun _ _ _ h => h) (Or.inl ⟨by rfl, fun w hSw => ?hys5⟩) (by assumption) ?rs5
        case hys5 => (try dsimp only at hSw); go_simp; (try with_reducible rfl)
        (try simp only [Act.put, List.setIfInBounds_toArray, List.set_cons_zero, List.set_cons_succ])
        refine wpAnyH_ready (rs := [6]) (by kernel_rfl) (by simp) ?_
        refine AllReadyH.cons (o := ({ dst := some 111, op := Op.call { callee := Callee.value (Operand.func 19), args := #[Operand.tmp 109, Operand.tmp 110], argTypes := #[25, 30] }, type := 31, pos := "outright.go:124", after := #[{ on := 4, ground := Ground.data }, { on := 5, ground := Ground.data }, { on := 3, ground := Ground.chain }, { on := 3, ground := Ground.guard }], guard := some (3, true) } : Oper)) rfl (fun Kq hKq => ?_) AllReadyH.nil
        go_simp
        (refine (HQ4.out _ _ HSN14.out.st).mono ?_; rintro e w15 ⟨A15, rfl, hb15⟩; have HSN15 := Lib.hid (HSN14.out.new hb15); have HC15 := Lib.hid (HC14.out.trans (hb15.mono HSN14.out.st.le)))
        refine hKq.out _ _ ?_ (fun hHeld => ?_)
        · exact ⟨(hb15.cell (p := ⟨X5, 0, none⟩) (HSN14.out.cl X5 (.inl h5b)).1).trans hHeld.1, (hb15.cell (p := ⟨X5, 1, none⟩) (HSN14.out.cl X5 (.inl h5b)).1).trans hHeld.2.1, (hb15.cell (p := ⟨X8, 0, none⟩) (HSN14.out.cl X8 (.inr (.inl rfl))).1).trans hHeld.2.2.1, (hb15.cell (p := ⟨X8, 1, none⟩) (HSN14.out.cl X8 (.inr (.inl rfl))).1).trans hHeld.2.2.2⟩
        clear hKq Kq
        (try simp only [Act.put, List.setIfInBounds_toArray, List.set_cons_zero, List.set_cons_succ])
        refine wpAnyH_take (i := 7) (oi := ({ dst := some 112, op := Op.call { callee := Callee.builtin Builtin.len, args := #[Operand.tmp 111], argTypes := #[31] }, type := 3, pos := "outright.go:124", after := #[{ on := 6, ground := Ground.data }, { on := 3, ground := Ground.guard }], guard := some (3, true) } : Oper)) (v := ?vs7) rfl (by kernel_rfl) (by kernel_rfl) (by kernel_rfl) (fun _ _ _ h => h) (Or.inl ⟨by rfl, fun w hSw => ?hys7⟩) (by assumption) ?rs7
        case hys7 => (try dsimp only at hSw); go_simp; (try with_reducible rfl)
        (try simp only [Act.put, List.setIfInBounds_toArray, List.set_cons_zero, List.set_cons_succ])
        refine wpAnyH_take (i := 8) (oi := ({ dst := some 113, op := Op.binOp BinOp.eql 3 (Operand.tmp 112) (Operand.const (Value.int IntKind.i64 0)) 3, type := 4, pos := "outright.go:124", after := #[{ on := 7, ground := Ground.data }, { on := 3, ground := Ground.guard }], guard := some (3, true) } : Oper)) (v := ?vs8) rfl (by kernel_rfl) (by kernel_rfl) (by kernel_rfl) (fun _ _ _ h => h) (Or.inl ⟨by rfl, fun w hSw => ?hys8⟩) (by assumption) ?rs8
        case hys8 => (try dsimp only at hSw); go_simp; (try with_reducible rfl)
        (try simp only [Act.put, List.setIfInBounds_toArray, List.set_cons_zero, List.set_cons_succ])
        refine wpAnyH_take (i := 9) (oi := ({ dst := some 114, op := Op.pick (Operand.tmp 108) (Operand.tmp 113) (Operand.const (Value.bool false)), type := 4, pos := "outright.go:124", after := #[{ on := 3, ground := Ground.data }, { on := 8, ground := Ground.data }], guard := none } : Oper)) (v := ?vs9) rfl (by kernel_rfl) (by kernel_rfl) (by kernel_rfl) (fun _ _ _ h => h) (Or.inl ⟨by rfl, fun w hSw => ?hys9⟩) (by assumption) ?rs9
        case hys9 => (try dsimp only at hSw); go_simp; (try with_reducible rfl)
        (try simp only [Act.put, List.setIfInBounds_toArray, List.set_cons_zero, List.set_cons_succ])
        refine wpAnyH_take (i := 10) (oi := ({ dst := some 115, op := Op.move (Operand.tmp 114), type := 4, pos := "outright.go:124", after := #[{ on := 9, ground := Ground.data }, { on := 6, ground := Ground.chain }], guard := none } : Oper)) (v := ?vs10) rfl (by kernel_rfl) (by kernel_rfl) (by kernel_rfl) (fun _ _ _ h => h) (Or.inl ⟨by rfl, fun w hSw => ?hys10⟩) (by assumption) ?rs10
        case hys10 => (try dsimp only at hSw); go_simp; (try with_reducible rfl)
        (try simp only [Act.put, List.setIfInBounds_toArray, List.set_cons_zero, List.set_cons_succ])
        refine wpAnyH_take (i := 11) (oi := ({ dst := some 116, op := Op.move (Operand.tmp 7), type := 25, pos := "outright.go:124", after := #[{ on := 10, ground := Ground.guard }], guard := some (10, true) } : Oper)) (v := ?vs11) rfl (by kernel_rfl) (by kernel_rfl) (by kernel_rfl) (fun _ _ _ h => h) (Or.inl ⟨by rfl, fun w hSw => ?hys11⟩) (by assumption) ?rs11
        case hys11 => (try dsimp only at hSw); go_simp; (try with_reducible rfl)
        (try simp only [Act.put, List.setIfInBounds_toArray, List.set_cons_zero, List.set_cons_succ])
        refine wpAnyH_take (i := 12) (oi := ({ dst := some 117, op := Op.load 30 (Operand.tmp 8), type := 30, pos := "outright.go:124", after := #[{ on := 10, ground := Ground.guard }], guard := some (10, true) } : Oper)) (v := ?vs12) rfl (by kernel_rfl) (by kernel_rfl) (by kernel_rfl) (fun _ _ _ h => h) (Or.inl ⟨by rfl, fun w hSw => ?hys12⟩) (by assumption) ?rs12
        case hys12 => (try dsimp only at hSw); go_simp; (try with_reducible rfl)
        (try simp only [Act.put, List.setIfInBounds_toArray, List.set_cons_zero, List.set_cons_succ])
        refine wpAnyH_take (i := 14) (oi := ({ dst := some 119, op := Op.load 33 (Operand.tmp 5), type := 33, pos := "outright.go:124", after := #[{ on := 10, ground := Ground.guard }], guard := some (10, true) } : Oper)) (v := ?vs14) rfl (by kernel_rfl) (by kernel_rfl) (by kernel_rfl) (fun _ _ _ h => h) (Or.inl ⟨by rfl, fun w hSw => ?hys14⟩) (by assumption) ?rs14
        case hys14 => (try dsimp only at hSw); go_simp; (try with_reducible rfl)
        (try simp only [Act.put, List.setIfInBounds_toArray, List.set_cons_zero, List.set_cons_succ])
        refine wpAnyH_ready (rs := [13]) (by kernel_rfl) (by simp) ?_
        refine AllReadyH.cons (o := ({ dst := some 118, op := Op.call { callee := Callee.value (Operand.func 20), args := #[Operand.tmp 116, Operand.tmp 117], argTypes := #[25, 30] }, type := 33, pos := "outright.go:124", after := #[{ on := 11, ground := Ground.data }, { on := 12, ground := Ground.data }, { on := 10, ground := Ground.chain }, { on := 10, ground := Ground.guard }], guard := some (10, true) } : Oper)) rfl (fun Kq hKq => ?_) AllReadyH.nil
        go_simp
        (refine (HT4.out _ _ HSN15.out.st).mono ?_; rintro e w16 ⟨rfl, hb16⟩; have HSN16 := Lib.hid (HSN15.out.new hb16); have HC16 := Lib.hid (HC15.out.trans (hb16.mono HSN15.out.st.le)))
        refine hKq.out _ _ ?_ (fun hHeld => ?_)
        · exact ⟨(hb16.cell (p := ⟨X5, 0, none⟩) (HSN15.out.cl X5 (.inl h5b)).1).trans hHeld.1, (hb16.cell (p := ⟨X5, 1, none⟩) (HSN15.out.cl X5 (.inl h5b)).1).trans hHeld.2.1, (hb16.cell (p := ⟨X8, 0, none⟩) (HSN15.out.cl X8 (.inr (.inl rfl))).1).trans hHeld.2.2.1, (hb16.cell (p := ⟨X8, 1, none⟩) (HSN15.out.cl X8 (.inr (.inl rfl))).1).trans hHeld.2.2.2⟩
        clear hKq Kq
        (try simp only [Act.put, List.setIfInBounds_toArray, List.set_cons_zero, List.set_cons_succ])
        refine wpAnyH_take (i := 15) (oi := ({ dst := some 120, op := Op.binOp BinOp.eql 33 (Operand.tmp 118) (Operand.tmp 119) 33, type := 4, pos := "outright.go:124", after := #[{ on := 13, ground := Ground.data }, { on := 14, ground := Ground.data }, { on := 10, ground := Ground.guard }], guard := some (10, true) } : Oper)) (v := ?vs15) rfl (by kernel_rfl) (by kernel_rfl) (by kernel_rfl) (fun _ _ _ h => h) (Or.inl ⟨by rfl, fun w hSw => ?hys15⟩) (by assumption) ?rs15
        case hys15 => (try dsimp only at hSw); go_simp; (try with_reducible rfl)
        (try simp only [Act.put, List.setIfInBounds_toArray, List.set_cons_zero, List.set_cons_succ])
        refine wpAnyH_take (i := 16) (oi := ({ dst := some 121, op := Op.pick (Operand.tmp 115) (Operand.tmp 120) (Operand.const (Value.bool false)), type := 4, pos := "outright.go:124", after := #[{ on := 10, ground := Ground.data }, { on := 15, ground := Ground.data }], guard := none } : Oper)) (v := ?vs16) rfl (by kernel_rfl) (by kernel_rfl) (by kernel_rfl) (fun _ _ _ h => h) (Or.inl ⟨by rfl, fun w hSw => ?hys16⟩) (by assumption) ?rs16
        case hys16 => (try dsimp only at hSw); go_simp; (try with_reducible rfl)
        (try simp only [Act.put, List.setIfInBounds_toArray, List.set_cons_zero, List.set_cons_succ])
        refine wpAnyH_take (i := 17) (oi := ({ dst := some 122, op := Op.move (Operand.tmp 121), type := 4, pos := "outright.go:124", after := #[{ on := 16, ground := Ground.data }, { on := 13, ground := Ground.chain }], guard := none } : Oper)) (v := ?vs17) rfl (by kernel_rfl) (by kernel_rfl) (by kernel_rfl) (fun _ _ _ h => h) (Or.inl ⟨by rfl, fun w hSw => ?hys17⟩) (by assumption) ?rs17
        case hys17 => (try dsimp only at hSw); go_simp; (try with_reducible rfl)
        (try simp only [Act.put, List.setIfInBounds_toArray, List.set_cons_zero, List.set_cons_succ])
        refine wpAnyH_ready (rs := [18]) (by kernel_rfl) (by simp) ?_
        refine AllReadyH.cons (o := ({ dst := some 123, op := Op.call { callee := Callee.value (Operand.func 7), args := #[], argTypes := #[] }, type := 4, pos := "outright.go:124", after := #[{ on := 17, ground := Ground.chain }, { on := 17, ground := Ground.guard }], guard := some (17, true) } : Oper)) rfl (fun Kq hKq => ?_) AllReadyH.nil
        go_simp
        (refine (QL.out _).mono ?_; rintro e w17 ⟨rfl, hb17⟩; have HC17 := Lib.hid (HC16.out.trans (hb17.mono HSN16.out.st.le)))
        refine hKq.out _ _ ?_ (fun hHeld => ?_)
        · exact ⟨(hb17.cell (p := ⟨X5, 0, none⟩) (HSN16.out.cl X5 (.inl h5b)).1).trans hHeld.1, (hb17.cell (p := ⟨X5, 1, none⟩) (HSN16.out.cl X5 (.inl h5b)).1).trans hHeld.2.1, (hb17.cell (p := ⟨X8, 0, none⟩) (HSN16.out.cl X8 (.inr (.inl rfl))).1).trans hHeld.2.2.1, (hb17.cell (p := ⟨X8, 1, none⟩) (HSN16.out.cl X8 (.inr (.inl rfl))).1).trans hHeld.2.2.2⟩
        clear hKq Kq
        (try simp only [Act.put, List.setIfInBounds_toArray, List.set_cons_zero, List.set_cons_succ])
        refine wpAnyH_take (i := 19) (oi := ({ dst := some 124, op := Op.pick (Operand.tmp 122) (Operand.tmp 123) (Operand.const (Value.bool false)), type := 4, pos := "outright.go:124", after := #[{ on := 17, ground := Ground.data }, { on := 18, ground := Ground.data }], guard := none } : Oper)) (v := ?vs19) rfl (by kernel_rfl) (by kernel_rfl) (by kernel_rfl) (fun _ _ _ h => h) (Or.inl ⟨by rfl, fun w hSw => ?hys19⟩) (by assumption) ?rs19
        case hys19 => (try dsimp only at hSw); go_simp; (try with_reducible rfl)
        (try simp only [Act.put, List.setIfInBounds_toArray, List.set_cons_zero, List.set_cons_succ])
        refine wpAnyH_take (i := 20) (oi := ({ dst := some 6, op := Op.assign (Operand.tmp 124), type := 4, pos := "outright.go:124", after := #[{ on := 19, ground := Ground.data }, { on := 18, ground := Ground.chain }, { on := 0, ground := Ground.phase }, { on := 1, ground := Ground.phase }, { on := 2, ground := Ground.phase }, { on := 3, ground := Ground.phase }, { on := 4, ground := Ground.phase }, { on := 5, ground := Ground.phase }, { on := 6, ground := Ground.phase }, { on := 7, ground := Ground.phase }, { on := 8, ground := Ground.phase }, { on := 9, ground := Ground.phase }, { on := 10, ground := Ground.phase }, { on := 11, ground := Ground.phase }, { on := 12, ground := Ground.phase }, { on := 13, ground := Ground.phase }, { on := 14, ground := Ground.phase }, { on := 15, ground := Ground.phase }, { on := 16, ground := Ground.phase }, { on := 17, ground := Ground.phase }, { on := 18, ground := Ground.phase }, { on := 19, ground := Ground.phase }], guard := none } : Oper)) (v := ?vs20) rfl (by kernel_rfl) (by kernel_rfl) (by kernel_rfl) (fun _ _ _ h => h) (Or.inl ⟨by rfl, fun w hSw => ?hys20⟩) (by assumption) ?rs20
        case hys20 => (try dsimp only at hSw); go_simp; (try with_reducible rfl)
        (try simp only [Act.put, List.setIfInBounds_toArray, List.set_cons_zero, List.set_cons_succ])
        refine wpAnyH_done (by kernel_rfl) ?_ _
        go_wp2_with fail
        go_ret
        exact ⟨rfl, HB00.out.trans (HC17.out.mono hWb)⟩
  · have hneP : ∀ W, (binOp .neq 30 (.agg #[.int .i64 (ba : Int), .int .i64 (ia : Int)]) (.agg #[.int .i64 (bb : Int), .int .i64 (ib : Int)])).run Try.prog W = .ok (.bool true) W := fun W => by
      rw [neqP30]
      have : ¬ ((ba : Int) = (bb : Int) ∧ (ia : Int) = (ib : Int)) := fun ⟨h1, h2⟩ => hab ⟨by omega, by omega⟩
      rw [decide_eq_false this]; rfl
    refine wp_region_held_drew (S := fun w' => w'.cell? ⟨X5, 0, none⟩ = some (.int .u64 ta) ∧ w'.cell? ⟨X5, 1, none⟩ = some (.int .u64 tf) ∧ w'.cell? ⟨X8, 0, none⟩ = some (.int .i64 (ba : Int)) ∧ w'.cell? ⟨X8, 1, none⟩ = some (.int .i64 (ia : Int)) ∧ w'.cell? ⟨X9, 0, none⟩ = some (.int .i64 (bb : Int)) ∧ w'.cell? ⟨X9, 1, none⟩ = some (.int .i64 (ib : Int)) ∧ w'.cell? ⟨X10, 0, none⟩ = some (.int .u64 ox) ∧ w'.cell? ⟨X10, 1, none⟩ = some (.int .u64 oy)) (by kernel_rfl) ?_ (fun hHeld => ?_)
    · exact hfc8
    refine wpAnyH_take (i := 0) (oi := ({ dst := some 59, op := Op.move (Operand.tmp 11), type := 31, pos := "outright.go:116", after := #[], guard := none } : Oper)) (v := ?vb0) rfl (by kernel_rfl) (by kernel_rfl) (by kernel_rfl) (fun _ _ _ h => h) (Or.inl ⟨by rfl, fun w hSw => ?hyb0⟩) (by assumption) ?rb0
    case hyb0 => (try dsimp only at hSw); go_simp; (try with_reducible rfl)
    (try simp only [Act.put, List.setIfInBounds_toArray, List.set_cons_zero, List.set_cons_succ])
    refine wpAnyH_take (i := 1) (oi := ({ dst := some 60, op := Op.call { callee := Callee.builtin Builtin.len, args := #[Operand.tmp 59], argTypes := #[31] }, type := 3, pos := "outright.go:116", after := #[{ on := 0, ground := Ground.data }], guard := none } : Oper)) (v := ?vb1) rfl (by kernel_rfl) (by kernel_rfl) (by kernel_rfl) (fun _ _ _ h => h) (Or.inl ⟨by rfl, fun w hSw => ?hyb1⟩) (by assumption) ?rb1
    case hyb1 => (try dsimp only at hSw); go_simp; (try with_reducible rfl)
    (try simp only [Act.put, List.setIfInBounds_toArray, List.set_cons_zero, List.set_cons_succ])
    refine wpAnyH_take (i := 2) (oi := ({ dst := some 61, op := Op.move (Operand.tmp 1), type := 31, pos := "outright.go:116", after := #[], guard := none } : Oper)) (v := ?vb2) rfl (by kernel_rfl) (by kernel_rfl) (by kernel_rfl) (fun _ _ _ h => h) (Or.inl ⟨by rfl, fun w hSw => ?hyb2⟩) (by assumption) ?rb2
    case hyb2 => (try dsimp only at hSw); go_simp; (try with_reducible rfl)
    (try simp only [Act.put, List.setIfInBounds_toArray, List.set_cons_zero, List.set_cons_succ])
    refine wpAnyH_take (i := 3) (oi := ({ dst := some 62, op := Op.call { callee := Callee.builtin Builtin.len, args := #[Operand.tmp 61], argTypes := #[31] }, type := 3, pos := "outright.go:116", after := #[{ on := 2, ground := Ground.data }], guard := none } : Oper)) (v := ?vb3) rfl (by kernel_rfl) (by kernel_rfl) (by kernel_rfl) (fun _ _ _ h => h) (Or.inl ⟨by rfl, fun w hSw => ?hyb3⟩) (by assumption) ?rb3
    case hyb3 => (try dsimp only at hSw); go_simp; (try with_reducible rfl)
    (try simp only [Act.put, List.setIfInBounds_toArray, List.set_cons_zero, List.set_cons_succ])
    refine wpAnyH_take (i := 4) (oi := ({ dst := some 63, op := Op.binOp BinOp.neq 3 (Operand.tmp 60) (Operand.tmp 62) 3, type := 4, pos := "outright.go:116", after := #[{ on := 1, ground := Ground.data }, { on := 3, ground := Ground.data }], guard := none } : Oper)) (v := ?vb4) rfl (by kernel_rfl) (by kernel_rfl) (by kernel_rfl) (fun _ _ _ h => h) (Or.inl ⟨by rfl, fun w hSw => ?hyb4⟩) (by assumption) ?rb4
    case hyb4 => (try dsimp only at hSw); go_simp; (try with_reducible rfl)
    (try simp only [Act.put, List.setIfInBounds_toArray, List.set_cons_zero, List.set_cons_succ])
    refine wpAnyH_take (i := 5) (oi := ({ dst := some 64, op := Op.move (Operand.tmp 63), type := 4, pos := "outright.go:116", after := #[{ on := 4, ground := Ground.data }], guard := none } : Oper)) (v := ?vb5) rfl (by kernel_rfl) (by kernel_rfl) (by kernel_rfl) (fun _ _ _ h => h) (Or.inl ⟨by rfl, fun w hSw => ?hyb5⟩) (by assumption) ?rb5
    case hyb5 => (try dsimp only at hSw); go_simp; (try with_reducible rfl)
    (try simp only [Act.put, List.setIfInBounds_toArray, List.set_cons_zero, List.set_cons_succ])
    refine wpAnyH_take (i := 6) (oi := ({ dst := some 65, op := Op.move (Operand.tmp 7), type := 25, pos := "outright.go:116", after := #[{ on := 5, ground := Ground.guard }], guard := some (5, false) } : Oper)) (v := ?vb6) rfl (by kernel_rfl) (by kernel_rfl) (by kernel_rfl) (fun _ _ _ h => h) (Or.inl ⟨by rfl, fun w hSw => ?hyb6⟩) (by assumption) ?rb6
    case hyb6 => (try dsimp only at hSw); go_simp; (try with_reducible rfl)
    (try simp only [Act.put, List.setIfInBounds_toArray, List.set_cons_zero, List.set_cons_succ])
    refine wpAnyH_take (i := 7) (oi := ({ dst := some 66, op := Op.load 30 (Operand.tmp 8), type := 30, pos := "outright.go:116", after := #[{ on := 5, ground := Ground.guard }], guard := some (5, false) } : Oper)) (v := ?vb7) rfl (by kernel_rfl) (by kernel_rfl) (by kernel_rfl) (fun _ _ _ h => h) (Or.inl ⟨by rfl, fun w hSw => ?hyb7⟩) (by assumption) ?rb7
    case hyb7 => (try dsimp only at hSw); go_simp; (try with_reducible rfl)
    (try simp only [Act.put, List.setIfInBounds_toArray, List.set_cons_zero, List.set_cons_succ])
    refine wpAnyH_take (i := 9) (oi := ({ dst := some 68, op := Op.load 33 (Operand.tmp 5), type := 33, pos := "outright.go:116", after := #[{ on := 5, ground := Ground.guard }], guard := some (5, false) } : Oper)) (v := ?vb9) rfl (by kernel_rfl) (by kernel_rfl) (by kernel_rfl) (fun _ _ _ h => h) (Or.inl ⟨by rfl, fun w hSw => ?hyb9⟩) (by assumption) ?rb9
    case hyb9 => (try dsimp only at hSw); go_simp; (try with_reducible rfl)
    (try simp only [Act.put, List.setIfInBounds_toArray, List.set_cons_zero, List.set_cons_succ])
    refine wpAnyH_ready (rs := [8]) (by kernel_rfl) (by simp) ?_
    refine AllReadyH.cons (o := ({ dst := some 67, op := Op.call { callee := Callee.value (Operand.func 20), args := #[Operand.tmp 65, Operand.tmp 66], argTypes := #[25, 30] }, type := 33, pos := "outright.go:116", after := #[{ on := 6, ground := Ground.data }, { on := 7, ground := Ground.data }, { on := 5, ground := Ground.chain }, { on := 5, ground := Ground.guard }], guard := some (5, false) } : Oper)) rfl (fun Kq hKq => ?_) AllReadyH.nil
    go_simp
    (have HC8 := Lib.hid (Below.refl w8.drew.heap.size w8.drew)); (refine (HTA.out _ HSN8.out.st).mono ?_; rintro e w9 ⟨rfl, hb9⟩; have HSN9 := Lib.hid (HSN8.out.new hb9); have HC9 := Lib.hid (HC8.out.trans (hb9.mono HC8.out.size)))
    refine hKq.out _ _ ?_ (fun hHeld => ?_)
    · exact ⟨(hb9.cell (p := ⟨X5, 0, none⟩) (HSN8.out.cl X5 (.inl h5b)).1).trans hHeld.1, (hb9.cell (p := ⟨X5, 1, none⟩) (HSN8.out.cl X5 (.inl h5b)).1).trans hHeld.2.1, (hb9.cell (p := ⟨X8, 0, none⟩) (HSN8.out.cl X8 (.inr (.inl rfl))).1).trans hHeld.2.2.1, (hb9.cell (p := ⟨X8, 1, none⟩) (HSN8.out.cl X8 (.inr (.inl rfl))).1).trans hHeld.2.2.2.1, (hb9.cell (p := ⟨X9, 0, none⟩) (HSN8.out.cl X9 (.inr (.inr (.inl rfl)))).1).trans hHeld.2.2.2.2.1, (hb9.cell (p := ⟨X9, 1, none⟩) (HSN8.out.cl X9 (.inr (.inr (.inl rfl)))).1).trans hHeld.2.2.2.2.2.1, (hb9.cell (p := ⟨X10, 0, none⟩) (HSN8.out.cl X10 (.inr (.inr (.inr rfl)))).1).trans hHeld.2.2.2.2.2.2.1, (hb9.cell (p := ⟨X10, 1, none⟩) (HSN8.out.cl X10 (.inr (.inr (.inr rfl)))).1).trans hHeld.2.2.2.2.2.2.2⟩
    clear hKq Kq
    (try simp only [Act.put, List.setIfInBounds_toArray, List.set_cons_zero, List.set_cons_succ])
    refine wpAnyH_take (i := 10) (oi := ({ dst := some 69, op := Op.binOp BinOp.neq 33 (Operand.tmp 67) (Operand.tmp 68) 33, type := 4, pos := "outright.go:116", after := #[{ on := 8, ground := Ground.data }, { on := 9, ground := Ground.data }, { on := 5, ground := Ground.guard }], guard := some (5, false) } : Oper)) (v := ?vb10) rfl (by kernel_rfl) (by kernel_rfl) (by kernel_rfl) (fun _ _ _ h => h) (Or.inl ⟨by rfl, fun w hSw => ?hyb10⟩) (by assumption) ?rb10
    case hyb10 => (try dsimp only at hSw); go_simp; (try with_reducible rfl)
    (try simp only [Act.put, List.setIfInBounds_toArray, List.set_cons_zero, List.set_cons_succ])
    refine wpAnyH_take (i := 11) (oi := ({ dst := some 70, op := Op.pick (Operand.tmp 64) (Operand.const (Value.bool true)) (Operand.tmp 69), type := 4, pos := "outright.go:116", after := #[{ on := 5, ground := Ground.data }, { on := 10, ground := Ground.data }], guard := none } : Oper)) (v := ?vb11) rfl (by kernel_rfl) (by kernel_rfl) (by kernel_rfl) (fun _ _ _ h => h) (Or.inl ⟨by rfl, fun w hSw => ?hyb11⟩) (by assumption) ?rb11
    case hyb11 => (try dsimp only at hSw); go_simp; (try with_reducible rfl)
    (try simp only [Act.put, List.setIfInBounds_toArray, List.set_cons_zero, List.set_cons_succ])
    refine wpAnyH_take (i := 12) (oi := ({ dst := some 71, op := Op.move (Operand.tmp 70), type := 4, pos := "outright.go:116", after := #[{ on := 11, ground := Ground.data }, { on := 8, ground := Ground.chain }], guard := none } : Oper)) (v := ?vb12) rfl (by kernel_rfl) (by kernel_rfl) (by kernel_rfl) (fun _ _ _ h => h) (Or.inl ⟨by rfl, fun w hSw => ?hyb12⟩) (by assumption) ?rb12
    case hyb12 => (try dsimp only at hSw); go_simp; (try with_reducible rfl)
    (try simp only [Act.put, List.setIfInBounds_toArray, List.set_cons_zero, List.set_cons_succ])
    refine wpAnyH_take (i := 13) (oi := ({ dst := some 72, op := Op.load 30 (Operand.tmp 8), type := 30, pos := "outright.go:116", after := #[{ on := 12, ground := Ground.guard }], guard := some (12, false) } : Oper)) (v := ?vb13) rfl (by kernel_rfl) (by kernel_rfl) (by kernel_rfl) (fun _ _ _ h => h) (Or.inl ⟨by rfl, fun w hSw => ?hyb13⟩) (by assumption) ?rb13
    case hyb13 => (try dsimp only at hSw); go_simp; (try with_reducible rfl)
    (try simp only [Act.put, List.setIfInBounds_toArray, List.set_cons_zero, List.set_cons_succ])
    refine wpAnyH_take (i := 14) (oi := ({ dst := some 73, op := Op.load 30 (Operand.tmp 9), type := 30, pos := "outright.go:116", after := #[{ on := 12, ground := Ground.guard }], guard := some (12, false) } : Oper)) (v := ?vb14) rfl (by kernel_rfl) (by kernel_rfl) (by kernel_rfl) (fun _ _ _ h => h) (Or.inl ⟨by rfl, fun w hSw => ?hyb14⟩) (by assumption) ?rb14
    case hyb14 => (try dsimp only at hSw); go_simp; (try with_reducible rfl)
    (try simp only [Act.put, List.setIfInBounds_toArray, List.set_cons_zero, List.set_cons_succ])
    refine wpAnyH_take (i := 15) (oi := ({ dst := some 74, op := Op.binOp BinOp.neq 30 (Operand.tmp 72) (Operand.tmp 73) 30, type := 4, pos := "outright.go:116", after := #[{ on := 13, ground := Ground.data }, { on := 14, ground := Ground.data }, { on := 12, ground := Ground.guard }], guard := some (12, false) } : Oper)) (v := ?vb15) rfl (by kernel_rfl) (by kernel_rfl) (by kernel_rfl) (fun _ _ _ h => h) (Or.inl ⟨by rfl, fun w hSw => ?hyb15⟩) (by assumption) ?rb15
    case hyb15 => (try dsimp only at hSw); go_simp; (try with_reducible rfl)
    (try simp only [Act.put, List.setIfInBounds_toArray, List.set_cons_zero, List.set_cons_succ])
    refine wpAnyH_take (i := 16) (oi := ({ dst := some 75, op := Op.move (Operand.tmp 74), type := 4, pos := "outright.go:116", after := #[{ on := 15, ground := Ground.data }, { on := 12, ground := Ground.chain }, { on := 12, ground := Ground.guard }], guard := some (12, false) } : Oper)) (v := ?vb16) rfl (by kernel_rfl) (by kernel_rfl) (by kernel_rfl) (fun _ _ _ h => h) (Or.inl ⟨by rfl, fun w hSw => ?hyb16⟩) (by assumption) ?rb16
    case hyb16 => (try dsimp only at hSw); go_simp; (try with_reducible rfl)
    (try simp only [Act.put, List.setIfInBounds_toArray, List.set_cons_zero, List.set_cons_succ])
    refine wpAnyH_take (i := 17) (oi := ({ dst := some 76, op := Op.move (Operand.tmp 7), type := 25, pos := "outright.go:116", after := #[{ on := 16, ground := Ground.guard }], guard := some (16, true) } : Oper)) (v := ?vb17) rfl (by kernel_rfl) (by kernel_rfl) (by kernel_rfl) (fun _ _ _ h => h) (Or.inl ⟨by rfl, fun w hSw => ?hyb17⟩) (by assumption) ?rb17
    case hyb17 => (try dsimp only at hSw); go_simp; (try with_reducible rfl)
    (try simp only [Act.put, List.setIfInBounds_toArray, List.set_cons_zero, List.set_cons_succ])
    refine wpAnyH_take (i := 18) (oi := ({ dst := some 77, op := Op.load 30 (Operand.tmp 9), type := 30, pos := "outright.go:116", after := #[{ on := 16, ground := Ground.guard }], guard := some (16, true) } : Oper)) (v := ?vb18) rfl (by kernel_rfl) (by kernel_rfl) (by kernel_rfl) (fun _ _ _ h => h) (Or.inl ⟨by rfl, fun w hSw => ?hyb18⟩) (by assumption) ?rb18
    case hyb18 => (try dsimp only at hSw); go_simp; (try with_reducible rfl)
    (try simp only [Act.put, List.setIfInBounds_toArray, List.set_cons_zero, List.set_cons_succ])
    refine wpAnyH_ready (rs := [19]) (by kernel_rfl) (by simp) ?_
    refine AllReadyH.cons (o := ({ dst := some 78, op := Op.call { callee := Callee.value (Operand.func 19), args := #[Operand.tmp 76, Operand.tmp 77], argTypes := #[25, 30] }, type := 31, pos := "outright.go:116", after := #[{ on := 17, ground := Ground.data }, { on := 18, ground := Ground.data }, { on := 16, ground := Ground.chain }, { on := 16, ground := Ground.guard }], guard := some (16, true) } : Oper)) rfl (fun Kq hKq => ?_) AllReadyH.nil
    go_simp
    (refine (HQB.out hab _ HSN9.out.st).mono ?_; rintro e w11 ⟨A11, rfl, hb11⟩; have HSN11 := Lib.hid (HSN9.out.new hb11); have HC11 := Lib.hid (HC9.out.trans (hb11.mono HC9.out.size)))
    refine hKq.out _ _ ?_ (fun hHeld => ?_)
    · exact ⟨(hb11.cell (p := ⟨X5, 0, none⟩) (HSN9.out.cl X5 (.inl h5b)).1).trans hHeld.1, (hb11.cell (p := ⟨X5, 1, none⟩) (HSN9.out.cl X5 (.inl h5b)).1).trans hHeld.2.1, (hb11.cell (p := ⟨X8, 0, none⟩) (HSN9.out.cl X8 (.inr (.inl rfl))).1).trans hHeld.2.2.1, (hb11.cell (p := ⟨X8, 1, none⟩) (HSN9.out.cl X8 (.inr (.inl rfl))).1).trans hHeld.2.2.2.1, (hb11.cell (p := ⟨X9, 0, none⟩) (HSN9.out.cl X9 (.inr (.inr (.inl rfl)))).1).trans hHeld.2.2.2.2.1, (hb11.cell (p := ⟨X9, 1, none⟩) (HSN9.out.cl X9 (.inr (.inr (.inl rfl)))).1).trans hHeld.2.2.2.2.2.1, (hb11.cell (p := ⟨X10, 0, none⟩) (HSN9.out.cl X10 (.inr (.inr (.inr rfl)))).1).trans hHeld.2.2.2.2.2.2.1, (hb11.cell (p := ⟨X10, 1, none⟩) (HSN9.out.cl X10 (.inr (.inr (.inr rfl)))).1).trans hHeld.2.2.2.2.2.2.2⟩
    clear hKq Kq
    (try simp only [Act.put, List.setIfInBounds_toArray, List.set_cons_zero, List.set_cons_succ])
    refine wpAnyH_take (i := 20) (oi := ({ dst := some 79, op := Op.call { callee := Callee.builtin Builtin.len, args := #[Operand.tmp 78], argTypes := #[31] }, type := 3, pos := "outright.go:116", after := #[{ on := 19, ground := Ground.data }, { on := 16, ground := Ground.guard }], guard := some (16, true) } : Oper)) (v := ?vb20) rfl (by kernel_rfl) (by kernel_rfl) (by kernel_rfl) (fun _ _ _ h => h) (Or.inl ⟨by rfl, fun w hSw => ?hyb20⟩) (by assumption) ?rb20
    case hyb20 => (try dsimp only at hSw); go_simp; (try with_reducible rfl)
    (try simp only [Act.put, List.setIfInBounds_toArray, List.set_cons_zero, List.set_cons_succ])
    refine wpAnyH_take (i := 21) (oi := ({ dst := some 80, op := Op.binOp BinOp.neq 3 (Operand.tmp 79) (Operand.const (Value.int IntKind.i64 0)) 3, type := 4, pos := "outright.go:116", after := #[{ on := 20, ground := Ground.data }, { on := 16, ground := Ground.guard }], guard := some (16, true) } : Oper)) (v := ?vb21) rfl (by kernel_rfl) (by kernel_rfl) (by kernel_rfl) (fun _ _ _ h => h) (Or.inl ⟨by rfl, fun w hSw => ?hyb21⟩) (by assumption) ?rb21
    case hyb21 => (try dsimp only at hSw); go_simp; (try with_reducible rfl)
    (try simp only [Act.put, List.setIfInBounds_toArray, List.set_cons_zero, List.set_cons_succ])
    refine wpAnyH_take (i := 22) (oi := ({ dst := some 81, op := Op.move (Operand.tmp 80), type := 4, pos := "outright.go:116", after := #[{ on := 21, ground := Ground.data }, { on := 19, ground := Ground.chain }, { on := 16, ground := Ground.guard }], guard := some (16, true) } : Oper)) (v := ?vb22) rfl (by kernel_rfl) (by kernel_rfl) (by kernel_rfl) (fun _ _ _ h => h) (Or.inl ⟨by rfl, fun w hSw => ?hyb22⟩) (by assumption) ?rb22
    case hyb22 => (try dsimp only at hSw); go_simp; (try with_reducible rfl)
    (try simp only [Act.put, List.setIfInBounds_toArray, List.set_cons_zero, List.set_cons_succ])
    refine wpAnyH_take (i := 23) (oi := ({ dst := some 82, op := Op.move (Operand.tmp 7), type := 25, pos := "outright.go:116", after := #[{ on := 22, ground := Ground.guard }], guard := some (22, false) } : Oper)) (v := ?vb23) rfl (by kernel_rfl) (by kernel_rfl) (by kernel_rfl) (fun _ _ _ h => h) (Or.inl ⟨by rfl, fun w hSw => ?hyb23⟩) (by assumption) ?rb23
    case hyb23 => (try dsimp only at hSw); go_simp; (try with_reducible rfl)
    (try simp only [Act.put, List.setIfInBounds_toArray, List.set_cons_zero, List.set_cons_succ])
    refine wpAnyH_take (i := 24) (oi := ({ dst := some 83, op := Op.load 30 (Operand.tmp 9), type := 30, pos := "outright.go:116", after := #[{ on := 22, ground := Ground.guard }], guard := some (22, false) } : Oper)) (v := ?vb24) rfl (by kernel_rfl) (by kernel_rfl) (by kernel_rfl) (fun _ _ _ h => h) (Or.inl ⟨by rfl, fun w hSw => ?hyb24⟩) (by assumption) ?rb24
    case hyb24 => (try dsimp only at hSw); go_simp; (try with_reducible rfl)
    (try simp only [Act.put, List.setIfInBounds_toArray, List.set_cons_zero, List.set_cons_succ])
    refine wpAnyH_take (i := 26) (oi := ({ dst := some 85, op := Op.load 33 (Operand.tmp 10), type := 33, pos := "outright.go:116", after := #[{ on := 22, ground := Ground.guard }], guard := some (22, false) } : Oper)) (v := ?vb26) rfl (by kernel_rfl) (by kernel_rfl) (by kernel_rfl) (fun _ _ _ h => h) (Or.inl ⟨by rfl, fun w hSw => ?hyb26⟩) (by assumption) ?rb26
    case hyb26 => (try dsimp only at hSw); go_simp; (try with_reducible rfl)
    (try simp only [Act.put, List.setIfInBounds_toArray, List.set_cons_zero, List.set_cons_succ])
    refine wpAnyH_ready (rs := [25]) (by kernel_rfl) (by simp) ?_
    refine AllReadyH.cons (o := ({ dst := some 84, op := Op.call { callee := Callee.value (Operand.func 20), args := #[Operand.tmp 82, Operand.tmp 83], argTypes := #[25, 30] }, type := 33, pos := "outright.go:116", after := #[{ on := 23, ground := Ground.data }, { on := 24, ground := Ground.data }, { on := 22, ground := Ground.chain }, { on := 22, ground := Ground.guard }], guard := some (22, false) } : Oper)) rfl (fun Kq hKq => ?_) AllReadyH.nil
    go_simp
    (refine (HTB.out hab _ HSN11.out.st).mono ?_; rintro e w12 ⟨rfl, hb12⟩; have HSN12 := Lib.hid (HSN11.out.new hb12); have HC12 := Lib.hid (HC11.out.trans (hb12.mono HC11.out.size)))
    refine hKq.out _ _ ?_ (fun hHeld => ?_)
    · exact ⟨(hb12.cell (p := ⟨X5, 0, none⟩) (HSN11.out.cl X5 (.inl h5b)).1).trans hHeld.1, (hb12.cell (p := ⟨X5, 1, none⟩) (HSN11.out.cl X5 (.inl h5b)).1).trans hHeld.2.1, (hb12.cell (p := ⟨X8, 0, none⟩) (HSN11.out.cl X8 (.inr (.inl rfl))).1).trans hHeld.2.2.1, (hb12.cell (p := ⟨X8, 1, none⟩) (HSN11.out.cl X8 (.inr (.inl rfl))).1).trans hHeld.2.2.2.1, (hb12.cell (p := ⟨X9, 0, none⟩) (HSN11.out.cl X9 (.inr (.inr (.inl rfl)))).1).trans hHeld.2.2.2.2.1, (hb12.cell (p := ⟨X9, 1, none⟩) (HSN11.out.cl X9 (.inr (.inr (.inl rfl)))).1).trans hHeld.2.2.2.2.2.1, (hb12.cell (p := ⟨X10, 0, none⟩) (HSN11.out.cl X10 (.inr (.inr (.inr rfl)))).1).trans hHeld.2.2.2.2.2.2.1, (hb12.cell (p := ⟨X10, 1, none⟩) (HSN11.out.cl X10 (.inr (.inr (.inr rfl)))).1).trans hHeld.2.2.2.2.2.2.2⟩
    clear hKq Kq
    (try simp only [Act.put, List.setIfInBounds_toArray, List.set_cons_zero, List.set_cons_succ])
    refine wpAnyH_take (i := 27) (oi := ({ dst := some 86, op := Op.binOp BinOp.neq 33 (Operand.tmp 84) (Operand.tmp 85) 33, type := 4, pos := "outright.go:116", after := #[{ on := 25, ground := Ground.data }, { on := 26, ground := Ground.data }, { on := 22, ground := Ground.guard }], guard := some (22, false) } : Oper)) (v := ?vb27) rfl (by kernel_rfl) (by kernel_rfl) (by kernel_rfl) (fun _ _ _ h => h) (Or.inl ⟨by rfl, fun w hSw => ?hyb27⟩) (by assumption) ?rb27
    case hyb27 => (try dsimp only at hSw); go_simp; (try with_reducible rfl)
    (try simp only [Act.put, List.setIfInBounds_toArray, List.set_cons_zero, List.set_cons_succ])
    refine wpAnyH_take (i := 28) (oi := ({ dst := some 87, op := Op.pick (Operand.tmp 81) (Operand.const (Value.bool true)) (Operand.tmp 86), type := 4, pos := "outright.go:116", after := #[{ on := 22, ground := Ground.data }, { on := 27, ground := Ground.data }, { on := 16, ground := Ground.guard }], guard := some (16, true) } : Oper)) (v := ?vb28) rfl (by kernel_rfl) (by kernel_rfl) (by kernel_rfl) (fun _ _ _ h => h) (Or.inl ⟨by rfl, fun w hSw => ?hyb28⟩) (by assumption) ?rb28
    case hyb28 => (try dsimp only at hSw); go_simp; (try with_reducible rfl)
    (try simp only [Act.put, List.setIfInBounds_toArray, List.set_cons_zero, List.set_cons_succ])
    refine wpAnyH_take (i := 29) (oi := ({ dst := some 88, op := Op.pick (Operand.tmp 75) (Operand.tmp 87) (Operand.const (Value.bool false)), type := 4, pos := "outright.go:116", after := #[{ on := 16, ground := Ground.data }, { on := 28, ground := Ground.data }, { on := 12, ground := Ground.guard }], guard := some (12, false) } : Oper)) (v := ?vb29) rfl (by kernel_rfl) (by kernel_rfl) (by kernel_rfl) (fun _ _ _ h => h) (Or.inl ⟨by rfl, fun w hSw => ?hyb29⟩) (by assumption) ?rb29
    case hyb29 => (try dsimp only at hSw); go_simp; (try with_reducible rfl)
    (try simp only [Act.put, List.setIfInBounds_toArray, List.set_cons_zero, List.set_cons_succ])
    refine wpAnyH_take (i := 30) (oi := ({ dst := some 89, op := Op.pick (Operand.tmp 71) (Operand.const (Value.bool true)) (Operand.tmp 88), type := 4, pos := "outright.go:116", after := #[{ on := 12, ground := Ground.data }, { on := 29, ground := Ground.data }], guard := none } : Oper)) (v := ?vb30) rfl (by kernel_rfl) (by kernel_rfl) (by kernel_rfl) (fun _ _ _ h => h) (Or.inl ⟨by rfl, fun w hSw => ?hyb30⟩) (by assumption) ?rb30
    case hyb30 => (try dsimp only at hSw); go_simp; (try with_reducible rfl)
    (try simp only [Act.put, List.setIfInBounds_toArray, List.set_cons_zero, List.set_cons_succ])
    refine wpAnyH_done (by kernel_rfl) ?_ _
    have HE := HEND.out w12 HC12.out
    obtain ⟨w10, hw10⟩ : ∃ w10, w10 = w12 := ⟨_, rfl⟩
    rw [← hw10] at HE ⊢
    clear hw10
    obtain ⟨hsn10, hfc10, hr10, hb10⟩ := HE.out
    have hrd10 : Rd w10 w10.heap.size A8 (flat D) := by
      have h := hr10
      unfold RowE at h
      rw [← HN.out] at h
      exact h.rd
    have hrA10 : Rd w10 W.heap.size A (flat D) := (HR.out.below HB00.out (Nat.le_refl _)).below hb10 hWb
    have hWl : W.heap.size ≤ w10.heap.size := Nat.le_trans hWb hsn10.st.le
    have HSN10 := Lib.hid hsn10; have HFC10 := Lib.hid hfc10; have HB10 := Lib.hid hb10; have HRD10 := Lib.hid hrd10; have HRA10 := Lib.hid hrA10
    clear hsn10 hfc10 hr10 hb10 hrd10 hrA10 HE HEND
    go_wp2_with fail
    go_loopg [12] n (fun q s12 wx => ∃ k : Nat, k ≤ n ∧ q = n - k ∧ s12 = .int .i64 (k : Int) ∧ Below w10.heap.size w10 wx)
    case atStart => exact ⟨0, by omega, rfl, rfl, Below.refl _ _⟩
    case round =>
      obtain ⟨k, hk, rfl, rfl, hb⟩ := hrel
      have HB := Lib.hid hb
      clear hb
      by_cases hkn : k < n
      · obtain ⟨ga, oa, rfl, hga, p0, p1, p2⟩ := (HRD10.out.below HB.out (Nat.le_refl _)).ent (i := k) (by have := HN.out; omega)
        obtain ⟨gb, ob, rfl, hgb, q0, q1, q2⟩ := (HRA10.out.below HB.out hWl).ent (i := k) (by have := HN.out; omega)
        generalize hd : D[k]! = d at *
        clear hd
        have hneE := fun W => neqE d d W
        simp only [decide_true, Bool.not_true] at hneE
        go_upto_region 17 with (fail)
        go_quiet (fail)
        go_wp2_with fail
        go_roundg (n - (k + 1))
        case measure => omega
        case rel => exact ⟨k + 1, by omega, rfl, by go_num, HB.out.trans ((below_drewN _ _).mono HB.out.size)⟩
      · obtain rfl : k = n := by omega
        have hsn := (HSN10.out.new HB.out).drew
        have hfc := HFC10.out.below HSN10.out HB.out
        have hbr := (HB10.out.trans (HB.out.mono HSN10.out.st.le)).drew
        obtain ⟨z50, z51, z80, z81, -⟩ := hfc
        have hput0 : ∀ W, St W base own6 s 2 M3 → Calls Try.prog 15 #[s, .agg #[.int .i64 (ba : Int), .int .i64 (ia : Int)], .slice none 0 0] W fun e w' => e = .returned (.bool true) ∧ ∃ own', St w' base own' s 2 (upd M3 (ba : Int) ((M3 (ba : Int)).set ia { (M3 (ba : Int))[ia]! with q := [] })) ∧ Turns (Mine own6) W w' ∧ Fresh own6 own' W := fun W hst =>
          put_yes hst hIa HL3.out (D := []) (A0 := none) (b0 := 0) (c0 := 0) Rd.nil (Nat.zero_le _) (by simp)
        obtain ⟨M4, hM4⟩ : ∃ M4, M4 = upd M3 (ba : Int) ((M3 (ba : Int)).set ia { (M3 (ba : Int))[ia]! with q := [] }) := ⟨_, rfl⟩
        rw [← hM4] at hput0
        have hl4 : ia < (M4 (ba : Int)).length := by rw [hM4, upd_len]; exact HL3.out
        have hat4 : (M4 (ba : Int))[ia]! = ⟨ta, tf, []⟩ := by rw [hM4, upd_at _ _ HL3.out, HAT.out]
        have hq4 : ∀ W own, St W base own s 2 M4 → Calls Try.prog 19 #[s, .agg #[.int .i64 (ba : Int), .int .i64 (ia : Int)]] W fun e w' => ∃ A', e = .returned (.slice A' 0 0) ∧ Below W.heap.size W w' := fun W own hst => by
          obtain ⟨F, hr⟩ := hst.rs
          have := queue_yes hr hIa hl4 (by rw [hat4]; simp)
          rw [hat4] at this
          refine this.mono ?_
          rintro e w' ⟨A', rfl, -, hb⟩
          exact ⟨A', rfl, hb⟩
        have ht4 : ∀ W own, St W base own s 2 M4 → Calls Try.prog 20 #[s, .agg #[.int .i64 (ba : Int), .int .i64 (ia : Int)]] W fun e w' => e = .returned (.agg #[.int .u64 ta, .int .u64 tf]) ∧ Below W.heap.size W w' := fun W own hst => by
          obtain ⟨F, hr⟩ := hst.rs
          have := timer_yes hr hIa hl4
          rwa [hat4] at this
        have heq33 : ∀ W, (binOp .eql 33 (.agg #[.int .u64 ta, .int .u64 tf]) (.agg #[.int .u64 ta, .int .u64 tf])).run Try.prog W = .ok (.bool true) W := fun W => by rw [eqlT33]; simp
        have HSNR := Lib.hid hsn; have HBR := Lib.hid hbr; have HPUT0 := Lib.hid hput0; have HQ4 := Lib.hid hq4; have HT4 := Lib.hid ht4
        clear hsn hbr hput0 hM4 hl4 hat4 hq4 ht4
        go_upto_region 19 with (fail)
        refine wp_region_held_drew (S := fun w' => w'.cell? ⟨X5, 0, none⟩ = some (.int .u64 ta) ∧ w'.cell? ⟨X5, 1, none⟩ = some (.int .u64 tf) ∧ w'.cell? ⟨X8, 0, none⟩ = some (.int .i64 (ba : Int)) ∧ w'.cell? ⟨X8, 1, none⟩ = some (.int .i64 (ia : Int))) (by kernel_rfl) ?_ (fun hHeld => ?_)
        · exact ⟨z50, z51, z80, z81⟩
        refine wpAnyH_take (i := 0) (oi := ({ dst := some 105, op := Op.move (Operand.tmp 7), type := 25, pos := "outright.go:124", after := #[], guard := none } : Oper)) (v := ?vd0) rfl (by kernel_rfl) (by kernel_rfl) (by kernel_rfl) (fun _ _ _ h => h) (Or.inl ⟨by rfl, fun w hSw => ?hyd0⟩) (by assumption) ?rd0
        case hyd0 => (try dsimp only at hSw); go_simp; (try with_reducible rfl)
        (try simp only [Act.put, List.setIfInBounds_toArray, List.set_cons_zero, List.set_cons_succ])
        refine wpAnyH_take (i := 1) (oi := ({ dst := some 106, op := Op.load 30 (Operand.tmp 8), type := 30, pos := "outright.go:124", after := #[], guard := none } : Oper)) (v := ?vd1) rfl (by kernel_rfl) (by kernel_rfl) (by kernel_rfl) (fun _ _ _ h => h) (Or.inl ⟨by rfl, fun w hSw => ?hyd1⟩) (by assumption) ?rd1
        case hyd1 => (try dsimp only at hSw); go_simp; (try with_reducible rfl)
        (try simp only [Act.put, List.setIfInBounds_toArray, List.set_cons_zero, List.set_cons_succ])
        refine wpAnyH_ready (rs := [2]) (by kernel_rfl) (by simp) ?_
        refine AllReadyH.cons (o := ({ dst := some 107, op := Op.call { callee := Callee.value (Operand.func 15), args := #[Operand.tmp 105, Operand.tmp 106, Operand.const (Value.slice none 0 0)], argTypes := #[25, 30, 31] }, type := 4, pos := "outright.go:124", after := #[{ on := 0, ground := Ground.data }, { on := 1, ground := Ground.data }], guard := none } : Oper)) rfl (fun Kq hKq => ?_) AllReadyH.nil
        go_simp
        (refine (HPUT0.out _ HSNR.out.st).mono ?_; rintro e w14 ⟨rfl, own14, hs14, ht14, hf14⟩; obtain ⟨sn14, t14, b14⟩ := HSNR.out.one hs14 ht14 hf14; have HSN14 := Lib.hid sn14; have HC14 := Lib.hid (HBR.out.trans b14); clear hs14 ht14 hf14 sn14 b14)
        refine hKq.out _ _ ?_ (fun hHeld => ?_)
        · exact ⟨HSNR.out.keepC t14 (.inl h5b) hHeld.1, HSNR.out.keepC t14 (.inl h5b) hHeld.2.1, HSNR.out.keepC t14 (.inr (.inl rfl)) hHeld.2.2.1, HSNR.out.keepC t14 (.inr (.inl rfl)) hHeld.2.2.2⟩
        clear hKq Kq
        (try simp only [Act.put, List.setIfInBounds_toArray, List.set_cons_zero, List.set_cons_succ])
        refine wpAnyH_take (i := 3) (oi := ({ dst := some 108, op := Op.move (Operand.tmp 107), type := 4, pos := "outright.go:124", after := #[{ on := 2, ground := Ground.data }, { on := 2, ground := Ground.chain }], guard := none } : Oper)) (v := ?vd3) rfl (by kernel_rfl) (by kernel_rfl) (by kernel_rfl) (fun _ _ _ h => h) (Or.inl ⟨by rfl, fun w hSw => ?hyd3⟩) (by assumption) ?rd3
        case hyd3 => (try dsimp only at hSw); go_simp; (try with_reducible rfl)
        (try simp only [Act.put, List.setIfInBounds_toArray, List.set_cons_zero, List.set_cons_succ])
        refine wpAnyH_take (i := 4) (oi := ({ dst := some 109, op := Op.move (Operand.tmp 7), type := 25, pos := "outright.go:124", after := #[{ on := 3, ground := Ground.guard }], guard := some (3, true) } : Oper)) (v := ?vd4) rfl (by kernel_rfl) (by kernel_rfl) (by kernel_rfl) (fun _ _ _ h => h) (Or.inl ⟨by rfl, fun w hSw => ?hyd4⟩) (by assumption) ?rd4
        case hyd4 => (try dsimp only at hSw); go_simp; (try with_reducible rfl)
        (try simp only [Act.put, List.setIfInBounds_toArray, List.set_cons_zero, List.set_cons_succ])
        refine wpAnyH_take (i := 5) (oi := ({ dst := some 110, op := Op.load 30 (Operand.tmp 8), type := 30, pos := "outright.go:124", after := #[{ on := 3, ground := Ground.guard }], guard := some (3, true) } : Oper)) (v := ?vd5) rfl (by kernel_rfl) (by kernel_rfl) (by kernel_rfl) (fun _ _ _ h => h) (Or.inl ⟨by rfl, fun w hSw => ?hyd5⟩) (by assumption) ?rd5
        case hyd5 => (try dsimp only at hSw); go_simp; (try with_reducible rfl)
        (try simp only [Act.put, List.setIfInBounds_toArray, List.set_cons_zero, List.set_cons_succ])
        refine wpAnyH_ready (rs := [6]) (by kernel_rfl) (by simp) ?_
        refine AllReadyH.cons (o := ({ dst := some 111, op := Op.call { callee := Callee.value (Operand.func 19), args := #[Operand.tmp 109, Operand.tmp 110], argTypes := #[25, 30] }, type := 31, pos := "outright.go:124", after := #[{ on := 4, ground := Ground.data }, { on := 5, ground := Ground.data }, { on := 3, ground := Ground.chain }, { on := 3, ground := Ground.guard }], guard := some (3, true) } : Oper)) rfl (fun Kq hKq => ?_) AllReadyH.nil
        go_simp
        (refine (HQ4.out _ _ HSN14.out.st).mono ?_; rintro e w15 ⟨A15, rfl, hb15⟩; have HSN15 := Lib.hid (HSN14.out.new hb15); have HC15 := Lib.hid (HC14.out.trans (hb15.mono HSN14.out.st.le)))
        refine hKq.out _ _ ?_ (fun hHeld => ?_)
        · exact ⟨(hb15.cell (p := ⟨X5, 0, none⟩) (HSN14.out.cl X5 (.inl h5b)).1).trans hHeld.1, (hb15.cell (p := ⟨X5, 1, none⟩) (HSN14.out.cl X5 (.inl h5b)).1).trans hHeld.2.1, (hb15.cell (p := ⟨X8, 0, none⟩) (HSN14.out.cl X8 (.inr (.inl rfl))).1).trans hHeld.2.2.1, (hb15.cell (p := ⟨X8, 1, none⟩) (HSN14.out.cl X8 (.inr (.inl rfl))).1).trans hHeld.2.2.2⟩
        clear hKq Kq
        (try simp only [Act.put, List.setIfInBounds_toArray, List.set_cons_zero, List.set_cons_succ])
        refine wpAnyH_take (i := 7) (oi := ({ dst := some 112, op := Op.call { callee := Callee.builtin Builtin.len, args := #[Operand.tmp 111], argTypes := #[31] }, type := 3, pos := "outright.go:124", after := #[{ on := 6, ground := Ground.data }, { on := 3, ground := Ground.guard }], guard := some (3, true) } : Oper)) (v := ?vd7) rfl (by kernel_rfl) (by kernel_rfl) (by kernel_rfl) (fun _ _ _ h => h) (Or.inl ⟨by rfl, fun w hSw => ?hyd7⟩) (by assumption) ?rd7
        case hyd7 => (try dsimp only at hSw); go_simp; (try with_reducible rfl)
        (try simp only [Act.put, List.setIfInBounds_toArray, List.set_cons_zero, List.set_cons_succ])
        refine wpAnyH_take (i := 8) (oi := ({ dst := some 113, op := Op.binOp BinOp.eql 3 (Operand.tmp 112) (Operand.const (Value.int IntKind.i64 0)) 3, type := 4, pos := "outright.go:124", after := #[{ on := 7, ground := Ground.data }, { on := 3, ground := Ground.guard }], guard := some (3, true) } : Oper)) (v := ?vd8) rfl (by kernel_rfl) (by kernel_rfl) (by kernel_rfl) (fun _ _ _ h => h) (Or.inl ⟨by rfl, fun w hSw => ?hyd8⟩) (by assumption) ?rd8
        case hyd8 => (try dsimp only at hSw); go_simp; (try with_reducible rfl)
        (try simp only [Act.put, List.setIfInBounds_toArray, List.set_cons_zero, List.set_cons_succ])
        refine wpAnyH_take (i := 9) (oi := ({ dst := some 114, op := Op.pick (Operand.tmp 108) (Operand.tmp 113) (Operand.const (Value.bool false)), type := 4, pos := "outright.go:124", after := #[{ on := 3, ground := Ground.data }, { on := 8, ground := Ground.data }], guard := none } : Oper)) (v := ?vd9) rfl (by kernel_rfl) (by kernel_rfl) (by kernel_rfl) (fun _ _ _ h => h) (Or.inl ⟨by rfl, fun w hSw => ?hyd9⟩) (by assumption) ?rd9
        case hyd9 => (try dsimp only at hSw); go_simp; (try with_reducible rfl)
        (try simp only [Act.put, List.setIfInBounds_toArray, List.set_cons_zero, List.set_cons_succ])
        refine wpAnyH_take (i := 10) (oi := ({ dst := some 115, op := Op.move (Operand.tmp 114), type := 4, pos := "outright.go:124", after := #[{ on := 9, ground := Ground.data }, { on := 6, ground := Ground.chain }], guard := none } : Oper)) (v := ?vd10) rfl (by kernel_rfl) (by kernel_rfl) (by kernel_rfl) (fun _ _ _ h => h) (Or.inl ⟨by rfl, fun w hSw => ?hyd10⟩) (by assumption) ?rd10
        case hyd10 => (try dsimp only at hSw); go_simp; (try with_reducible rfl)
        (try simp only [Act.put, List.setIfInBounds_toArray, List.set_cons_zero, List.set_cons_succ])
        refine wpAnyH_take (i := 11) (oi := ({ dst := some 116, op := Op.move (Operand.tmp 7), type := 25, pos := "outright.go:124", after := #[{ on := 10, ground := Ground.guard }], guard := some (10, true) } : Oper)) (v := ?vd11) rfl (by kernel_rfl) (by kernel_rfl) (by kernel_rfl) (fun _ _ _ h => h) (Or.inl ⟨by rfl, fun w hSw => ?hyd11⟩) (by assumption) ?rd11
        case hyd11 => (try dsimp only at hSw); go_simp; (try with_reducible rfl)
        (try simp only [Act.put, List.setIfInBounds_toArray, List.set_cons_zero, List.set_cons_succ])
        refine wpAnyH_take (i := 12) (oi := ({ dst := some 117, op := Op.load 30 (Operand.tmp 8), type := 30, pos := "outright.go:124", after := #[{ on := 10, ground := Ground.guard }], guard := some (10, true) } : Oper)) (v := ?vd12) rfl (by kernel_rfl) (by kernel_rfl) (by kernel_rfl) (fun _ _ _ h => h) (Or.inl ⟨by rfl, fun w hSw => ?hyd12⟩) (by assumption) ?rd12
        case hyd12 => (try dsimp only at hSw); go_simp; (try with_reducible rfl)
        (try simp only [Act.put, List.setIfInBounds_toArray, List.set_cons_zero, List.set_cons_succ])
        refine wpAnyH_take (i := 14) (oi := ({ dst := some 119, op := Op.load 33 (Operand.tmp 5), type := 33, pos := "outright.go:124", after := #[{ on := 10, ground := Ground.guard }], guard := some (10, true) } : Oper)) (v := ?vd14) rfl (by kernel_rfl) (by kernel_rfl) (by kernel_rfl) (fun _ _ _ h => h) (Or.inl ⟨by rfl, fun w hSw => ?hyd14⟩) (by assumption) ?rd14
        case hyd14 => (try dsimp only at hSw); go_simp; (try with_reducible rfl)
        (try simp only [Act.put, List.setIfInBounds_toArray, List.set_cons_zero, List.set_cons_succ])
        refine wpAnyH_ready (rs := [13]) (by kernel_rfl) (by simp) ?_
        refine AllReadyH.cons (o := ({ dst := some 118, op := Op.call { callee := Callee.value (Operand.func 20), args := #[Operand.tmp 116, Operand.tmp 117], argTypes := #[25, 30] }, type := 33, pos := "outright.go:124", after := #[{ on := 11, ground := Ground.data }, { on := 12, ground := Ground.data }, { on := 10, ground := Ground.chain }, { on := 10, ground := Ground.guard }], guard := some (10, true) } : Oper)) rfl (fun Kq hKq => ?_) AllReadyH.nil
        go_simp
        (refine (HT4.out _ _ HSN15.out.st).mono ?_; rintro e w16 ⟨rfl, hb16⟩; have HSN16 := Lib.hid (HSN15.out.new hb16); have HC16 := Lib.hid (HC15.out.trans (hb16.mono HSN15.out.st.le)))
        refine hKq.out _ _ ?_ (fun hHeld => ?_)
        · exact ⟨(hb16.cell (p := ⟨X5, 0, none⟩) (HSN15.out.cl X5 (.inl h5b)).1).trans hHeld.1, (hb16.cell (p := ⟨X5, 1, none⟩) (HSN15.out.cl X5 (.inl h5b)).1).trans hHeld.2.1, (hb16.cell (p := ⟨X8, 0, none⟩) (HSN15.out.cl X8 (.inr (.inl rfl))).1).trans hHeld.2.2.1, (hb16.cell (p := ⟨X8, 1, none⟩) (HSN15.out.cl X8 (.inr (.inl rfl))).1).trans hHeld.2.2.2⟩
        clear hKq Kq
        (try simp only [Act.put, List.setIfInBounds_toArray, List.set_cons_zero, List.set_cons_succ])
        refine wpAnyH_take (i := 15) (oi := ({ dst := some 120, op := Op.binOp BinOp.eql 33 (Operand.tmp 118) (Operand.tmp 119) 33, type := 4, pos := "outright.go:124", after := #[{ on := 13, ground := Ground.data }, { on := 14, ground := Ground.data }, { on := 10, ground := Ground.guard }], guard := some (10, true) } : Oper)) (v := ?vd15) rfl (by kernel_rfl) (by kernel_rfl) (by kernel_rfl) (fun _ _ _ h => h) (Or.inl ⟨by rfl, fun w hSw => ?hyd15⟩) (by assumption) ?rd15
        case hyd15 => (try dsimp only at hSw); go_simp; (try with_reducible rfl)
        (try simp only [Act.put, List.setIfInBounds_toArray, List.set_cons_zero, List.set_cons_succ])
        refine wpAnyH_take (i := 16) (oi := ({ dst := some 121, op := Op.pick (Operand.tmp 115) (Operand.tmp 120) (Operand.const (Value.bool false)), type := 4, pos := "outright.go:124", after := #[{ on := 10, ground := Ground.data }, { on := 15, ground := Ground.data }], guard := none } : Oper)) (v := ?vd16) rfl (by kernel_rfl) (by kernel_rfl) (by kernel_rfl) (fun _ _ _ h => h) (Or.inl ⟨by rfl, fun w hSw => ?hyd16⟩) (by assumption) ?rd16
        case hyd16 => (try dsimp only at hSw); go_simp; (try with_reducible rfl)
        (try simp only [Act.put, List.setIfInBounds_toArray, List.set_cons_zero, List.set_cons_succ])
        refine wpAnyH_take (i := 17) (oi := ({ dst := some 122, op := Op.move (Operand.tmp 121), type := 4, pos := "outright.go:124", after := #[{ on := 16, ground := Ground.data }, { on := 13, ground := Ground.chain }], guard := none } : Oper)) (v := ?vd17) rfl (by kernel_rfl) (by kernel_rfl) (by kernel_rfl) (fun _ _ _ h => h) (Or.inl ⟨by rfl, fun w hSw => ?hyd17⟩) (by assumption) ?rd17
        case hyd17 => (try dsimp only at hSw); go_simp; (try with_reducible rfl)
        (try simp only [Act.put, List.setIfInBounds_toArray, List.set_cons_zero, List.set_cons_succ])
        refine wpAnyH_ready (rs := [18]) (by kernel_rfl) (by simp) ?_
        refine AllReadyH.cons (o := ({ dst := some 123, op := Op.call { callee := Callee.value (Operand.func 7), args := #[], argTypes := #[] }, type := 4, pos := "outright.go:124", after := #[{ on := 17, ground := Ground.chain }, { on := 17, ground := Ground.guard }], guard := some (17, true) } : Oper)) rfl (fun Kq hKq => ?_) AllReadyH.nil
        go_simp
        (refine (QL.out _).mono ?_; rintro e w17 ⟨rfl, hb17⟩; have HC17 := Lib.hid (HC16.out.trans (hb17.mono HSN16.out.st.le)))
        refine hKq.out _ _ ?_ (fun hHeld => ?_)
        · exact ⟨(hb17.cell (p := ⟨X5, 0, none⟩) (HSN16.out.cl X5 (.inl h5b)).1).trans hHeld.1, (hb17.cell (p := ⟨X5, 1, none⟩) (HSN16.out.cl X5 (.inl h5b)).1).trans hHeld.2.1, (hb17.cell (p := ⟨X8, 0, none⟩) (HSN16.out.cl X8 (.inr (.inl rfl))).1).trans hHeld.2.2.1, (hb17.cell (p := ⟨X8, 1, none⟩) (HSN16.out.cl X8 (.inr (.inl rfl))).1).trans hHeld.2.2.2⟩
        clear hKq Kq
        (try simp only [Act.put, List.setIfInBounds_toArray, List.set_cons_zero, List.set_cons_succ])
        refine wpAnyH_take (i := 19) (oi := ({ dst := some 124, op := Op.pick (Operand.tmp 122) (Operand.tmp 123) (Operand.const (Value.bool false)), type := 4, pos := "outright.go:124", after := #[{ on := 17, ground := Ground.data }, { on := 18, ground := Ground.data }], guard := none } : Oper)) (v := ?vd19) rfl (by kernel_rfl) (by kernel_rfl) (by kernel_rfl) (fun _ _ _ h => h) (Or.inl ⟨by rfl, fun w hSw => ?hyd19⟩) (by assumption) ?rd19
        case hyd19 => (try dsimp only at hSw); go_simp; (try with_reducible rfl)
        (try simp only [Act.put, List.setIfInBounds_toArray, List.set_cons_zero, List.set_cons_succ])
        refine wpAnyH_take (i := 20) (oi := ({ dst := some 6, op := Op.assign (Operand.tmp 124), type := 4, pos := "outright.go:124", after := #[{ on := 19, ground := Ground.data }, { on := 18, ground := Ground.chain }, { on := 0, ground := Ground.phase }, { on := 1, ground := Ground.phase }, { on := 2, ground := Ground.phase }, { on := 3, ground := Ground.phase }, { on := 4, ground := Ground.phase }, { on := 5, ground := Ground.phase }, { on := 6, ground := Ground.phase }, { on := 7, ground := Ground.phase }, { on := 8, ground := Ground.phase }, { on := 9, ground := Ground.phase }, { on := 10, ground := Ground.phase }, { on := 11, ground := Ground.phase }, { on := 12, ground := Ground.phase }, { on := 13, ground := Ground.phase }, { on := 14, ground := Ground.phase }, { on := 15, ground := Ground.phase }, { on := 16, ground := Ground.phase }, { on := 17, ground := Ground.phase }, { on := 18, ground := Ground.phase }, { on := 19, ground := Ground.phase }], guard := none } : Oper)) (v := ?vd20) rfl (by kernel_rfl) (by kernel_rfl) (by kernel_rfl) (fun _ _ _ h => h) (Or.inl ⟨by rfl, fun w hSw => ?hyd20⟩) (by assumption) ?rd20
        case hyd20 => (try dsimp only at hSw); go_simp; (try with_reducible rfl)
        (try simp only [Act.put, List.setIfInBounds_toArray, List.set_cons_zero, List.set_cons_succ])
        refine wpAnyH_done (by kernel_rfl) ?_ _
        go_wp2_with fail
        go_ret
        exact ⟨rfl, HB00.out.trans (HC17.out.mono hWb)⟩
end Go.Proofs.Ytcdoklgjicfkmaa
