/- Texts of this seat, one behind the other. -/
import Derived.Test.YtlflagjnlclffaaGreatMLawPlay1429
import Derived.Test.YtlflagjnlclffaaGreatMLawPlay1430
set_option linter.unusedVariables false
set_option linter.unusedSimpArgs false
namespace Go.Proofs.YtlflagjnlclffaaGreat.S14
open Go.Proofs.YtlflagjnlclffaaGreat Go.Proofs.YtlflagjnlclffaaGreat.S11 Go.Proofs.YtlflagjnlclffaaGreat.S12 Go.Proofs.YtlflagjnlclffaaGreat.S13
open Go.RowKit
theorem sdok_fstep {M : Sd} {N cn : Nat} (h : SdOk M N cn) (K : Fr) : SdOk (fstepM M K) N (cn + 1) := by
  unfold fstepM
  split
  · exact h.acc _ _ _
  · exact h.acc _ _ _
  · split
    · exact (h.acc _ _ _).link _
    · exact h.acc _ _ _
  · split
    · exact h.acc _ _ _
    · exact (h.acc _ _ _).link _
  · split
    · exact h.acc _ _ _
    · exact (h.acc _ _ _).link _
  · exact h.acc _ _ _
  · exact h.unpark _
  · exact h.more
theorem new_rfree (a : Nat) (w : World) : Calls Tryz.prog 19 #[.int .u32 (a : Int)] w fun e w' => e = .returned (Pw w.heap.size) ∧ w' = w.alloc (.cells (fr0 a).rs 176) := by
  go_enter Tryz.func19, Tryz.ntmps19
  go_wp2_with fail
  go_ret
  exact ⟨rfl, rfl⟩
inductive Tk where
  | lk (K : Lk)
  | fr (K : Fr)
def Tk.sM (M : Sd) : Tk → Sd
  | .lk K => stepM M K
  | .fr K => fstepM M K
def Tk.go (M : Sd) : Tk → Tk
  | .lk K => .lk (stepK M K)
  | .fr K => .fr (fstepK M K)
def Tk.ln : Tk → Nat
  | .lk K => K.ln
  | .fr K => K.ln
def Tk.ok : Tk → Prop
  | .lk K => KOk K
  | .fr K => FOk K
def Tk.p (B : Nat) : Tk → Part
  | .lk K => lockP B K
  | .fr K => freeP B K
def Tk.rp (C : Nat) : Tk → Part
  | .lk K => lockRP C K
  | .fr K => freeRP C K
def Tk.four (B C : Nat) : Tk → List Value
  | .lk _ => [Pw B, .pointer none, Pw C, .pointer none]
  | .fr _ => [.pointer none, Pw B, .pointer none, Pw C]
theorem Tk.four_len (T : Tk) (B C : Nat) : (T.four B C).length = 4 := by cases T <;> rfl
theorem Tk.four_go (M : Sd) (T : Tk) (B C : Nat) : (T.go M).four B C = T.four B C := by cases T <;> rfl
theorem Tk.four_one (T : Tk) (B C : Nat) : ∀ u ∈ T.four B C, u.oneCell' = true := fun u hu => by
  cases T <;> (simp [Tk.four] at hu; rcases hu with rfl | rfl | rfl | rfl) <;> rfl
abbrev O4 := Nat × Nat × Tk
def lp4 (o : O4) : List Part := [o.2.2.p o.1, o.2.2.rp o.2.1]
def lparts4 (L : List O4) : List Part := L.flatMap lp4
def lcs4 (L : List O4) : List Value := L.flatMap fun o => o.2.2.four o.1 o.2.1
theorem lparts4_snoc (L : List O4) (o : O4) : lparts4 (L ++ [o]) = lparts4 L ++ lp4 o := by simp [lparts4]
theorem lcs4_snoc (L : List O4) (o : O4) : lcs4 (L ++ [o]) = lcs4 L ++ o.2.2.four o.1 o.2.1 := by simp [lcs4]
theorem lcs4_one (L : List O4) : ∀ u ∈ lcs4 L, u.oneCell' = true := fun u hu => by
  simp only [lcs4, List.mem_flatMap] at hu
  obtain ⟨o, _, hu⟩ := hu
  exact Tk.four_one _ _ _ u hu
theorem lparts4_cons (p : O4) (r : List O4) : lparts4 (p :: r) = p.2.2.p p.1 :: p.2.2.rp p.2.1 :: lparts4 r := rfl
theorem lcs4_cons (p : O4) (r : List O4) : lcs4 (p :: r) = p.2.2.four p.1 p.2.1 ++ lcs4 r := rfl
theorem lparts4_get : ∀ (L : List O4) (i : Nat) (o : O4), L[i]? = some o → (lparts4 L)[2 * i]? = some (o.2.2.p o.1) ∧ (lparts4 L)[2 * i + 1]? = some (o.2.2.rp o.2.1) ∧ ∀ k, k < 4 → (lcs4 L)[i * 4 + k]? = (o.2.2.four o.1 o.2.1)[k]?
  | [], i, o, h => by simp at h
  | p :: r, 0, o, h => by
    simp only [List.getElem?_cons_zero, Option.some.injEq] at h; subst h
    refine ⟨rfl, rfl, fun k hk => ?_⟩
    rw [lcs4_cons, List.getElem?_append_left (by rw [Tk.four_len]; omega), show 0 * 4 + k = k by omega]
  | p :: r, i + 1, o, h => by
    simp only [List.getElem?_cons_succ] at h
    obtain ⟨h1, h2, h3⟩ := lparts4_get r i o h
    rw [lparts4_cons, lcs4_cons, show 2 * (i + 1) = 2 * i + 1 + 1 by omega, show 2 * i + 1 + 1 + 1 = (2 * i + 1) + 1 + 1 by omega]
    refine ⟨h1, h2, fun k hk => ?_⟩
    rw [List.getElem?_append_right (by rw [Tk.four_len]; omega), Tk.four_len, show (i + 1) * 4 + k - 4 = i * 4 + k by omega]
    exact h3 k hk
theorem lparts4_set : ∀ (L : List O4) (i : Nat) (o : O4) (T : Tk), L[i]? = some o → T.four o.1 o.2.1 = o.2.2.four o.1 o.2.1 → ((lparts4 L).set (2 * i + 1) (T.rp o.2.1)).set (2 * i) (T.p o.1) = lparts4 (L.set i (o.1, o.2.1, T)) ∧ lcs4 (L.set i (o.1, o.2.1, T)) = lcs4 L
  | [], i, o, T, h, _ => by simp at h
  | p :: r, 0, o, T, h, e => by
    simp only [List.getElem?_cons_zero, Option.some.injEq] at h; subst h
    refine ⟨rfl, ?_⟩
    rw [List.set_cons_zero, lcs4_cons, lcs4_cons]
    show T.four p.1 p.2.1 ++ _ = _
    rw [e]
  | p :: r, i + 1, o, T, h, e => by
    simp only [List.getElem?_cons_succ] at h
    obtain ⟨h1, h2⟩ := lparts4_set r i o T h e
    rw [List.set_cons_succ, lparts4_cons, lparts4_cons, lcs4_cons, lcs4_cons, h2, show 2 * (i + 1) = 2 * i + 1 + 1 by omega, show 2 * i + 1 + 1 + 1 = (2 * i + 1) + 1 + 1 by omega]
    simp only [List.set_cons_succ]
    rw [h1]
    exact ⟨rfl, trivial⟩
theorem pre4_set (P : List Part) (R : List Part) {L : List O4} {i : Nat} {o : O4} {T : Tk} (h : L[i]? = some o) (e : T.four o.1 o.2.1 = o.2.2.four o.1 o.2.1) :
    ((P ++ (lparts4 L ++ R)).set (P.length + (2 * i + 1)) (T.rp o.2.1)).set (P.length + 2 * i) (T.p o.1) = P ++ (lparts4 (L.set i (o.1, o.2.1, T)) ++ R) := by
  obtain ⟨g1, g2, _⟩ := lparts4_get L i o h
  have l1 := (List.getElem?_eq_some_iff.1 g1).1
  have l2 := (List.getElem?_eq_some_iff.1 g2).1
  rw [set_mid, set_mid, List.set_append_left _ _ l2, List.set_append_left _ _ (by rw [List.length_set]; exact l1), (lparts4_set L i o T h e).1]
structure MidT (w0 w : World) (base WB RB : Nat) (M : Sd) (T : Tk) (E : List Part) (X : Wm) (Y : Rm) : Prop where
  rg : Rg w0 w base RB (T.sM M) X.parts E Y
  wB : X.wB = WB
  xm : X.sd = M
section
variable {w0 w w' : World} {base WB RB N cn tn : Nat} {M : Sd} {E : List Part} {X : Wm} {Y : Rm}
theorem MidT.blk {T : Tk} (h : MidT w0 w base WB RB M T E X Y) {j q : Nat} {ob : Obj} (hj : E[j]? = some (blockP q ob)) : w.heap[q]? = some ob := h.rg.ps.ok _ (blockP q ob) (h.rg.part hj)
def Tk.fR : Tk → Nat
  | .lk _ => 13
  | .fr _ => 72
def Tk.fP : Tk → Nat
  | .lk _ => 14
  | .fr _ => 22
def Tk.fO : Tk → Nat
  | .lk _ => 42
  | .fr _ => 21
theorem Tk.ok_go {T : Tk} (h : T.ok) (hb : Bg w0 w base WB RB N cn tn M M E X Y) (hc : cn ≤ 100000000) : (T.go M).ok := by
  cases T with
  | lk K => exact KOk.step h (bg_ok hb) hc (bg_look hb)
  | fr K => exact FOk.step h (bg_look hb) (rg_le (bg_rg hb))
theorem bg_tstep (h : Bg w0 w base WB RB N cn tn M M E X Y) {j C : Nat} {T : Tk} (hj : E[j]? = some (T.rp C)) (ok : T.ok) (hc : cn ≤ 100000000) :
    Calls Tryz.prog T.fR #[Pw C, Pw RB] w fun e w' => e = .returned (.tuple #[]) ∧ ∃ Y', MidT w0 w' base WB RB M T (E.set j ((T.go M).rp C)) X Y' := by
  have o := bg_ok h
  cases T with
  | lk K =>
    have ok' : KOk K := ok
    refine (bg_rstep h hj (ok'.ok o hc) ok'.ln).mono ?_
    rintro e w' ⟨rfl, Y', h'⟩
    exact ⟨rfl, Y', h'.rg, h'.wB, h'.xm⟩
  | fr K =>
    have ok' : FOk K := ok
    have hj1 : E[j]? = some (freeRP C K) := hj
    have hr : Wg w0 w base RB M X.parts E j C K Y := ⟨by rw [set_self hj1]; exact bg_rg h, (List.getElem?_eq_some_iff.1 hj1).1⟩
    refine (step_g hr (ok'.ok (by have := o.n; omega) (by have := o.pn; omega)) ok'.ln o.byt).mono ?_
    rintro e w' ⟨rfl, Y', h'⟩
    exact ⟨rfl, Y', h'.pg, h.wB, h.xm⟩
theorem midt_step {T : Tk} (h : MidT w0 w base WB RB M T E X Y) (o : SdOk M N cn) {j B : Nat} (hj : E[j]? = some (T.p B)) (ok : T.ok) (hc : cn ≤ 100000000) :
    Calls Tryz.prog T.fP #[Pw B, Pw WB] w fun e w' => e = .returned (.bool (decide ((T.go M).ln = 0))) ∧ ∃ tn' X', Bg w0 w' base WB RB N (cn + 1) tn' (T.sM M) (T.sM M) (E.set j ((T.go M).p B)) X' Y := by
  cases T with
  | lk K =>
    have ok' : KOk K := ok
    exact mid_step (K := K) ⟨h.rg, h.wB, h.xm⟩ o hj (ok'.ok o hc) ok'.ln
  | fr K =>
    have ok' : FOk K := ok
    have hj2 : (Y.parts ++ E)[Y.parts.length + j]? = some (freeP B K) := by rw [get_mid]; exact hj
    have hp : Wf w w base WB M (Y.parts ++ E) (Y.parts.length + j) B K X := ⟨⟨by rw [set_self hj2]; exact h.rg.ps, h.wB, h.xm, Below.refl _ _⟩, (List.getElem?_eq_some_iff.1 hj2).1⟩
    refine (step_f hp (ok'.ok (by have := o.n; omega) (by have := o.pn; omega)) ok'.ln).mono ?_
    rintro e w' ⟨rfl, X', h'⟩
    have hg := h'.pg
    rw [set_mid] at hg
    exact ⟨rfl, _, X', bg_of (sdok_fstep o K) ⟨hg.ps, hg.wB, hg.xm, h.rg.bl.trans hg.bl⟩ h.rg.rB h.rg.ym (Nat.le_trans h.rg.rb hg.bl.size)⟩
end
def Tk.rAt (w : World) (C : Nat) (T : Tk) : Prop := match T with
  | .lk K => w.heap[C]? = some (.cells K.rs 58 (0, 0))
  | .fr K => w.heap[C]? = some (.cells K.rs 176 (0, 0))
theorem Tk.rln {w : World} {C : Nat} {T : Tk} (h : T.rAt w C) : w.cell? ⟨C, 0, none⟩ = some (.int .i64 (T.ln : Int)) := by
  cases T with
  | lk K => exact cell_row (show w.heap[C]? = some (.cells K.rs 58 (0, 0)) from h) 0
  | fr K => exact cell_row (show w.heap[C]? = some (.cells K.rs 176 (0, 0)) from h) 0
def pre4 (PB WB RB base : Nat) (v : Value) (L : List O4) : List Part := [blockP PB (.cells #[Pw WB, Pw RB] 36), rowP base 4 v L.length (lcs4 L)]
structure PI4 (w0 wx : World) (base PB WB RB N c0 i : Nat) (v : Value) (L : List O4) (R : List Part) : Prop where
  bg : ∃ tn M X Y, Bg w0 wx base WB RB N (c0 + 2 * i) tn M M (pre4 PB WB RB base v L ++ (lparts4 L ++ R)) X Y
  ok : ∀ o ∈ L, o.2.2.ok
  le : L.length ≤ i
section
variable {w0 w w' : World} {base PB WB RB N c0 i cn tn : Nat} {M : Sd} {X : Wm} {Y : Rm} {v : Value} {L : List O4} {R : List Part}
theorem bg_pair4 (h : Bg w0 w base WB RB N cn tn M M (pre4 PB WB RB base v L ++ R) X Y) : w.heap[PB]? = some (.cells #[Pw WB, Pw RB] 36 (0, 0)) :=
  h.pr.ok 14 (blockP PB (.cells #[Pw WB, Pw RB] 36)) rfl
theorem bg_row4 (h : Bg w0 w base WB RB N cn tn M M (pre4 PB WB RB base v L ++ R) X Y) {v' : Value} {L' : List O4} (hr : S10.Row w' base 4 v' L'.length (lcs4 L')) (t : S10.Turns (fun k => v.ownBlock = some k) w w') (ho : v'.ownBlock = v.ownBlock ∨ v'.ownBlock = some w.heap.size) :
    Bg w0 w' base WB RB N cn tn M M (pre4 PB WB RB base v' L' ++ R) X Y := by
  obtain ⟨hp, hb⟩ := Parts.turn h.pr (i := 15) (p := rowP base 4 v L.length (lcs4 L)) rfl (rowP base 4 v' L'.length (lcs4 L')) hr ⟨t.os, t.tape, t.output, t.size, t.block⟩ (fun k e => by
    rcases ho with e2 | e2
    · exact .inl (by show v.ownBlock = some k; rw [← e2]; exact e)
    · exact .inr (by have : some k = some w.heap.size := by rw [← e2]; exact e.symm
                     exact Nat.le_of_eq (Option.some.inj this).symm))
  exact { h with pr := hp, rb := Nat.le_trans h.rb t.size, bl := h.bl.trans hb }
theorem PI4.new (h : PI4 w0 w base PB WB RB N c0 i v L R) (b : Below w.heap.size w w') : PI4 w0 w' base PB WB RB N c0 i v L R := by
  obtain ⟨⟨tn, M, X, Y, hb⟩, h2, h3⟩ := h
  exact ⟨⟨tn, M, X, Y, hb.new b⟩, h2, h3⟩
theorem PI4.bl (h : PI4 w0 w base PB WB RB N c0 i v L R) : Below base w0 w := by
  obtain ⟨⟨tn, M, X, Y, hb⟩, h2, h3⟩ := h
  exact hb.bl
theorem PI4.pair (h : PI4 w0 w base PB WB RB N c0 i v L R) : w.heap[PB]? = some (.cells #[Pw WB, Pw RB] 36 (0, 0)) := by
  obtain ⟨⟨tn, M, X, Y, hb⟩, h2, h3⟩ := h
  exact bg_pair4 hb
theorem PI4.row (h : PI4 w0 w base PB WB RB N c0 i v L R) : S10.Row w base 4 v L.length (lcs4 L) := by
  obtain ⟨⟨tn, M, X, Y, hb⟩, h2, h3⟩ := h
  exact hb.pr.ok 15 (rowP base 4 v L.length (lcs4 L)) rfl
theorem PI4.next (h : PI4 w0 w base PB WB RB N c0 i v L R) : PI4 w0 w base PB WB RB N c0 (i + 1) v L R := by
  obtain ⟨⟨tn, M, X, Y, hb⟩, h2, h3⟩ := h
  exact ⟨⟨tn, M, X, Y, hb.mono (Nat.le_refl _) (by omega) (Nat.le_refl _)⟩, h2, by omega⟩
theorem PI4.store (h : PI4 w0 w base PB WB RB N c0 i v L R) {a u : Nat} (ha : a < 4294967296) (hv : u < 18446744073709551616) (hc : c0 + 2 * i ≤ 2099999) :
    Calls Tryz.prog 11 #[.agg #[Pw WB, Pw RB], .agg #[.int .u32 a, .int .u64 u]] w fun e w' => e = .returned (.tuple #[]) ∧ PI4 w0 w' base PB WB RB N c0 (i + 1) v L R := by
  obtain ⟨⟨tn, M, X, Y, hb⟩, h2, h3⟩ := h
  refine (pair_storeS hb ha hv (by omega)).mono ?_
  rintro e w' ⟨rfl, X', Y', h'⟩
  exact ⟨rfl, ⟨tn, _, X', Y', h'⟩, h2, by omega⟩
theorem PI4.unpark (h : PI4 w0 w base PB WB RB N c0 i v L R) (hc : c0 + 2 * i ≤ 2099999) (n : Int) :
    Calls Tryz.prog 12 #[.agg #[Pw WB, Pw RB], .int .i64 n] w fun e w' => e = .returned (.tuple #[]) ∧ PI4 w0 w' base PB WB RB N c0 (i + 1) v L R := by
  obtain ⟨⟨tn, M, X, Y, hb⟩, h2, h3⟩ := h
  refine (pair_unpark hb (by omega) n).mono ?_
  rintro e w' ⟨rfl, tn', M', X', Y', h'⟩
  exact ⟨rfl, ⟨tn', M', X', Y', h'.mono (Nat.le_refl _) (by omega) (Nat.le_refl _)⟩, h2, by omega⟩
theorem PI4.same (h : PI4 w0 w base PB WB RB N c0 i v L R) (hc : c0 + 2 * i ≤ 2099999) :
    Calls Tryz.prog 15 #[.agg #[Pw WB, Pw RB]] w fun e w' => e = .returned (.bool true) ∧ PI4 w0 w' base PB WB RB N c0 i v L R := by
  obtain ⟨⟨tn, M, X, Y, hb⟩, h2, h3⟩ := h
  refine (pair_same hb (by omega)).mono ?_
  rintro e w' ⟨rfl, b⟩
  exact ⟨rfl, ⟨tn, M, X, Y, hb.new b⟩, h2, h3⟩
theorem PI4.all (h : PI4 w0 w base PB WB RB N c0 i v L R) (hc : c0 + 2 * i ≤ 2099999) (hN : N ≤ 100000) :
    Calls Tryz.prog 16 #[.agg #[Pw WB, Pw RB]] w fun e w' => e = .returned (.bool true) ∧ Below base w0 w' := by
  obtain ⟨⟨tn, M, X, Y, hb⟩, h2, h3⟩ := h
  refine (pair_all hb (by omega) hN).mono ?_
  rintro e w' ⟨rfl, b⟩
  exact ⟨rfl, hb.bl.trans (b.mono hb.pr.size)⟩
theorem PI4.start (h : Bg w0 w base WB RB N c0 tn M M [] X Y) : PI4 w0 (w.alloc (.cells #[Pw WB, Pw RB] 36)) base w.heap.size WB RB N c0 0 (.slice none 0 0) [] [] := by
  have h1 := h.push (blockP w.heap.size (.cells #[Pw WB, Pw RB] 36)) (below1 w _) (heap_alloc_new w _) (fun k e => Nat.le_of_eq (show k = w.heap.size from e).symm)
  have h2 := h1.push (rowP base 4 (.slice none 0 0) 0 []) (Below.refl _ _) (S10.row_nil _ base 4) (fun k e => by cases e)
  exact ⟨⟨tn, M, X, Y, h2⟩, (fun o ho => by cases ho), Nat.le_refl _⟩
theorem PI4.at {n : Nat} {P : Option Addr} {cap : Nat} (h : PI4 w0 w base PB WB RB N c0 i (.slice P n cap) L R) (hn : n = L.length) {j : Nat} (hj : j < L.length) : ∃ g o B C T, P = some ⟨g, o, none⟩ ∧ L[j]? = some (B, C, T) ∧ ∀ k u, (Tk.four B C T)[k]? = some u → w.cell? ⟨g, o + j * 4 + k, none⟩ = some u := by
  subst hn
  obtain ⟨A', cap', e, h0, h1, h2, h3, h4⟩ := h.row
  cases e
  cases P with
  | none => have := h3 rfl; omega
  | some ad =>
    obtain ⟨g, o, rfl, _, _, hl, _⟩ := h4 _ rfl
    have hg := List.getElem?_eq_getElem hj
    obtain ⟨_, _, p3⟩ := lparts4_get L j _ hg
    refine ⟨g, o, L[j].1, L[j].2.1, L[j].2.2, rfl, hg, fun k u hk => ?_⟩
    have hk4 : k < 4 := by
      have := (List.getElem?_eq_some_iff.1 hk).1
      rwa [Tk.four_len] at this
    have := hl _ u ((p3 k hk4).trans hk)
    rwa [← Nat.add_assoc] at this
def CF4 (Q1 Q2 WB RB B C : Nat) (T : Tk) (w : World) : Prop :=
  w.heap[Q1]? = some (.cells (T.four B C).toArray 66 (0, 0)) ∧ w.heap[Q2]? = some (.cells #[Pw WB, Pw RB] 36 (0, 0))
theorem PI4.step (h : PI4 w0 w base PB WB RB N c0 i v L R) (hc : c0 + 2 * i ≤ 2099999) {j B C : Nat} {T : Tk} (hj : L[j]? = some (B, C, T)) {Q1 Q2 : Nat} (hQ1 : Q1 = w.heap.size) {wa : World} (hwa : wa = w.alloc (.cells (T.four B C).toArray 66)) (hQ2 : Q2 = wa.heap.size) :
    Calls Tryz.prog T.fR #[Pw C, Pw RB] (wa.alloc (.cells #[Pw WB, Pw RB] 36)) fun e w6 => e = .returned (.tuple #[]) ∧ ∃ T' : Tk, T'.four B C = T.four B C ∧ T'.fO = T.fO ∧ CF4 Q1 Q2 WB RB B C T w6 ∧ T'.rAt w6 C ∧
      (Calls Tryz.prog T.fP #[Pw B, Pw WB] w6 fun e w7 => e = .returned (.bool (decide (T'.ln = 0))) ∧ CF4 Q1 Q2 WB RB B C T w7 ∧
        (Calls Tryz.prog T.fO #[Pw B] w7 fun e w8 => e = .returned (.bool (decide (T'.ln = 0))) ∧ w7 = w8) ∧ ∃ L', PI4 w0 w7 base PB WB RB N c0 (i + 1) v L' R ∧ lcs4 L' = lcs4 L ∧ L'.length = L.length) := by
  obtain ⟨⟨tn, M, X, Y, hb⟩, h2, h3⟩ := h
  have hk : T.ok := h2 _ (List.mem_of_getElem? hj)
  have o := bg_ok hb
  obtain ⟨g1, g2, _⟩ := lparts4_get L j _ hj
  have l1 := (List.getElem?_eq_some_iff.1 g1).1
  have l2 := (List.getElem?_eq_some_iff.1 g2).1
  have hp2 : (pre4 PB WB RB base v L).length = 2 := rfl
  have hb5 := hb.push (blockP w.heap.size (.cells (T.four B C).toArray 66)) (below1 w _) (heap_alloc_new w _) (fun k e => Nat.le_of_eq (show k = w.heap.size from e).symm)
  rw [← hQ1, ← hwa] at hb5
  have hb6 := hb5.push (blockP wa.heap.size (.cells #[Pw WB, Pw RB] 36)) (below1 wa _) (heap_alloc_new wa _) (fun k e => Nat.le_of_eq (show k = wa.heap.size from e).symm)
  rw [← hQ2] at hb6
  rw [List.append_assoc, List.append_assoc, List.append_assoc] at hb6
  have hc2 : c0 + 2 * i ≤ 100000000 := by omega
  have hk' := Tk.ok_go hk hb6 hc2
  have hf := Tk.four_go M T B C
  have e1 : (pre4 PB WB RB base v L ++ (lparts4 L ++ (R ++ ([blockP Q1 (.cells (T.four B C).toArray 66)] ++ [blockP Q2 (.cells #[Pw WB, Pw RB] 36)]))))[(pre4 PB WB RB base v L).length + (2 * j + 1)]? = some (T.rp C) := by rw [get_mid, List.getElem?_append_left l2]; exact g2
  have e0 : (pre4 PB WB RB base v L ++ (lparts4 L ++ (R ++ ([blockP Q1 (.cells (T.four B C).toArray 66)] ++ [blockP Q2 (.cells #[Pw WB, Pw RB] 36)]))))[(pre4 PB WB RB base v L).length + 2 * j]? = some (T.p B) := by rw [get_mid, List.getElem?_append_left l1]; exact g1
  have eQ : (pre4 PB WB RB base v L ++ (lparts4 L ++ (R ++ ([blockP Q1 (.cells (T.four B C).toArray 66)] ++ [blockP Q2 (.cells #[Pw WB, Pw RB] 36)]))))[(pre4 PB WB RB base v L).length + ((lparts4 L).length + R.length)]? = some (blockP Q1 (.cells (T.four B C).toArray 66)) := by rw [get_mid, get_mid, List.getElem?_append_right (Nat.le_refl _), Nat.sub_self]; rfl
  have eP : (pre4 PB WB RB base v L ++ (lparts4 L ++ (R ++ ([blockP Q1 (.cells (T.four B C).toArray 66)] ++ [blockP Q2 (.cells #[Pw WB, Pw RB] 36)]))))[(pre4 PB WB RB base v L).length + ((lparts4 L).length + (R.length + 1))]? = some (blockP Q2 (.cells #[Pw WB, Pw RB] 36)) := by rw [get_mid, get_mid, List.getElem?_append_right (by omega), Nat.add_sub_cancel_left]; rfl
  have hset := pre4_set (T := T.go M) (pre4 PB WB RB base v L) (R ++ ([blockP Q1 (.cells (T.four B C).toArray 66)] ++ [blockP Q2 (.cells #[Pw WB, Pw RB] 36)])) hj hf
  rw [hp2] at e1 e0 eQ eP hset
  generalize hE : pre4 PB WB RB base v L ++ (lparts4 L ++ (R ++ ([blockP Q1 (.cells (T.four B C).toArray 66)] ++ [blockP Q2 (.cells #[Pw WB, Pw RB] 36)]))) = E at *
  refine (bg_tstep hb6 e1 hk hc2).mono ?_
  rintro e w6 ⟨rfl, Y', hm⟩
  have f1 : (E.set (2 + (2 * j + 1)) ((T.go M).rp C))[2 + (2 * j + 1)]? = some ((T.go M).rp C) := List.getElem?_set_self (List.getElem?_eq_some_iff.1 e1).1
  have f0 : (E.set (2 + (2 * j + 1)) ((T.go M).rp C))[2 + 2 * j]? = some (T.p B) := (set_len _ _ _ _ (by omega)).trans e0
  have fQ : (E.set (2 + (2 * j + 1)) ((T.go M).rp C))[2 + ((lparts4 L).length + R.length)]? = some (blockP Q1 (.cells (T.four B C).toArray 66)) := (set_len _ _ _ _ (by omega)).trans eQ
  have fP : (E.set (2 + (2 * j + 1)) ((T.go M).rp C))[2 + ((lparts4 L).length + (R.length + 1))]? = some (blockP Q2 (.cells #[Pw WB, Pw RB] 36)) := (set_len _ _ _ _ (by omega)).trans eP
  have hr : (T.go M).rAt w6 C := by
    cases T with
    | lk K => exact hm.blk f1
    | fr K => exact hm.blk f1
  refine ⟨rfl, T.go M, hf, by cases T <;> rfl, ⟨hm.blk fQ, hm.blk fP⟩, hr, ?_⟩
  refine (midt_step hm o f0 hk hc2).mono ?_
  rintro e w7 ⟨rfl, tn', X', hbg⟩
  have k0 : ((E.set (2 + (2 * j + 1)) ((T.go M).rp C)).set (2 + 2 * j) ((T.go M).p B))[2 + 2 * j]? = some ((T.go M).p B) := List.getElem?_set_self (List.getElem?_eq_some_iff.1 f0).1
  have kQ := Bg.blk hbg (j := 2 + ((lparts4 L).length + R.length)) ((set_len _ _ _ _ (by omega)).trans fQ)
  have kP := Bg.blk hbg (j := 2 + ((lparts4 L).length + (R.length + 1))) ((set_len _ _ _ _ (by omega)).trans fP)
  refine ⟨rfl, ⟨kQ, kP⟩, ?_, ?_⟩
  · cases T with
    | lk K => exact over_any (Bg.blk hbg k0) (KOk.ln hk')
    | fr K => exact over_f (cell_row (Bg.blk hbg k0) 0)
  · rw [hset] at hbg
    have hls := (lparts4_set L j _ (T.go M) hj hf).2
    have hll : (L.set j (B, C, T.go M)).length = L.length := List.length_set
    have hpre : pre4 PB WB RB base v (L.set j (B, C, T.go M)) = pre4 PB WB RB base v L := by unfold pre4; rw [hll, hls]
    have ea : pre4 PB WB RB base v L ++ (lparts4 (L.set j (B, C, T.go M)) ++ (R ++ ([blockP Q1 (.cells (T.four B C).toArray 66)] ++ [blockP Q2 (.cells #[Pw WB, Pw RB] 36)]))) = ((pre4 PB WB RB base v L ++ (lparts4 (L.set j (B, C, T.go M)) ++ R)) ++ [blockP Q1 (.cells (T.four B C).toArray 66)]) ++ [blockP Q2 (.cells #[Pw WB, Pw RB] 36)] := by simp only [List.append_assoc]
    rw [ea] at hbg
    refine ⟨L.set j (B, C, T.go M), ⟨⟨tn', T.sM M, X', Y', ?_⟩, fun q hq => ?_, by rw [hll]; omega⟩, hls, hll⟩
    · rw [hpre]
      exact (bg_drop1 (bg_drop1 hbg)).mono (Nat.le_refl _) (by omega) (Nat.le_refl _)
    · rcases List.mem_or_eq_of_mem_set hq with h | h
      · exact h2 _ h
      · rw [h]; exact hk'
theorem PI4.pushR (h : PI4 w0 w base PB WB RB N c0 i v L R) (ob : Obj) : PI4 w0 (w.alloc ob) base PB WB RB N c0 i v L (R ++ [blockP w.heap.size ob]) := by
  obtain ⟨⟨tn, M, X, Y, hb⟩, h2, h3⟩ := h
  have := hb.push (blockP w.heap.size ob) (below1 w _) (heap_alloc_new w _) (fun k e => Nat.le_of_eq (show k = w.heap.size from e).symm)
  rw [List.append_assoc, List.append_assoc] at this
  exact ⟨⟨tn, M, X, Y, this⟩, h2, h3⟩
theorem PI4.dropR {q : Part} (h : PI4 w0 w base PB WB RB N c0 i v L (R ++ [q])) : PI4 w0 w base PB WB RB N c0 i v L R := by
  obtain ⟨⟨tn, M, X, Y, hb⟩, h2, h3⟩ := h
  rw [← List.append_assoc, ← List.append_assoc, List.append_assoc (pre4 PB WB RB base v L)] at hb
  exact ⟨⟨tn, M, X, Y, bg_drop1 hb⟩, h2, h3⟩
theorem PI4.act {q : Nat} {ob : Obj} (h : PI4 w0 w base PB WB RB N c0 i v L [blockP q ob]) : w.heap[q]? = some ob := by
  obtain ⟨⟨tn, M, X, Y, hb⟩, h2, h3⟩ := h
  exact Bg.blk hb (j := (pre4 PB WB RB base v L).length + ((lparts4 L).length + 0)) (by rw [get_mid, get_mid]; rfl)
end
theorem parts_rot {w : World} {base : Nat} {l r : List Part} {q : Part} (h : Parts w base (l ++ (q :: r))) : Parts w base (l ++ (r ++ [q])) := by
  have g : ∀ i p, (l ++ (r ++ [q]))[i]? = some p → (l ++ (q :: r))[if i < l.length then i else if i < l.length + r.length then i + 1 else l.length]? = some p ∧ i < l.length + r.length + 1 := fun i p hp => by
    have hi : i < l.length + r.length + 1 := by
      have := (List.getElem?_eq_some_iff.1 hp).1
      simp only [List.length_append, List.length_cons, List.length_nil] at this
      omega
    refine ⟨?_, hi⟩
    by_cases h1 : i < l.length
    · rw [if_pos h1, List.getElem?_append_left h1]; rwa [List.getElem?_append_left h1] at hp
    · rw [if_neg h1]
      rw [List.getElem?_append_right (by omega)] at hp
      by_cases h2 : i < l.length + r.length
      · rw [if_pos h2, List.getElem?_append_right (by omega), show i + 1 - l.length = (i - l.length) + 1 by omega, List.getElem?_cons_succ]
        rwa [List.getElem?_append_left (by omega)] at hp
      · rw [if_neg h2, List.getElem?_append_right (Nat.le_refl _), Nat.sub_self, List.getElem?_cons_zero]
        rw [List.getElem?_append_right (by omega), show i - l.length - r.length = 0 by omega] at hp
        exact hp
  refine ⟨h.size, fun i p hp => h.ok _ p (g i p hp).1, fun i j p q' hp hq hij => h.apart _ _ p q' (g i p hp).1 (g j q' hq).1 ?_, fun i p hp => h.low _ p (g i p hp).1⟩
  have a := (g i p hp).2; have b := (g j q' hq).2
  clear hp hq g
  repeat' split
  all_goals omega
section
variable {w0 w4 W V : World} {base PB WB RB N c0 i cn : Nat} {E made : List Part} {v v' : Value} {L : List O4} {q8 : Part}
theorem nb_newF (h : NB w0 w4 base WB RB N cn E made W) (a : Nat) : Calls Tryz.prog 18 #[.int .u32 (a : Int)] W fun e w' => ∃ B, e = .returned (Pw B) ∧ NB w0 w4 base WB RB N cn E (made ++ [freeP B (fr0 a)]) w' := by
  refine (new_free a W).mono ?_
  rintro e w' ⟨rfl, rfl⟩
  exact ⟨_, rfl, h.push _⟩
theorem nb_newG (h : NB w0 w4 base WB RB N cn E made W) (a : Nat) : Calls Tryz.prog 19 #[.int .u32 (a : Int)] W fun e w' => ∃ C, e = .returned (Pw C) ∧ NB w0 w4 base WB RB N cn E (made ++ [freeRP C (fr0 a)]) w' := by
  refine (new_rfree a W).mono ?_
  rintro e w' ⟨rfl, rfl⟩
  exact ⟨_, rfl, h.push _⟩
theorem layOp4 : S10.Lay 61 66 4 32 (.agg #[.pointer none, .pointer none, .pointer none, .pointer none]) := ⟨Tryz.underlying61, S10.info_of (by kernel_rfl), rfl, by decide, by decide⟩
theorem rd_four (w : World) (a b c d : Value) (T : TypeId) : S10.Rd (w.alloc (.cells #[a, b, c, d] T)) (w.heap.size + 1) (some ⟨w.heap.size, 0, none⟩) [a, b, c, d] := fun _ => by
  refine ⟨w.heap.size, 0, rfl, by omega, fun j x e => ?_⟩
  have hnew := heap_alloc_new w (.cells #[a, b, c, d] T)
  rw [cell_row hnew, Nat.zero_add]
  simpa using e
theorem nb_fin4 {B C : Nat} {T : Tk} (h : NB w0 w4 base WB RB N (c0 + 2 * i) (pre4 PB WB RB base v L ++ (lparts4 L ++ [q8])) [T.p B, T.rp C] W) (hk : T.ok) (hks : ∀ o ∈ L, o.2.2.ok) (hL : L.length ≤ i)
    (hr : S10.Row V base 4 v' (L.length + 1) (lcs4 L ++ T.four B C)) (t : S10.Turns (fun k => v.ownBlock = some k) W V) (ho : v'.ownBlock = v.ownBlock ∨ v'.ownBlock = some W.heap.size) : PI4 w0 V base PB WB RB N c0 (i + 1) v' (L ++ [(B, C, T)]) [q8] := by
  obtain ⟨⟨tn, M, X, Y, hb⟩, h2⟩ := h
  have hp := hb.pr
  unfold PairAt at hp
  have e : X.parts ++ (Y.parts ++ ((pre4 PB WB RB base v L ++ (lparts4 L ++ [q8])) ++ [T.p B, T.rp C])) = (X.parts ++ (Y.parts ++ (pre4 PB WB RB base v L ++ lparts4 L))) ++ (q8 :: [T.p B, T.rp C]) := by simp [List.append_assoc]
  rw [e] at hp
  have hp2 := parts_rot hp
  have e2 : (X.parts ++ (Y.parts ++ (pre4 PB WB RB base v L ++ lparts4 L))) ++ ([T.p B, T.rp C] ++ [q8]) = X.parts ++ (Y.parts ++ (pre4 PB WB RB base v L ++ (lparts4 (L ++ [(B, C, T)]) ++ [q8]))) := by
    rw [lparts4_snoc]
    simp [List.append_assoc, lp4]
  rw [e2] at hp2
  have hb1 : Bg w0 W base WB RB N (c0 + 2 * i) tn M M (pre4 PB WB RB base v L ++ (lparts4 (L ++ [(B, C, T)]) ++ [q8])) X Y := { hb with pr := hp2 }
  have hr2 : S10.Row V base 4 v' (L ++ [(B, C, T)]).length (lcs4 (L ++ [(B, C, T)])) := by rw [lcs4_snoc, List.length_append]; exact hr
  have hb2 := bg_row4 hb1 hr2 t ho
  refine ⟨⟨tn, M, X, Y, hb2.mono (Nat.le_refl _) (by omega) (Nat.le_refl _)⟩, fun o ho => ?_, by rw [List.length_append]; simp; omega⟩
  rcases List.mem_append.1 ho with h | h
  · exact hks _ h
  · simp at h; rw [h]; exact hk
end
end Go.Proofs.YtlflagjnlclffaaGreat.S14
namespace Go.Proofs.YtlflagjnlclffaaGreat.S14
set_option maxRecDepth 100000
set_option maxHeartbeats 16000000
open Go.Proofs.YtlflagjnlclffaaGreat Go.Proofs.YtlflagjnlclffaaGreat.S11 Go.Proofs.YtlflagjnlclffaaGreat.S12 Go.Proofs.YtlflagjnlclffaaGreat.S13
open Go.RowKit
section
variable {w0 w w' : World} {base PB WB RB N c0 i : Nat} {v : Value} {L : List O4} {R : List Part}
theorem opstep_fr (h : PI4 w0 w base PB WB RB N c0 i v L R) (hc : c0 + 2 * i ≤ 2099999) {j B C : Nat} {K : Fr} (hj : L[j]? = some (B, C, .fr K)) :
    Calls Tryz.prog 20 #[.agg #[.pointer none, Pw B, .pointer none, Pw C], .agg #[Pw WB, Pw RB]] w fun e w' => e = .returned (.bool true) ∧ ∃ L', PI4 w0 w' base PB WB RB N c0 (i + 1) v L' R ∧ lcs4 L' = lcs4 L ∧ L'.length = L.length := by
  obtain ⟨Q1, hQ1⟩ : ∃ Q, Q = w.heap.size := ⟨_, rfl⟩
  obtain ⟨wa, hwa⟩ : ∃ W, W = w.alloc (.cells #[.pointer none, Pw B, .pointer none, Pw C] 66) := ⟨_, rfl⟩
  obtain ⟨Q2, hQ2⟩ : ∃ Q, Q = wa.heap.size := ⟨_, rfl⟩
  have hst := h.step hc hj hQ1 hwa hQ2
  simp only [Tk.fR, Tk.fP, Tk.fO] at hst
  have hq1 := heap_alloc_new w (.cells #[.pointer none, Pw B, .pointer none, Pw C] 66)
  rw [← hwa, ← hQ1] at hq1
  have hq2 := heap_alloc_new wa (.cells #[Pw WB, Pw RB] 36)
  rw [← hQ2] at hq2
  have hq1 := ((below1 wa (.cells #[Pw WB, Pw RB] 36)).block Q1 (Array.getElem?_eq_some_iff.1 hq1).1).trans hq1
  have x0 := cell_row hq1 0; have x1 := cell_row hq1 1; have x2 := cell_row hq1 2; have x3 := cell_row hq1 3; have y0 := cell_row hq2 0; have y1 := cell_row hq2 1
  simp only [List.getElem?_toArray, List.getElem?_cons_zero, List.getElem?_cons_succ] at x0 x1 x2 x3 y0 y1
  have HST := Lib.hid hst
  have hq12 : Q1 + 1 = Q2 := by rw [hQ1, hQ2, hwa]; exact (Array.size_push _).symm
  have HE := Lib.hid (And.intro hQ1 (And.intro hwa hq12))
  clear hst hq1 hq2 hQ1 hwa hQ2 hq12 h hj hc
  go_enter Tryz.func20, Tryz.ntmps20
  go_upto_region 1 with (fail)
  rw [← HE.out.1, ← HE.out.2.1, HE.out.2.2]
  generalize wa.alloc (.cells #[Pw WB, Pw RB] 36) = wb at *
  go_upto_region 2 with (fail)
  go_upto_region 3 with (go_at_call 72; refine HST.out.mono ?_; rintro e w6 ⟨rfl, T', hf, hfo, hcf, hr, hn1⟩)
  have z := hcf.1
  have HN1 := Lib.hid hn1
  clear x0 x1 x2 x3 y0 y1 HST hn1 hf hfo
  have x0 := cell_row hcf.1 1; have x1 := cell_row hcf.1 3; have y0 := cell_row hcf.2 0; have y1 := cell_row hcf.2 1
  simp only [Tk.four, List.getElem?_toArray, List.getElem?_cons_zero, List.getElem?_cons_succ] at x0 x1 y0 y1
  have k0 := Tk.rln hr
  have e0 : ((T'.ln : Int) == 0) = decide (T'.ln = 0) := by
    by_cases e : T'.ln = 0
    · rw [e]; rfl
    · rw [decide_eq_false e, beq_eq_false_iff_ne]; omega
  clear z hcf hr
  generalize decide (T'.ln = 0) = v0 at *
  generalize (T'.ln : Int) = n0 at *
  cases v0 with
  | true =>
    go_upto_region 4 with (fail)
    go_wp2_with (first
      | (go_at_call 21; refine HN3.out.mono ?_; rintro e w8 ⟨rfl, rfl⟩)
      | (go_at_call 22; refine HN1.out.mono ?_; rintro e w7 ⟨rfl, hcf7, hn3, L', h7⟩; have HN3 := Lib.hid hn3; have x2 := cell_row hcf7.1 1; simp only [Tk.four, List.getElem?_toArray, List.getElem?_cons_zero, List.getElem?_cons_succ] at x2; have H7 := Lib.hid h7; clear hcf7 hn3 h7))
    go_ret
    exact ⟨rfl, L', H7.out⟩
  | false =>
    go_upto_region 4 with (fail)
    go_wp2_with (first
      | (go_at_call 21; refine HN3.out.mono ?_; rintro e w8 ⟨rfl, rfl⟩)
      | (go_at_call 22; refine HN1.out.mono ?_; rintro e w7 ⟨rfl, hcf7, hn3, L', h7⟩; have HN3 := Lib.hid hn3; have x2 := cell_row hcf7.1 1; simp only [Tk.four, List.getElem?_toArray, List.getElem?_cons_zero, List.getElem?_cons_succ] at x2; have H7 := Lib.hid h7; clear hcf7 hn3 h7))
    go_ret
    exact ⟨rfl, L', H7.out⟩
theorem opstep_lk (h : PI4 w0 w base PB WB RB N c0 i v L R) (hc : c0 + 2 * i ≤ 2099999) {j B C : Nat} {K : Lk} (hj : L[j]? = some (B, C, .lk K)) :
    Calls Tryz.prog 20 #[.agg #[Pw B, .pointer none, Pw C, .pointer none], .agg #[Pw WB, Pw RB]] w fun e w' => e = .returned (.bool true) ∧ ∃ L', PI4 w0 w' base PB WB RB N c0 (i + 1) v L' R ∧ lcs4 L' = lcs4 L ∧ L'.length = L.length := by
  obtain ⟨Q1, hQ1⟩ : ∃ Q, Q = w.heap.size := ⟨_, rfl⟩
  obtain ⟨wa, hwa⟩ : ∃ W, W = w.alloc (.cells #[Pw B, .pointer none, Pw C, .pointer none] 66) := ⟨_, rfl⟩
  obtain ⟨Q2, hQ2⟩ : ∃ Q, Q = wa.heap.size := ⟨_, rfl⟩
  have hst := h.step hc hj hQ1 hwa hQ2
  simp only [Tk.fR, Tk.fP, Tk.fO] at hst
  have hq1 := heap_alloc_new w (.cells #[Pw B, .pointer none, Pw C, .pointer none] 66)
  rw [← hwa, ← hQ1] at hq1
  have hq2 := heap_alloc_new wa (.cells #[Pw WB, Pw RB] 36)
  rw [← hQ2] at hq2
  have hq1 := ((below1 wa (.cells #[Pw WB, Pw RB] 36)).block Q1 (Array.getElem?_eq_some_iff.1 hq1).1).trans hq1
  have x0 := cell_row hq1 0; have x1 := cell_row hq1 1; have x2 := cell_row hq1 2; have x3 := cell_row hq1 3; have y0 := cell_row hq2 0; have y1 := cell_row hq2 1
  simp only [List.getElem?_toArray, List.getElem?_cons_zero, List.getElem?_cons_succ] at x0 x1 x2 x3 y0 y1
  have HST := Lib.hid hst
  have hq12 : Q1 + 1 = Q2 := by rw [hQ1, hQ2, hwa]; exact (Array.size_push _).symm
  have HE := Lib.hid (And.intro hQ1 (And.intro hwa hq12))
  clear hst hq1 hq2 hQ1 hwa hQ2 hq12 h hj hc
  go_enter Tryz.func20, Tryz.ntmps20
  go_upto_region 1 with (fail)
  rw [← HE.out.1, ← HE.out.2.1, HE.out.2.2]
  generalize wa.alloc (.cells #[Pw WB, Pw RB] 36) = wb at *
  go_upto_region 5 with (fail)
  go_upto_region 6 with (go_at_call 13; refine HST.out.mono ?_; rintro e w6 ⟨rfl, T', hf, hfo, hcf, hr, hn1⟩)
  have z := hcf.1
  have HN1 := Lib.hid hn1
  clear x0 x1 x2 x3 y0 y1 HST hn1 hf hfo
  have x0 := cell_row hcf.1 0; have x1 := cell_row hcf.1 2; have y0 := cell_row hcf.2 0; have y1 := cell_row hcf.2 1
  simp only [Tk.four, List.getElem?_toArray, List.getElem?_cons_zero, List.getElem?_cons_succ] at x0 x1 y0 y1
  have k0 := Tk.rln hr
  have e0 : ((T'.ln : Int) == 0) = decide (T'.ln = 0) := by
    by_cases e : T'.ln = 0
    · rw [e]; rfl
    · rw [decide_eq_false e, beq_eq_false_iff_ne]; omega
  clear z hcf hr
  generalize decide (T'.ln = 0) = v0 at *
  generalize (T'.ln : Int) = n0 at *
  cases v0 with
  | true =>
    go_upto_region 7 with (fail)
    go_wp2_with (first
      | (go_at_call 42; refine HN3.out.mono ?_; rintro e w8 ⟨rfl, rfl⟩)
      | (go_at_call 14; refine HN1.out.mono ?_; rintro e w7 ⟨rfl, hcf7, hn3, L', h7⟩; have HN3 := Lib.hid hn3; have x2 := cell_row hcf7.1 0; simp only [Tk.four, List.getElem?_toArray, List.getElem?_cons_zero, List.getElem?_cons_succ] at x2; have H7 := Lib.hid h7; clear hcf7 hn3 h7))
    go_ret
    exact ⟨rfl, L', H7.out⟩
  | false =>
    go_upto_region 7 with (fail)
    go_wp2_with (first
      | (go_at_call 42; refine HN3.out.mono ?_; rintro e w8 ⟨rfl, rfl⟩)
      | (go_at_call 14; refine HN1.out.mono ?_; rintro e w7 ⟨rfl, hcf7, hn3, L', h7⟩; have HN3 := Lib.hid hn3; have x2 := cell_row hcf7.1 0; simp only [Tk.four, List.getElem?_toArray, List.getElem?_cons_zero, List.getElem?_cons_succ] at x2; have H7 := Lib.hid h7; clear hcf7 hn3 h7))
    go_ret
    exact ⟨rfl, L', H7.out⟩
theorem PI4.op (h : PI4 w0 w base PB WB RB N c0 i v L R) (hc : c0 + 2 * i ≤ 2099999) {j B C : Nat} {T : Tk} (hj : L[j]? = some (B, C, T)) :
    Calls Tryz.prog 20 #[.agg (T.four B C).toArray, .agg #[Pw WB, Pw RB]] w fun e w' => e = .returned (.bool true) ∧ ∃ L', PI4 w0 w' base PB WB RB N c0 (i + 1) v L' R ∧ lcs4 L' = lcs4 L ∧ L'.length = L.length := by
  cases T with
  | fr K => exact opstep_fr h hc hj
  | lk K => exact opstep_lk h hc hj
end
end Go.Proofs.YtlflagjnlclffaaGreat.S14
namespace Go.Proofs.YtlflagjnlclffaaGreat.S14
set_option maxRecDepth 100000
set_option maxHeartbeats 16000000
open Go.Proofs.YtlflagjnlclffaaGreat Go.Proofs.YtlflagjnlclffaaGreat.S11 Go.Proofs.YtlflagjnlclffaaGreat.S12 Go.Proofs.YtlflagjnlclffaaGreat.S13
open Go.RowKit
section
variable {P : Program} {md : Region.Mode} {ops : Array Oper} {Q : Exit → Act → World → Prop} {S S' : World → Prop}
theorem wpAnyH_more' (h : ∀ w, S' w → S w) : ∀ (fuel : Nat) (listed : Array Bool) (a : Act) (w : World), wpAnyH P md ops Q S' fuel listed a w → wpAnyH P md ops Q S fuel listed a w
  | 0, _, _, _, hq => hq
  | fuel + 1, _, _, _, hq => ⟨hq.1, fun i hi => wpOp_mono (fun a' w' h' => ⟨h w' h'.1, wpAnyH_more' h fuel _ a' w' h'.2⟩) (hq.2 i hi)⟩
end
def fit (p : Sd × Fr) : Sd × Fr := (fstepM p.1 p.2, fstepK p.1 p.2)
def fitn (p : Sd × Fr) : Nat → Sd × Fr
  | 0 => p
  | n + 1 => fit (fitn p n)
theorem fstepM_n (M : Sd) (K : Fr) : (fstepM M K).n ≤ M.n + 1 ∧ (fstepM M K).pn ≤ M.pn + 1 := by
  unfold fstepM
  split <;> (try split) <;> simp [Sd.acc, Sd.link, Sd.unpark, Sd.call] <;> omega
theorem fitn_n (p : Sd × Fr) : ∀ n, (fitn p n).1.n ≤ p.1.n + n ∧ (fitn p n).1.pn ≤ p.1.pn + n
  | 0 => ⟨Nat.le_refl _, Nat.le_refl _⟩
  | n + 1 => by
    have h1 := fitn_n p n
    have h2 := fstepM_n (fitn p n).1 (fitn p n).2
    show (fstepM _ _).n ≤ _ ∧ (fstepM _ _).pn ≤ _
    omega
theorem meth_free (a : Addr) (w : World) : (method 434 63 (.pointer (some a)) "Step").run Tryz.prog w = .ok (22, .pointer (some a)) w := by kernel_rfl
section
variable {w0 w w' : World} {base WB : Nat} {M : Sd} {r : List Part} {j B : Nat} {K : Fr} {X : Wm}
theorem Wf.pf (h : Wf w0 w base WB M r j B K X) : X.pf = M.pf := congrArg Sd.pf h.pg.xm
theorem run_f (h : Wf w0 w base WB M r j B K X) (hk : FOk K) (n most : Nat) (hn0 : 0 < n) (hnm : n ≤ most) (hm : most ≤ 100) (hMn : M.n ≤ 900000000) (hMp : M.pn ≤ 900000000)
    (hpos : ∀ i, i < n → (fitn (M, K) i).2.ln ≠ 0) (hend : (fitn (M, K) n).2.ln = 0) :
    Calls Tryz.prog 24 #[Pw WB, .iface 63 (Pw B), .int .i64 (most : Int)] w fun e w' => e = .returned (.int .i64 (n : Int)) ∧ ∃ X', Wf w0 w' base WB (fitn (M, K) n).1 r j B (fitn (M, K) n).2 X' := by
  have hm1 := meth_free ⟨B, 0, none⟩
  have H := Lib.hid (And.intro h hk); have HP := Lib.hid (And.intro hpos hend); have HB := Lib.hid (And.intro hn0 (And.intro hnm (And.intro hm (And.intro hMn hMp))))
  clear h hk hpos hend hn0 hnm hm hMn hMp
  go_enter Tryz.func24, Tryz.ntmps24
  go_wp2_with fail
  go_loopg [7] n (fun q s7 wx => ∃ i : Nat, i < n ∧ q = n - i ∧ s7 = .int .i64 ((i + 1 : Nat) : Int) ∧ FOk (fitn (M, K) i).2 ∧ ∃ X, Wf w0 wx base WB (fitn (M, K) i).1 r j B (fitn (M, K) i).2 X)
  case atStart => exact ⟨0, HB.out.1, by omega, rfl, H.out.2, X, H.out.1⟩
  case round =>
    obtain ⟨i, hi, rfl, rfl, hok, X2, hw⟩ := hrel
    have hb := fitn_n (M, K) i
    have hst := step_f hw (hok.ok (by have := HB.out; have h1 : (M, K).1.n = M.n := rfl; omega) (by have := HB.out; have h1 : (M, K).1.pn = M.pn := rfl; omega)) hok.ln
    have hok2 := hok.step hw.look (fun k => pg_le hw.pg k)
    have hle : ((i + 1 : Nat) : Int) ≤ (most : Int) := by have := HB.out; omega
    have d1 : decide (((i + 1 : Nat) : Int) ≤ (most : Int)) = true := decide_eq_true hle
    have HOK2 := Lib.hid hok2; have HI := Lib.hid hi
    by_cases he : i + 1 = n
    · have e0 : (fstepK (fitn (M, K) i).1 (fitn (M, K) i).2).ln = 0 := by
        have := HP.out.2
        rw [← he] at this
        exact this
      rw [decide_eq_true e0] at hst
      have HST := Lib.hid hst; have HE := Lib.hid he
      clear hst hw hok hok2 hb e0 he hi
      go_wp2_with (go_at_call 22; refine HST.out.mono ?_; rintro e w6 ⟨rfl, hs⟩)
      go_ret
      obtain ⟨X3, h3⟩ := hs
      refine ⟨by rw [← HE.out]; simp, X3, ?_⟩
      rw [← HE.out]; exact h3
    · have e0 : ¬ (fstepK (fitn (M, K) i).1 (fitn (M, K) i).2).ln = 0 := HP.out.1 (i + 1) (by have := HI.out; omega)
      rw [decide_eq_false e0] at hst
      have HST := Lib.hid hst; have HE := Lib.hid he
      have hm9 : i + 1 ≤ 100 := by have := HB.out; omega
      clear hst hw hok hok2 hb e0 he hi
      go_wp2_with (go_at_call 22; refine HST.out.mono ?_; rintro e w6 ⟨rfl, hs⟩)
      go_roundg (n - (i + 1))
      case measure => have := HI.out; omega
      case rel => exact ⟨i + 1, by have := HI.out; have := HE.out; omega, rfl, by go_num, HOK2.out, hs⟩
end
def qM (M : Sd) (t : Nat) : Sd := (((((M.acc 3 267 (S2.look M.L 267)).prep (2 * t + 1)).link (S5.pushS M.lk (some t) (hdO (S2.look M.L 267)))).acc 3 267 (S1.putU true (S1.bitB (S2.look M.L 267) 1) t)).park (2 * t + 1))
theorem bring267 (v : Nat) : S2.bring 267 v = v := by
  have e : S2.byteB 267 = false := by decide
  unfold S2.bring; rw [e]; rfl
theorem look267 (M : Sd) (k y : Nat) : S2.look (M.acc k 267 y).L 267 = y := by
  show S2.look (S2.putL M.L 267 (S2.bring 267 y)) 267 = y
  rw [S2.look_put_same, bring267]
def qp (M : Sd) (t : Nat) : Nat → Sd × Lk
  | 0 => (M, lk1 t 267)
  | 1 => (M.acc 3 267 (S2.look M.L 267), ⟨4, t, 267, S2.look M.L 267, M.sp⟩)
  | 2 => ((((M.acc 3 267 (S2.look M.L 267)).prep (2 * t + 1)).link (S5.pushS M.lk (some t) (hdO (S2.look M.L 267)))), ⟨5, t, 267, S2.look M.L 267, M.sp⟩)
  | _ => ((((M.acc 3 267 (S2.look M.L 267)).prep (2 * t + 1)).link (S5.pushS M.lk (some t) (hdO (S2.look M.L 267)))).acc 3 267 (S1.putU true (S1.bitB (S2.look M.L 267) 1) t), ⟨6, t, 267, S2.look M.L 267, M.sp⟩)
section
variable {M : Sd} {t : Nat}
theorem bit_ne {u : Nat} (hb : S1.bitB u 0 = true) : u ≠ 0 := by
  intro e; subst e; revert hb; decide
theorem qp_step (hs : M.sp = 0) (hb : S1.bitB (S2.look M.L 267) 0 = true) (i : Nat) (hi : i < 3) : stepM (qp M t i).1 (qp M t i).2 = (qp M t (i + 1)).1 ∧ stepK (qp M t i).1 (qp M t i).2 = (qp M t (i + 1)).2 := by
  obtain ⟨u, hu⟩ : ∃ u, u = S2.look M.L 267 := ⟨_, rfl⟩
  rcases (show i = 0 ∨ i = 1 ∨ i = 2 by omega) with rfl | rfl | rfl
  · have hne : ¬ S2.look M.L 267 = 0 := bit_ne hb
    refine ⟨?_, ?_⟩
    · show M.acc 3 267 (S2.casV (S2.look M.L 267) 0 1) = M.acc 3 267 (S2.look M.L 267)
      rw [S2.casV, if_neg hne]
    · show Lk.cas _ (S2.look M.L 267) 0 _ = _
      unfold Lk.cas
      rw [if_neg hne]
      unfold Lk.turn
      rw [if_neg (by rw [hb]; decide)]
      show (if S1.headN (S2.look M.L 267) = -1 then (if 0 < M.sp then _ else _) else _) = _
      rw [hs]
      split
      · rw [if_neg (by omega)]; rfl
      · rfl
  · exact ⟨rfl, rfl⟩
  · have hl : S2.look ((((M.acc 3 267 (S2.look M.L 267)).prep (2 * t + 1)).link (S5.pushS M.lk (some t) (hdO (S2.look M.L 267))))).L 267 = S2.look M.L 267 := look267 M 3 _
    refine ⟨?_, ?_⟩
    · show Sd.acc _ 3 267 (S2.casV (S2.look ((((M.acc 3 267 (S2.look M.L 267)).prep (2 * t + 1)).link (S5.pushS M.lk (some t) (hdO (S2.look M.L 267))))).L 267) (S2.look M.L 267) (S1.putU (S1.bitB (S2.look M.L 267) 0) (S1.bitB (S2.look M.L 267) 1) t)) = _
      rw [hl, S2.casV, if_pos rfl, hb]; rfl
    · show Lk.cas _ (S2.look ((((M.acc 3 267 (S2.look M.L 267)).prep (2 * t + 1)).link (S5.pushS M.lk (some t) (hdO (S2.look M.L 267))))).L 267) (S2.look M.L 267) _ = _
      rw [hl]
      unfold Lk.cas
      rw [if_pos rfl]; rfl
theorem qp_ln (i : Nat) (hi : i ≤ 3) : (qp M t i).2.ln ≠ 0 ∧ (i < 3 → (qp M t i).2.ln ≠ 6) ∧ (i = 3 → (qp M t i).2.ln = 6) ∧ (qp M t i).2.ln ≤ 6 := by
  rcases (show i = 0 ∨ i = 1 ∨ i = 2 ∨ i = 3 by omega) with rfl | rfl | rfl | rfl
  · exact ⟨by show 1 ≠ 0; omega, fun _ => by show 1 ≠ 6; omega, fun h => by omega, by show 1 ≤ 6; omega⟩
  · exact ⟨by show 4 ≠ 0; omega, fun _ => by show 4 ≠ 6; omega, fun h => by omega, by show 4 ≤ 6; omega⟩
  · exact ⟨by show 5 ≠ 0; omega, fun _ => by show 5 ≠ 6; omega, fun h => by omega, by show 5 ≤ 6; omega⟩
  · exact ⟨by show 6 ≠ 0; omega, fun h => by omega, fun _ => rfl, by show 6 ≤ 6; omega⟩
theorem qp_ok (ht : t < 64) (hs : M.sp = 0) (hl : S2.look M.L 267 < 18446744073709551616) (hn : M.n ≤ 900000000) (hp : M.pn ≤ 900000000) (i : Nat) (hi : i ≤ 3) : LkOk (qp M t i).1 (qp M t i).2 := by
  have hs0 : (0 : Int) ≤ M.sp ∧ M.sp ≤ 16 := by omega
  rcases (show i = 0 ∨ i = 1 ∨ i = 2 ∨ i = 3 by omega) with rfl | rfl | rfl | rfl
  · exact ⟨ht, by show 267 < _; omega, by show 0 < _; omega, ⟨by show (0 : Int) ≤ 0; omega, by show (0 : Int) ≤ 16; omega⟩, hs0, by show M.n ≤ _; omega, by show M.pn ≤ _; omega⟩
  · exact ⟨ht, by show 267 < _; omega, hl, hs0, hs0, by show M.n + 1 ≤ _; omega, by show M.pn ≤ _; omega⟩
  · exact ⟨ht, by show 267 < _; omega, hl, hs0, hs0, by show M.n + 1 ≤ _; omega, by show M.pn + 1 ≤ _; omega⟩
  · exact ⟨ht, by show 267 < _; omega, hl, hs0, hs0, by show M.n + 1 + 1 ≤ _; omega, by show M.pn + 1 ≤ _; omega⟩
theorem qp_last : stepM (qp M t 3).1 (qp M t 3).2 = qM M t ∧ stepK (qp M t 3).1 (qp M t 3).2 = (qp M t 3).2 := by
  refine ⟨rfl, ?_⟩
  have hp : ((qp M t 3).1.pf (2 * t + 1)).p = false := by
    show (S4.updP M.pf (2 * t + 1) S4.pk0 (2 * t + 1)).p = false
    unfold S4.updP
    rw [if_pos rfl]; rfl
  show (if ((qp M t 3).1.pf (2 * t + 1)).p then _ else _) = _
  rw [hp]; rfl
theorem qM_asleep : ((qM M t).pf (2 * t + 1)).a = true := by
  have hp : (S4.updP M.pf (2 * t + 1) S4.pk0 (2 * t + 1)) = S4.pk0 := by unfold S4.updP; rw [if_pos rfl]
  show (S4.updP (S4.updP M.pf (2 * t + 1) S4.pk0) (2 * t + 1) (S4.parkK (S4.updP M.pf (2 * t + 1) S4.pk0 (2 * t + 1))) (2 * t + 1)).a = true
  rw [hp]
  unfold S4.updP
  rw [if_pos rfl]; rfl
end
section
variable {w0 w w' : World} {base WB : Nat} {M : Sd} {r : List Part} {X : Wm}
theorem pg_drop {q : Part} (h : Pg w0 w base WB M (r ++ [q]) X) : Pg w0 w base WB M r X := by
  have hp := h.ps
  rw [← List.append_assoc] at hp
  exact ⟨Parts.left hp, h.wB, h.xm, h.bl⟩
theorem queued_f (h : Pg w0 w base WB M r X) {t : Nat} (ht : t < 64) (hs : M.sp = 0) (hb : S1.bitB (S2.look M.L 267) 0 = true) (hn : M.n ≤ 900000000) (hp : M.pn ≤ 900000000) :
    Calls Tryz.prog 71 #[Pw WB, .int .i64 (t : Int)] w fun e w' => e = .returned (.bool true) ∧ ∃ X', Pg w0 w' base WB (qM M t) r X' := by
  have hl : S2.look M.L 267 < 18446744073709551616 := by
    have := S2.look_lt h.pw.cells.good 267
    rwa [show X.L = M.L from congrArg Sd.L h.xm] at this
  have hnl : Calls Tryz.prog 8 #[.int .i64 (t : Int), .int .u32 267] w fun e w' => e = .returned (Pw w.heap.size) ∧ w' = w.alloc (.cells (lk1 t 267).cs 130) := by
    have := new_lock (t : Int) 267 w
    rwa [show newK (t : Int) 267 = lk1 t 267 by unfold newK; rw [if_pos ⟨by omega, by omega⟩]; rfl] at this
  have HNL := Lib.hid hnl
  have h1 := Pg.lock h (lk1 t 267)
  have HLN := Lib.hid (fun i (hi : i ≤ 3) => qp_ln (M := M) (t := t) i hi)
  have HOK := Lib.hid (fun i (hi : i ≤ 3) => qp_ok ht hs hl hn hp i hi)
  have HSP := Lib.hid (fun i (hi : i < 3) => qp_step (M := M) (t := t) hs hb i hi)
  have H1 := Lib.hid h1
  have HWD := Lib.hid (fun W => word_any t ht W)
  have HT := Lib.hid ht
  clear h hl hnl h1 hs hb hn hp ht
  go_enter Tryz.func71, Tryz.ntmps71
  go_upto_region 2 with (go_at_call 8; refine HNL.out.mono ?_; rintro e w1 ⟨rfl, rfl⟩)
  generalize w.alloc (.cells (lk1 t 267).cs 130) = w1 at *
  generalize w.heap.size = B at *
  clear HNL
  go_wp2_with fail
  go_loopg [6] 3 (fun q s6 wx => ∃ i : Nat, i ≤ 3 ∧ q = 3 - i ∧ s6 = .int .i64 (i : Int) ∧ ∃ X, Wl w0 wx base WB (qp M t i).1 (r ++ [lockP B (lk1 t 267)]) r.length B (qp M t i).2 X)
  case atStart => exact ⟨0, by omega, rfl, rfl, X, H1.out⟩
  case round =>
    obtain ⟨i, hi, rfl, rfl, X2, hw⟩ := hrel
    have hln := HLN.out i hi
    have hwt := waits_any hw.at
    have d100 : (i : Int) < 100 := by omega
    by_cases hi3 : i < 3
    · rw [decide_eq_false (hln.2.1 hi3)] at hwt
      have hst := step_any hw (HOK.out i hi) hln.2.2.2
      have hsp := HSP.out i hi3
      unfold S13.Stepped at hst
      rw [hsp.1, hsp.2, decide_eq_false (HLN.out (i + 1) (by omega)).1] at hst
      have HWT := Lib.hid hwt; have HST := Lib.hid hst; have HI := Lib.hid hi3
      clear hwt hst hsp hw hln hi hi3
      go_wp2_with (first
        | (go_at_call 25; refine HWT.out.mono ?_; rintro e w2 ⟨rfl, rfl⟩)
        | (go_at_call 14; refine HST.out.mono ?_; rintro e w3 ⟨rfl, hs⟩))
      go_roundg (3 - (i + 1))
      case measure => have := HI.out; omega
      case rel => exact ⟨i + 1, by have := HI.out; omega, rfl, by go_num, hs⟩
    · obtain rfl : i = 3 := by omega
      rw [decide_eq_true (hln.2.2.1 rfl)] at hwt
      have hst := step_any (hw.new (Below.refl _ _).drew) (HOK.out 3 hi) hln.2.2.2
      unfold S13.Stepped at hst
      rw [qp_last.1, qp_last.2, decide_eq_false hln.1] at hst
      have hwt2 : ∀ W X4, Wl w0 W base WB (qM M t) (r ++ [lockP B (lk1 t 267)]) r.length B (qp M t 3).2 X4 → Calls Tryz.prog 25 #[Pw B] W fun e w' => e = .returned (.bool true) ∧ W = w' := fun W X4 h4 => by
        have := waits_any h4.at
        rwa [decide_eq_true ((HLN.out 3 (by omega)).2.2.1 rfl)] at this
      have hsl : ∀ W X4, Wl w0 W base WB (qM M t) (r ++ [lockP B (lk1 t 267)]) r.length B (qp M t 3).2 X4 → Calls Tryz.prog 27 #[Pw X4.pB, .int .i64 ((2 * t + 1 : Nat) : Int)] W fun e w' => e = .returned (.bool true) ∧ W = w' := fun W X4 h4 => by
        have := S4.asleep_yes h4.pg.pw.permits (i := 2 * t + 1) (by have := HT.out; omega)
        rwa [show X4.pf = (qM M t).pf from congrArg Sd.pf h4.pg.xm, qM_asleep] at this
      have HWT0 := Lib.hid hwt; have HST := Lib.hid hst; have HWT := Lib.hid hwt2; have HSL := Lib.hid hsl
      clear hwt hwt2 hsl hst hw hln hi hi3 HSP HOK HLN
      go_upto_region 6 with (go_at_call 25; refine HWT0.out.mono ?_; rintro e w2 ⟨rfl, rfl⟩)
      refine wp_region_held_drew (S := fun _ => True) (by kernel_rfl) ?_ (fun hHeld => ?_)
      · trivial
      refine tA 0 ⟨some 21, .move (.tmp 5), 45, "outright.go:39", #[], none⟩ ?vqm1 ?rqm1
      (try simp only [Act.put, tC, tD, tE])
      refine tA 1 ⟨some 22, .move (.tmp 0), 33, "outright.go:39", #[], none⟩ ?vqm2 ?rqm2
      (try simp only [Act.put, tC, tD, tE])
      refine wpAnyH_ready (rs := [2]) (by kernel_rfl) (by simp) ?_
      refine AllReadyH.cons (o := ⟨some 23, .call ⟨.value (.func 14), #[.tmp 21, .tmp 22], #[45, 33]⟩, 4, "outright.go:39", #[⟨0, .data⟩, ⟨1, .data⟩], none⟩) rfl (fun Kq hKq => ?_) AllReadyH.nil
      go_simp
      (refine HST.out.mono ?_; rintro e w4 ⟨rfl, X4, h4⟩; have H4 := Lib.hid h4; have HX4 := Lib.hid h4.pg.c.2.1; clear h4)
      refine hKq.out _ _ ?_ (fun hHeld => ?_)
      · trivial
      clear hKq Kq
      (try simp only [Act.put, tC, tD, tE])
      refine wpAnyH_more' (S' := fun w' => w'.cell? ⟨WB, 2, none⟩ = some (Pw X4.pB)) (fun _ _ => trivial) _ _ _ _ ?_
      have hHeld := HX4.out
      refine tA 3 ⟨some 24, .unOp .not 4 (.tmp 23), 4, "outright.go:39", #[⟨2, .data⟩], none⟩ ?vqm3 ?rqm3
      (try simp only [Act.put, tC, tD, tE])
      refine tA 4 ⟨some 25, .move (.tmp 24), 4, "outright.go:39", #[⟨3, .data⟩, ⟨2, .chain⟩], none⟩ ?vqm4 ?rqm4
      (try simp only [Act.put, tC, tD, tE])
      refine tA 5 ⟨some 26, .move (.tmp 5), 45, "outright.go:39", #[⟨4, .guard⟩], some (4, true)⟩ ?vqm5 ?rqm5
      (try simp only [Act.put, tC, tD, tE])
      refine wpAnyH_ready (rs := [6]) (by kernel_rfl) (by simp) ?_
      refine AllReadyH.cons (o := ⟨some 27, .call ⟨.value (.func 25), #[.tmp 26], #[45]⟩, 4, "outright.go:39", #[⟨5, .data⟩, ⟨4, .chain⟩, ⟨4, .guard⟩], some (4, true)⟩) rfl (fun Kq hKq => ?_) AllReadyH.nil
      go_simp
      (refine (HWT.out w4 X4 H4.out).mono ?_; rintro e w8 ⟨rfl, rfl⟩)
      refine hKq.out _ _ ?_ (fun hHeld => ?_)
      · exact HX4.out
      clear hKq Kq
      (try simp only [Act.put, tC, tD, tE])
      refine tA 7 ⟨some 28, .pick (.tmp 25) (.tmp 27) (.const (.bool false)), 4, "outright.go:39", #[⟨4, .data⟩, ⟨6, .data⟩], none⟩ ?vqm6 ?rqm6
      (try simp only [Act.put, tC, tD, tE])
      refine tA 8 ⟨some 29, .move (.tmp 28), 4, "outright.go:39", #[⟨7, .data⟩, ⟨6, .chain⟩], none⟩ ?vqm7 ?rqm7
      (try simp only [Act.put, tC, tD, tE])
      refine tA 9 ⟨some 30, .move (.tmp 0), 33, "outright.go:39", #[⟨8, .guard⟩], some (8, true)⟩ ?vqm8 ?rqm8
      (try simp only [Act.put, tC, tD, tE])
      refine tA 10 ⟨some 31, .nilCheck (.tmp 30), 0, "outright.go:39", #[⟨9, .data⟩, ⟨8, .guard⟩], some (8, true)⟩ ?vqm9 ?rqm9
      (try simp only [Act.put, tC, tD, tE])
      refine tA 11 ⟨some 32, .fieldAddr 89 (.tmp 31) 2, 0, "outright.go:39", #[⟨10, .data⟩, ⟨8, .guard⟩], some (8, true)⟩ ?vqm10 ?rqm10
      (try simp only [Act.put, tC, tD, tE])
      refine tA 12 ⟨some 33, .load 83 (.tmp 32), 83, "outright.go:39", #[⟨11, .data⟩, ⟨8, .guard⟩], some (8, true)⟩ ?vqm11 ?rqm11
      (try simp only [Act.put, tC, tD, tE])
      refine tA 13 ⟨some 34, .move (.tmp 1), 3, "outright.go:39", #[⟨8, .guard⟩], some (8, true)⟩ ?vqm12 ?rqm12
      (try simp only [Act.put, tC, tD, tE])
      refine wpAnyH_ready (rs := [14]) (by kernel_rfl) (by simp) ?_
      refine AllReadyH.cons (o := ⟨some 35, .call ⟨.value (.func 28), #[.tmp 34], #[3]⟩, 3, "outright.go:39", #[⟨13, .data⟩, ⟨8, .chain⟩, ⟨8, .guard⟩], some (8, true)⟩) rfl (fun Kq hKq => ?_) AllReadyH.nil
      go_simp
      (refine (HWD.out _).mono ?_; rintro e w8 ⟨rfl, rfl⟩)
      refine hKq.out _ _ ?_ (fun hHeld => ?_)
      · exact HX4.out
      clear hKq Kq
      (try simp only [Act.put, tC, tD, tE])
      refine wpAnyH_ready (rs := [15]) (by kernel_rfl) (by simp) ?_
      refine AllReadyH.cons (o := ⟨some 36, .call ⟨.value (.func 27), #[.tmp 33, .tmp 35], #[83, 3]⟩, 4, "outright.go:39", #[⟨12, .data⟩, ⟨14, .data⟩, ⟨14, .chain⟩, ⟨8, .guard⟩], some (8, true)⟩) rfl (fun Kq hKq => ?_) AllReadyH.nil
      go_simp
      (refine (HSL.out w4 X4 H4.out).mono ?_; rintro e w8 ⟨rfl, rfl⟩)
      refine hKq.out _ _ ?_ (fun hHeld => ?_)
      · exact HX4.out
      clear hKq Kq
      (try simp only [Act.put, tC, tD, tE])
      refine tA 16 ⟨some 37, .pick (.tmp 29) (.tmp 36) (.const (.bool false)), 4, "outright.go:39", #[⟨8, .data⟩, ⟨15, .data⟩], none⟩ ?vqm13 ?rqm13
      (try simp only [Act.put, tC, tD, tE])
      refine tA 17 ⟨some 4, .assign (.tmp 37), 4, "outright.go:39", #[⟨16, .data⟩, ⟨15, .chain⟩, ⟨0, .phase⟩, ⟨1, .phase⟩, ⟨2, .phase⟩, ⟨3, .phase⟩, ⟨4, .phase⟩, ⟨5, .phase⟩, ⟨6, .phase⟩, ⟨7, .phase⟩, ⟨8, .phase⟩, ⟨9, .phase⟩, ⟨10, .phase⟩, ⟨11, .phase⟩, ⟨12, .phase⟩, ⟨13, .phase⟩, ⟨14, .phase⟩, ⟨15, .phase⟩, ⟨16, .phase⟩], none⟩ ?vqm14 ?rqm14
      (try simp only [Act.put, tC, tD, tE])
      refine wpAnyH_done (by kernel_rfl) ?_ _
      go_wp2_with fail
      go_ret
      refine ⟨rfl, X4, pg_drop (q := lockP B (qp M t 3).2) ?_⟩
      have h4 := H4.out.pg
      rwa [List.set_append_right _ _ (Nat.le_refl _), Nat.sub_self] at h4
def xA : Sd := (sdN 0 5).acc 2 267 1
def xB : Sd × Fr := (xA, fr0 267)
def xC : Sd := (fitn xB 1).1.acc 2 267 1
def xD : Sd × Fr := (qM xC 5, fr0 267)
theorem x1 : (fitn xB 1).2.ln = 0 ∧ S2.look (fitn xB 1).1.L 267 = 0 := ⟨by kernel_rfl, by kernel_rfl⟩
theorem x2 : xC.sp = 0 ∧ S1.bitB (S2.look xC.L 267) 0 = true ∧ xC.n ≤ 900000000 ∧ xC.pn ≤ 900000000 := ⟨rfl, by kernel_rfl, by show 3 ≤ _; omega, by show 0 ≤ _; omega⟩
theorem x3 : (fitn xD 0).2.ln = 1 ∧ (fitn xD 1).2.ln = 2 ∧ (fitn xD 2).2.ln = 3 ∧ (fitn xD 3).2.ln = 5 ∧ (fitn xD 4).2.ln = 7 ∧ (fitn xD 5).2.ln = 0 := ⟨by kernel_rfl, by kernel_rfl, by kernel_rfl, by kernel_rfl, by kernel_rfl, by kernel_rfl⟩
theorem x4 : S2.look (fitn xD 5).1.L 267 = 0 ∧ ((fitn xD 5).1.pf 11).p = true := ⟨by kernel_rfl, by kernel_rfl⟩
theorem x5 : xD.1.n ≤ 900000000 ∧ xD.1.pn ≤ 900000000 := ⟨by show 5 ≤ _; omega, by show 2 ≤ _; omega⟩
theorem Pg.freeAt (h : Pg w0 w base WB M r X) (K : Fr) : Wf w0 (w.alloc (.cells K.cs 77)) base WB M (r ++ [freeP w.heap.size K]) r.length w.heap.size K X := by
  refine ⟨?_, by rw [List.length_append]; simp⟩
  rw [List.set_append_right _ _ (Nat.le_refl _), Nat.sub_self]
  exact Pg.add h _
theorem Wf.gone {j' B : Nat} {K K' : Fr} (h : Wf w0 w base WB M (r ++ [freeP B K']) r.length B K X) : Pg w0 w base WB M r X := by
  have h4 := h.pg
  rw [List.set_append_right _ _ (Nat.le_refl _), Nat.sub_self] at h4
  exact pg_drop h4
theorem pg_store (h : Pg w0 w base WB M r X) (hn : M.n ≤ 1000000000) : Calls Tryz.prog 43 #[Pw X.cB, .int .u32 267, .int .u64 1] w fun e w' => (∃ v, e = .returned v) ∧ ∃ X', Pg w0 w' base WB (M.acc 2 267 1) r X' := by
  have h1 := h.store (a := 267) (v := 1) (by omega) (by omega) hn
  exact h1.mono (fun e w' hh => ⟨⟨_, hh.1⟩, by obtain ⟨_, X', h2, _⟩ := hh; exact ⟨X', h2⟩⟩)
theorem lives14 (w : World) : Calls Tryz.prog 17 #[] w fun e w' => e = .returned (.bool true) ∧ Below w.heap.size w w' := by
  have HW : Hid (Calls Tryz.prog 23 #[.int .u8 0] w fun e w' => ∃ X, e = .returned (Pw X.wB) ∧ PW w' w.heap.size X ∧ At0 X 0 5 [] ∧ Below w.heap.size w w') := Lib.hid (world_any 0 (by omega) w)
  have HNF : Hid (∀ W, Calls Tryz.prog 18 #[.int .u32 267] W fun e w' => e = .returned (Pw W.heap.size) ∧ w' = W.alloc (.cells (fr0 267).cs 77)) := Lib.hid (fun W => new_free 267 W)
  go_enter Tryz.func17, Tryz.ntmps17
  go_upto_region 4 with (go_at_call 23; refine HW.out.mono ?_; rintro e w1 ⟨X, rfl, hp, h0, hb⟩)
  have hpg := pg_of hp hb
  rw [at0_sd h0] at hpg
  obtain ⟨WB, hWB⟩ : ∃ x, x = X.wB := ⟨_, rfl⟩
  rw [← hWB] at hpg ⊢
  have x0 := hpg.c.1
  have HST := Lib.hid (pg_store hpg (by show 0 ≤ _; omega))
  clear hpg hp h0 hb hWB HW
  go_upto_region 5 with (go_at_call 43; refine HST.out.mono ?_; rintro e w2 ⟨⟨sv, rfl⟩, X2, h2⟩)
  have hf2 := Pg.freeAt h2 (fr0 267)
  have hr2 : Calls Tryz.prog 24 #[Pw WB, .iface 63 (Pw w2.heap.size), .int .i64 9] (w2.alloc (.cells (fr0 267).cs 77)) fun e w' => e = .returned (.int .i64 1) ∧ ∃ X', Wf w w' w.heap.size WB (fitn xB 1).1 ([] ++ [freeP w2.heap.size (fr0 267)]) ([] : List Part).length w2.heap.size (fitn xB 1).2 X' :=
    run_f hf2 (fok_new (by omega)) 1 9 (by omega) (by omega) (by omega) (by show 1 ≤ _; omega) (by show 0 ≤ _; omega) (fun i hi => by
      obtain rfl : i = 0 := by omega
      show 1 ≠ 0
      omega) x1.1
  have HR2 := Lib.hid hr2
  clear h2 x0 HST hf2 hr2
  go_upto_region 6 with (first
    | (go_at_call 18; refine (HNF.out _).mono ?_; rintro e w3 ⟨rfl, rfl⟩)
    | (go_at_call 24; refine HR2.out.mono ?_; rintro e w4 ⟨rfl, X4, h4⟩))
  have hg4 : Pg w w4 w.heap.size WB (fitn xB 1).1 [] X4 := Wf.gone (j' := 0) h4
  have y0 := hg4.c.1
  have HPK0 : Hid (Calls Tryz.prog 26 #[Pw X4.cB, .int .u32 267] w4 fun e w' => e = .returned (.int .u64 0) ∧ w4 = w') := Lib.hid (by
    have := S2.peek_any _ X4.cB X4.cM X4.L X4.n X4.k X4.a X4.was X4.is 267 hg4.pw.cells (by omega)
    rw [show X4.L = (fitn xB 1).1.L from congrArg Sd.L hg4.xm, x1.2] at this
    exact this)
  have HG4 := Lib.hid hg4
  clear h4 hg4 HR2
  go_upto_region 7 with (go_at_call 26; refine HPK0.out.mono ?_; rintro e w5 ⟨rfl, rfl⟩)
  have HST2 := Lib.hid (pg_store HG4.out (by show 2 ≤ _; omega))
  clear HPK0
  go_upto_region 8 with (go_at_call 43; refine HST2.out.mono ?_; rintro e w5 ⟨⟨sv2, rfl⟩, X5, h5⟩)
  have HQ : Hid (Calls Tryz.prog 71 #[Pw WB, .int .i64 5] w5 fun e w' => e = .returned (.bool true) ∧ ∃ X', Pg w w' w.heap.size WB (qM xC 5) [] X') := Lib.hid (queued_f (t := 5) (M := xC) h5 (by omega) x2.1 x2.2.1 x2.2.2.1 x2.2.2.2)
  clear h5 HST2 HG4 y0
  go_upto_region 10 with (go_at_call 71; refine HQ.out.mono ?_; rintro e w6 ⟨rfl, X6, h6⟩)
  have hf6 := Pg.freeAt h6 (fr0 267)
  have hr6 : Calls Tryz.prog 24 #[Pw WB, .iface 63 (Pw w6.heap.size), .int .i64 9] (w6.alloc (.cells (fr0 267).cs 77)) fun e w' => e = .returned (.int .i64 5) ∧ ∃ X', Wf w w' w.heap.size WB (fitn xD 5).1 ([] ++ [freeP w6.heap.size (fr0 267)]) ([] : List Part).length w6.heap.size (fitn xD 5).2 X' :=
    run_f hf6 (fok_new (by omega)) 5 9 (by omega) (by omega) (by omega) x5.1 x5.2 (fun i hi => by
      have h3 := x3
      rcases (show i = 0 ∨ i = 1 ∨ i = 2 ∨ i = 3 ∨ i = 4 by omega) with rfl | rfl | rfl | rfl | rfl
      · rw [show (fitn (qM xC 5, fr0 267) 0).2.ln = 1 from h3.1]; omega
      · rw [show (fitn (qM xC 5, fr0 267) 1).2.ln = 2 from h3.2.1]; omega
      · rw [show (fitn (qM xC 5, fr0 267) 2).2.ln = 3 from h3.2.2.1]; omega
      · rw [show (fitn (qM xC 5, fr0 267) 3).2.ln = 5 from h3.2.2.2.1]; omega
      · rw [show (fitn (qM xC 5, fr0 267) 4).2.ln = 7 from h3.2.2.2.2.1]; omega) x3.2.2.2.2.2
  have HR6 := Lib.hid hr6
  clear h6 HQ hf6 hr6
  go_upto_region 11 with (first
    | (go_at_call 18; refine (HNF.out _).mono ?_; rintro e w7 ⟨rfl, rfl⟩)
    | (go_at_call 24; refine HR6.out.mono ?_; rintro e w8 ⟨rfl, X8, h8⟩))
  have hg8 : Pg w w8 w.heap.size WB (fitn xD 5).1 [] X8 := Wf.gone (j' := 0) h8
  have hgd := hg8.new (Below.refl _ _).drew
  have HPK : Hid (Calls Tryz.prog 26 #[Pw X8.cB, .int .u32 267] w8.drew fun e w' => e = .returned (.int .u64 0) ∧ w8.drew = w') := Lib.hid (by
    have := S2.peek_any _ X8.cB X8.cM X8.L X8.n X8.k X8.a X8.was X8.is 267 hgd.pw.cells (by omega)
    rw [show X8.L = (fitn xD 5).1.L from congrArg Sd.L hgd.xm, x4.1] at this
    exact this)
  have HWD : Hid (∀ W, Calls Tryz.prog 28 #[.int .i64 5] W fun e w' => e = .returned (.int .i64 11) ∧ W = w') := Lib.hid (fun W => word_any 5 (by omega) W)
  have HGO : Hid (Calls Tryz.prog 67 #[Pw X8.pB, .int .i64 11, .int .u64 0] w8.drew fun e w' => e = .returned (.bool true) ∧ Below w8.drew.heap.size w8.drew w') := Lib.hid (by
    have := S4.pgoes_yes hgd.pw.permits (i := 11) (by omega) 0
    rw [show X8.pf = (fitn xD 5).1.pf from congrArg Sd.pf hgd.xm] at this
    have hg : S4.goesB ((fitn xD 5).1.pf 11) 0 = true := by unfold S4.goesB; rw [x4.2]; simp
    rw [hg] at this
    exact this)
  have HF : Hid ((fun w' => w'.cell? ⟨WB, 0, none⟩ = some (Pw X8.cB) ∧ w'.cell? ⟨WB, 2, none⟩ = some (Pw X8.pB)) w8.drew) := Lib.hid ⟨hgd.c.1, hgd.c.2.1⟩
  have HB := Lib.hid hg8.bl
  clear h8 hg8 hgd HR6
  refine wp_region_held_drew (S := fun w' => w'.cell? ⟨WB, 0, none⟩ = some (Pw X8.cB) ∧ w'.cell? ⟨WB, 2, none⟩ = some (Pw X8.pB)) (by kernel_rfl) ?_ (fun hHeld => ?_)
  · exact HF.out
  refine tA 0 ⟨some 34, .move (.tmp 2), 3, "outright.go:30", #[], none⟩ ?vzm1 ?rzm1
  (try simp only [Act.put, tC, tD, tE])
  refine tA 1 ⟨some 35, .binOp .eql 3 (.tmp 34) (.const (.int .i64 1)) 3, 4, "outright.go:30", #[⟨0, .data⟩], none⟩ ?vzm2 ?rzm2
  (try simp only [Act.put, tC, tD, tE])
  refine tA 2 ⟨some 36, .move (.tmp 35), 4, "outright.go:30", #[⟨1, .data⟩], none⟩ ?vzm3 ?rzm3
  (try simp only [Act.put, tC, tD, tE])
  refine tA 3 ⟨some 37, .move (.tmp 3), 22, "outright.go:30", #[⟨2, .guard⟩], some (2, true)⟩ ?vzm4 ?rzm4
  (try simp only [Act.put, tC, tD, tE])
  refine tA 4 ⟨some 38, .binOp .eql 22 (.tmp 37) (.const (.int .u64 0)) 22, 4, "outright.go:30", #[⟨3, .data⟩, ⟨2, .guard⟩], some (2, true)⟩ ?vzm5 ?rzm5
  (try simp only [Act.put, tC, tD, tE])
  refine tA 5 ⟨some 39, .pick (.tmp 36) (.tmp 38) (.const (.bool false)), 4, "outright.go:30", #[⟨2, .data⟩, ⟨4, .data⟩], none⟩ ?vzm6 ?rzm6
  (try simp only [Act.put, tC, tD, tE])
  refine tA 6 ⟨some 40, .move (.tmp 39), 4, "outright.go:30", #[⟨5, .data⟩, ⟨2, .chain⟩], none⟩ ?vzm7 ?rzm7
  (try simp only [Act.put, tC, tD, tE])
  refine tA 7 ⟨some 41, .move (.tmp 4), 3, "outright.go:30", #[⟨6, .guard⟩], some (6, true)⟩ ?vzm8 ?rzm8
  (try simp only [Act.put, tC, tD, tE])
  refine tA 8 ⟨some 42, .binOp .eql 3 (.tmp 41) (.const (.int .i64 5)) 3, 4, "outright.go:30", #[⟨7, .data⟩, ⟨6, .guard⟩], some (6, true)⟩ ?vzm9 ?rzm9
  (try simp only [Act.put, tC, tD, tE])
  refine tA 9 ⟨some 43, .pick (.tmp 40) (.tmp 42) (.const (.bool false)), 4, "outright.go:30", #[⟨6, .data⟩, ⟨8, .data⟩], none⟩ ?vzm10 ?rzm10
  (try simp only [Act.put, tC, tD, tE])
  refine tA 10 ⟨some 44, .move (.tmp 43), 4, "outright.go:30", #[⟨9, .data⟩, ⟨6, .chain⟩], none⟩ ?vzm11 ?rzm11
  (try simp only [Act.put, tC, tD, tE])
  refine tA 11 ⟨some 45, .move (.tmp 1), 33, "outright.go:30", #[⟨10, .guard⟩], some (10, true)⟩ ?vzm12 ?rzm12
  (try simp only [Act.put, tC, tD, tE])
  refine tA 12 ⟨some 46, .nilCheck (.tmp 45), 0, "outright.go:30", #[⟨11, .data⟩, ⟨10, .guard⟩], some (10, true)⟩ ?vzm13 ?rzm13
  (try simp only [Act.put, tC, tD, tE])
  refine tA 13 ⟨some 47, .fieldAddr 89 (.tmp 46) 0, 0, "outright.go:30", #[⟨12, .data⟩, ⟨10, .guard⟩], some (10, true)⟩ ?vzm14 ?rzm14
  (try simp only [Act.put, tC, tD, tE])
  refine tA 14 ⟨some 48, .load 81 (.tmp 47), 81, "outright.go:30", #[⟨13, .data⟩, ⟨10, .guard⟩], some (10, true)⟩ ?vzm15 ?rzm15
  (try simp only [Act.put, tC, tD, tE])
  refine wpAnyH_ready (rs := [15]) (by kernel_rfl) (by simp) ?_
  refine AllReadyH.cons (o := ⟨some 49, .call ⟨.value (.func 26), #[.tmp 48, .const (.int .u32 267)], #[81, 40]⟩, 22, "outright.go:30", #[⟨14, .data⟩, ⟨10, .chain⟩, ⟨10, .guard⟩], some (10, true)⟩) rfl (fun Kq hKq => ?_) AllReadyH.nil
  go_simp
  (refine HPK.out.mono ?_; rintro e w9 ⟨rfl, rfl⟩)
  refine hKq.out _ _ ?_ (fun hHeld => ?_)
  · exact hHeld
  clear hKq Kq
  (try simp only [Act.put, tC, tD, tE])
  refine tA 16 ⟨some 50, .binOp .eql 22 (.tmp 49) (.const (.int .u64 0)) 22, 4, "outright.go:30", #[⟨15, .data⟩, ⟨10, .guard⟩], some (10, true)⟩ ?vzm16 ?rzm16
  (try simp only [Act.put, tC, tD, tE])
  refine tA 17 ⟨some 51, .pick (.tmp 44) (.tmp 50) (.const (.bool false)), 4, "outright.go:30", #[⟨10, .data⟩, ⟨16, .data⟩], none⟩ ?vzm17 ?rzm17
  (try simp only [Act.put, tC, tD, tE])
  refine tA 18 ⟨some 52, .move (.tmp 51), 4, "outright.go:30", #[⟨17, .data⟩, ⟨15, .chain⟩], none⟩ ?vzm18 ?rzm18
  (try simp only [Act.put, tC, tD, tE])
  refine tA 19 ⟨some 53, .move (.tmp 1), 33, "outright.go:30", #[⟨18, .guard⟩], some (18, true)⟩ ?vzm19 ?rzm19
  (try simp only [Act.put, tC, tD, tE])
  refine tA 20 ⟨some 54, .nilCheck (.tmp 53), 0, "outright.go:30", #[⟨19, .data⟩, ⟨18, .guard⟩], some (18, true)⟩ ?vzm20 ?rzm20
  (try simp only [Act.put, tC, tD, tE])
  refine tA 21 ⟨some 55, .fieldAddr 89 (.tmp 54) 2, 0, "outright.go:30", #[⟨20, .data⟩, ⟨18, .guard⟩], some (18, true)⟩ ?vzm21 ?rzm21
  (try simp only [Act.put, tC, tD, tE])
  refine tA 22 ⟨some 56, .load 83 (.tmp 55), 83, "outright.go:30", #[⟨21, .data⟩, ⟨18, .guard⟩], some (18, true)⟩ ?vzm22 ?rzm22
  (try simp only [Act.put, tC, tD, tE])
  refine wpAnyH_ready (rs := [23]) (by kernel_rfl) (by simp) ?_
  refine AllReadyH.cons (o := ⟨some 57, .call ⟨.value (.func 28), #[.const (.int .i64 5)], #[3]⟩, 3, "outright.go:30", #[⟨18, .chain⟩, ⟨18, .guard⟩], some (18, true)⟩) rfl (fun Kq hKq => ?_) AllReadyH.nil
  go_simp
  (refine (HWD.out _).mono ?_; rintro e w9 ⟨rfl, rfl⟩)
  refine hKq.out _ _ ?_ (fun hHeld => ?_)
  · exact hHeld
  clear hKq Kq
  (try simp only [Act.put, tC, tD, tE])
  refine wpAnyH_ready (rs := [24]) (by kernel_rfl) (by simp) ?_
  refine AllReadyH.cons (o := ⟨some 58, .call ⟨.value (.func 67), #[.tmp 56, .tmp 57, .const (.int .u64 0)], #[83, 3, 22]⟩, 4, "outright.go:30", #[⟨22, .data⟩, ⟨23, .data⟩, ⟨23, .chain⟩, ⟨18, .guard⟩], some (18, true)⟩) rfl (fun Kq hKq => ?_) AllReadyH.nil
  go_simp
  (refine HGO.out.mono ?_; rintro e w9 ⟨rfl, hb9⟩; have HB9 := Lib.hid hb9; clear hb9)
  refine hKq.out _ _ ?_ (fun hHeld => ?_)
  · exact ⟨bcell HB9.out hHeld.1, bcell HB9.out hHeld.2⟩
  clear hKq Kq
  (try simp only [Act.put, tC, tD, tE])
  refine tA 25 ⟨some 59, .pick (.tmp 52) (.tmp 58) (.const (.bool false)), 4, "outright.go:30", #[⟨18, .data⟩, ⟨24, .data⟩], none⟩ ?vzm23 ?rzm23
  (try simp only [Act.put, tC, tD, tE])
  refine tA 26 ⟨some 0, .assign (.tmp 59), 4, "outright.go:30", #[⟨25, .data⟩, ⟨24, .chain⟩, ⟨0, .phase⟩, ⟨1, .phase⟩, ⟨2, .phase⟩, ⟨3, .phase⟩, ⟨4, .phase⟩, ⟨5, .phase⟩, ⟨6, .phase⟩, ⟨7, .phase⟩, ⟨8, .phase⟩, ⟨9, .phase⟩, ⟨10, .phase⟩, ⟨11, .phase⟩, ⟨12, .phase⟩, ⟨13, .phase⟩, ⟨14, .phase⟩, ⟨15, .phase⟩, ⟨16, .phase⟩, ⟨17, .phase⟩, ⟨18, .phase⟩, ⟨19, .phase⟩, ⟨20, .phase⟩, ⟨21, .phase⟩, ⟨22, .phase⟩, ⟨23, .phase⟩, ⟨24, .phase⟩, ⟨25, .phase⟩], none⟩ ?vzm24 ?rzm24
  (try simp only [Act.put, tC, tD, tE])
  refine wpAnyH_done (by kernel_rfl) ?_ _
  go_wp2_with fail
  go_ret
  exact ⟨rfl, HB.out.trans ((Below.refl _ _).drew.mono HB.out.size |>.trans (HB9.out.mono HB.out.size))⟩
end
end Go.Proofs.YtlflagjnlclffaaGreat.S14
namespace Go.Proofs.YtlflagjnlclffaaGreat.S14
set_option maxRecDepth 100000
set_option maxHeartbeats 16000000
open Go.Proofs.YtlflagjnlclffaaGreat Go.Proofs.YtlflagjnlclffaaGreat.S11 Go.Proofs.YtlflagjnlclffaaGreat.S12 Go.Proofs.YtlflagjnlclffaaGreat.S13
open Go.RowKit
abbrev actF (y : Ap) : Obj := .cells #[.int .u8 (y.k : Int), .int .u8 (y.i : Int), .int .i64 y.t, .int .u32 (y.a : Int), .int .u32 (y.sa : Int), .int .u64 (y.sv : Int), .int .i64 y.p] 62
theorem held10 {w0 w : World} {base PB WB RB N c0 i n : Nat} {g o cap : Nat} {L L2 : List O4} {B8 : Nat} {k i2 a sa sv : Nat} {t p : Int} (h : PI4 w0 w base PB WB RB N c0 i (.slice (some ⟨g, o, none⟩) n cap) L2 [blockP B8 (actF ⟨k, i2, t, a, sa, sv, p⟩)]) (hl : lcs4 L2 = lcs4 L)
    {j : Nat} {f0 f1 f2 f3 : Value} (h0 : (lcs4 L)[j * 4]? = some f0) (h1 : (lcs4 L)[j * 4 + 1]? = some f1) (h2 : (lcs4 L)[j * 4 + 2]? = some f2) (h3 : (lcs4 L)[j * 4 + 3]? = some f3) :
    w.cell? ⟨B8, 1, none⟩ = some (.int .u8 (i2 : Int)) ∧ w.cell? ⟨PB, 0, none⟩ = some (Pw WB) ∧ w.cell? ⟨PB, 1, none⟩ = some (Pw RB) ∧ w.cell? ⟨g, o + j * 4, none⟩ = some f0 ∧ w.cell? ⟨g, o + j * 4 + 1, none⟩ = some f1 ∧ w.cell? ⟨g, o + j * 4 + 2, none⟩ = some f2 ∧ w.cell? ⟨g, o + j * 4 + 3, none⟩ = some f3 := by
  obtain ⟨A', cap', e, _, _, _, _, h4⟩ := h.row
  obtain ⟨g', o', e2, _, _, hlz, _⟩ := h4 _ (show A' = some ⟨g, o, none⟩ by injection e with e1; exact e1.symm)
  have eg : g = g' := congrArg Addr.block e2
  have eo : o = o' := congrArg Addr.off e2
  subst eg; subst eo
  rw [hl] at hlz
  refine ⟨cell_row h.act 1, cell_row h.pair 0, cell_row h.pair 1, hlz _ _ h0, ?_, ?_, ?_⟩
  · have := hlz _ _ h1; rwa [← Nat.add_assoc] at this
  · have := hlz _ _ h2; rwa [← Nat.add_assoc] at this
  · have := hlz _ _ h3; rwa [← Nat.add_assoc] at this
theorem law_free {w : World} {sp : Int} {mo dc sn sc gn gc qn qc tk an ac dn : Nat} {dA sA gA qA aA : Option Addr} {F : Nat → Ap}
    (hbegin : ∀ W, Below w.heap.size w W → Calls Tryz.prog 7 #[.agg #[.int .i64 sp, .int .u64 (mo : Int), .slice dA dn dc, .slice sA sn sc, .slice gA gn gc, .slice qA qn qc, .int .u64 (tk : Int)]] W fun e w' => ∃ N c0 tn M X Y, e = .returned (.agg #[Pw X.wB, Pw Y.wB]) ∧ Bg W w' W.heap.size X.wB Y.wB N c0 tn M M [] X Y ∧ c0 ≤ 2097164 ∧ N ≤ 100000)
    (hai : ApIn w w.heap.size aA an F) (han : an ≤ 9223372036854775807) :
    Calls Tryz.prog 4 #[.agg #[.int .i64 sp, .int .u64 (mo : Int), .slice dA dn dc, .slice sA sn sc, .slice gA gn gc, .slice qA qn qc, .int .u64 (tk : Int)], .slice aA an ac] w fun e w' => e = .returned (.bool true) ∧ Below w.heap.size w w' := by
  have hb1 := below1 w (.cells #[.int .i64 sp, .int .u64 (mo : Int), .slice dA dn dc, .slice sA sn sc, .slice gA gn gc, .slice qA qn qc, .int .u64 (tk : Int)] 30)
  have h0 := heap_alloc_new w (.cells #[.int .i64 sp, .int .u64 (mo : Int), .slice dA dn dc, .slice sA sn sc, .slice gA gn gc, .slice qA qn qc, .int .u64 (tk : Int)] 30)
  have c0 := cell_row h0 0; have c1 := cell_row h0 1; have c2 := cell_row h0 2; have c3 := cell_row h0 3; have c4 := cell_row h0 4; have c5 := cell_row h0 5; have c6 := cell_row h0 6
  obtain ⟨B0, hB0⟩ : ∃ B0, B0 = w.heap.size := ⟨_, rfl⟩
  rw [← hB0] at c0 c1 c2 c3 c4 c5 c6
  simp only [List.getElem?_toArray, List.getElem?_cons_zero, List.getElem?_cons_succ] at c0 c1 c2 c3 c4 c5 c6
  have HB1 := Lib.hid hb1; have HB0 := Lib.hid hB0
  have HLV : Hid (∀ W, Calls Tryz.prog 17 #[] W fun e w' => e = .returned (.bool true) ∧ Below W.heap.size W w') := Lib.hid lives14
  by_cases hbig : an ≤ 200
  · have HBG := Lib.hid (hbegin _ hb1)
    have d3 : decide ((200 : Int) < (an : Int)) = false := by simp; omega
    have HAI := Lib.hid hai
    have HAN := Lib.hid hbig
    clear hbegin hb1 h0 hB0 hai han hbig
    go_enter Tryz.func4, Tryz.ntmps4
    go_upto_region 3 with (fail)
    rw [← HB0.out]
    generalize w.alloc (.cells #[.int .i64 sp, .int .u64 (mo : Int), .slice dA dn dc, .slice sA sn sc, .slice gA gn gc, .slice qA qn qc, .int .u64 (tk : Int)] 30) = w1 at *
    go_upto_region 4 with (go_at_call 7; refine HBG.out.mono ?_; rintro e w2 ⟨N, k0, tn, M, X, Y, rfl, hbg, hk0, hN⟩)
    have hpi := PI4.start hbg
    obtain ⟨WB, hWB⟩ : ∃ WB, WB = X.wB := ⟨_, rfl⟩
    obtain ⟨RB, hRB⟩ : ∃ RB, RB = Y.wB := ⟨_, rfl⟩
    rw [← hWB, ← hRB] at hpi ⊢
    have HPI := Lib.hid hpi
    have HK0 := Lib.hid (And.intro hk0 hN)
    clear hbg hk0 hN hpi hWB hRB HBG c0 c1 c2 c3 c4 c5 c6
    generalize w2.alloc (.cells #[Pw WB, Pw RB] 36) = w3 at *
    generalize w2.heap.size = PB at *
    go_wp2_with fail
    go_loopg [6, 7] an (fun q s6 s7 wx => ∃ (i : Nat) (L : List O4), i ≤ an ∧ q = an - i ∧ s7 = .int .i64 (i : Int) ∧ PI4 w1 wx w1.heap.size PB WB RB N k0 (2 * i) s6 L [])
    case atStart => exact ⟨0, [], by omega, rfl, rfl, HPI.out⟩
    case round =>
      obtain ⟨i, L, hi1, rfl, rfl, hpi⟩ := hrel
      by_cases hin : i < an
      · obtain ⟨lb, lo, haa, hlb, hac⟩ := HAI.out (by omega)
        obtain ⟨hok, hac2⟩ := hac i hin
        have hlv := fun j => ((HB1.out.trans (hpi.bl.mono HB1.out.size)).cell (p := ⟨lb, j, none⟩) hlb)
        clear hac
        subst haa
        generalize F i = y at *
        obtain ⟨k, i2, t, a, sa, sv, p⟩ := y
        have r0 : wr.cell? ⟨lb, lo + i * 7, none⟩ = some (.int .u8 (k : Int)) := (hlv _).trans (hac2 0 _ rfl)
        have r1 : wr.cell? ⟨lb, lo + i * 7 + 1, none⟩ = some (.int .u8 (i2 : Int)) := (hlv _).trans (hac2 1 _ rfl)
        have r2 : wr.cell? ⟨lb, lo + i * 7 + 2, none⟩ = some (.int .i64 t) := (hlv _).trans (hac2 2 _ rfl)
        have r3 : wr.cell? ⟨lb, lo + i * 7 + 3, none⟩ = some (.int .u32 (a : Int)) := (hlv _).trans (hac2 3 _ rfl)
        have r4 : wr.cell? ⟨lb, lo + i * 7 + 4, none⟩ = some (.int .u32 (sa : Int)) := (hlv _).trans (hac2 4 _ rfl)
        have r5 : wr.cell? ⟨lb, lo + i * 7 + 5, none⟩ = some (.int .u64 (sv : Int)) := (hlv _).trans (hac2 5 _ rfl)
        have r6 : wr.cell? ⟨lb, lo + i * 7 + 6, none⟩ = some (.int .i64 p) := (hlv _).trans (hac2 6 _ rfl)
        have hi5 : (i : Int) < (an : Int) := by omega
        have HP := Lib.hid hpi; have HOK := Lib.hid hok; have HIN := Lib.hid hin
        have hno := fun e => Nat.lt_irrefl wr.heap.size ((hpi.row.lt wr.heap.size e).2)
        clear hpi hok hac2 hlv hlb hin hi1
        go_upto_region 9 with (fail)
        have hq8 := heap_alloc_new wr (actF ⟨k, i2, t, a, sa, sv, p⟩)
        have h8 := HP.out.pushR (actF ⟨k, i2, t, a, sa, sv, p⟩)
        clear r0 r1 r2 r3 r4 r5 r6 HP
        generalize wr.alloc (actF ⟨k, i2, t, a, sa, sv, p⟩) = w4 at *
        generalize wr.heap.size = B8 at *
        have H8 : Hid (PI4 w1 w4 w1.heap.size PB WB RB N k0 (2 * i) u6 L [blockP B8 (actF ⟨k, i2, t, a, sa, sv, p⟩)]) := Lib.hid h8
        have HNO : Hid (¬ u6.ownBlock = some B8) := Lib.hid hno
        have x0 := cell_row hq8 0; have x1 := cell_row hq8 1; have x2 := cell_row hq8 2; have x3 := cell_row hq8 3; have x4 := cell_row hq8 4; have x5 := cell_row hq8 5; have x6 := cell_row hq8 6
        simp only [List.getElem?_toArray, List.getElem?_cons_zero, List.getElem?_cons_succ] at x0 x1 x2 x3 x4 x5 x6
        clear hq8 h8 hno
        go_upto_block 2 with fail
        obtain ⟨m, hm12, hm⟩ : ∃ m : Nat, m < 12 ∧ (k : Int) % 12 = (m : Int) := ⟨k % 12, Nat.mod_lt _ (by omega), by omega⟩
        rw [hm]
        have HM := Lib.hid hm12
        have HC1 : Hid (k0 + 2 * (2 * i) ≤ 2099000) := Lib.hid (by have := HK0.out; have := HAN.out; have := HIN.out; omega)
        clear x0 hm hm12
        go_cut [6] from 15 to 86 (fun s6 wx => ∃ L', PI4 w1 wx w1.heap.size PB WB RB N k0 (2 * i + 1) s6 L' [blockP B8 (actF ⟨k, i2, t, a, sa, sv, p⟩)])
        case first =>
          have hpr := H8.out.pair
          have q0 := cell_row hpr 0; have q1 := cell_row hpr 1
          simp only [List.getElem?_toArray, List.getElem?_cons_zero, List.getElem?_cons_succ] at q0 q1
          clear hpr
          rcases (show m = 0 ∨ m = 1 ∨ m = 2 ∨ m = 3 ∨ m = 4 ∨ m = 5 ∨ 6 ≤ m by omega) with rfl | rfl | rfl | rfl | rfl | rfl | h4
          · have HN0 : Hid (NB w1 w4 w1.heap.size WB RB N (k0 + 2 * (2 * i)) (pre4 PB WB RB w1.heap.size u6 L ++ (lparts4 L ++ [blockP B8 (actF ⟨k, i2, t, a, sa, sv, p⟩)])) [] w4) := Lib.hid ⟨by
              obtain ⟨⟨tn, M, X, Y, hb⟩, _, _⟩ := H8.out
              exact ⟨tn, M, X, Y, by rw [List.append_nil]; exact hb⟩, Below.refl _ _⟩
            have HC : Hid (∀ W, Below w4.heap.size w4 W → (fun w' => w'.cell? ⟨B8, 2, none⟩ = some (.int .i64 t) ∧ w'.cell? ⟨B8, 3, none⟩ = some (.int .u32 (a : Int))) W) := Lib.hid (fun W b => ⟨bcell b x2, bcell b x3⟩)
            have HROW := Lib.hid H8.out.row; have HKS := Lib.hid H8.out.ok; have HLE := Lib.hid H8.out.le; have HWS := Lib.hid H8.out.bl.size
            have HKN : Hid ((Tk.lk (newK t a)).ok) := Lib.hid (kok_new t a HOK.out.a)
            clear H8 x1 x2 x3 x4 x5 x6 q0 q1
            go_upto_region 14 with (fail)
            refine wp_region_held_drew (S := fun w' => w'.cell? ⟨B8, 2, none⟩ = some (.int .i64 t) ∧ w'.cell? ⟨B8, 3, none⟩ = some (.int .u32 (a : Int))) (by kernel_rfl) ?_ (fun hHeld => ?_)
            · exact HC.out _ (Below.refl _ _).drew
            refine tA 0 ⟨some 48, .move (.tmp 6), 61, "law.go:56", #[], none⟩ ?vpam1 ?rpam1
            (try simp only [Act.put, tC, tD, tE])
            refine tA 1 ⟨some 49, .fieldAddr 62 (.tmp 8) 2, 0, "law.go:56", #[], none⟩ ?vpam2 ?rpam2
            (try simp only [Act.put, tC, tD, tE])
            refine tA 2 ⟨some 50, .load 3 (.tmp 49), 3, "law.go:56", #[⟨1, .data⟩], none⟩ ?vpam3 ?rpam3
            (try simp only [Act.put, tC, tD, tE])
            refine tA 3 ⟨some 51, .fieldAddr 62 (.tmp 8) 3, 0, "law.go:56", #[], none⟩ ?vpam4 ?rpam4
            (try simp only [Act.put, tC, tD, tE])
            refine tA 4 ⟨some 52, .load 40 (.tmp 51), 40, "law.go:56", #[⟨3, .data⟩], none⟩ ?vpam5 ?rpam5
            (try simp only [Act.put, tC, tD, tE])
            refine tA 6 ⟨some 54, .fieldAddr 62 (.tmp 8) 2, 0, "law.go:56", #[], none⟩ ?vpam6 ?rpam6
            (try simp only [Act.put, tC, tD, tE])
            refine tA 7 ⟨some 55, .load 3 (.tmp 54), 3, "law.go:56", #[⟨6, .data⟩], none⟩ ?vpam7 ?rpam7
            (try simp only [Act.put, tC, tD, tE])
            refine tA 8 ⟨some 56, .fieldAddr 62 (.tmp 8) 3, 0, "law.go:56", #[], none⟩ ?vpam8 ?rpam8
            (try simp only [Act.put, tC, tD, tE])
            refine tA 9 ⟨some 57, .load 40 (.tmp 56), 40, "law.go:56", #[⟨8, .data⟩], none⟩ ?vpam9 ?rpam9
            (try simp only [Act.put, tC, tD, tE])
            refine wpAnyH_ready (rs := [5]) (by kernel_rfl) (by simp) ?_
            refine AllReadyH.cons (o := ⟨some 53, .call ⟨.value (.func 8), #[.tmp 50, .tmp 52], #[3, 40]⟩, 45, "law.go:56", #[⟨2, .data⟩, ⟨4, .data⟩], none⟩) rfl (fun Kq hKq => ?_) AllReadyH.nil
            go_simp
            (refine (NB.newB (HN0.out.drew) t a).mono ?_; rintro e v1 ⟨B, rfl, hn1⟩; have HM1 : Hid (NB w1 w4 w1.heap.size WB RB N (k0 + 2 * (2 * i)) (pre4 PB WB RB w1.heap.size u6 L ++ (lparts4 L ++ [blockP B8 (actF ⟨k, i2, t, a, sa, sv, p⟩)])) [(Tk.lk (newK t a)).p B] v1) := Lib.hid hn1; clear hn1)
            refine hKq.out _ _ ?_ (fun hHeld => ?_)
            · exact HC.out _ HM1.out.2
            clear hKq Kq
            (try simp only [Act.put, tC, tD, tE])
            refine wpAnyH_ready (rs := [10]) (by kernel_rfl) (by simp) ?_
            refine AllReadyH.cons (o := ⟨some 58, .call ⟨.value (.func 9), #[.tmp 55, .tmp 57], #[3, 40]⟩, 47, "law.go:56", #[⟨7, .data⟩, ⟨9, .data⟩, ⟨5, .chain⟩], none⟩) rfl (fun Kq hKq => ?_) AllReadyH.nil
            go_simp
            (refine (NB.newC HM1.out t a).mono ?_; rintro e v2 ⟨C, rfl, hn2⟩; have HM2 : Hid (NB w1 w4 w1.heap.size WB RB N (k0 + 2 * (2 * i)) (pre4 PB WB RB w1.heap.size u6 L ++ (lparts4 L ++ [blockP B8 (actF ⟨k, i2, t, a, sa, sv, p⟩)])) [(Tk.lk (newK t a)).p B, (Tk.lk (newK t a)).rp C] v2) := Lib.hid hn2; clear hn2)
            refine hKq.out _ _ ?_ (fun hHeld => ?_)
            · exact HC.out _ HM2.out.2
            clear hKq Kq
            (try simp only [Act.put, tC, tD, tE])
            refine tA 11 ⟨some 59, .build 66 #[(0, .tmp 53), (2, .tmp 58)], 66, "law.go:56", #[⟨5, .data⟩, ⟨10, .data⟩], none⟩ ?vpam10 ?rpam10
            (try simp only [Act.put, tC, tD, tE])
            refine wpAnyH_ready (rs := [12]) (by kernel_rfl) (by simp) ?_
            refine AllReadyH.cons (o := ⟨some 60, .buildSlice 61 1 #[(0, .tmp 59)], 61, "law.go:56", #[⟨11, .data⟩], none⟩) rfl (fun Kq hKq => ?_) AllReadyH.nil
            (go_simp; have HRV := Lib.hid (HROW.out.new HM2.out.2))
            refine hKq.out _ _ ?_ (fun hHeld => ?_)
            · exact HC.out _ (HM2.out.2.alloc HM2.out.2.size _)
            clear hKq Kq
            (try simp only [Act.put, tC, tD, tE])
            refine wpAnyH_ready (rs := [13]) (by kernel_rfl) (by simp) ?_
            refine AllReadyH.cons (o := ⟨some 61, .call ⟨.builtin .append, #[.tmp 48, .tmp 60], #[61, 61]⟩, 61, "law.go:56", #[⟨0, .data⟩, ⟨12, .data⟩, ⟨10, .chain⟩], none⟩) rfl (fun Kq hKq => ?_) AllReadyH.nil
            (refine S10.step_append_row layOp4 rfl _ _ rfl rfl (HRV.out.alloc _) (lcs4_one L) (by have := HWS.out; have := HM2.out.2.size; simp; omega) 1 rfl (rd_four v2 (Pw B) (.pointer none) (Pw C) (.pointer none) 66) rfl (Tk.four_one (Tk.lk (newK t a)) B C) (by have := HLE.out; have := HIN.out; have := HAN.out; omega) ?_; intro vv wv hr2 ht2 ho2; (have HR2 := Lib.hid hr2); (have HT2 := Lib.hid ht2); (have HO2 := Lib.hid ho2); (clear hr2 ht2 ho2))
            refine hKq.out _ _ ?_ (fun hHeld => ?_)
            · exact ⟨(HT2.out.cell (World.block_lt_of_cell? _ _ hHeld.1) HNO.out).trans hHeld.1, (HT2.out.cell (World.block_lt_of_cell? _ _ hHeld.1) HNO.out).trans hHeld.2⟩
            clear hKq Kq
            (try simp only [Act.put, tC, tD, tE])
            refine tA 14 ⟨some 6, .assign (.tmp 61), 61, "law.go:56", #[⟨13, .data⟩, ⟨13, .chain⟩, ⟨0, .phase⟩, ⟨1, .phase⟩, ⟨2, .phase⟩, ⟨3, .phase⟩, ⟨4, .phase⟩, ⟨5, .phase⟩, ⟨6, .phase⟩, ⟨7, .phase⟩, ⟨8, .phase⟩, ⟨9, .phase⟩, ⟨10, .phase⟩, ⟨11, .phase⟩, ⟨12, .phase⟩, ⟨13, .phase⟩], none⟩ ?vpam11 ?rpam11
            (try simp only [Act.put, tC, tD, tE])
            refine wpAnyH_done (by kernel_rfl) ?_ _
            clear hHeld
            (try go_wp2_with fail)
            go_meet
            have hpf : PI4 w1 wv w1.heap.size PB WB RB N k0 (2 * i + 1) vv (L ++ [(B, C, (Tk.lk (newK t a)))]) [blockP B8 (actF ⟨k, i2, t, a, sa, sv, p⟩)] := nb_fin4 (T := (Tk.lk (newK t a))) (HM2.out.new (below1 _ _)) HKN.out HKS.out HLE.out HR2.out HT2.out HO2.out
            exact ⟨L ++ [(B, C, (Tk.lk (newK t a)))], hpf⟩
          · have HN0 : Hid (NB w1 w4 w1.heap.size WB RB N (k0 + 2 * (2 * i)) (pre4 PB WB RB w1.heap.size u6 L ++ (lparts4 L ++ [blockP B8 (actF ⟨k, i2, t, a, sa, sv, p⟩)])) [] w4) := Lib.hid ⟨by
              obtain ⟨⟨tn, M, X, Y, hb⟩, _, _⟩ := H8.out
              exact ⟨tn, M, X, Y, by rw [List.append_nil]; exact hb⟩, Below.refl _ _⟩
            have HC : Hid (∀ W, Below w4.heap.size w4 W → (fun w' => w'.cell? ⟨B8, 2, none⟩ = some (.int .i64 t) ∧ w'.cell? ⟨B8, 3, none⟩ = some (.int .u32 (a : Int))) W) := Lib.hid (fun W b => ⟨bcell b x2, bcell b x3⟩)
            have HROW := Lib.hid H8.out.row; have HKS := Lib.hid H8.out.ok; have HLE := Lib.hid H8.out.le; have HWS := Lib.hid H8.out.bl.size
            have HKN : Hid ((Tk.lk (newK t a)).ok) := Lib.hid (kok_new t a HOK.out.a)
            clear H8 x1 x2 x3 x4 x5 x6 q0 q1
            go_upto_region 14 with (fail)
            refine wp_region_held_drew (S := fun w' => w'.cell? ⟨B8, 2, none⟩ = some (.int .i64 t) ∧ w'.cell? ⟨B8, 3, none⟩ = some (.int .u32 (a : Int))) (by kernel_rfl) ?_ (fun hHeld => ?_)
            · exact HC.out _ (Below.refl _ _).drew
            refine tA 0 ⟨some 48, .move (.tmp 6), 61, "law.go:56", #[], none⟩ ?vpbm1 ?rpbm1
            (try simp only [Act.put, tC, tD, tE])
            refine tA 1 ⟨some 49, .fieldAddr 62 (.tmp 8) 2, 0, "law.go:56", #[], none⟩ ?vpbm2 ?rpbm2
            (try simp only [Act.put, tC, tD, tE])
            refine tA 2 ⟨some 50, .load 3 (.tmp 49), 3, "law.go:56", #[⟨1, .data⟩], none⟩ ?vpbm3 ?rpbm3
            (try simp only [Act.put, tC, tD, tE])
            refine tA 3 ⟨some 51, .fieldAddr 62 (.tmp 8) 3, 0, "law.go:56", #[], none⟩ ?vpbm4 ?rpbm4
            (try simp only [Act.put, tC, tD, tE])
            refine tA 4 ⟨some 52, .load 40 (.tmp 51), 40, "law.go:56", #[⟨3, .data⟩], none⟩ ?vpbm5 ?rpbm5
            (try simp only [Act.put, tC, tD, tE])
            refine tA 6 ⟨some 54, .fieldAddr 62 (.tmp 8) 2, 0, "law.go:56", #[], none⟩ ?vpbm6 ?rpbm6
            (try simp only [Act.put, tC, tD, tE])
            refine tA 7 ⟨some 55, .load 3 (.tmp 54), 3, "law.go:56", #[⟨6, .data⟩], none⟩ ?vpbm7 ?rpbm7
            (try simp only [Act.put, tC, tD, tE])
            refine tA 8 ⟨some 56, .fieldAddr 62 (.tmp 8) 3, 0, "law.go:56", #[], none⟩ ?vpbm8 ?rpbm8
            (try simp only [Act.put, tC, tD, tE])
            refine tA 9 ⟨some 57, .load 40 (.tmp 56), 40, "law.go:56", #[⟨8, .data⟩], none⟩ ?vpbm9 ?rpbm9
            (try simp only [Act.put, tC, tD, tE])
            refine wpAnyH_ready (rs := [5]) (by kernel_rfl) (by simp) ?_
            refine AllReadyH.cons (o := ⟨some 53, .call ⟨.value (.func 8), #[.tmp 50, .tmp 52], #[3, 40]⟩, 45, "law.go:56", #[⟨2, .data⟩, ⟨4, .data⟩], none⟩) rfl (fun Kq hKq => ?_) AllReadyH.nil
            go_simp
            (refine (NB.newB (HN0.out.drew) t a).mono ?_; rintro e v1 ⟨B, rfl, hn1⟩; have HM1 : Hid (NB w1 w4 w1.heap.size WB RB N (k0 + 2 * (2 * i)) (pre4 PB WB RB w1.heap.size u6 L ++ (lparts4 L ++ [blockP B8 (actF ⟨k, i2, t, a, sa, sv, p⟩)])) [(Tk.lk (newK t a)).p B] v1) := Lib.hid hn1; clear hn1)
            refine hKq.out _ _ ?_ (fun hHeld => ?_)
            · exact HC.out _ HM1.out.2
            clear hKq Kq
            (try simp only [Act.put, tC, tD, tE])
            refine wpAnyH_ready (rs := [10]) (by kernel_rfl) (by simp) ?_
            refine AllReadyH.cons (o := ⟨some 58, .call ⟨.value (.func 9), #[.tmp 55, .tmp 57], #[3, 40]⟩, 47, "law.go:56", #[⟨7, .data⟩, ⟨9, .data⟩, ⟨5, .chain⟩], none⟩) rfl (fun Kq hKq => ?_) AllReadyH.nil
            go_simp
            (refine (NB.newC HM1.out t a).mono ?_; rintro e v2 ⟨C, rfl, hn2⟩; have HM2 : Hid (NB w1 w4 w1.heap.size WB RB N (k0 + 2 * (2 * i)) (pre4 PB WB RB w1.heap.size u6 L ++ (lparts4 L ++ [blockP B8 (actF ⟨k, i2, t, a, sa, sv, p⟩)])) [(Tk.lk (newK t a)).p B, (Tk.lk (newK t a)).rp C] v2) := Lib.hid hn2; clear hn2)
            refine hKq.out _ _ ?_ (fun hHeld => ?_)
            · exact HC.out _ HM2.out.2
            clear hKq Kq
            (try simp only [Act.put, tC, tD, tE])
            refine tA 11 ⟨some 59, .build 66 #[(0, .tmp 53), (2, .tmp 58)], 66, "law.go:56", #[⟨5, .data⟩, ⟨10, .data⟩], none⟩ ?vpbm10 ?rpbm10
            (try simp only [Act.put, tC, tD, tE])
            refine wpAnyH_ready (rs := [12]) (by kernel_rfl) (by simp) ?_
            refine AllReadyH.cons (o := ⟨some 60, .buildSlice 61 1 #[(0, .tmp 59)], 61, "law.go:56", #[⟨11, .data⟩], none⟩) rfl (fun Kq hKq => ?_) AllReadyH.nil
            (go_simp; have HRV := Lib.hid (HROW.out.new HM2.out.2))
            refine hKq.out _ _ ?_ (fun hHeld => ?_)
            · exact HC.out _ (HM2.out.2.alloc HM2.out.2.size _)
            clear hKq Kq
            (try simp only [Act.put, tC, tD, tE])
            refine wpAnyH_ready (rs := [13]) (by kernel_rfl) (by simp) ?_
            refine AllReadyH.cons (o := ⟨some 61, .call ⟨.builtin .append, #[.tmp 48, .tmp 60], #[61, 61]⟩, 61, "law.go:56", #[⟨0, .data⟩, ⟨12, .data⟩, ⟨10, .chain⟩], none⟩) rfl (fun Kq hKq => ?_) AllReadyH.nil
            (refine S10.step_append_row layOp4 rfl _ _ rfl rfl (HRV.out.alloc _) (lcs4_one L) (by have := HWS.out; have := HM2.out.2.size; simp; omega) 1 rfl (rd_four v2 (Pw B) (.pointer none) (Pw C) (.pointer none) 66) rfl (Tk.four_one (Tk.lk (newK t a)) B C) (by have := HLE.out; have := HIN.out; have := HAN.out; omega) ?_; intro vv wv hr2 ht2 ho2; (have HR2 := Lib.hid hr2); (have HT2 := Lib.hid ht2); (have HO2 := Lib.hid ho2); (clear hr2 ht2 ho2))
            refine hKq.out _ _ ?_ (fun hHeld => ?_)
            · exact ⟨(HT2.out.cell (World.block_lt_of_cell? _ _ hHeld.1) HNO.out).trans hHeld.1, (HT2.out.cell (World.block_lt_of_cell? _ _ hHeld.1) HNO.out).trans hHeld.2⟩
            clear hKq Kq
            (try simp only [Act.put, tC, tD, tE])
            refine tA 14 ⟨some 6, .assign (.tmp 61), 61, "law.go:56", #[⟨13, .data⟩, ⟨13, .chain⟩, ⟨0, .phase⟩, ⟨1, .phase⟩, ⟨2, .phase⟩, ⟨3, .phase⟩, ⟨4, .phase⟩, ⟨5, .phase⟩, ⟨6, .phase⟩, ⟨7, .phase⟩, ⟨8, .phase⟩, ⟨9, .phase⟩, ⟨10, .phase⟩, ⟨11, .phase⟩, ⟨12, .phase⟩, ⟨13, .phase⟩], none⟩ ?vpbm11 ?rpbm11
            (try simp only [Act.put, tC, tD, tE])
            refine wpAnyH_done (by kernel_rfl) ?_ _
            clear hHeld
            (try go_wp2_with fail)
            go_meet
            have hpf : PI4 w1 wv w1.heap.size PB WB RB N k0 (2 * i + 1) vv (L ++ [(B, C, (Tk.lk (newK t a)))]) [blockP B8 (actF ⟨k, i2, t, a, sa, sv, p⟩)] := nb_fin4 (T := (Tk.lk (newK t a))) (HM2.out.new (below1 _ _)) HKN.out HKS.out HLE.out HR2.out HT2.out HO2.out
            exact ⟨L ++ [(B, C, (Tk.lk (newK t a)))], hpf⟩
          · have HN0 : Hid (NB w1 w4 w1.heap.size WB RB N (k0 + 2 * (2 * i)) (pre4 PB WB RB w1.heap.size u6 L ++ (lparts4 L ++ [blockP B8 (actF ⟨k, i2, t, a, sa, sv, p⟩)])) [] w4) := Lib.hid ⟨by
              obtain ⟨⟨tn, M, X, Y, hb⟩, _, _⟩ := H8.out
              exact ⟨tn, M, X, Y, by rw [List.append_nil]; exact hb⟩, Below.refl _ _⟩
            have HC : Hid (∀ W, Below w4.heap.size w4 W → (fun w' => w'.cell? ⟨B8, 2, none⟩ = some (.int .i64 t) ∧ w'.cell? ⟨B8, 3, none⟩ = some (.int .u32 (a : Int))) W) := Lib.hid (fun W b => ⟨bcell b x2, bcell b x3⟩)
            have HROW := Lib.hid H8.out.row; have HKS := Lib.hid H8.out.ok; have HLE := Lib.hid H8.out.le; have HWS := Lib.hid H8.out.bl.size
            have HKN : Hid ((Tk.fr (fr0 a)).ok) := Lib.hid (fok_new HOK.out.a)
            clear H8 x1 x2 x3 x4 x5 x6 q0 q1
            go_upto_region 17 with (fail)
            refine wp_region_held_drew (S := fun w' => w'.cell? ⟨B8, 2, none⟩ = some (.int .i64 t) ∧ w'.cell? ⟨B8, 3, none⟩ = some (.int .u32 (a : Int))) (by kernel_rfl) ?_ (fun hHeld => ?_)
            · exact HC.out _ (Below.refl _ _).drew
            refine tA 0 ⟨some 65, .move (.tmp 6), 61, "law.go:58", #[], none⟩ ?vpcm1 ?rpcm1
            (try simp only [Act.put, tC, tD, tE])
            refine tA 1 ⟨some 66, .fieldAddr 62 (.tmp 8) 3, 0, "law.go:58", #[], none⟩ ?vpcm2 ?rpcm2
            (try simp only [Act.put, tC, tD, tE])
            refine tA 2 ⟨some 67, .load 40 (.tmp 66), 40, "law.go:58", #[⟨1, .data⟩], none⟩ ?vpcm3 ?rpcm3
            (try simp only [Act.put, tC, tD, tE])
            refine tA 4 ⟨some 69, .fieldAddr 62 (.tmp 8) 3, 0, "law.go:58", #[], none⟩ ?vpcm4 ?rpcm4
            (try simp only [Act.put, tC, tD, tE])
            refine tA 5 ⟨some 70, .load 40 (.tmp 69), 40, "law.go:58", #[⟨4, .data⟩], none⟩ ?vpcm5 ?rpcm5
            (try simp only [Act.put, tC, tD, tE])
            refine wpAnyH_ready (rs := [3]) (by kernel_rfl) (by simp) ?_
            refine AllReadyH.cons (o := ⟨some 68, .call ⟨.value (.func 18), #[.tmp 67], #[40]⟩, 63, "law.go:58", #[⟨2, .data⟩], none⟩) rfl (fun Kq hKq => ?_) AllReadyH.nil
            go_simp
            (refine (nb_newF (HN0.out.drew) a).mono ?_; rintro e v1 ⟨B, rfl, hn1⟩; have HM1 : Hid (NB w1 w4 w1.heap.size WB RB N (k0 + 2 * (2 * i)) (pre4 PB WB RB w1.heap.size u6 L ++ (lparts4 L ++ [blockP B8 (actF ⟨k, i2, t, a, sa, sv, p⟩)])) [(Tk.fr (fr0 a)).p B] v1) := Lib.hid hn1; clear hn1)
            refine hKq.out _ _ ?_ (fun hHeld => ?_)
            · exact HC.out _ HM1.out.2
            clear hKq Kq
            (try simp only [Act.put, tC, tD, tE])
            refine wpAnyH_ready (rs := [6]) (by kernel_rfl) (by simp) ?_
            refine AllReadyH.cons (o := ⟨some 71, .call ⟨.value (.func 19), #[.tmp 70], #[40]⟩, 64, "law.go:58", #[⟨5, .data⟩, ⟨3, .chain⟩], none⟩) rfl (fun Kq hKq => ?_) AllReadyH.nil
            go_simp
            (refine (nb_newG HM1.out a).mono ?_; rintro e v2 ⟨C, rfl, hn2⟩; have HM2 : Hid (NB w1 w4 w1.heap.size WB RB N (k0 + 2 * (2 * i)) (pre4 PB WB RB w1.heap.size u6 L ++ (lparts4 L ++ [blockP B8 (actF ⟨k, i2, t, a, sa, sv, p⟩)])) [(Tk.fr (fr0 a)).p B, (Tk.fr (fr0 a)).rp C] v2) := Lib.hid hn2; clear hn2)
            refine hKq.out _ _ ?_ (fun hHeld => ?_)
            · exact HC.out _ HM2.out.2
            clear hKq Kq
            (try simp only [Act.put, tC, tD, tE])
            refine tA 7 ⟨some 72, .build 66 #[(1, .tmp 68), (3, .tmp 71)], 66, "law.go:58", #[⟨3, .data⟩, ⟨6, .data⟩], none⟩ ?vpcm6 ?rpcm6
            (try simp only [Act.put, tC, tD, tE])
            refine wpAnyH_ready (rs := [8]) (by kernel_rfl) (by simp) ?_
            refine AllReadyH.cons (o := ⟨some 73, .buildSlice 61 1 #[(0, .tmp 72)], 61, "law.go:58", #[⟨7, .data⟩], none⟩) rfl (fun Kq hKq => ?_) AllReadyH.nil
            (go_simp; have HRV := Lib.hid (HROW.out.new HM2.out.2))
            refine hKq.out _ _ ?_ (fun hHeld => ?_)
            · exact HC.out _ (HM2.out.2.alloc HM2.out.2.size _)
            clear hKq Kq
            (try simp only [Act.put, tC, tD, tE])
            refine wpAnyH_ready (rs := [9]) (by kernel_rfl) (by simp) ?_
            refine AllReadyH.cons (o := ⟨some 74, .call ⟨.builtin .append, #[.tmp 65, .tmp 73], #[61, 61]⟩, 61, "law.go:58", #[⟨0, .data⟩, ⟨8, .data⟩, ⟨6, .chain⟩], none⟩) rfl (fun Kq hKq => ?_) AllReadyH.nil
            (refine S10.step_append_row layOp4 rfl _ _ rfl rfl (HRV.out.alloc _) (lcs4_one L) (by have := HWS.out; have := HM2.out.2.size; simp; omega) 1 rfl (rd_four v2 (.pointer none) (Pw B) (.pointer none) (Pw C) 66) rfl (Tk.four_one (Tk.fr (fr0 a)) B C) (by have := HLE.out; have := HIN.out; have := HAN.out; omega) ?_; intro vv wv hr2 ht2 ho2; (have HR2 := Lib.hid hr2); (have HT2 := Lib.hid ht2); (have HO2 := Lib.hid ho2); (clear hr2 ht2 ho2))
            refine hKq.out _ _ ?_ (fun hHeld => ?_)
            · exact ⟨(HT2.out.cell (World.block_lt_of_cell? _ _ hHeld.1) HNO.out).trans hHeld.1, (HT2.out.cell (World.block_lt_of_cell? _ _ hHeld.1) HNO.out).trans hHeld.2⟩
            clear hKq Kq
            (try simp only [Act.put, tC, tD, tE])
            refine tA 10 ⟨some 6, .assign (.tmp 74), 61, "law.go:58", #[⟨9, .data⟩, ⟨9, .chain⟩, ⟨0, .phase⟩, ⟨1, .phase⟩, ⟨2, .phase⟩, ⟨3, .phase⟩, ⟨4, .phase⟩, ⟨5, .phase⟩, ⟨6, .phase⟩, ⟨7, .phase⟩, ⟨8, .phase⟩, ⟨9, .phase⟩], none⟩ ?vpcm7 ?rpcm7
            (try simp only [Act.put, tC, tD, tE])
            refine wpAnyH_done (by kernel_rfl) ?_ _
            clear hHeld
            (try go_wp2_with fail)
            go_meet
            have hpf : PI4 w1 wv w1.heap.size PB WB RB N k0 (2 * i + 1) vv (L ++ [(B, C, (Tk.fr (fr0 a)))]) [blockP B8 (actF ⟨k, i2, t, a, sa, sv, p⟩)] := nb_fin4 (T := (Tk.fr (fr0 a))) (HM2.out.new (below1 _ _)) HKN.out HKS.out HLE.out HR2.out HT2.out HO2.out
            exact ⟨L ++ [(B, C, (Tk.fr (fr0 a)))], hpf⟩
          · have HN0 : Hid (NB w1 w4 w1.heap.size WB RB N (k0 + 2 * (2 * i)) (pre4 PB WB RB w1.heap.size u6 L ++ (lparts4 L ++ [blockP B8 (actF ⟨k, i2, t, a, sa, sv, p⟩)])) [] w4) := Lib.hid ⟨by
              obtain ⟨⟨tn, M, X, Y, hb⟩, _, _⟩ := H8.out
              exact ⟨tn, M, X, Y, by rw [List.append_nil]; exact hb⟩, Below.refl _ _⟩
            have HC : Hid (∀ W, Below w4.heap.size w4 W → (fun w' => w'.cell? ⟨B8, 2, none⟩ = some (.int .i64 t) ∧ w'.cell? ⟨B8, 3, none⟩ = some (.int .u32 (a : Int))) W) := Lib.hid (fun W b => ⟨bcell b x2, bcell b x3⟩)
            have HROW := Lib.hid H8.out.row; have HKS := Lib.hid H8.out.ok; have HLE := Lib.hid H8.out.le; have HWS := Lib.hid H8.out.bl.size
            have HKN : Hid ((Tk.fr (fr0 a)).ok) := Lib.hid (fok_new HOK.out.a)
            clear H8 x1 x2 x3 x4 x5 x6 q0 q1
            go_upto_region 17 with (fail)
            refine wp_region_held_drew (S := fun w' => w'.cell? ⟨B8, 2, none⟩ = some (.int .i64 t) ∧ w'.cell? ⟨B8, 3, none⟩ = some (.int .u32 (a : Int))) (by kernel_rfl) ?_ (fun hHeld => ?_)
            · exact HC.out _ (Below.refl _ _).drew
            refine tA 0 ⟨some 65, .move (.tmp 6), 61, "law.go:58", #[], none⟩ ?vpdm1 ?rpdm1
            (try simp only [Act.put, tC, tD, tE])
            refine tA 1 ⟨some 66, .fieldAddr 62 (.tmp 8) 3, 0, "law.go:58", #[], none⟩ ?vpdm2 ?rpdm2
            (try simp only [Act.put, tC, tD, tE])
            refine tA 2 ⟨some 67, .load 40 (.tmp 66), 40, "law.go:58", #[⟨1, .data⟩], none⟩ ?vpdm3 ?rpdm3
            (try simp only [Act.put, tC, tD, tE])
            refine tA 4 ⟨some 69, .fieldAddr 62 (.tmp 8) 3, 0, "law.go:58", #[], none⟩ ?vpdm4 ?rpdm4
            (try simp only [Act.put, tC, tD, tE])
            refine tA 5 ⟨some 70, .load 40 (.tmp 69), 40, "law.go:58", #[⟨4, .data⟩], none⟩ ?vpdm5 ?rpdm5
            (try simp only [Act.put, tC, tD, tE])
            refine wpAnyH_ready (rs := [3]) (by kernel_rfl) (by simp) ?_
            refine AllReadyH.cons (o := ⟨some 68, .call ⟨.value (.func 18), #[.tmp 67], #[40]⟩, 63, "law.go:58", #[⟨2, .data⟩], none⟩) rfl (fun Kq hKq => ?_) AllReadyH.nil
            go_simp
            (refine (nb_newF (HN0.out.drew) a).mono ?_; rintro e v1 ⟨B, rfl, hn1⟩; have HM1 : Hid (NB w1 w4 w1.heap.size WB RB N (k0 + 2 * (2 * i)) (pre4 PB WB RB w1.heap.size u6 L ++ (lparts4 L ++ [blockP B8 (actF ⟨k, i2, t, a, sa, sv, p⟩)])) [(Tk.fr (fr0 a)).p B] v1) := Lib.hid hn1; clear hn1)
            refine hKq.out _ _ ?_ (fun hHeld => ?_)
            · exact HC.out _ HM1.out.2
            clear hKq Kq
            (try simp only [Act.put, tC, tD, tE])
            refine wpAnyH_ready (rs := [6]) (by kernel_rfl) (by simp) ?_
            refine AllReadyH.cons (o := ⟨some 71, .call ⟨.value (.func 19), #[.tmp 70], #[40]⟩, 64, "law.go:58", #[⟨5, .data⟩, ⟨3, .chain⟩], none⟩) rfl (fun Kq hKq => ?_) AllReadyH.nil
            go_simp
            (refine (nb_newG HM1.out a).mono ?_; rintro e v2 ⟨C, rfl, hn2⟩; have HM2 : Hid (NB w1 w4 w1.heap.size WB RB N (k0 + 2 * (2 * i)) (pre4 PB WB RB w1.heap.size u6 L ++ (lparts4 L ++ [blockP B8 (actF ⟨k, i2, t, a, sa, sv, p⟩)])) [(Tk.fr (fr0 a)).p B, (Tk.fr (fr0 a)).rp C] v2) := Lib.hid hn2; clear hn2)
            refine hKq.out _ _ ?_ (fun hHeld => ?_)
            · exact HC.out _ HM2.out.2
            clear hKq Kq
            (try simp only [Act.put, tC, tD, tE])
            refine tA 7 ⟨some 72, .build 66 #[(1, .tmp 68), (3, .tmp 71)], 66, "law.go:58", #[⟨3, .data⟩, ⟨6, .data⟩], none⟩ ?vpdm6 ?rpdm6
            (try simp only [Act.put, tC, tD, tE])
            refine wpAnyH_ready (rs := [8]) (by kernel_rfl) (by simp) ?_
            refine AllReadyH.cons (o := ⟨some 73, .buildSlice 61 1 #[(0, .tmp 72)], 61, "law.go:58", #[⟨7, .data⟩], none⟩) rfl (fun Kq hKq => ?_) AllReadyH.nil
            (go_simp; have HRV := Lib.hid (HROW.out.new HM2.out.2))
            refine hKq.out _ _ ?_ (fun hHeld => ?_)
            · exact HC.out _ (HM2.out.2.alloc HM2.out.2.size _)
            clear hKq Kq
            (try simp only [Act.put, tC, tD, tE])
            refine wpAnyH_ready (rs := [9]) (by kernel_rfl) (by simp) ?_
            refine AllReadyH.cons (o := ⟨some 74, .call ⟨.builtin .append, #[.tmp 65, .tmp 73], #[61, 61]⟩, 61, "law.go:58", #[⟨0, .data⟩, ⟨8, .data⟩, ⟨6, .chain⟩], none⟩) rfl (fun Kq hKq => ?_) AllReadyH.nil
            (refine S10.step_append_row layOp4 rfl _ _ rfl rfl (HRV.out.alloc _) (lcs4_one L) (by have := HWS.out; have := HM2.out.2.size; simp; omega) 1 rfl (rd_four v2 (.pointer none) (Pw B) (.pointer none) (Pw C) 66) rfl (Tk.four_one (Tk.fr (fr0 a)) B C) (by have := HLE.out; have := HIN.out; have := HAN.out; omega) ?_; intro vv wv hr2 ht2 ho2; (have HR2 := Lib.hid hr2); (have HT2 := Lib.hid ht2); (have HO2 := Lib.hid ho2); (clear hr2 ht2 ho2))
            refine hKq.out _ _ ?_ (fun hHeld => ?_)
            · exact ⟨(HT2.out.cell (World.block_lt_of_cell? _ _ hHeld.1) HNO.out).trans hHeld.1, (HT2.out.cell (World.block_lt_of_cell? _ _ hHeld.1) HNO.out).trans hHeld.2⟩
            clear hKq Kq
            (try simp only [Act.put, tC, tD, tE])
            refine tA 10 ⟨some 6, .assign (.tmp 74), 61, "law.go:58", #[⟨9, .data⟩, ⟨9, .chain⟩, ⟨0, .phase⟩, ⟨1, .phase⟩, ⟨2, .phase⟩, ⟨3, .phase⟩, ⟨4, .phase⟩, ⟨5, .phase⟩, ⟨6, .phase⟩, ⟨7, .phase⟩, ⟨8, .phase⟩, ⟨9, .phase⟩], none⟩ ?vpdm7 ?rpdm7
            (try simp only [Act.put, tC, tD, tE])
            refine wpAnyH_done (by kernel_rfl) ?_ _
            clear hHeld
            (try go_wp2_with fail)
            go_meet
            have hpf : PI4 w1 wv w1.heap.size PB WB RB N k0 (2 * i + 1) vv (L ++ [(B, C, (Tk.fr (fr0 a)))]) [blockP B8 (actF ⟨k, i2, t, a, sa, sv, p⟩)] := nb_fin4 (T := (Tk.fr (fr0 a))) (HM2.out.new (below1 _ _)) HKN.out HKS.out HLE.out HR2.out HT2.out HO2.out
            exact ⟨L ++ [(B, C, (Tk.fr (fr0 a)))], hpf⟩
          · have HST := Lib.hid (H8.out.store HOK.out.sa HOK.out.sv (by have := HC1.out; omega))
            go_wp2_with (go_at_call 11; refine HST.out.mono ?_; rintro e w5 ⟨rfl, h5⟩)
            go_meet
            exact ⟨L, h5⟩
          · have HUN := Lib.hid (H8.out.unpark (by have := HC1.out; omega) p)
            go_wp2_with (go_at_call 12; refine HUN.out.mono ?_; rintro e w5 ⟨rfl, h5⟩)
            go_meet
            exact ⟨L, h5⟩
          · have b0 : ((m : Int) == 0) = false := by rw [beq_eq_false_iff_ne]; omega
            have b1 : ((m : Int) == 1) = false := by rw [beq_eq_false_iff_ne]; omega
            have b2 : ((m : Int) == 2) = false := by rw [beq_eq_false_iff_ne]; omega
            have b3 : ((m : Int) == 3) = false := by rw [beq_eq_false_iff_ne]; omega
            have b4 : ((m : Int) == 4) = false := by rw [beq_eq_false_iff_ne]; omega
            have b5 : ((m : Int) == 5) = false := by rw [beq_eq_false_iff_ne]; omega
            have hpi := H8.out
            obtain ⟨A, cap, hv, hlc, hcc⟩ := hpi.row.shape
            obtain ⟨n, hn⟩ : ∃ n, n = L.length := ⟨_, rfl⟩
            rw [← hn] at hv
            subst hv
            clear h4
            by_cases hL : n = 0
            · have HPN := Lib.hid hpi.next
              clear hpi hlc hcc hn H8
              subst hL
              go_upto_region 10 with (fail)
              refine wp_region_held_drew (S := fun w' => w'.cell? ⟨B8, 1, none⟩ = some (.int .u8 (i2 : Int)) ∧ w'.cell? ⟨PB, 0, none⟩ = some (Pw WB) ∧ w'.cell? ⟨PB, 1, none⟩ = some (Pw RB)) (by kernel_rfl) ?_ (fun hHeld => ?_)
              · exact ⟨x1, q0, q1⟩
              refine tA 0 ⟨some 28, .move (.tmp 6), 61, "law.go:64", #[], none⟩ ?vzem1 ?rzem1
              (try simp only [Act.put, tC, tD, tE])
              refine tA 1 ⟨some 29, .call ⟨.builtin .len, #[.tmp 28], #[61]⟩, 3, "law.go:64", #[⟨0, .data⟩], none⟩ ?vzem2 ?rzem2
              (try simp only [Act.put, tC, tD, tE])
              refine tA 2 ⟨some 30, .binOp .gtr 3 (.tmp 29) (.const (.int .i64 0)) 3, 4, "law.go:64", #[⟨1, .data⟩], none⟩ ?vzem3 ?rzem3
              (try simp only [Act.put, tC, tD, tE])
              refine tA 3 ⟨some 31, .move (.tmp 30), 4, "law.go:64", #[⟨2, .data⟩], none⟩ ?vzem4 ?rzem4
              (try simp only [Act.put, tC, tD, tE])
              refine wpAnyH_take (i := 4) (oi := ({ dst := some 32, op := Op.move (Operand.tmp 6), type := 61, pos := "law.go:64", after := #[{ on := 3, ground := Ground.guard }], guard := some (3, true) } : Oper)) (v := undef) rfl (by kernel_rfl) (by kernel_rfl) (by kernel_rfl) (fun _ _ _ h => h) (Or.inr ⟨by rfl, rfl⟩) (by assumption) ?_
              (try simp only [Act.put, tC, tD, tE])
              refine wpAnyH_take (i := 5) (oi := ({ dst := some 33, op := Op.fieldAddr 62 (Operand.tmp 8) 1, type := 0, pos := "law.go:64", after := #[{ on := 3, ground := Ground.guard }], guard := some (3, true) } : Oper)) (v := undef) rfl (by kernel_rfl) (by kernel_rfl) (by kernel_rfl) (fun _ _ _ h => h) (Or.inr ⟨by rfl, rfl⟩) (by assumption) ?_
              (try simp only [Act.put, tC, tD, tE])
              refine wpAnyH_take (i := 6) (oi := ({ dst := some 34, op := Op.load 5 (Operand.tmp 33), type := 5, pos := "law.go:64", after := #[{ on := 5, ground := Ground.data }, { on := 3, ground := Ground.guard }], guard := some (3, true) } : Oper)) (v := undef) rfl (by kernel_rfl) (by kernel_rfl) (by kernel_rfl) (fun _ _ _ h => h) (Or.inr ⟨by rfl, rfl⟩) (by assumption) ?_
              (try simp only [Act.put, tC, tD, tE])
              refine wpAnyH_take (i := 7) (oi := ({ dst := some 35, op := Op.convert 5 3 (Operand.tmp 34), type := 3, pos := "law.go:64", after := #[{ on := 6, ground := Ground.data }, { on := 3, ground := Ground.guard }], guard := some (3, true) } : Oper)) (v := undef) rfl (by kernel_rfl) (by kernel_rfl) (by kernel_rfl) (fun _ _ _ h => h) (Or.inr ⟨by rfl, rfl⟩) (by assumption) ?_
              (try simp only [Act.put, tC, tD, tE])
              refine wpAnyH_take (i := 8) (oi := ({ dst := some 36, op := Op.move (Operand.tmp 6), type := 61, pos := "law.go:64", after := #[{ on := 3, ground := Ground.guard }], guard := some (3, true) } : Oper)) (v := undef) rfl (by kernel_rfl) (by kernel_rfl) (by kernel_rfl) (fun _ _ _ h => h) (Or.inr ⟨by rfl, rfl⟩) (by assumption) ?_
              (try simp only [Act.put, tC, tD, tE])
              refine wpAnyH_take (i := 9) (oi := ({ dst := some 37, op := Op.call { callee := Callee.builtin Builtin.len, args := #[Operand.tmp 36], argTypes := #[61] }, type := 3, pos := "law.go:64", after := #[{ on := 8, ground := Ground.data }, { on := 3, ground := Ground.guard }], guard := some (3, true) } : Oper)) (v := undef) rfl (by kernel_rfl) (by kernel_rfl) (by kernel_rfl) (fun _ _ _ h => h) (Or.inr ⟨by rfl, rfl⟩) (by assumption) ?_
              (try simp only [Act.put, tC, tD, tE])
              refine wpAnyH_take (i := 10) (oi := ({ dst := some 38, op := Op.binOp BinOp.rem 3 (Operand.tmp 35) (Operand.tmp 37) 3, type := 3, pos := "law.go:64", after := #[{ on := 7, ground := Ground.data }, { on := 9, ground := Ground.data }, { on := 3, ground := Ground.guard }], guard := some (3, true) } : Oper)) (v := undef) rfl (by kernel_rfl) (by kernel_rfl) (by kernel_rfl) (fun _ _ _ h => h) (Or.inr ⟨by rfl, rfl⟩) (by assumption) ?_
              (try simp only [Act.put, tC, tD, tE])
              refine wpAnyH_take (i := 11) (oi := ({ dst := some 39, op := Op.indexAddr 61 (Operand.tmp 32) (Operand.tmp 38), type := 0, pos := "law.go:64", after := #[{ on := 4, ground := Ground.data }, { on := 10, ground := Ground.data }, { on := 3, ground := Ground.guard }], guard := some (3, true) } : Oper)) (v := undef) rfl (by kernel_rfl) (by kernel_rfl) (by kernel_rfl) (fun _ _ _ h => h) (Or.inr ⟨by rfl, rfl⟩) (by assumption) ?_
              (try simp only [Act.put, tC, tD, tE])
              refine wpAnyH_take (i := 12) (oi := ({ dst := some 40, op := Op.load 66 (Operand.tmp 39), type := 66, pos := "law.go:64", after := #[{ on := 11, ground := Ground.data }, { on := 3, ground := Ground.guard }], guard := some (3, true) } : Oper)) (v := undef) rfl (by kernel_rfl) (by kernel_rfl) (by kernel_rfl) (fun _ _ _ h => h) (Or.inr ⟨by rfl, rfl⟩) (by assumption) ?_
              (try simp only [Act.put, tC, tD, tE])
              refine wpAnyH_take (i := 13) (oi := ({ dst := some 41, op := Op.load 36 (Operand.tmp 5), type := 36, pos := "law.go:64", after := #[{ on := 3, ground := Ground.guard }], guard := some (3, true) } : Oper)) (v := undef) rfl (by kernel_rfl) (by kernel_rfl) (by kernel_rfl) (fun _ _ _ h => h) (Or.inr ⟨by rfl, rfl⟩) (by assumption) ?_
              (try simp only [Act.put, tC, tD, tE])
              refine wpAnyH_take (i := 14) (oi := ({ dst := some 42, op := Op.call { callee := Callee.value (Operand.func 20), args := #[Operand.tmp 40, Operand.tmp 41], argTypes := #[66, 36] }, type := 4, pos := "law.go:64", after := #[{ on := 12, ground := Ground.data }, { on := 13, ground := Ground.data }, { on := 3, ground := Ground.chain }, { on := 3, ground := Ground.guard }], guard := some (3, true) } : Oper)) (v := undef) rfl (by kernel_rfl) (by kernel_rfl) (by kernel_rfl) (fun _ _ _ h => h) (Or.inr ⟨by rfl, rfl⟩) (by assumption) ?_
              (try simp only [Act.put, tC, tD, tE])
              refine wpAnyH_take (i := 15) (oi := ({ dst := some 43, op := Op.unOp UnOp.not 4 (Operand.tmp 42), type := 4, pos := "law.go:64", after := #[{ on := 14, ground := Ground.data }, { on := 3, ground := Ground.guard }], guard := some (3, true) } : Oper)) (v := undef) rfl (by kernel_rfl) (by kernel_rfl) (by kernel_rfl) (fun _ _ _ h => h) (Or.inr ⟨by rfl, rfl⟩) (by assumption) ?_
              (try simp only [Act.put, tC, tD, tE])
              refine tA 16 ⟨some 44, .pick (.tmp 31) (.tmp 43) (.const (.bool false)), 4, "law.go:64", #[⟨3, .data⟩, ⟨15, .data⟩], none⟩ ?vzem17 ?rzem17
              (try simp only [Act.put, tC, tD, tE])
              refine wpAnyH_done (by kernel_rfl) ?_ _
              clear hHeld
              (try go_wp2_with fail)
              go_meet
              exact ⟨L, HPN.out.new (Below.refl _ _).drew⟩
            · have d3 : decide (0 < (n : Int)) = true := by rw [decide_eq_true_iff]; omega
              have d4 : decide (0 < n) = true := by rw [decide_eq_true_iff]; omega
              have d5 : 0 < n := by omega
              have hcb : k0 + 2 * (2 * i) ≤ 2099999 := by have := HC1.out; omega
              obtain ⟨j, hjl, d0, d1, e1, e2, e3, e4, e5, d2⟩ := idx_facts i2 n HOK.out.i hL
              obtain ⟨g, o, B, C, T, rfl, hj, hy⟩ := hpi.at hn (hn ▸ hjl)
              obtain ⟨_, _, hg4⟩ := lparts4_get L j _ hj
              have hop := (hpi.new (Below.refl _ _).drew).op hcb hj
              obtain ⟨f0, f1, f2, f3, hf⟩ : ∃ f0 f1 f2 f3, Tk.four B C T = [f0, f1, f2, f3] := by cases T <;> exact ⟨_, _, _, _, rfl⟩
              rw [hf] at hop
              simp only [hf] at hg4
              have y0 := hy 0 f0 (by rw [hf]; rfl); have y1 := hy 1 f1 (by rw [hf]; rfl); have y2 := hy 2 f2 (by rw [hf]; rfl); have y3 := hy 3 f3 (by rw [hf]; rfl)
              rw [Nat.add_zero] at y0
              have hf0 := hg4 0 (by decide); have hf1 := hg4 1 (by decide); have hf2 := hg4 2 (by decide); have hf3 := hg4 3 (by decide)
              simp only [List.getElem?_cons_zero, List.getElem?_cons_succ] at hf0 hf1 hf2 hf3
              rw [Nat.add_zero] at hf0
              have HFS := Lib.hid (And.intro hf0 (And.intro hf1 (And.intro hf2 hf3)))
              have HOP := Lib.hid hop
              clear hpi hlc hcc hj hy hg4 hf hf0 hf1 hf2 hf3 hop H8 hn hcb
              go_upto_region 10 with (fail)
              refine wp_region_held_drew (S := fun w' => w'.cell? ⟨B8, 1, none⟩ = some (.int .u8 (i2 : Int)) ∧ w'.cell? ⟨PB, 0, none⟩ = some (Pw WB) ∧ w'.cell? ⟨PB, 1, none⟩ = some (Pw RB) ∧ w'.cell? ⟨g, o + j * 4, none⟩ = some f0 ∧ w'.cell? ⟨g, o + j * 4 + 1, none⟩ = some f1 ∧ w'.cell? ⟨g, o + j * 4 + 2, none⟩ = some f2 ∧ w'.cell? ⟨g, o + j * 4 + 3, none⟩ = some f3) (by kernel_rfl) ?_ (fun hHeld => ?_)
              · exact ⟨x1, q0, q1, y0, y1, y2, y3⟩
              refine tA 0 ⟨some 28, .move (.tmp 6), 61, "law.go:64", #[], none⟩ ?vzsm1 ?rzsm1
              (try simp only [Act.put, tC, tD, tE])
              refine tA 1 ⟨some 29, .call ⟨.builtin .len, #[.tmp 28], #[61]⟩, 3, "law.go:64", #[⟨0, .data⟩], none⟩ ?vzsm2 ?rzsm2
              (try simp only [Act.put, tC, tD, tE])
              refine tA 2 ⟨some 30, .binOp .gtr 3 (.tmp 29) (.const (.int .i64 0)) 3, 4, "law.go:64", #[⟨1, .data⟩], none⟩ ?vzsm3 ?rzsm3
              (try simp only [Act.put, tC, tD, tE])
              refine tA 3 ⟨some 31, .move (.tmp 30), 4, "law.go:64", #[⟨2, .data⟩], none⟩ ?vzsm4 ?rzsm4
              (try simp only [Act.put, tC, tD, tE])
              refine tA 4 ⟨some 32, .move (.tmp 6), 61, "law.go:64", #[⟨3, .guard⟩], some (3, true)⟩ ?vzsm5 ?rzsm5
              (try simp only [Act.put, tC, tD, tE])
              refine tA 5 ⟨some 33, .fieldAddr 62 (.tmp 8) 1, 0, "law.go:64", #[⟨3, .guard⟩], some (3, true)⟩ ?vzsm6 ?rzsm6
              (try simp only [Act.put, tC, tD, tE])
              refine tA 6 ⟨some 34, .load 5 (.tmp 33), 5, "law.go:64", #[⟨5, .data⟩, ⟨3, .guard⟩], some (3, true)⟩ ?vzsm7 ?rzsm7
              (try simp only [Act.put, tC, tD, tE])
              refine tA 7 ⟨some 35, .convert 5 3 (.tmp 34), 3, "law.go:64", #[⟨6, .data⟩, ⟨3, .guard⟩], some (3, true)⟩ ?vzsm8 ?rzsm8
              (try simp only [Act.put, tC, tD, tE])
              refine tA 8 ⟨some 36, .move (.tmp 6), 61, "law.go:64", #[⟨3, .guard⟩], some (3, true)⟩ ?vzsm9 ?rzsm9
              (try simp only [Act.put, tC, tD, tE])
              refine tA 9 ⟨some 37, .call ⟨.builtin .len, #[.tmp 36], #[61]⟩, 3, "law.go:64", #[⟨8, .data⟩, ⟨3, .guard⟩], some (3, true)⟩ ?vzsm10 ?rzsm10
              (try simp only [Act.put, tC, tD, tE])
              refine tA 10 ⟨some 38, .binOp .rem 3 (.tmp 35) (.tmp 37) 3, 3, "law.go:64", #[⟨7, .data⟩, ⟨9, .data⟩, ⟨3, .guard⟩], some (3, true)⟩ ?vzsm11 ?rzsm11
              (try simp only [Act.put, tC, tD, tE])
              refine tA 11 ⟨some 39, .indexAddr 61 (.tmp 32) (.tmp 38), 0, "law.go:64", #[⟨4, .data⟩, ⟨10, .data⟩, ⟨3, .guard⟩], some (3, true)⟩ ?vzsm12 ?rzsm12
              (try simp only [Act.put, tC, tD, tE])
              refine tA 12 ⟨some 40, .load 66 (.tmp 39), 66, "law.go:64", #[⟨11, .data⟩, ⟨3, .guard⟩], some (3, true)⟩ ?vzsm13 ?rzsm13
              (try simp only [Act.put, tC, tD, tE])
              refine tA 13 ⟨some 41, .load 36 (.tmp 5), 36, "law.go:64", #[⟨3, .guard⟩], some (3, true)⟩ ?vzsm14 ?rzsm14
              (try simp only [Act.put, tC, tD, tE])
              refine wpAnyH_ready (rs := [14]) (by kernel_rfl) (by simp) ?_
              refine AllReadyH.cons (o := ⟨some 42, .call ⟨.value (.func 20), #[.tmp 40, .tmp 41], #[66, 36]⟩, 4, "law.go:64", #[⟨12, .data⟩, ⟨13, .data⟩, ⟨3, .chain⟩, ⟨3, .guard⟩], some (3, true)⟩) rfl (fun Kq hKq => ?_) AllReadyH.nil
              go_simp
              (refine HOP.out.mono ?_; rintro e w6 ⟨rfl, L2, h6, hl6, hn6⟩; (have H6 := Lib.hid (And.intro h6 (And.intro hl6 hn6))); clear h6 hl6 hn6)
              refine hKq.out _ _ ?_ (fun hHeld => ?_)
              · exact held10 H6.out.1 H6.out.2.1 HFS.out.1 HFS.out.2.1 HFS.out.2.2.1 HFS.out.2.2.2
              clear hKq Kq
              (try simp only [Act.put, tC, tD, tE])
              refine tA 15 ⟨some 43, .unOp .not 4 (.tmp 42), 4, "law.go:64", #[⟨14, .data⟩, ⟨3, .guard⟩], some (3, true)⟩ ?vzsm15 ?rzsm15
              (try simp only [Act.put, tC, tD, tE])
              refine tA 16 ⟨some 44, .pick (.tmp 31) (.tmp 43) (.const (.bool false)), 4, "law.go:64", #[⟨3, .data⟩, ⟨15, .data⟩], none⟩ ?vzsm16 ?rzsm16
              (try simp only [Act.put, tC, tD, tE])
              refine wpAnyH_done (by kernel_rfl) ?_ _
              clear hHeld
              (try go_wp2_with fail)
              go_meet
              exact ⟨L2, H6.out.1⟩
        case rest =>
          clear H8 HNO x1 x2 x3 x4 x5 x6
          obtain ⟨L', hpi⟩ := hcut
          have hpr := hpi.pair
          have q0 := cell_row hpr 0; have q1 := cell_row hpr 1
          simp only [List.getElem?_toArray, List.getElem?_cons_zero, List.getElem?_cons_succ] at q0 q1
          have HSM := Lib.hid (hpi.next.same (by have := HK0.out; have := HAN.out; have := HIN.out; omega))
          have e1 : wrap64 ((i : Int) + 1) = (i : Int) + 1 := by have := HAN.out; have := HIN.out; unfold wrap64; omega
          clear hpi hpr
          go_wp2_with (go_at_call 15; refine HSM.out.mono ?_; rintro e w6 ⟨rfl, h6⟩)
          go_roundg (an - (i + 1))
          case measure => have := HIN.out; omega
          case rel => exact ⟨i + 1, L', by have := HIN.out; omega, rfl, by go_num, h6.dropR (R := [])⟩
      · obtain rfl : i = an := by omega
        have hpr := hpi.pair
        have q0 := cell_row hpr 0; have q1 := cell_row hpr 1
        simp only [List.getElem?_toArray, List.getElem?_cons_zero, List.getElem?_cons_succ] at q0 q1
        have HSM := Lib.hid (hpi.all (by have := HK0.out; have := HAN.out; omega) HK0.out.2)
        clear hpi hpr
        go_wp2_with (first
          | (go_at_call 16; refine HSM.out.mono ?_; rintro e w6 ⟨rfl, h6⟩)
          | (go_at_call 17; refine (HLV.out _).mono ?_; rintro e w7 ⟨rfl, h7⟩))
        go_ret
        exact ⟨rfl, HB1.out.trans ((h6.trans (h7.mono h6.size)).mono HB1.out.size)⟩
  · have d3 : decide ((200 : Int) < (an : Int)) = true := by simp; omega
    clear hbegin hb1 h0 hB0 hai han hbig
    go_enter Tryz.func4, Tryz.ntmps4
    go_upto_region 1 with (fail)
    generalize w.alloc (.cells #[.int .i64 sp, .int .u64 (mo : Int), .slice dA dn dc, .slice sA sn sc, .slice gA gn gc, .slice qA qn qc, .int .u64 (tk : Int)] 30) = w1 at *
    go_wp2_with (go_at_call 17; refine (HLV.out _).mono ?_; rintro e w7 ⟨rfl, h7⟩)
    go_ret
    exact ⟨rfl, HB1.out.trans (h7.mono HB1.out.size)⟩
end Go.Proofs.YtlflagjnlclffaaGreat.S14
