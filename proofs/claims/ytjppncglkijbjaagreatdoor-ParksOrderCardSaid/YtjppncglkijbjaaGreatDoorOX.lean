/- ParksOrder: what it does to a world, piece by piece. -/
import Derived.Test.YtjppncglkijbjaaGreatDoorB46
import Derived.Deep.LoopGhost
import Derived.LoopTactic
set_option linter.unusedVariables false
set_option linter.unusedSimpArgs false
set_option linter.unusedVariables false
set_option linter.unusedSimpArgs false
namespace Go.Proofs.YtjppncglkijbjaaGreatDoor.S18
open Go.Proofs.YtjppncglkijbjaaGreatDoor Go.Proofs.YtjppncglkijbjaaGreatDoor.S11 Go.Proofs.YtjppncglkijbjaaGreatDoor.S12 Go.Proofs.YtjppncglkijbjaaGreatDoor.S13 Go.Proofs.YtjppncglkijbjaaGreatDoor.S14 Go.Proofs.YtjppncglkijbjaaGreatDoor.S15 Go.Proofs.YtjppncglkijbjaaGreatDoor.S16
open Go.RowKit

section
variable {w0 w w' : World} {base WB : Nat} {M : Sd} {r : List Part} {j e u B : Nat} {l l' : Rows} {X : Wm} {P : Pa}
set_option maxRecDepth 100000 in
set_option maxHeartbeats 4000000 in
/-- A Park that is not over behind as many steps. -/
theorem run_p0 {most : Nat} (h : PaR w0 w base WB M r j e u P B) (hm : most ≤ 100) (hr : ∀ i, i < most → Room w0 base (pitn (M, P) i).1 (pitn (M, P) i).2) (hpos : ∀ i, i ≤ most → (pitn (M, P) i).2.ln ≠ 0) :
    Calls Tryz.prog 15 #[Pw WB, .iface 32 (Pw B), .int .i64 (most : Int)] w fun e' w' => e' = .returned (.int .i64 0) ∧ PaR w0 w' base WB (pitn (M, P) most).1 r j e u (pitn (M, P) most).2 B := by
  have hm1 := m_pstep ⟨B, 0, none⟩
  have H := Lib.hid h; have HP := Lib.hid hpos; have HB := Lib.hid hm; have HR := Lib.hid hr
  clear h hpos hm hr
  go_enter Tryz.func15, Tryz.ntmps15
  go_wp2_with fail
  go_loopg [7] (most + 1) (fun q s7 wx => ∃ i : Nat, i ≤ most ∧ q = most + 1 - i ∧ s7 = .int .i64 ((i + 1 : Nat) : Int) ∧ PaR w0 wx base WB (pitn (M, P) i).1 r j e u (pitn (M, P) i).2 B)
  case atStart => exact ⟨0, Nat.zero_le _, by omega, rfl, H.out⟩
  case round =>
    obtain ⟨i, hi, rfl, rfl, hp⟩ := hrel
    have HI := Lib.hid hi
    by_cases he : i = most
    · have d1 : decide (((i + 1 : Nat) : Int) ≤ (most : Int)) = false := decide_eq_false (by omega)
      have hle : ¬ ((i : Int) + 1 ≤ (most : Int)) := by omega
      have d2 : decide ((i : Int) + 1 ≤ (most : Int)) = false := decide_eq_false hle
      have HN := Lib.hid he; have HPP := Lib.hid hp
      clear hp he hi
      go_wp2_with fail
      go_ret
      have hf := HPP.out
      rw [HN.out] at hf
      exact ⟨rfl, hf⟩
    · have hlt : i < most := by omega
      have hst := hp.step (HR.out i hlt)
      have hle : ((i + 1 : Nat) : Int) ≤ (most : Int) := by omega
      have d1 : decide (((i + 1 : Nat) : Int) ≤ (most : Int)) = true := decide_eq_true (by omega)
      have d2 : decide ((i : Int) + 1 ≤ (most : Int)) = true := decide_eq_true (by omega)
      have e0 : ¬ (paE (pitn (M, P) i).1 (pitn (M, P) i).2).ln = 0 := HP.out (i + 1) hlt
      rw [decide_eq_false e0] at hst
      have HST2 := Lib.hid hst; have HE := Lib.hid hlt
      have hm9 : i + 1 ≤ 100 := by have := HB.out; omega
      clear hst hp e0 he hi hlt
      go_wp2_with (go_at_call 30; refine HST2.out.mono ?_; rintro e' w6 ⟨rfl, hs⟩)
      go_roundg (most + 1 - (i + 1))
      case measure => have := HI.out; omega
      case rel => exact ⟨i + 1, HE.out, by omega, by go_num, hs⟩
end
end Go.Proofs.YtjppncglkijbjaaGreatDoor.S18
set_option linter.unusedVariables false
set_option linter.unusedSimpArgs false
set_option linter.unusedVariables false
set_option linter.unusedSimpArgs false
namespace Go.Proofs.YtjppncglkijbjaaGreatDoor.S18
open Go.Proofs.YtjppncglkijbjaaGreatDoor Go.Proofs.YtjppncglkijbjaaGreatDoor.S11 Go.Proofs.YtjppncglkijbjaaGreatDoor.S12 Go.Proofs.YtjppncglkijbjaaGreatDoor.S13 Go.Proofs.YtjppncglkijbjaaGreatDoor.S14 Go.Proofs.YtjppncglkijbjaaGreatDoor.S15 Go.Proofs.YtjppncglkijbjaaGreatDoor.S16
open Go.RowKit

section
variable {M : Sd} {D : Pd} {a pi : Nat} {Q : List S10.Ent} {E : En} {F : Fr}
theorem ltM_look (h : Pl M D.k a pi Q) (ht : D.t < 64) (hkw : S2.look M.L (64 + D.t) = D.k) (hh : D.hk = none) (b : Nat) : S2.look (ltM M D a pi).L b = S2.look M.L b := by
  have ha := h.ain
  have e0 : clrL (m7 M D a pi) D (g7 M D a pi) = m7 M D a pi := by unfold clrL; rw [hh]
  rw [ltM_eq, e0]
  by_cases hb : b = a
  · subst hb; rw [h.a0]; exact acc_same (by omega)
  · rw [acc_other hb, m7_look h ht hkw, if_neg hb]
end
end Go.Proofs.YtjppncglkijbjaaGreatDoor.S18
set_option linter.unusedVariables false
set_option linter.unusedSimpArgs false
set_option linter.unusedVariables false
set_option linter.unusedSimpArgs false
namespace Go.Proofs.YtjppncglkijbjaaGreatDoor.S18
open Go.Proofs.YtjppncglkijbjaaGreatDoor Go.Proofs.YtjppncglkijbjaaGreatDoor.S11 Go.Proofs.YtjppncglkijbjaaGreatDoor.S12 Go.Proofs.YtjppncglkijbjaaGreatDoor.S13 Go.Proofs.YtjppncglkijbjaaGreatDoor.S14 Go.Proofs.YtjppncglkijbjaaGreatDoor.S15 Go.Proofs.YtjppncglkijbjaaGreatDoor.S16
open Go.RowKit

section
variable {M : Sd} {D : Pd} {pb pi : Nat} {E : En} {F : Fr}
/-- What stays of a world by a step of one that is asleep. -/
structure Stays (M M' : Sd) (i : Nat) : Prop where
  L : M'.L = M.L
  m : M'.m = M.m
  nD : M'.nD = M.nD
  T : M'.T = M.T
  sp : M'.sp = M.sp
  pf : ∀ j, j ≠ i → M'.pf j = M.pf j
  p : (M'.pf i).p = false
theorem stay1 (hon : D.on = false) (hp : (M.pf (2 * D.t)).p = false) : pit (M, (⟨8, D, pb, pi, E, F, 0, 0⟩ : Pa)) = (M.park (2 * D.t), (⟨8, D, pb, pi, E, F, 0, 0⟩ : Pa)) := by
  have hg : slpG M D = 0 := by
    unfold slpG
    rw [hon, if_neg (by decide), hp, if_neg (by decide)]
  show ((if D.on then M.until (2 * D.t) D.at' else M.park (2 * D.t)), (if slpG M D = 0 then (⟨8, D, pb, pi, E, F, 0, 0⟩ : Pa) else if slpG M D = 2 then ⟨9, D, pb, pi, ow0 D.t, F, 0, 0⟩ else ⟨0, D, pb, pi, E, F, 0, 2⟩)) = _
  rw [hon, if_neg (by decide), if_pos hg]
theorem park_p {M : Sd} {i : Nat} (hp : (M.pf i).p = false) : ((M.park i).pf i).p = false := by
  show (S4.updP M.pf i (S4.parkK (M.pf i)) i).p = false
  unfold S4.updP S4.parkK
  rw [if_pos rfl, hp, if_neg (by decide)]
theorem park_ne {M : Sd} {i j : Nat} (h : j ≠ i) : (M.park i).pf j = M.pf j := by
  show S4.updP M.pf i (S4.parkK (M.pf i)) j = _
  unfold S4.updP
  exact if_neg h
theorem stays (hon : D.on = false) (hp : (M.pf (2 * D.t)).p = false) : ∀ n, ∃ M', pitn (M, (⟨8, D, pb, pi, E, F, 0, 0⟩ : Pa)) n = (M', (⟨8, D, pb, pi, E, F, 0, 0⟩ : Pa)) ∧ Stays M M' (2 * D.t)
  | 0 => ⟨M, rfl, rfl, rfl, rfl, rfl, rfl, fun _ _ => rfl, hp⟩
  | n + 1 => by
    obtain ⟨M', e, s⟩ := stays hon hp n
    refine ⟨M'.park (2 * D.t), ?_, s.L, s.m, s.nD, s.T, s.sp, fun j hj => (park_ne hj).trans (s.pf j hj), park_p s.p⟩
    show pit (pitn (M, (⟨8, D, pb, pi, E, F, 0, 0⟩ : Pa)) n) = _
    rw [e]
    exact stay1 hon s.p
/-- Who is taken out of a queue. -/
theorem left_erase (t : Nat) (Q : List S10.Ent) : leftQ t Q = Q.eraseP (S10.byThread (t : Int)) := by
  unfold leftQ S10.cutL S10.idx
  rw [List.eraseP_eq_eraseIdx]
  cases Q.findIdx? (S10.byThread (t : Int)) with
  | none => exact if_neg (by decide)
  | some i => exact if_pos (Int.natCast_nonneg i)
theorem left_at {t : Nat} {A B : List S10.Ent} {e : S10.Ent} (hA : ∀ x, x ∈ A → x.t ≠ (t : Int)) (he : e.t = (t : Int)) : leftQ t (A ++ e :: B) = A ++ B := by
  rw [left_erase, List.eraseP_append_right _ (fun x hx => by unfold S10.byThread; rw [decide_eq_false (hA x hx)]; decide), List.eraseP_cons_of_pos (by unfold S10.byThread; rw [decide_eq_true he])]
theorem left_no {t : Nat} {Q : List S10.Ent} (hQ : ∀ x, x ∈ Q → x.t ≠ (t : Int)) : leftQ t Q = Q := by
  rw [left_erase, List.eraseP_of_forall_not (fun x hx => by unfold S10.byThread; rw [decide_eq_false (hQ x hx)]; decide)]
end
end Go.Proofs.YtjppncglkijbjaaGreatDoor.S18
namespace Go.Proofs.YtjppncglkijbjaaGreatDoor.S19
abbrev Rows := Go.Proofs.YtjppncglkijbjaaGreatDoor.S18.Rows
end Go.Proofs.YtjppncglkijbjaaGreatDoor.S19
set_option linter.unusedVariables false
set_option linter.unusedSimpArgs false
namespace Go.Proofs.YtjppncglkijbjaaGreatDoor.S19
open Go.Proofs.YtjppncglkijbjaaGreatDoor Go.Proofs.YtjppncglkijbjaaGreatDoor.S11 Go.Proofs.YtjppncglkijbjaaGreatDoor.S12 Go.Proofs.YtjppncglkijbjaaGreatDoor.S13 Go.Proofs.YtjppncglkijbjaaGreatDoor.S14 Go.Proofs.YtjppncglkijbjaaGreatDoor.S15 Go.Proofs.YtjppncglkijbjaaGreatDoor.S16 Go.Proofs.YtjppncglkijbjaaGreatDoor.S18
open Go.RowKit

/-- A Park at rest: asleep, or over. -/
structure Slp (l : Rows) (P : Pa) (B : Nat) : Prop where
  ok : PaOk P
  ln : P.ln = 8 ∨ P.ln = 0
  sh : ∀ r e u, Shape P B r e u l
theorem shape_any {P : Pa} {B : Nat} {r r' : List Part} {e u e' u' : Nat} {l : Rows} (hl : P.ln = 8 ∨ P.ln = 0) (h : Shape P B r e u l) : Shape P B r' e' u' l := by
  obtain ⟨ln, D, pb, pi, E, F, ky, o⟩ := P
  have hl' : ln = 8 ∨ ln = 0 := hl
  rcases hl' with rfl | rfl
  · exact h
  · exact h
abbrev rs (H : List Part) (L : List Rows) : List Part := noP :: noP :: (H ++ L.map rowsP)
/-- A world, and beside it slices and the like (H), and so many things at rest (L). -/
def AllS (w0 w : World) (base WB : Nat) (M : Sd) (H : List Part) (L : List Rows) : Prop := ∃ q1 q2 X, Pg w0 w base WB M (q1 :: q2 :: (H ++ L.map rowsP)) X
section
variable {w0 w w' : World} {base WB : Nat} {M : Sd} {H : List Part} {L : List Rows} {B : Nat} {X : Wm}
theorem at_rs {q1 q2 : Part} {i : Nat} {l : Rows} (hi : L[i]? = some l) : (q1 :: q2 :: (H ++ L.map rowsP))[2 + H.length + i]? = some (rowsP l) := by
  rw [show 2 + H.length + i = (H.length + i) + 1 + 1 by omega, List.getElem?_cons_succ, List.getElem?_cons_succ, List.getElem?_append_right (by omega), show H.length + i - H.length = i by omega, List.getElem?_map, hi]; rfl
theorem set_rs {q1 q2 : Part} {i : Nat} {l : Rows} : (q1 :: q2 :: (H ++ L.map rowsP)).set (2 + H.length + i) (rowsP l) = q1 :: q2 :: (H ++ (L.set i l).map rowsP) := by
  rw [show 2 + H.length + i = (H.length + i) + 1 + 1 by omega, List.set_cons_succ, List.set_cons_succ, List.set_append_right _ _ (by omega), show H.length + i - H.length = i by omega, List.map_set]
theorem AllS.new (h : AllS w0 w base WB M H L) (b : Below w.heap.size w w') : AllS w0 w' base WB M H L := by
  obtain ⟨q1, q2, X, h⟩ := h
  exact ⟨q1, q2, X, h.new b⟩
theorem AllS.bl (h : AllS w0 w base WB M H L) : Below base w0 w := by
  obtain ⟨q1, q2, X, h⟩ := h
  exact h.bl
theorem AllS.pg (h : AllS w0 w base WB M H L) : ∃ r X, Pg w0 w base WB M r X := by
  obtain ⟨q1, q2, X, h⟩ := h
  exact ⟨_, X, h⟩
theorem AllS.first (h : Pg w0 w base WB M [] X) : AllS w0 w base WB M [] [] :=
  ⟨noP, noP, X, (Pg.push1 (Pg.push1 h noP (Below.refl _ _) trivial (fun k e => e.elim)) noP (Below.refl _ _) trivial (fun k e => e.elim))⟩
theorem set01 {q1 q2 a b : Part} {r : List Part} : ((a :: b :: r).set 0 q1).set 1 q2 = q1 :: q2 :: r := rfl
theorem AllS.park (h : AllS w0 w base WB M H L) {i : Nat} {l : Rows} {P : Pa} (hi : L[i]? = some l) (s : Slp l P B) : PaR w0 w base WB M (rs H L) (2 + H.length + i) 0 1 P B := by
  obtain ⟨q1, q2, X, h⟩ := h
  have hlt := (List.getElem?_eq_some_iff.1 hi).1
  refine ⟨s.ok, q1, q2, X, by omega, by omega, by omega, by simp, by simp, l, ⟨?_, by simp; omega⟩, s.sh _ _ _⟩
  rw [set01, set_eq (at_rs hi)]
  exact h
theorem AllS.rest {i : Nat} {P : Pa} (h : PaR w0 w base WB M (rs H L) (2 + H.length + i) 0 1 P B) (hl : P.ln = 8 ∨ P.ln = 0) : ∃ l, AllS w0 w base WB M H (L.set i l) ∧ Slp l P B := by
  obtain ⟨ok, q1, q2, X, h⟩ := h
  obtain ⟨l, hw, hs⟩ := h.at'
  refine ⟨l, ⟨q1, q2, X, ?_⟩, ok, hl, fun r e u => shape_any hl hs⟩
  have hp := hw.pg
  rw [set01, set_rs] at hp
  exact hp
theorem AllS.more (h : AllS w0 w base WB M H L) : AllS w0 w base WB M H (L ++ [[]]) := by
  obtain ⟨q1, q2, X, h⟩ := h
  refine ⟨q1, q2, X, ?_⟩
  have := Pg.push1 h (rowsP []) (Below.refl _ _) ⟨fun x hx => (by cases hx), (by simp)⟩ (fun k e => by simp [rowsP] at e)
  rw [List.map_append, ← List.append_assoc]
  exact this
theorem last_rs : (L ++ [([] : Rows)])[L.length]? = some [] := by rw [List.getElem?_append_right (Nat.le_refl _), Nat.sub_self]; rfl
theorem AllS.wq (h : AllS w0 w base WB M H L) : ∃ X, Wq w0 w base WB M (rs H (L ++ [[]])) (2 + H.length + L.length) [] X := by
  obtain ⟨q1, q2, X, h⟩ := h.more
  have h1 := h.turn (j := 0) rfl noP trivial (Turns.refl _ _) (fun k e => e.elim)
  have h2 := h1.turn (j := 1) rfl noP trivial (Turns.refl _ _) (fun k e => e.elim)
  refine ⟨X, ?_, by simp; omega⟩
  rw [set_eq (at_rs last_rs)]
  exact h2
/-- What is last among them goes. -/
theorem AllS.drop {l : Rows} (h : AllS w0 w base WB M H (L ++ [l])) : AllS w0 w base WB M H L := by
  obtain ⟨q1, q2, X, h⟩ := h
  refine ⟨q1, q2, X, Parts.left (l' := [rowsP l]) ?_, h.wB, h.xm, h.bl⟩
  have := h.ps
  rw [List.map_append, ← List.append_assoc] at this
  rw [List.append_assoc]
  exact this
theorem set_last {l : Rows} : (L ++ [([] : Rows)]).set L.length l = L ++ [l] := by rw [List.set_append_right _ _ (Nat.le_refl _), Nat.sub_self]; rfl
theorem AllS.newpark {v : Value} {D : Pd} (h : AllS w0 w base WB M H L) (hv : HkOf v D.hk) (hh : D.hk = none) (ht : D.t < 64) (hk : D.k < 4294967296) :
    Calls Tryz.prog 10 #[.int .i64 (D.t : Int), .int .u32 (D.k : Int), .int .u64 (D.z : Int), .agg #[.bool D.on, .int .u64 (D.at' : Int)], v] w fun e' w' => ∃ B, e' = .returned (Pw B) ∧ PaR w0 w' base WB M (rs H (L ++ [[]])) (2 + H.length + L.length) 0 1 (pa0 D) B := by
  obtain ⟨X, hw⟩ := h.wq
  exact new_r hw hv (by omega) (by omega) (by simp) (by simp) (by omega) ht hk (fun c hc => by rw [hh] at hc; cases hc)
theorem AllS.alloc (h : AllS w0 w base WB M H L) (ob : Obj) : AllS w0 (w.alloc ob) base WB M H (L ++ [[(w.heap.size, ob)]]) := by
  obtain ⟨q1, q2, X, h⟩ := h
  refine ⟨q1, q2, X, ?_⟩
  have := Pg.push1 h (rowsP [(w.heap.size, ob)]) (below1 w ob) ⟨fun x hx => by rw [List.mem_singleton] at hx; rw [hx]; exact heap_alloc_new w ob, by simp⟩ (fun k e => by simp [rowsP] at e; omega)
  rw [List.map_append, ← List.append_assoc]
  exact this
theorem AllS.rows (h : AllS w0 w base WB M H L) {i : Nat} {l : Rows} (hi : L[i]? = some l) : (rowsP l).ok w := by
  obtain ⟨q1, q2, X, hp⟩ := h
  exact hp.ps.ok _ _ (hp.part (at_rs hi))
theorem AllS.blk (h : AllS w0 w base WB M H L) {i B : Nat} {ob : Obj} (hi : L[i]? = some [(B, ob)]) : w.heap[B]? = some ob :=
  (h.rows hi).1 (B, ob) List.mem_cons_self
/-- What stands beside: one more, one that turns. -/
theorem AllS.addH (h : AllS w0 w base WB M H []) (p : Part) (b : Below w.heap.size w w') (hq : p.ok w') (hf : ∀ k, p.fp k → w.heap.size ≤ k) : AllS w0 w' base WB M (H ++ [p]) [] := by
  obtain ⟨q1, q2, X, h⟩ := h
  refine ⟨q1, q2, X, ?_⟩
  have := Pg.push1 h p b hq hf
  rw [List.map_nil, List.append_nil] at this ⊢
  exact this
theorem at_rsH {q1 q2 : Part} {a : Nat} {p : Part} (ha : H[a]? = some p) : (q1 :: q2 :: (H ++ L.map rowsP))[2 + a]? = some p := by
  rw [show 2 + a = a + 1 + 1 by omega, List.getElem?_cons_succ, List.getElem?_cons_succ, List.getElem?_append_left (List.getElem?_eq_some_iff.1 ha).1]; exact ha
theorem AllS.turnH (h : AllS w0 w base WB M H L) {a : Nat} {p : Part} (ha : H[a]? = some p) (c : Part) (hq : c.ok w') (t : Turns p.fp w w') (hf : ∀ k, c.fp k → p.fp k ∨ w.heap.size ≤ k) : AllS w0 w' base WB M (H.set a c) L := by
  obtain ⟨q1, q2, X, h⟩ := h
  have h1 := h.turn (at_rsH ha) c hq t hf
  have e : (q1 :: q2 :: (H ++ L.map rowsP)).set (2 + a) c = q1 :: q2 :: (H.set a c ++ L.map rowsP) := by
    rw [show 2 + a = a + 1 + 1 by omega, List.set_cons_succ, List.set_cons_succ, List.set_append_left _ _ (List.getElem?_eq_some_iff.1 ha).1]
  rw [e] at h1
  exact ⟨q1, q2, X, h1⟩
theorem AllS.partH (h : AllS w0 w base WB M H L) {a : Nat} {p : Part} (ha : H[a]? = some p) : p.ok w := by
  obtain ⟨q1, q2, X, hp⟩ := h
  exact hp.ps.ok _ _ (hp.part (at_rsH ha))
end
end Go.Proofs.YtjppncglkijbjaaGreatDoor.S19
set_option linter.unusedVariables false
set_option linter.unusedSimpArgs false
namespace Go.Proofs.YtjppncglkijbjaaGreatDoor.S19
open Go.Proofs.YtjppncglkijbjaaGreatDoor Go.Proofs.YtjppncglkijbjaaGreatDoor.S11 Go.Proofs.YtjppncglkijbjaaGreatDoor.S12 Go.Proofs.YtjppncglkijbjaaGreatDoor.S13 Go.Proofs.YtjppncglkijbjaaGreatDoor.S14 Go.Proofs.YtjppncglkijbjaaGreatDoor.S15 Go.Proofs.YtjppncglkijbjaaGreatDoor.S16 Go.Proofs.YtjppncglkijbjaaGreatDoor.S18
open Go.RowKit

def iVn (t : Nat) : Value := .int .i64 (t : Int)
def lb (late j : Nat) : Bool := decide (late / 2 ^ j % 2 = 1)
theorem lb_int (late j : Nat) : decide (((late / 2 ^ j : Nat) : Int) % 2 = 1) = lb late j := by unfold lb; exact decide_eq_decide.2 ⟨fun h => by omega, fun h => by omega⟩
def oD (late : Nat) (O : List Nat) (j : Nat) : Pd := ⟨O[j]!, 1024, 0, lb late j, 5, none⟩
def eN (t : Nat) : S10.Ent := ⟨(t : Int), 1024, 0⟩
/-- Those without a deadline. -/
def lefts (late : Nat) (O : List Nat) : List Nat := (O.zipIdx.filter (fun p => !lb late p.2)).map Prod.fst
theorem lefts_snoc (late : Nat) (O : List Nat) (t : Nat) : lefts late (O ++ [t]) = if lb late O.length then lefts late O else lefts late O ++ [t] := by
  unfold lefts
  rw [List.zipIdx_append, List.filter_append, List.map_append]
  by_cases h : lb late O.length = true
  · rw [if_pos h, List.zipIdx_singleton, List.filter_cons_of_neg (by simp [h])]
    simp
  · rw [if_neg h, List.zipIdx_singleton, List.filter_cons_of_pos (by simp [h])]
    simp
theorem lefts_mem {late : Nat} {O : List Nat} {x : Nat} (h : x ∈ lefts late O) : x ∈ O := by
  unfold lefts at h
  obtain ⟨p, hp, rfl⟩ := List.mem_map.1 h
  have h1 := (List.mem_filter.1 hp).1
  obtain ⟨h2, h3⟩ := List.mem_zipIdx' (x := p.1) (i := p.2) h1
  rw [h3]
  exact List.getElem_mem h2
theorem lefts_len (late : Nat) (O : List Nat) : (lefts late O).length ≤ O.length := by
  unfold lefts
  rw [List.length_map]
  have := List.length_filter_le (fun p : Nat × Nat => !lb late p.2) O.zipIdx
  rw [List.length_zipIdx] at this
  exact this
/-- Who is queued while they run: those behind, and of those ahead the ones that stay. -/
def qN (late : Nat) (O : List Nat) (i : Nat) : List S10.Ent := (lefts late (O.take i)).map eN ++ (O.drop i).map eN
theorem qN_0 (late : Nat) (O : List Nat) : qN late O 0 = O.map eN := by simp [qN, lefts]
theorem qN_n (late : Nat) (O : List Nat) : qN late O O.length = (lefts late O).map eN := by simp [qN]
theorem qN_stay {late : Nat} {O : List Nat} {i : Nat} (hi : i < O.length) (h : lb late i = false) : qN late O (i + 1) = qN late O i := by
  unfold qN
  rw [List.take_succ_eq_append_getElem hi, lefts_snoc, List.length_take, Nat.min_eq_left (Nat.le_of_lt hi), h, if_neg (by decide), List.map_append, List.drop_eq_getElem_cons hi]
  simp only [List.map_cons, List.map_nil, List.append_assoc, List.cons_append, List.nil_append]
theorem qN_late {late : Nat} {O : List Nat} {i : Nat} (hi : i < O.length) (h : lb late i = true) (hn : O.Nodup) : leftQ O[i]! (qN late O i) = qN late O (i + 1) := by
  unfold qN
  rw [List.take_succ_eq_append_getElem hi, lefts_snoc, List.length_take, Nat.min_eq_left (Nat.le_of_lt hi), h, if_pos rfl, List.drop_eq_getElem_cons hi, List.map_cons, getElem!_pos O i hi]
  refine left_at (fun x hx => ?_) rfl
  obtain ⟨y, hy, rfl⟩ := List.mem_map.1 hx
  have hm := lefts_mem hy
  show ((y : Nat) : Int) ≠ ((O[i] : Nat) : Int)
  intro e
  have e' : y = O[i] := by omega
  rw [e'] at hm
  obtain ⟨j, hj, hje⟩ := List.getElem_of_mem hm
  rw [List.getElem_take] at hje
  have hji : j < i := by rw [List.length_take] at hj; omega
  have := (List.getElem_inj (h₀ := by omega) (h₁ := hi) hn).1 hje
  omega
theorem qN_key (late : Nat) (O : List Nat) (i : Nat) : ∀ x, x ∈ qN late O i → x.k = ((1024 : Nat) : Int) := fun x hx => by
  unfold qN at hx
  rcases List.mem_append.1 hx with h | h <;> (obtain ⟨y, _, rfl⟩ := List.mem_map.1 h; rfl)
theorem qN_len {late : Nat} {O : List Nat} {i : Nat} : (qN late O i).length ≤ O.length := by
  unfold qN
  rw [List.length_append, List.length_map, List.length_map, List.length_drop]
  have := lefts_len late (O.take i)
  rw [List.length_take] at this
  omega
theorem ent_o (late : Nat) (O : List Nat) (t : Nat) : entD (oD late (O ++ [t]) O.length) = eN t := by
  unfold entD oD eN
  rw [getElem!_pos (O ++ [t]) O.length (by simp)]
  simp
/-- So many that are asleep. -/
def SlpO (late : Nat) (O : List Nat) (pi : Nat) (L : List Rows) (Bs : List Nat) : Prop := L.length = O.length ∧ Bs.length = O.length ∧ ∀ i, i < O.length → ∃ l E F, L[i]? = some l ∧ Slp l ⟨8, oD late O i, 2, pi, E, F, 0, 0⟩ Bs[i]!
theorem SlpO.next {late : Nat} {O : List Nat} {pi : Nat} {L : List Rows} {Bs : List Nat} (h : SlpO late O pi L Bs) {t : Nat} {l : Rows} {E : En} {F : Fr} {B : Nat} (s : Slp l ⟨8, oD late (O ++ [t]) O.length, 2, pi, E, F, 0, 0⟩ B) : SlpO late (O ++ [t]) pi (L ++ [l]) (Bs ++ [B]) := by
  obtain ⟨h1, h2, h3⟩ := h
  refine ⟨by simp [h1], by simp [h2], fun i hi => ?_⟩
  by_cases hin : i < O.length
  · obtain ⟨l', E', F', g1, g2⟩ := h3 i hin
    refine ⟨l', E', F', by rw [List.getElem?_append_left (by omega)]; exact g1, ?_⟩
    have eD : oD late (O ++ [t]) i = oD late O i := by
      unfold oD
      rw [getElem!_pos (O ++ [t]) i (by simp; omega), List.getElem_append_left hin, getElem!_pos O i hin]
    rw [eD, getElem!_pos (Bs ++ [B]) i (by simp; omega), List.getElem_append_left (by omega)]
    rw [getElem!_pos Bs i (by omega)] at g2
    exact g2
  · have hi' : i < O.length + 1 := by rw [List.length_append] at hi; exact hi
    obtain rfl : i = O.length := by omega
    refine ⟨l, E, F, by rw [List.getElem?_append_right (by omega), h1, Nat.sub_self]; rfl, ?_⟩
    rw [getElem!_pos (Bs ++ [B]) O.length (by simp; omega), List.getElem_append_right (by omega)]
    simp only [h2, Nat.sub_self, List.getElem_cons_zero]
    exact s
/-- Those from some place on are asleep. -/
def SlpR (late : Nat) (O : List Nat) (pi : Nat) (L : List Rows) (Bs : List Nat) (j : Nat) : Prop := L.length = O.length ∧ Bs.length = O.length ∧ ∀ i, j ≤ i → i < O.length → ∃ l E F, L[i]? = some l ∧ Slp l ⟨8, oD late O i, 2, pi, E, F, 0, 0⟩ Bs[i]!
theorem SlpO.all {late : Nat} {O : List Nat} {pi : Nat} {L : List Rows} {Bs : List Nat} (h : SlpO late O pi L Bs) : SlpR late O pi L Bs 0 := ⟨h.1, h.2.1, fun i _ hi => h.2.2 i hi⟩
theorem SlpR.step {late : Nat} {O : List Nat} {pi : Nat} {L : List Rows} {Bs : List Nat} {j : Nat} (h : SlpR late O pi L Bs j) (l : Rows) : SlpR late O pi (L.set j l) Bs (j + 1) :=
  ⟨by rw [List.length_set]; exact h.1, h.2.1, fun i hij hi => by
    obtain ⟨l', E, F, g1, g2⟩ := h.2.2 i (by omega) hi
    exact ⟨l', E, F, by rw [List.getElem?_set_ne (by omega)]; exact g1, g2⟩⟩
theorem iVn_eN (O : List Nat) : (O.map eN).map iV = O.map iVn := by rw [List.map_map]; rfl
theorem iVn_int (O : List Nat) : ∀ i, i < (O.map iVn).length → ∃ z : Int, (O.map iVn)[i]? = some (.int .i64 z) := fun i hi => by
  rw [List.length_map] at hi
  exact ⟨(O[i] : Int), by rw [List.getElem?_map, List.getElem?_eq_getElem hi]; rfl⟩
/-- What is known of those in the order. -/
structure Ord (M : Sd) (O : List Nat) (i : Nat) : Prop where
  nd : O.Nodup
  lt : ∀ t, t ∈ O → t < 64
  p : ∀ j, i ≤ j → j < O.length → (M.pf (2 * O[j]!)).p = false
  kw : ∀ j, j < O.length → S2.look M.L (64 + O[j]!) = 1024
theorem Ord.tick {M : Sd} {O : List Nat} {i : Nat} (h : Ord M O i) (n : Nat) : Ord (M.tick n) O i := ⟨h.nd, h.lt, h.p, h.kw⟩
theorem Ord.next {M M' : Sd} {O : List Nat} {t : Nat} (h : Ord M O 0) (ht : t ∉ O) (ht64 : t < 64) (hp : (M'.pf (2 * t)).p = false) (hpf : ∀ j, j ≠ 2 * t → M'.pf j = M.pf j) (hl : ∀ b, S2.look M'.L b = if b = 64 + t then 1024 else S2.look M.L b) : Ord M' (O ++ [t]) 0 := by
  have hat : ∀ j, j < (O ++ [t]).length → (j < O.length ∧ (O ++ [t])[j]! = O[j]!) ∨ (j = O.length ∧ (O ++ [t])[j]! = t) := fun j hj => by
    by_cases hin : j < O.length
    · exact .inl ⟨hin, by rw [getElem!_pos (O ++ [t]) j hj, List.getElem_append_left hin, getElem!_pos O j hin]⟩
    · have hj' : j < O.length + 1 := by rw [List.length_append] at hj; exact hj
      obtain rfl : j = O.length := by omega
      exact .inr ⟨rfl, by rw [getElem!_pos (O ++ [t]) O.length hj]; simp⟩
  have hmem : ∀ j, j < O.length → O[j]! ∈ O := fun j hj => by rw [getElem!_pos O j hj]; exact List.getElem_mem hj
  refine ⟨by rw [List.nodup_append]; exact ⟨h.nd, by simp, fun a ha b hb => by rw [List.mem_singleton] at hb; rw [hb]; exact fun e => ht (e ▸ ha)⟩, fun s hs => ?_, fun j _ hj => ?_, fun j hj => ?_⟩
  · rcases List.mem_append.1 hs with h1 | h1
    · exact h.lt s h1
    · rw [List.mem_singleton] at h1; omega
  · rcases hat j hj with ⟨hin, e⟩ | ⟨_, e⟩
    · rw [e, hpf _ (fun e2 => ht (by have : O[j]! = t := (by omega); rw [← this]; exact hmem j hin))]
      exact h.p j (Nat.zero_le _) hin
    · rw [e]; exact hp
  · rcases hat j hj with ⟨hin, e⟩ | ⟨_, e⟩
    · rw [e, hl]
      split
      · rfl
      · exact h.kw j hin
    · rw [e, hl, if_pos rfl]
theorem Ord.step {M M' : Sd} {O : List Nat} {i : Nat} (h : Ord M O i) (hi : i < O.length) (hpf : ∀ j, j ≠ 2 * O[i]! → M'.pf j = M.pf j) (hl : ∀ b, S2.look M'.L b = S2.look M.L b) : Ord M' O (i + 1) := by
  refine ⟨h.nd, h.lt, fun j hij hj => ?_, fun j hj => by rw [hl]; exact h.kw j hj⟩
  rw [hpf]
  · exact h.p j (by omega) hj
  · intro e
    have e' : O[j]! = O[i]! := by omega
    rw [getElem!_pos O j hj, getElem!_pos O i hi] at e'
    have := (List.getElem_inj (h₀ := hj) (h₁ := hi) h.nd).1 e'
    omega
end Go.Proofs.YtjppncglkijbjaaGreatDoor.S19
set_option linter.unusedVariables false
set_option linter.unusedSimpArgs false
namespace Go.Proofs.YtjppncglkijbjaaGreatDoor.S19
open Go.Proofs.YtjppncglkijbjaaGreatDoor Go.Proofs.YtjppncglkijbjaaGreatDoor.S11 Go.Proofs.YtjppncglkijbjaaGreatDoor.S12 Go.Proofs.YtjppncglkijbjaaGreatDoor.S13 Go.Proofs.YtjppncglkijbjaaGreatDoor.S14 Go.Proofs.YtjppncglkijbjaaGreatDoor.S15 Go.Proofs.YtjppncglkijbjaaGreatDoor.S16 Go.Proofs.YtjppncglkijbjaaGreatDoor.S18
open Go.RowKit

theorem layP : S10.Lay 28 32 1 8 (.pointer none) := ⟨Tryz.underlying28, S10.info_of (by kernel_rfl), rfl, by decide, by decide⟩
theorem layI : S10.Lay 27 3 1 8 (.int .i64 0) := ⟨Tryz.underlying27, S10.info_of (by kernel_rfl), rfl, by decide, by decide⟩
def ptrs (Bs : List Nat) : List Value := Bs.map Pw
section
variable {w0 w w' : World} {base WB : Nat} {M : Sd} {H : List Part} {L : List Rows} {B : Nat} {X : Wm}
/-- A list beside a world that was appended to. -/
theorem AllS.app (h : AllS w0 w base WB M H L) {a n m : Nat} {s v' : Value} {cs cs' : List Value} {w1 w2 : World} (ha : H[a]? = some (intsP s n cs)) (b : Below w.heap.size w w1) (hr : S10.Row w2 0 1 v' m cs') (t : S10.Turns (fun k => s.ownBlock = some k) w1 w2) (ho : v'.ownBlock = s.ownBlock ∨ v'.ownBlock = some w1.heap.size) : AllS w0 w2 base WB M (H.set a (intsP v' m cs')) L :=
  (h.new b).turnH ha (intsP v' m cs') hr ⟨t.os, t.tape, t.output, t.size, t.block⟩ (fun k e => by
    have e' : v'.ownBlock = some k := e
    rcases ho with ho | ho
    · exact .inl (ho.symm.trans e')
    · rw [ho] at e'
      injection e' with e'
      exact .inr (Nat.le_of_eq e'))
theorem row_at {s v : Value} {n k : Nat} {cs : List Value} (h : S10.Row w 0 1 s n cs) (hk : cs[k]? = some v) : ∃ g o cap, s = .slice (some ⟨g, o, none⟩) n cap ∧ n ≤ cap ∧ cap ≤ 9223372036854775807 ∧ w.cell? ⟨g, o + k, none⟩ = some v := by
  obtain ⟨A, cap, rfl, h0, h1, h2, h3, h4⟩ := h
  have hkl := (List.getElem?_eq_some_iff.1 hk).1
  cases A with
  | none => have := h3 rfl; omega
  | some ad =>
    obtain ⟨g, o, rfl, _, _, hl, _⟩ := h4 ad rfl
    unfold maxLen at h2
    exact ⟨g, o, cap, rfl, h1, by omega, hl k v hk⟩
/-- A block in a part of its own. -/
theorem AllS.setB (h : AllS w0 w base WB M H L) {a : Nat} {p : Part} (ha : H[a]? = some p) (ob : Obj) : AllS w0 (w.alloc ob) base WB M (H.set a (rowsP [(w.heap.size, ob)])) L :=
  h.turnH ha (rowsP [(w.heap.size, ob)]) ⟨fun x hx => by rw [List.mem_singleton] at hx; rw [hx]; exact heap_alloc_new w ob, by simp⟩ (Turns.of_below (below1 w ob)) (fun k e => by simp [rowsP] at e; exact .inr (by omega))
end
end Go.Proofs.YtjppncglkijbjaaGreatDoor.S19
set_option linter.unusedVariables false
set_option linter.unusedSimpArgs false
namespace Go.Proofs.YtjppncglkijbjaaGreatDoor.S19
open Go.Proofs.YtjppncglkijbjaaGreatDoor Go.Proofs.YtjppncglkijbjaaGreatDoor.S11 Go.Proofs.YtjppncglkijbjaaGreatDoor.S12 Go.Proofs.YtjppncglkijbjaaGreatDoor.S13 Go.Proofs.YtjppncglkijbjaaGreatDoor.S14 Go.Proofs.YtjppncglkijbjaaGreatDoor.S15 Go.Proofs.YtjppncglkijbjaaGreatDoor.S16 Go.Proofs.YtjppncglkijbjaaGreatDoor.S18
open Go.RowKit

/-- A world of one key's queue. -/
structure Wk (M : Sd) (a pi : Nat) (Q : List S10.Ent) (T k : Nat) : Prop where
  pl : Pl M 1024 a pi Q
  T : M.T = T
  n : M.n ≤ k
  p : M.pn ≤ k
  nD : M.nD.length ≤ k
section
variable {w0 w w' : World} {base WB : Nat} {M : Sd} {a pi : Nat} {Q : List S10.Ent} {T k : Nat} {H : List Part} {L : List Rows} {B : Nat}
theorem roomk {M : Sd} {P : Pa} {n i pi : Nat} {a : Nat} {Q : List S10.Ent} (hT : Tab w0) (hb : 0 < base) (pl : Pl M 1024 a pi Q) (hn : M.n ≤ 60000) (hp : M.pn ≤ 60000) (hd : M.nD.length ≤ 60000) (hq : Q.length ≤ 100) (hi : i ≤ n) (hn2 : n ≤ 1000)
    (g2 : (pitn (M, P) i).2.ln = 5 ∨ (pitn (M, P) i).2.ln = 10 → (pitn (M, P) i).2.pb = 2 ∧ (pitn (M, P) i).2.pi = pi ∧ (pitn (M, P) i).1.m = M.m ∧ (pitn (M, P) i).1.nD = M.nD) : Room w0 base (pitn (M, P) i).1 (pitn (M, P) i).2 := by
  refine room_of (n := n) (c := 0) (pi := 0) hT hb pl.sp (by omega) (by omega) hi (fun hl => ?_)
  obtain ⟨e1, e2, e3, e4⟩ := g2 hl
  refine ⟨e1, by rw [e2, e3, pl.len]; exact pl.pil, ?_, by rw [e4]; omega⟩
  rw [e2]
  unfold qAt
  rw [e3]
  have := pl.q
  unfold qAt at this
  rw [this]; omega
/-- What a step to sleep leaves: with a deadline, without. -/
def slM (M : Sd) (D : Pd) : Sd := if D.on then M.until (2 * D.t) D.at' else M.park (2 * D.t)
/-- A Park goes asleep. -/
theorem sleep_k {D : Pd} (hT : Tab w0) (hb : 0 < base) (wk : Wk M a pi Q T k) (hk : k ≤ 50000) (hQ : Q.length ≤ 90) (ht : D.t < 64) (hkey : D.k = 1024) (hh : D.hk = none) (hat : D.on = true → ¬ D.at' ≤ T)
    (h : PaR w0 w base WB M (rs H (L ++ [[]])) (2 + H.length + L.length) 0 1 (pa0 D) B) :
    Calls Tryz.prog 11 #[Pw WB, Pw B, .int .i64 (D.t : Int)] w fun e' w' => e' = .returned (.bool true) ∧ ∃ M' l E F, AllS w0 w' base WB M' H (L ++ [l]) ∧ Slp l ⟨8, D, 2, pi, E, F, 0, 0⟩ B ∧ Wk M' a pi (Q ++ [entD D]) T (k + 10) ∧ (M'.pf (2 * D.t)).p = false ∧ (∀ j, j ≠ 2 * D.t → M'.pf j = M.pf j) ∧ (∀ b, S2.look M'.L b = if b = 64 + D.t then 1024 else S2.look M.L b) := by
  have hp : Pl M D.k a pi Q := by rw [hkey]; exact wk.pl
  have ha := hp.ain
  have h4 := hp.pil
  have hk32 : D.k < 4294967296 := by rw [hkey]; omega
  obtain ⟨g1, g2, E6, F6, g6⟩ := pk_run (D := D) hp ht hk32 hh
  have hr := @pkM_rest M D a pi
  have hp0 : ((pkM M D a pi).pf (2 * D.t)).p = false := by rw [hr.2.1]; unfold S4.updP; rw [if_pos rfl]; rfl
  have hT0 : (pkM M D a pi).T = T := hr.1.trans wk.T
  have hg : slpG (pkM M D a pi) D = 0 := by
    unfold slpG
    by_cases hon : D.on = true
    · rw [if_pos hon]
      unfold S4.untilO
      rw [hp0, if_neg (by decide), hT0, if_neg (hat hon)]
    · rw [if_neg hon, hp0, if_neg (by decide)]
  have e7 : pitn (M, pa0 D) 7 = (slM (pkM M D a pi) D, (⟨8, D, 2, pi, E6, F6, 0, 0⟩ : Pa)) := by
    show pit (pitn (M, pa0 D) 6) = _
    rw [g6]
    show (slM (pkM M D a pi) D, (if slpG (pkM M D a pi) D = 0 then (⟨8, D, 2, pi, E6, F6, 0, 0⟩ : Pa) else if slpG (pkM M D a pi) D = 2 then ⟨9, D, 2, pi, ow0 D.t, F6, 0, 0⟩ else ⟨0, D, 2, pi, E6, F6, 0, 2⟩)) = _
    rw [if_pos hg]
  have hs : (slM (pkM M D a pi) D).L = (pkM M D a pi).L ∧ (slM (pkM M D a pi) D).m = (pkM M D a pi).m ∧ (slM (pkM M D a pi) D).nD = (pkM M D a pi).nD ∧ (slM (pkM M D a pi) D).T = (pkM M D a pi).T ∧ (slM (pkM M D a pi) D).sp = (pkM M D a pi).sp := by
    unfold slM
    split <;> exact ⟨rfl, rfl, rfl, rfl, rfl⟩
  have hpf : ((slM (pkM M D a pi) D).pf (2 * D.t)).p = false ∧ ((slM (pkM M D a pi) D).pf (2 * D.t)).a = true ∧ ∀ j, j ≠ 2 * D.t → (slM (pkM M D a pi) D).pf j = M.pf j := by
    have hne : ∀ j, j ≠ 2 * D.t → (pkM M D a pi).pf j = M.pf j := fun j hj => by rw [hr.2.1]; unfold S4.updP; rw [if_neg hj]
    unfold slM
    by_cases hon : D.on = true
    · rw [if_pos hon]
      have e1 : ((pkM M D a pi).until (2 * D.t) D.at').pf = S4.updP (pkM M D a pi).pf (2 * D.t) (S4.untilK ((pkM M D a pi).pf (2 * D.t)) D.at' (pkM M D a pi).T) := rfl
      rw [e1]
      unfold S4.updP S4.untilK
      rw [hp0, if_pos rfl, if_neg (by decide), hT0, if_neg (hat hon)]
      exact ⟨rfl, rfl, fun j hj => by rw [if_neg hj]; exact hne j hj⟩
    · rw [if_neg hon]
      have e1 : ((pkM M D a pi).park (2 * D.t)).pf = S4.updP (pkM M D a pi).pf (2 * D.t) (S4.parkK ((pkM M D a pi).pf (2 * D.t))) := rfl
      rw [e1]
      unfold S4.updP S4.parkK
      rw [hp0, if_pos rfl, if_neg (by decide)]
      exact ⟨rfl, rfl, fun j hj => by rw [if_neg hj]; exact hne j hj⟩
  have b6 := pitn_n (M, pa0 D) 7
  rw [e7] at b6
  refine (asleep_ (t := D.t) (n := 6) h ht (by omega) (fun i hi => by have := g1 i hi; omega) (fun i hi => ?_) (by rw [g6]) (by rw [e7]) (by rw [e7]; exact hpf.2.1)).mono ?_
  · refine roomk (n := 6) hT hb wk.pl (by have := wk.n; omega) (by have := wk.p; omega) (by have := wk.nD; omega) (by omega) hi (by omega) (fun hl => ?_)
    by_cases h6 : i < 6
    · exact g2 i h6 hl
    · obtain rfl : i = 6 := by omega
      rw [g6] at hl
      exact absurd hl (by show ¬ (8 = 5 ∨ 8 = 10); omega)
  · rintro e' w' ⟨rfl, h'⟩
    rw [e7] at h'
    obtain ⟨l, hsA, hsl⟩ := AllS.rest h' (.inl rfl)
    rw [set_last] at hsA
    have hpl := pkM_pl (D := D) hp ht
    rw [hkey] at hpl
    have hlk := fun b => pkM_look (D := D) hp ht b
    refine ⟨rfl, slM (pkM M D a pi) D, l, E6, F6, hsA, hsl, ⟨⟨?_, hpl.ae, ?_, hpl.pe, ?_, ?_, ?_⟩, hs.2.2.2.1.trans hT0, ?_, ?_, ?_⟩, hpf.1, hpf.2.2, fun b => ?_⟩
    · rw [hs.1]; exact hpl.x
    · rw [hs.1]; exact hpl.a0
    · rw [hs.2.1]; exact hpl.len
    · have := hpl.q
      unfold qAt at this ⊢
      rw [hs.2.1]; exact this
    · exact hs.2.2.2.2.trans hpl.sp
    · have h1 : (slM (pkM M D a pi) D).n ≤ M.n + 7 := b6.1
      have := wk.n; omega
    · have h1 : (slM (pkM M D a pi) D).pn ≤ M.pn + 7 := b6.2.1
      have := wk.p; omega
    · have h1 : (pkM M D a pi).nD.length ≤ M.nD.length + 1 := hr.2.2
      have := wk.nD
      rw [hs.2.2.1]; omega
    · rw [hs.1, hlk b, hkey]
/-- One that is late. -/
theorem late_k {D : Pd} {i : Nat} {l : Rows} {E : En} {F : Fr} (hT : Tab w0) (hb : 0 < base) (wk : Wk M a pi Q T k) (hk : k ≤ 50000) (hQ : Q.length ≤ 90) (ht : D.t < 64) (hkey : D.k = 1024) (hh : D.hk = none) (hon : D.on = true) (hat : D.at' ≤ T) (hp : (M.pf (2 * D.t)).p = false) (hkw : S2.look M.L (64 + D.t) = 1024)
    (h : AllS w0 w base WB M H L) (hi : L[i]? = some l) (s : Slp l ⟨8, D, 2, pi, E, F, 0, 0⟩ B) :
    Calls Tryz.prog 15 #[Pw WB, .iface 32 (Pw B), .int .i64 40] w fun e' w' => ∃ n : Nat, 0 < n ∧ n ≤ 9 ∧ e' = .returned (.int .i64 (n : Int)) ∧ ∃ M' l', AllS w0 w' base WB M' H (L.set i l') ∧ (∀ W, AllS w0 W base WB M' H (L.set i l') → Calls Tryz.prog 16 #[Pw B, Pw WB] W fun e w' => e = .returned (.tuple #[.int .u8 3, .int .u64 0]) ∧ W = w') ∧ Wk M' a pi (leftQ D.t Q) T (k + 10) ∧ (∀ j, j ≠ 2 * D.t → M'.pf j = M.pf j) ∧ (∀ b, S2.look M'.L b = S2.look M.L b) := by
  have hpl : Pl M D.k a pi Q := by rw [hkey]; exact wk.pl
  have hkw' : S2.look M.L (64 + D.t) = D.k := by rw [hkey]; exact hkw
  obtain ⟨n, P', n1, n2, g1, g2, g3, g4, g5⟩ := late_run (E := E) (F := F) hpl ht (by rw [hkey]; omega) hon (by rw [wk.T]; exact hat) hp hkw' (fun c hc => by rw [hh] at hc; cases hc)
  have bn := pitn_n (M, (⟨8, D, 2, pi, E, F, 0, 0⟩ : Pa)) n
  rw [g1] at bn
  refine (run_p (n := n) (most := 40) (h.park hi s) (by omega) (by omega) (by omega) (fun j hj => ?_) g4 (by rw [g1]; exact g2)).mono ?_
  · exact roomk (n := 9) hT hb wk.pl (by have := wk.n; omega) (by have := wk.p; omega) (by have := wk.nD; omega) (by omega) (by omega) (by omega) (g5 j hj)
  · rintro e' w' ⟨rfl, h'⟩
    rw [g1] at h'
    obtain ⟨l', hsA, hsl⟩ := AllS.rest h' (.inr g2)
    have hm := ltM_m hpl
    have hr := @ltM_rest M D a pi
    have hlk := fun b => ltM_look hpl ht hkw' hh b
    have hlt : i < L.length := (List.getElem?_eq_some_iff.1 hi).1
    refine ⟨n, by omega, n2, rfl, ltM M D a pi, l', hsA, fun W hW => ?_, ⟨⟨?_, wk.pl.ae, ?_, wk.pl.pe, hm.1, hm.2, hr.2.1.trans wk.pl.sp⟩, hr.1.trans wk.T, ?_, ?_, ?_⟩, fun j hj => ?_, hlk⟩
    · have := (hW.park (i := i) (List.getElem?_set_self hlt) hsl).got (by rw [g3]; omega) (Pw WB)
      rw [g3] at this
      exact this
    · rw [hlk]; exact wk.pl.x
    · rw [hlk]; exact wk.pl.a0
    · have h1 : (ltM M D a pi).n ≤ M.n + n := bn.1
      have := wk.n; omega
    · have h1 : (ltM M D a pi).pn ≤ M.pn + n := bn.2.1
      have := wk.p; omega
    · have h1 := hr.2.2.2
      have := wk.nD; omega
    · rw [hr.2.2.1]; unfold S4.updP; rw [if_neg hj]
/-- One that stays asleep. -/
theorem stay_k {D : Pd} {i : Nat} {l : Rows} {E : En} {F : Fr} (hT : Tab w0) (hb : 0 < base) (wk : Wk M a pi Q T k) (hk : k ≤ 50000) (hQ : Q.length ≤ 90) (hon : D.on = false) (hp : (M.pf (2 * D.t)).p = false)
    (h : AllS w0 w base WB M H L) (hi : L[i]? = some l) (s : Slp l ⟨8, D, 2, pi, E, F, 0, 0⟩ B) :
    Calls Tryz.prog 15 #[Pw WB, .iface 32 (Pw B), .int .i64 40] w fun e' w' => e' = .returned (.int .i64 0) ∧ ∃ M' l', AllS w0 w' base WB M' H (L.set i l') ∧ (∀ W, AllS w0 W base WB M' H (L.set i l') → Calls Tryz.prog 16 #[Pw B, Pw WB] W fun e w' => e = .returned (.tuple #[.int .u8 0, .int .u64 0]) ∧ W = w') ∧ Wk M' a pi Q T (k + 50) ∧ (∀ j, j ≠ 2 * D.t → M'.pf j = M.pf j) ∧ (∀ b, S2.look M'.L b = S2.look M.L b) := by
  have hst := stays (M := M) (D := D) (pb := 2) (pi := pi) (E := E) (F := F) hon hp
  obtain ⟨M', e40, s40⟩ := hst 40
  have bn := pitn_n (M, (⟨8, D, 2, pi, E, F, 0, 0⟩ : Pa)) 40
  rw [e40] at bn
  have hln : ∀ j, j ≤ 40 → (pitn (M, (⟨8, D, 2, pi, E, F, 0, 0⟩ : Pa)) j).2.ln = 8 := fun j hj => by
    obtain ⟨Mj, ej, _⟩ := hst j
    rw [ej]
  refine (run_p0 (most := 40) (h.park hi s) (by omega) (fun j hj => ?_) (fun j hj => by rw [hln j hj]; omega)).mono ?_
  · exact roomk (n := 40) hT hb wk.pl (by have := wk.n; omega) (by have := wk.p; omega) (by have := wk.nD; omega) (by omega) (by omega) (by omega) (fun hl => by rw [hln j (by omega)] at hl; omega)
  · rintro e' w' ⟨rfl, h'⟩
    rw [e40] at h'
    obtain ⟨l', hsA, hsl⟩ := AllS.rest h' (.inl rfl)
    have hlt : i < L.length := (List.getElem?_eq_some_iff.1 hi).1
    have hlk : ∀ b, S2.look M'.L b = S2.look M.L b := fun b => by rw [s40.L]
    refine ⟨rfl, M', l', hsA, fun W hW => (hW.park (i := i) (List.getElem?_set_self hlt) hsl).got (by show 0 ≠ 2; omega) (Pw WB), ⟨⟨?_, wk.pl.ae, ?_, wk.pl.pe, ?_, ?_, s40.sp.trans wk.pl.sp⟩, s40.T.trans wk.T, ?_, ?_, ?_⟩, s40.pf, hlk⟩
    · rw [hlk]; exact wk.pl.x
    · rw [hlk]; exact wk.pl.a0
    · rw [s40.m]; exact wk.pl.len
    · have := wk.pl.q
      unfold qAt at this ⊢
      rw [s40.m]; exact this
    · have h1 : M'.n ≤ M.n + 40 := bn.1
      have := wk.n; omega
    · have h1 : M'.pn ≤ M.pn + 40 := bn.2.1
      have := wk.p; omega
    · rw [s40.nD]; have := wk.nD; omega
theorem AllS.tick (h : AllS w0 w base WB M H L) : ∃ kB, ∀ W, Below w.heap.size w W → W.cell? ⟨WB, 1, none⟩ = some (Pw kB) ∧ ∀ n : Nat, n ≤ 18446744073709551615 → Calls Tryz.prog 14 #[Pw kB, .int .u64 (n : Int)] W fun e w' => e = .returned (.tuple #[]) ∧ AllS w0 w' base WB (M.tick n) H L := by
  obtain ⟨q1, q2, X, hp⟩ := h
  refine ⟨X.kB, fun W b => ⟨(hp.new b).k1, fun n hn => (Pg.tick_ (hp.new b) n hn).mono ?_⟩⟩
  rintro e w' ⟨rfl, X', h'⟩
  exact ⟨rfl, q1, q2, X', h'⟩
theorem AllS.queue (h : AllS w0 w base WB M H L) (wk : Wk M a pi Q T k) (hk : ∀ x, x ∈ Q → x.k = ((1024 : Nat) : Int)) (hl : Q.length ≤ 100) :
    Calls Tryz.prog 13 #[Pw WB, .int .u32 1024] w fun e w' => ∃ A c, e = .returned (.slice A Q.length c) ∧ S10.Rd w' w'.heap.size A (Q.map iV) ∧ Below w.heap.size w w' := by
  obtain ⟨r, X, hp⟩ := h.pg
  refine (queue_of hp wk.pl (by omega) (fun i hi => hk _ (by rw [getElem!_pos Q i hi]; exact List.getElem_mem hi)) hl).mono ?_
  rintro e w' ⟨A, c, rfl, hr, hb⟩
  exact ⟨A, c, rfl, hr.rd, hb⟩
theorem same_eq {A B : Option Addr} {c d n : Nat} {V : List Value} (hn : V.length = n) (h1 : S10.Rd w w.heap.size A V) (h2 : S10.Rd w w.heap.size B V) (hV : ∀ i, i < V.length → ∃ z : Int, V[i]? = some (.int .i64 z)) (hl : n ≤ 1000) :
    Calls Tryz.prog 12 #[.slice A n c, .slice B n d] w fun e w' => e = .returned (.bool true) ∧ Below w.heap.size w w' := by
  subst hn
  exact samel_ h1 h2 hV hl (Nat.le_refl _) (Nat.le_refl _)
theorem Wk.mono {k' : Nat} (h : Wk M a pi Q T k) (hk : k ≤ k') : Wk M a pi Q T k' := ⟨h.pl, h.T, Nat.le_trans h.n hk, Nat.le_trans h.p hk, Nat.le_trans h.nD hk⟩
theorem Wk.tick (h : Wk M a pi Q T k) (n : Nat) (hn : T + n ≤ 18446744073709551615) : Wk (M.tick n) a pi Q (T + n) k :=
  ⟨⟨h.pl.x, h.pl.ae, h.pl.a0, h.pl.pe, h.pl.len, h.pl.q, h.pl.sp⟩, by show S3.sat M.T n = _; rw [h.T]; unfold S3.sat; rw [if_pos hn], h.n, h.p, h.nD⟩
end
end Go.Proofs.YtjppncglkijbjaaGreatDoor.S19
