/- Texts of this seat, one behind the other. -/
import Derived.Test.YtieiiabbeglmfaaGreatDoorMLawFair2014
import Derived.Deep.RegionLaw
import Derived.Deep.RegionHeld3
import Derived.Laws.StructEq
import Derived.Deep.LoopGhost
import Derived.StillTailTactics
import Derived.Deep.MidRow
import Derived.Laws.CopyOwn
import Derived.Maps.Own
import Derived.OwnWalkIn
import Derived.Deep.AppendSrc
set_option linter.unusedVariables false
set_option linter.unusedSimpArgs false
set_option linter.unusedVariables false
set_option linter.unusedSimpArgs false
namespace Go.Proofs.YtieiiabbeglmfaaGreatDoor.S11
set_option maxRecDepth 100000
set_option maxHeartbeats 16000000
open Go.Proofs.YtieiiabbeglmfaaGreatDoor
open Go.RowKit
def refB (D : List Nt) (n : Nt) : Bool := !isK n.k || fallsB D n.s
def addD (D : List Nt) (n : Nt) : List Nt := if refB D n then D else D ++ [n]
def addE (D : List Nt) (n : Nt) : Int := if refB D n then 1 else 0
theorem addD_yes {D : List Nt} {n : Nt} (h : refB D n = true) : addD D n = D ∧ addE D n = 1 := by simp [addD, addE, h]
theorem addD_no {D : List Nt} {n : Nt} (h : refB D n = false) : addD D n = D ++ [n] ∧ addE D n = 0 := by simp [addD, addE, h]
def Leaves (T : Nat) (K : IntKind) (w w' : World) (base p : Nat) (s : Value) (D : List Nt) : Prop :=
  ∃ s', LAt T K w' base p s' D ∧ (s'.ownBlock = s.ownBlock ∨ ∃ g, s'.ownBlock = some g ∧ w.heap.size ≤ g) ∧ Turns (fun k => k = p ∨ s.ownBlock = some k) w w'
section
variable {T : Nat} {K : IntKind} {w w' : World} {base p : Nat} {s : Value} {D : List Nt}
theorem Leaves.same (h : LAt T K w base p s D) (b : Below w.heap.size w w') : Leaves T K w w' base p s D := ⟨s, h.new b, .inl rfl, Turns.of_below b⟩
theorem leaves_put {w3 : World} {s3 : Value} {F : List Nt} (h : LAt T K w base p s D) (hb : Below w.heap.size w w') (hr : Row w3 base 7 s3 F.length (flat K F)) (ht : Turns (fun k => s.ownBlock = some k) w' w3) (ho : s3.ownBlock = s.ownBlock ∨ s3.ownBlock = some w'.heap.size) :
    Leaves T K w (w3.setCell ⟨p, 0, none⟩ s3) base p s F := by
  have hsz := hb.size
  have t1 : Turns (fun k => k = p) w3 (w3.setCell ⟨p, 0, none⟩ s3) := (Turns.refl _ _).setCell _ _ rfl
  have hne3 : s3.ownBlock ≠ some p := by
    rcases ho with e | e
    · rw [e]; exact h.ne
    · rw [e]; intro e'; injection e' with e'; have := h.lt; omega
  have tb : Turns (fun k => s.ownBlock = some k) w w3 := (Turns.of_below hb).trans ht (fun _ _ e => e)
  refine ⟨s3, ⟨?_, hr.keep t1 (fun g hg e => hne3 (by rw [hg, e])), hne3, h.low⟩, ?_, (tb.mono (fun k _ e => .inr e)).trans t1 (fun k _ e => .inl e)⟩
  · exact row_set ((tb.block p h.lt h.ne).trans h.box) 0 _
  · rcases ho with e | e
    · exact .inl e
    · exact .inr ⟨_, e, hsz⟩
end
abbrev nb (K : IntKind) (n : Nt) : Array Value := #[.int .i64 n.s, .int .i64 n.t, .int K (n.k : Int), .int .u32 n.a, .int .i64 n.o, .int .u32 n.b, .int .u64 n.v]
theorem below1 (w : World) (o : Obj) : Below w.heap.size w (w.alloc o) := (Below.refl _ _).alloc (Nat.le_refl _) _
theorem rd_note (w : World) (n : Nt) : Rd (w.alloc (.cells (nb .u8 n) 289)) (w.heap.size + 1) (some ⟨w.heap.size, 0, none⟩) (flat .u8 [n]) := fun _ =>
  ⟨w.heap.size, 0, rfl, by omega, fun j u e => by rw [Nat.zero_add, cell_row (heap_alloc_new w _)]; rw [flat_one] at e; simpa using e⟩
theorem add_any {w : World} {base p : Nat} {s : Value} {D : List Nt} (h : LAt 304 .u8 w base p s D) (hbase : base ≤ w.heap.size) (hT : Tab w) (n : Nt) (hk : n.k < 256) (hlen : D.length ≤ 100000) :
    Calls Tryz.prog 203 #[Pt p, ag .u8 n] w fun e w' => e = .returned (.int .i64 (addE D n)) ∧ Leaves 304 .u8 w w' base p s (addD D n) := by
  have hb : Below w.heap.size w (w.alloc (.cells (nb .u8 n) 289)) := (Below.refl _ _).alloc (Nat.le_refl _) _
  have hq := isKind_any n.k hk _ (hT.below hb hT.1)
  have h1 := h.new hb
  have hf := falls_any h1 (by omega) n.s
  have HB := Lib.hid hb; have HQ := Lib.hid hq; have HF := Lib.hid hf; have H := Lib.hid h; have HBS := Lib.hid hbase
  have hlt := h.lt
  have hc0 := h1.cell
  have hf0 := h1.froz
  have HC0 := Lib.hid hc0
  have HF0 := Lib.hid hf0
  clear hb hq hf h hbase hT h1 hc0 hf0
  cases hki : isK n.k
  · have hr : refB D n = true := by simp [refB, hki]
    rw [(addD_yes hr).1, (addD_yes hr).2]
    rw [hki] at HQ
    clear HF HC0 HF0
    go_enter Tryz.func203, Tryz.ntmps203
    go_wp2_with (go_at_call 241; refine HQ.out.mono ?_; rintro e w' ⟨rfl, rfl⟩)
    go_ret
    exact ⟨rfl, Leaves.same H.out HB.out⟩
  · rw [hki] at HQ
    cases hfa : fallsB D n.s
    · have hr : refB D n = false := by simp [refB, hki, hfa]
      rw [(addD_no hr).1, (addD_no hr).2]
      rw [hfa] at HF
      have hrow := (H.out.new HB.out).own
      have HROW := Lib.hid hrow
      obtain ⟨A, cap, hs, hcap, hc9⟩ := hrow.shape
      clear hrow
      subst hs
      have c0 := HC0.out
      have hmax : decide ((1048576 : Int) ≤ (D.length : Int)) = false := by rw [decide_eq_false_iff_not]; omega
      have HMAX := Lib.hid hmax
      clear hmax
      go_enter Tryz.func203, Tryz.ntmps203
      go_upto_if 19 with (first
        | (go_at_call 241; refine HQ.out.mono ?_; rintro e w' ⟨rfl, rfl⟩)
        | (go_at_call 242; refine HF.out.mono ?_; rintro e w' ⟨rfl, rfl⟩))
      rw [HMAX.out]
      go_upto_region 7 with (fail)
      have hnew := heap_alloc_new w (.cells (nb .u8 n) 289)
      have n0 := cell_row hnew 0; have n1 := cell_row hnew 1; have n2 := cell_row hnew 2; have n3 := cell_row hnew 3; have n4 := cell_row hnew 4; have n5 := cell_row hnew 5; have n6 := cell_row hnew 6
      have f0 := HF0.out
      have hfin := fun wy w3 s3 (hy : Below w.heap.size w wy) => leaves_put (w' := wy) (w3 := w3) (s3 := s3) (F := D ++ [n]) H.out hy
      have HFIN := Lib.hid hfin
      have hy := fun o => (HB.out.alloc (by simp) o).drew
      have HY := Lib.hid hy
      clear hy
      have hltb : p < (w.alloc (.cells (nb .u8 n) 289)).heap.size := by simp; omega
      have hbsb : base ≤ (w.alloc (.cells (nb .u8 n) 289)).heap.size := by have := HBS.out; simp; omega
      have HBSB := Lib.hid hbsb
      have hne : ¬ (Value.slice A D.length cap).ownBlock = some p := H.out.ne
      have HNE := Lib.hid hne
      generalize w.heap.size = X at *
      clear HC0 HF0 hfin hnew hne hbsb HQ HF
      generalize w.alloc (.cells (nb .u8 n) 289) = wb at *
      simp only [List.getElem?_toArray, List.getElem?_cons_zero, List.getElem?_cons_succ] at n0 n1 n2 n3 n4 n5 n6
      go_region_law (first
        | (refine step_append_row (v := .slice A D.length cap) layP rfl _ _ rfl (by rfl) (HROW.out.new (below1 _ _)).drew (flat_one' _ _) (by have := HBSB.out; simp; omega) 1 rfl (rd_note wb n) rfl (flat_one' _ _) (by omega) ?_; intro v3 w3 hr3 ht3 ho3; obtain ⟨A3, cap3, hv3, _, _⟩ := hr3.shape; subst hv3; (have c3 : w3.cell? ⟨p, 0, none⟩ = some (.slice A D.length cap) := (ht3.cell (by simp; omega) HNE.out).trans (((below1 wb.drew _).cell (p := ⟨p, 0, none⟩) hltb).trans c0)); (have f3 : w3.frozen? ⟨p, 0, none⟩ = false := (ht3.frozen (by simp; omega) HNE.out).trans (((Turns.of_below (S := fun _ => False) (below1 wb.drew _)).frozen hltb (fun e => e)).trans f0))))
      all_goals
        have hr4 : Row w3 base 7 (.slice A3 (D.length + 1) cap3) (D ++ [n]).length (flat .u8 (D ++ [n])) := by rw [flat_app, List.length_append]; exact hr3
        have HR4 := Lib.hid hr4; have HT4 := Lib.hid ht3; have HO4 := Lib.hid ho3
        clear hr4 ht3 ho3 hr3 c3 f3 n0 n1 n2 n3 n4 n5 n6
        go_wp2_with fail
        go_ret
        exact ⟨rfl, HFIN.out _ _ _ (HY.out _) HR4.out HT4.out HO4.out⟩
    · have hr : refB D n = true := by simp [refB, hfa]
      rw [(addD_yes hr).1, (addD_yes hr).2]
      rw [hfa] at HF
      clear HC0 HF0
      go_enter Tryz.func203, Tryz.ntmps203
      go_wp2_with (first
        | (go_at_call 241; refine HQ.out.mono ?_; rintro e w' ⟨rfl, rfl⟩)
        | (go_at_call 242; refine HF.out.mono ?_; rintro e w' ⟨rfl, rfl⟩))
      go_ret
      exact ⟨rfl, Leaves.same H.out HB.out⟩
end Go.Proofs.YtieiiabbeglmfaaGreatDoor.S11
