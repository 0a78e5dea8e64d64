/- Texts of this seat, one behind the other. -/
import Derived.Test.YtieiiabbeglmfaaGreatDoorMLawOldest2013
set_option linter.unusedVariables false
set_option linter.unusedSimpArgs false
set_option linter.unusedVariables false
set_option linter.unusedSimpArgs false
namespace Go.Proofs.YtieiiabbeglmfaaGreatDoor.S10
set_option maxRecDepth 100000
set_option maxHeartbeats 16000000
open Go.Proofs.YtieiiabbeglmfaaGreatDoor
open Go.RowKit
def M0 (now : Int) : Int → List Bk := upd (fun _ => []) 2 (fresh now (List.replicate 4 []))
theorem grown_turns {w w' : World} {r : Option Nat} (h : w.grownBy w' r) : Turns (fun k => r = some k) w w' :=
  ⟨h.os, h.tape, h.output, h.size, fun k hk hn => h.block k hk (fun e => hn e.symm)⟩
theorem fresh_at (now : Int) (Ls : List (List Ent)) {i : Nat} (hi : i < Ls.length) : (fresh now Ls)[i]! = ⟨now, now, Ls[i]!⟩ := by
  rw [getElem!_pos (fresh now Ls) i (by simpa [fresh] using hi), getElem!_pos Ls i hi]
  simp [fresh]
theorem rep_at (n i : Nat) : (List.replicate n ([] : List Ent))[i]! = [] := by
  rw [List.getElem!_eq_getElem?_getD, List.getElem?_replicate]
  split <;> rfl
theorem rep_get (n i : Nat) : ((List.replicate n nilS)[i]?).getD nilS = nilS := by
  rw [List.getElem?_replicate]
  split <;> rfl
theorem new_any (now : Int) (w : World) : Calls Tryz.prog 87 #[.int .u64 now] w fun e w' => ∃ s own, e = .returned s ∧ St w' w.heap.size own s 1 (M0 now) ∧ Below w.heap.size w w' := by
  have hs : ∀ w, Calls Tryz.prog 143 #[.int .i64 2] w fun e w' => e = .returned (.int .i64 4) ∧ w = w' := fun w => by
    have := size_any 2 w
    rwa [show sizeN 2 = 4 by decide] at this
  have HS := Lib.hid hs
  clear hs
  have hmk : ∀ w, (Instr.makeSlice 246 (.int .i64 4) (.int .i64 4)).run Tryz.prog w = .ok (.slice (some ⟨w.heap.size, 0, none⟩) 4 4) (w.alloc (.cells (List.replicate 4 nilS).toArray 106)) := fun w => make_any 4 (by omega) w
  have hmm := @run_makeMap Tryz.prog
  generalize hR : (List.replicate 4 nilS).toArray = R4 at hmk
  have HR4 := Lib.hid hR
  clear hR
  go_enter Tryz.func87, Tryz.ntmps87
  go_wp2_with (go_at_call 143; refine (HS.out _).mono ?_; rintro e w' ⟨rfl, rfl⟩)
  have hn1 := heap_alloc_new w (.cells R4 106)
  have hs1 : (w.alloc (.cells R4 106)).heap.size = w.heap.size + 1 := by simp
  have hb1 := below1 w (.cells R4 106)
  generalize w.alloc (.cells R4 106) = w1 at *
  have hm1 := MapAt.made w1
  have hb2 := below1 w1 (.map #[] 0)
  have hs2 : (w1.alloc (.map #[] 0)).heap.size = w.heap.size + 2 := by simp [hs1]
  have hn2 := (hb2.block w.heap.size (by omega)).trans hn1
  rw [hs1] at hm1
  generalize w1.alloc (.map #[] 0) = w2 at *
  rw [← HR4.out] at hn2
  have hrd : Rd w2 w2.heap.size (some ⟨w.heap.size, 0, none⟩) (List.replicate 4 nilS) := fun _ => ⟨_, 0, rfl, by omega, fun j u e => by rw [cell_row hn2, Nat.zero_add, List.getElem?_toArray]; exact e⟩
  refine (begun_any (c := 4) (ss := List.replicate 4 nilS) (List.replicate 4 []) now hrd (Nat.le_refl _) (by simp) (by simp) (fun i hi => ⟨none, 0, 0, by rw [List.getElem?_replicate, if_pos hi]⟩) (by omega)).mono ?_
  rintro e w3 ⟨g, rfl, hg, hr3, hb3⟩
  have hm3 := hm1.keep (Turns.of_below (S := fun _ => False) hb3) (fun h => h)
  obtain ⟨w4, hrun, hm4, hg4⟩ := hm3.put (by omega) (b := 2) (by unfold InI; omega) (.slice (some ⟨g, 0, none⟩) 4 4)
  have hs4 : w3.heap.size ≤ w4.heap.size := hg4.size
  have hbw : Below w.heap.size w w4 := by
    refine (hb1.trans (hb2.mono (by omega))).trans ((hb3.mono (by omega)).trans ((grown_turns hg4).below (by have := hb3.size; omega) (fun k hk e => ?_)))
    simp at e; omega
  have hr4 := hr3.keep (grown_turns hg4) (fun x e e2 => by simp [Value.ownBlock] at e; simp at e2; omega)
  have hglt := (hr4.lt g rfl).2
  have HB := Lib.hid hbw; have HM := Lib.hid hm4; have HRW := Lib.hid hr4
  have hw2 := hb3.size
  have HSZ : Hid (w.heap.size + 1 < w4.heap.size ∧ w.heap.size + 2 ≤ g ∧ g < w4.heap.size) := Lib.hid ⟨by omega, by omega, hglt⟩
  clear hn1 hb1 hm1 hb2 hn2 hrd hr3 hb3 hm3 hg4 hbw hm4 hr4 hmk hmm hs4 hglt hs1 hs2 hg hw2
  go_wp2_with fail
  go_ret
  obtain ⟨z1, z2, z3⟩ := HSZ.out
  have hbn := below1 w4 (.cells #[.map (some (w.heap.size + 1))] 251)
  have hnew := heap_alloc_new w4 (.cells #[.map (some (w.heap.size + 1))] 251)
  have hsz : (w4.alloc (.cells #[.map (some (w.heap.size + 1))] 251)).heap.size = w4.heap.size + 1 := by simp
  refine ⟨_, fun x => if x = w4.heap.size then some .set else if x = w.heap.size + 1 then some .map else if x = g then some (.tab 2) else none, rfl, ⟨w4.heap.size, w.heap.size + 1, upd (fun _ => nilS) 2 (.slice (some ⟨g, 0, none⟩) 4 4), fun _ _ => nilS, ?_⟩, HB.out.trans (hbn.mono HB.out.size)⟩
  have hM2 : M0 now 2 = fresh now (List.replicate 4 []) := upd_same _ _ _
  have hMo : ∀ b, b ≠ 2 → M0 now b = [] := fun b hb => upd_ne _ _ hb
  refine ⟨fun x r e => ?_, rfl, hnew, if_pos rfl, HM.out.keep (Turns.of_below (S := fun _ => False) hbn) (fun h => h), by rw [if_neg (by omega), if_pos rfl], fun b => ?_, fun b x e => ?_, fun b i hi => ?_, fun b i x hi e => by simp [Value.ownBlock] at e⟩
  · rw [hsz]
    split at e
    · omega
    · split at e
      · omega
      · split at e
        · omega
        · cases e
  · by_cases hb : b = 2
    · subst hb
      rw [upd_same, hM2]
      have := (HRW.out.new hbn).base (Nat.zero_le _)
      have hv : (fun i => ((List.replicate 4 nilS)[i]?).getD nilS) = fun _ => nilS := funext fun i => rep_get 4 i
      rw [hv] at this
      exact this
    · rw [upd_ne _ _ hb, hMo b hb]
      exact row_nil _ _ _
  · by_cases hb : b = 2
    · subst hb
      rw [upd_same] at e
      have : g = x := by simpa [Value.ownBlock] using e
      subst this
      rw [if_neg (by omega), if_neg (by omega), if_pos rfl]
    · rw [upd_ne _ _ hb] at e
      simp [Value.ownBlock] at e
  · by_cases hb : b = 2
    · subst hb
      rw [hM2] at hi ⊢
      have h4 : i < 4 := by simpa [fresh] using hi
      have : (fresh now (List.replicate 4 []))[i]!.q = [] := by
        rw [fresh_at _ _ (by simpa using h4), rep_at]
      rw [this]
      exact row_nil _ _ _
    · rw [hMo b hb] at hi
      simp at hi
end Go.Proofs.YtieiiabbeglmfaaGreatDoor.S10
namespace Go.Proofs.YtieiiabbeglmfaaGreatDoor.S11
set_option maxRecDepth 100000
set_option maxHeartbeats 16000000
open Go.Proofs.YtieiiabbeglmfaaGreatDoor
open Go.RowKit
abbrev Pt (B : Nat) : Value := .pointer (some ⟨B, 0, none⟩)
structure LAt (T : Nat) (K : IntKind) (w : World) (base p : Nat) (s : Value) (D : List Nt) : Prop where
  box : w.heap[p]? = some (.cells #[s] T (0, 0))
  own : Row w base 7 s D.length (flat K D)
  ne : s.ownBlock ≠ some p
  low : base ≤ p
section
variable {T : Nat} {K : IntKind} {w w' : World} {base p : Nat} {s : Value} {D : List Nt}
theorem LAt.lt (h : LAt T K w base p s D) : p < w.heap.size := (Array.getElem?_eq_some_iff.1 h.box).1
theorem LAt.kept {S : Nat → Prop} (h : LAt T K w base p s D) (t : Turns S w w') (hp : ¬ S p) (hs : ∀ g, s.ownBlock = some g → ¬ S g) : LAt T K w' base p s D :=
  ⟨(t.block p h.lt hp).trans h.box, h.own.keep t hs, h.ne, h.low⟩
theorem LAt.new (h : LAt T K w base p s D) (b : Below w.heap.size w w') : LAt T K w' base p s D :=
  h.kept (Turns.of_below (S := fun _ => False) b) (fun e => e) (fun _ _ e => e)
theorem LAt.drew (h : LAt T K w base p s D) : LAt T K w.drew base p s D := ⟨h.box, h.own.drew, h.ne, h.low⟩
theorem LAt.cell (h : LAt T K w base p s D) : w.cell? ⟨p, 0, none⟩ = some s := cell_row h.box 0
theorem LAt.froz (h : LAt T K w base p s D) : w.frozen? ⟨p, 0, none⟩ = false := froz_row h.box 0
theorem LAt.first (T : Nat) (K : IntKind) (w : World) : LAt T K (w.alloc (.cells #[.slice none 0 0] T)) w.heap.size w.heap.size (.slice none 0 0) [] :=
  ⟨heap_alloc_new _ _, row_nil _ _ _, by simp [Value.ownBlock], Nat.le_refl _⟩
end
theorem new_any (w : World) : Calls Tryz.prog 88 #[] w fun e w' => e = .returned (Pt w.heap.size) ∧ LAt 304 .u8 w' w.heap.size w.heap.size (.slice none 0 0) [] ∧ Below w.heap.size w w' := by
  go_enter Tryz.func88, Tryz.ntmps88
  go_wp2
  go_ret
  exact ⟨rfl, LAt.first _ _ _, (Below.refl _ _).alloc (Nat.le_refl _) _⟩
def fallsB (D : List Nt) (x : Int) : Bool := decide (0 < D.length) && decide (x < D[D.length - 1]!.s)
theorem falls_any {w : World} {base p : Nat} {s : Value} {D : List Nt} (h : LAt 304 .u8 w base p s D) (hlen : D.length ≤ 1000000) (x : Int) : Calls Tryz.prog 242 #[Pt p, .int .i64 x] w fun e w' => e = .returned (.bool (fallsB D x)) ∧ w = w' := by
  have c0 := h.cell
  obtain ⟨A, cap, hs, hcap, hc9⟩ := h.own.shape
  subst hs
  have hrd := h.own.rd
  clear h
  by_cases hn : D.length = 0
  · have e1 : fallsB D x = false := by simp [fallsB, hn]
    rw [e1]
    rw [hn] at c0
    go_enter Tryz.func242, Tryz.ntmps242
    go_wp2
    go_ret
    exact ⟨rfl, rfl⟩
  · obtain ⟨g, o, rfl, hg, hN⟩ := hrd.note (i := D.length - 1) (by omega)
    have d0 := hN.c0
    have hwr : IntKind.i64.wrap ((D.length : Int) - 1) = ((D.length - 1 : Nat) : Int) := by rw [IntKind.wrap_i64]; omega
    have hge : (0 : Int) ≤ ((D.length - 1 : Nat) : Int) := by omega
    have hlt : ((D.length - 1 : Nat) : Int) < (D.length : Int) := by omega
    clear hrd hN hg
    have e1 : fallsB D x = decide (x < D[D.length - 1]!.s) := by simp [fallsB]; omega
    rw [e1]
    generalize D[D.length - 1]!.s = y at *
    go_enter Tryz.func242, Tryz.ntmps242
    go_wp2
    go_ret
    exact ⟨rfl, rfl⟩
end Go.Proofs.YtieiiabbeglmfaaGreatDoor.S11
