/- New. -/
import Derived.Test.YtcdoklgjicfkmaaT6
namespace Go.Proofs.Ytcdoklgjicfkmaa
open Go.RowKit

/-- The model of a set as at first. -/
def M0 (now : Int) : Int → List Bk := upd (fun _ => []) 2 (fresh now (List.replicate 4 []))
theorem grown_turns {w w' : World} {r : Option Nat} (h : w.grownBy w' r) : Turns (fun k => r = some k) w w' :=
  ⟨h.os, h.tape, h.output, h.size, fun k hk hn => h.block k hk (fun e => hn e.symm)⟩
theorem fresh_at (now : Int) (Ls : List (List Ent)) {i : Nat} (hi : i < Ls.length) : (fresh now Ls)[i]! = ⟨now, now, Ls[i]!⟩ := by
  rw [getElem!_pos (fresh now Ls) i (by simpa [fresh] using hi), getElem!_pos Ls i hi]
  simp [fresh]
theorem fresh_len (now : Int) (Ls : List (List Ent)) : (fresh now Ls).length = Ls.length := by simp [fresh]
theorem hollow_at (L : List Bk) {i : Nat} (hi : i < L.length) : (hollow L)[i]! = { L[i]! with q := [] } := by
  rw [getElem!_pos (hollow L) i (by simpa [hollow] using hi), getElem!_pos L i hi]
  simp [hollow]
theorem hollow_len (L : List Bk) : (hollow L).length = L.length := by simp [hollow]
theorem rep_at (n i : Nat) : (List.replicate n ([] : List Ent))[i]! = [] := by
  rw [List.getElem!_eq_getElem?_getD, List.getElem?_replicate]
  split <;> rfl
theorem rep_get (n i : Nat) : ((List.replicate n nilS)[i]?).getD nilS = nilS := by
  rw [List.getElem?_replicate]
  split <;> rfl
theorem new_any (now : Int) (w : World) : Calls Try.prog 8 #[.int .u64 now] w fun e w' => ∃ s own, e = .returned s ∧ St w' w.heap.size own s 1 (M0 now) ∧ Below w.heap.size w w' := by
  have hs : ∀ w, Calls Try.prog 23 #[.int .i64 2] w fun e w' => e = .returned (.int .i64 4) ∧ w = w' := fun w => by
    have := size_any 2 w
    rwa [show sizeN 2 = 4 by decide] at this
  have HS := Lib.hid hs
  clear hs
  have hmk : ∀ w, (Instr.makeSlice 57 (.int .i64 4) (.int .i64 4)).run Try.prog w = .ok (.slice (some ⟨w.heap.size, 0, none⟩) 4 4) (w.alloc (.cells (List.replicate 4 nilS).toArray 31)) := fun w => make_any 4 (by omega) w
  have hmm := @run_makeMap Try.prog
  generalize hR : (List.replicate 4 nilS).toArray = R4 at hmk
  have HR4 := Lib.hid hR
  clear hR
  go_enter Try.func8, Try.ntmps8
  go_wp2_with (go_at_call 23; refine (HS.out _).mono ?_; rintro e w' ⟨rfl, rfl⟩)
  have hn1 := heap_alloc_new w (.cells R4 31)
  have hs1 : (w.alloc (.cells R4 31)).heap.size = w.heap.size + 1 := by simp
  have hb1 := below1 w (.cells R4 31)
  generalize w.alloc (.cells R4 31) = w1 at *
  have hm1 := MapAt.made w1
  have hb2 := below1 w1 (.map #[] 0)
  have hs2 : (w1.alloc (.map #[] 0)).heap.size = w.heap.size + 2 := by simp [hs1]
  have hn2 := (hb2.block w.heap.size (by omega)).trans hn1
  rw [hs1] at hm1
  generalize w1.alloc (.map #[] 0) = w2 at *
  rw [← HR4.out] at hn2
  have hrd : Rd w2 w2.heap.size (some ⟨w.heap.size, 0, none⟩) (List.replicate 4 nilS) := fun _ => ⟨_, 0, rfl, by omega, fun j u e => by rw [cell_row hn2, Nat.zero_add, List.getElem?_toArray]; exact e⟩
  refine (begun_any (c := 4) (ss := List.replicate 4 nilS) (List.replicate 4 []) now hrd (Nat.le_refl _) (by simp) (by simp) (fun i hi => ⟨none, 0, 0, by rw [List.getElem?_replicate, if_pos hi]⟩) (by omega)).mono ?_
  rintro e w3 ⟨g, rfl, hg, hr3, hb3⟩
  have hm3 := hm1.keep (Turns.of_below (S := fun _ => False) hb3) (fun h => h)
  obtain ⟨w4, hrun, hm4, hg4⟩ := hm3.put (by omega) (b := 2) (by unfold InI; omega) (.slice (some ⟨g, 0, none⟩) 4 4)
  have hs4 : w3.heap.size ≤ w4.heap.size := hg4.size
  have hbw : Below w.heap.size w w4 := by
    refine (hb1.trans (hb2.mono (by omega))).trans ((hb3.mono (by omega)).trans ((grown_turns hg4).below (by have := hb3.size; omega) (fun k hk e => ?_)))
    simp at e; omega
  have hr4 := hr3.keep (grown_turns hg4) (fun x e e2 => by simp [Value.ownBlock] at e; simp at e2; omega)
  have hglt := (hr4.lt g rfl).2
  have HB := Lib.hid hbw; have HM := Lib.hid hm4; have HRW := Lib.hid hr4
  have hw2 := hb3.size
  have HSZ : Hid (w.heap.size + 1 < w4.heap.size ∧ w.heap.size + 2 ≤ g ∧ g < w4.heap.size) := Lib.hid ⟨by omega, by omega, hglt⟩
  clear hn1 hb1 hm1 hb2 hn2 hrd hr3 hb3 hm3 hg4 hbw hm4 hr4 hmk hmm hs4 hglt hs1 hs2 hg hw2
  go_wp2_with fail
  go_ret
  obtain ⟨z1, z2, z3⟩ := HSZ.out
  have hbn := below1 w4 (.cells #[.map (some (w.heap.size + 1))] 46)
  have hnew := heap_alloc_new w4 (.cells #[.map (some (w.heap.size + 1))] 46)
  have hsz : (w4.alloc (.cells #[.map (some (w.heap.size + 1))] 46)).heap.size = w4.heap.size + 1 := by simp
  refine ⟨_, fun x => if x = w4.heap.size then some .set else if x = w.heap.size + 1 then some .map else if x = g then some (.tab 2) else none, rfl, ⟨w4.heap.size, w.heap.size + 1, upd (fun _ => nilS) 2 (.slice (some ⟨g, 0, none⟩) 4 4), fun _ _ => nilS, ?_⟩, HB.out.trans (hbn.mono HB.out.size)⟩
  have hM2 : M0 now 2 = fresh now (List.replicate 4 []) := upd_same _ _ _
  have hMo : ∀ b, b ≠ 2 → M0 now b = [] := fun b hb => upd_ne _ _ hb
  refine ⟨fun x r e => ?_, rfl, hnew, if_pos rfl, HM.out.keep (Turns.of_below (S := fun _ => False) hbn) (fun h => h), by rw [if_neg (by omega), if_pos rfl], fun b => ?_, fun b x e => ?_, fun b i hi => ?_, fun b i x hi e => by simp [Value.ownBlock] at e⟩
  · rw [hsz]
    split at e
    · omega
    · split at e
      · omega
      · split at e
        · omega
        · cases e
  · by_cases hb : b = 2
    · subst hb
      rw [upd_same, hM2]
      have := (HRW.out.new hbn).base (Nat.zero_le _)
      have hv : (fun i => ((List.replicate 4 nilS)[i]?).getD nilS) = fun _ => nilS := funext fun i => rep_get 4 i
      rw [hv] at this
      exact this
    · rw [upd_ne _ _ hb, hMo b hb]
      exact row_nil _ _ _
  · by_cases hb : b = 2
    · subst hb
      rw [upd_same] at e
      have : g = x := by simpa [Value.ownBlock] using e
      subst this
      rw [if_neg (by omega), if_neg (by omega), if_pos rfl]
    · rw [upd_ne _ _ hb] at e
      simp [Value.ownBlock] at e
  · by_cases hb : b = 2
    · subst hb
      rw [hM2] at hi ⊢
      have h4 : i < 4 := by simpa [fresh] using hi
      have : (fresh now (List.replicate 4 []))[i]!.q = [] := by
        rw [fresh_at _ _ (by simpa using h4), rep_at]
      rw [this]
      exact row_nil _ _ _
    · rw [hMo b hb] at hi
      simp at hi
end Go.Proofs.Ytcdoklgjicfkmaa
