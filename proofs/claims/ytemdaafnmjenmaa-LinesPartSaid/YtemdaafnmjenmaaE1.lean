/- The chapter's examples. -/
import Derived.Test.YtemdaafnmjenmaaD6
namespace Go.Proofs.Ytemdaafnmjenmaa
open Go.RowKit

theorem rd_new (w : World) (cs : List Value) (T : TypeId) : Rd (w.alloc (.cells cs.toArray T)) (w.heap.size + 1) (some ⟨w.heap.size, 0, none⟩) cs := fun _ => by
  refine ⟨w.heap.size, 0, rfl, by omega, fun j u e => ?_⟩
  have hnew := heap_alloc_new w (.cells cs.toArray T)
  rw [cell_row hnew, Nat.zero_add]
  simpa using e
theorem row_made {w : World} {b0 : Nat} {Lp : Option Addr} {cl : List Nat} (c : Nat) (h : Rd w b0 Lp (cl.map bv)) (hb : b0 ≤ w.heap.size) : RowAt (w.alloc (.cells #[.slice Lp cl.length c, .slice none 0 0] 57)) b0 w.heap.size Lp cl c (.slice none 0 0) [] :=
  ⟨heap_alloc_new w _, row_nil _ _ _, h.below (below1 w _) hb, hb⟩
def D0 : List Ent := [⟨1, 8, 0⟩, ⟨2, 9, 0⟩, ⟨3, 8, 0⟩, ⟨4, 8, 0⟩]
theorem two_cells {w : World} {base : Nat} {A1 A2 : Option Addr} {T L : List Ent} {c1 c2 n1 n2 : Nat} (h : Two w base (.slice A1 n1 c1) (.slice A2 n2 c2) T L) (h1 : n1 = T.length) (h2 : n2 = L.length) : Rd w w.heap.size A1 (flat T) ∧ Rd w w.heap.size A2 (flat L) := by
  subst h1; subst h2
  exact ⟨h.r1.rd, h.r2.rd⟩
theorem lives_some : part (fsome 8) 2 D0 = ([⟨1, 8, 0⟩, ⟨3, 8, 0⟩], [⟨2, 9, 0⟩, ⟨4, 8, 0⟩], 0) := by decide
theorem lives_chosen : (part (fch 8 (chl (ints [1, 0, 2]))) ⟨false, []⟩ D0).1 = [⟨3, 8, 0⟩] := by decide
theorem lives_first : idx (byKey 8) D0 = 0 := by decide
set_option maxHeartbeats 2000000 in
theorem lives_any (w : World) : Calls Try.prog 7 #[] w fun e w' => e = .returned (.bool true) ∧ Below w.heap.size w w' := by
  have hl0 := rd_new w (flat D0) 36
  have hb0 := below1 w (.cells (flat D0).toArray 36)
  have hsz0 : (w.alloc (.cells (flat D0).toArray 36)).heap.size = w.heap.size + 1 := by simp
  have hs := some_any (A := some ⟨w.heap.size, 0, none⟩) (D := D0) 4 8 2 (by omega) (by omega) hl0 (by rw [hsz0]; omega) (by decide)
  rw [lives_some] at hs
  have HS := Lib.hid hs; have HL0 := Lib.hid hl0; have HB0 := Lib.hid hb0; have HZ0 := Lib.hid hsz0
  clear hs hl0 hb0 hsz0
  unfold Tells2 at HS
  go_enter Try.func7, Try.ntmps7
  go_wp2_with fail
  refine HS.out.mono ?_
  rintro e w2 ⟨A1, A2, rfl, htw, hb⟩
  have hl2 := (HL0.out).below hb (by rw [HZ0.out]; omega)
  have hw2 : w.heap.size + 1 ≤ w2.heap.size := by have := hb.size; rw [HZ0.out] at this; exact this
  obtain ⟨hr1, hr2⟩ := two_cells htw rfl rfl
  have hbl : Rd (w2.alloc (.cells #[.int .u8 1, .int .u8 0, .int .u8 2] 5)) (w2.heap.size + 1) (some ⟨w2.heap.size, 0, none⟩) ([1, 0, 2].map bv) := rd_new w2 ([1, 0, 2].map bv) 5
  have hz : (w2.alloc (.cells #[.int .u8 1, .int .u8 0, .int .u8 2] 5)).heap.size = w2.heap.size + 1 := by simp
  have hrow := row_made 3 hbl (by rw [hz]; omega)
  have hba := below1 w2 (.cells #[.int .u8 1, .int .u8 0, .int .u8 2] 5)
  have hbb := below1 (w2.alloc (.cells #[.int .u8 1, .int .u8 0, .int .u8 2] 5)) (.cells #[.slice (some ⟨w2.heap.size, 0, none⟩) 3 3, .slice none 0 0] 57)
  have hbab := hba.trans (hbb.mono hba.size)
  rw [hz] at hrow
  have hch := chosen_row (A := some ⟨w.heap.size, 0, none⟩) (D := D0) 4 3 8 hrow (by decide) (by decide) (hl2.below hbab hw2) (by omega) (by decide)
  have HCH := Lib.hid hch; have HR1 := Lib.hid (hr1.below hbab (Nat.le_refl _)); have HR2 := Lib.hid (hr2.below hbab (Nat.le_refl _)); have HL2 := Lib.hid (hl2.below hbab hw2); have HBAB := Lib.hid hbab; have HB2 := Lib.hid (HB0.out.trans (hb.mono HB0.out.size)); have HW2 := Lib.hid hw2
  have hz3 : ((w2.alloc (.cells #[.int .u8 1, .int .u8 0, .int .u8 2] 5)).alloc (.cells #[.slice (some ⟨w2.heap.size, 0, none⟩) ([1, 0, 2] : List Nat).length 3, .slice none 0 0] 57)).heap.size = w2.heap.size + 2 := by simp
  have HZ3 := Lib.hid hz3
  clear hch hr1 hr2 hl2 hbab hba hbb hrow hbl hz hb htw hw2 hz3
  go_wp2_with fail
  refine HCH.out.mono ?_
  rintro e w4 ⟨A3, A4, s, rfl, htw, hrow, ht⟩
  rw [lives_chosen] at htw ⊢
  have hs : w2.heap.size + 2 ≤ w4.heap.size := by have := ht.size; rw [HZ3.out] at this; exact this
  have hn : ∀ k, k < w2.heap.size → ¬ (k = w2.heap.size + 1) := fun k hk => by omega
  have hl4 := HL2.out.kept ht (Nat.le_trans (show w.heap.size + 1 ≤ w2.heap.size + 2 by have := HW2.out; omega) (Nat.le_of_eq HZ3.out.symm)) (fun k hk => hn k (by have := HW2.out; omega))
  have hr14 := HR1.out.kept ht (Nat.le_trans (show w2.heap.size ≤ w2.heap.size + 2 by omega) (Nat.le_of_eq HZ3.out.symm)) hn
  have hr24 := HR2.out.kept ht (Nat.le_trans (show w2.heap.size ≤ w2.heap.size + 2 by omega) (Nat.le_of_eq HZ3.out.symm)) hn
  have hr34 := (two_cells htw rfl rfl).1
  have hf := first_any 4 8 hl4 (by have := HW2.out; omega) (by decide)
  rw [lives_first] at hf
  have hb4 : Below w.heap.size w w4 := HB2.out.trans ((ht.below (B := w2.heap.size) (Nat.le_trans (show w2.heap.size ≤ w2.heap.size + 2 by omega) (Nat.le_of_eq HZ3.out.symm)) hn |> fun h => HBAB.out.trans h).mono HB2.out.size)
  have HF := Lib.hid hf; have HB4 := Lib.hid hb4; have HR14 := Lib.hid hr14; have HR24 := Lib.hid hr24; have HR34 := Lib.hid hr34; have HS4 := Lib.hid hs
  clear hl4 hr14 hr24 hr34 hf hb4 htw hrow ht hs hn
  go_wp2_with fail
  refine HF.out.mono ?_
  rintro e w5 ⟨rfl, hb5⟩
  obtain ⟨g1, o1, rfl, _, p⟩ := (HR14.out.below hb5 (by have := HS4.out; omega)).more_ent (by decide)
  obtain ⟨g2, o2, rfl, _, q⟩ := (HR24.out.below hb5 (by have := HS4.out; omega)).more_ent (by decide)
  obtain ⟨g3, o3, rfl, _, r⟩ := (HR34.out.below hb5 (Nat.le_refl _)).more_ent (by decide)
  have a0 : w5.cell? ⟨g1, o1, none⟩ = some (.int .i64 1) := p 0 _ rfl
  have a3 : w5.cell? ⟨g1, o1 + 3, none⟩ = some (.int .i64 3) := p 3 _ rfl
  have b0 : w5.cell? ⟨g2, o2, none⟩ = some (.int .i64 2) := q 0 _ rfl
  have b3 : w5.cell? ⟨g2, o2 + 3, none⟩ = some (.int .i64 4) := q 3 _ rfl
  have c0 : w5.cell? ⟨g3, o3, none⟩ = some (.int .i64 3) := r 0 _ rfl
  have HB5 := Lib.hid (HB4.out.trans (hb5.mono HB4.out.size))
  clear p q r hb5
  go_wp2_with fail
  go_ret
  exact ⟨rfl, HB5.out⟩
end Go.Proofs.Ytemdaafnmjenmaa
