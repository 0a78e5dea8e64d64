/- Chosen: by a row, by one that takes all, by none. -/
import Derived.Test.YtemdaafnmjenmaaD5
namespace Go.Proofs.Ytemdaafnmjenmaa
open Go.RowKit

theorem eq74_row (w : World) (v : Value) : (binOp .eql 74 (.iface 54 v) .nilIface).run Try.prog w = .ok (.bool false) w := by kernel_rfl
theorem eq74_all (w : World) (v : Value) : (binOp .eql 74 (.iface 67 v) .nilIface).run Try.prog w = .ok (.bool false) w := by kernel_rfl
theorem eq74_nil (w : World) : (binOp .eql 74 .nilIface .nilIface).run Try.prog w = .ok (.bool true) w := by kernel_rfl
/-- The three variables of Chosen. -/
theorem vars3 (w : World) (key : Int) (fv : Value) (b : Bool) : ∃ w3, w3 = ((w.alloc (.cells #[.int .u32 key] 24)).alloc (.cells #[fv] 74)).alloc (.cells #[.bool b] 4) ∧ Below w.heap.size w w3 ∧ w3.heap.size = w.heap.size + 3 ∧
    w3.heap[w.heap.size]? = some (.cells #[.int .u32 key] 24 (0, 0)) ∧ w3.heap[w.heap.size + 1]? = some (.cells #[fv] 74 (0, 0)) ∧ w3.heap[w.heap.size + 2]? = some (.cells #[.bool b] 4 (0, 0)) := by
  refine ⟨_, rfl, ((below1 w _).trans ((below1 _ _).mono (by simp))).trans ((below1 _ _).mono (by simp; omega)), by simp, ?_, ?_, ?_⟩
  · rw [Below.heap_alloc _ _ _ (by simp; omega), Below.heap_alloc _ _ _ (by simp)]
    exact heap_alloc_new w _
  · rw [Below.heap_alloc _ _ _ (by simp)]
    have := heap_alloc_new (w.alloc (.cells #[.int .u32 key] 24)) (.cells #[fv] 74)
    rwa [show (w.alloc (.cells #[.int .u32 key] 24)).heap.size = w.heap.size + 1 by simp] at this
  · have := heap_alloc_new ((w.alloc (.cells #[.int .u32 key] 24)).alloc (.cells #[fv] 74)) (.cells #[.bool b] 4)
    rwa [show ((w.alloc (.cells #[.int .u32 key] 24)).alloc (.cells #[fv] 74)).heap.size = w.heap.size + 2 by simp] at this
/-- Two lists are told, and a row was asked. -/
def Tells3 (w : World) (b0 B : Nat) (Lp : Option Addr) (cl : List Nat) (c : Nat) (T L : List Ent) (asked : List Int) (e : Ending) (w' : World) : Prop :=
  ∃ A1 A2 s, e = .returned (.tuple #[.slice A1 T.length T.length, .slice A2 L.length L.length]) ∧ Two w' w.heap.size (.slice A1 T.length T.length) (.slice A2 L.length L.length) T L ∧ RowAt w' b0 B Lp cl c s asked ∧ Turns (fun k => k = B) w w'
set_option maxHeartbeats 1000000 in
theorem chosen_row {w : World} {b0 b1 B : Nat} {A Lp : Option Addr} {D : List Ent} {cl : List Nat} (c cc : Nat) (key : Int) (hrow : RowAt w b0 B Lp cl cc (.slice none 0 0) []) (hcl : cl.length ≤ 1000) (hby : ∀ x ∈ cl, x < 256) (hr : Rd w b1 A (flat D)) (hb1 : b1 ≤ B) (hlen : D.length ≤ 1000) :
    Calls Try.prog 23 #[.slice A D.length c, .int .u32 key, .iface 54 (.pointer (some ⟨B, 0, none⟩))] w (Tells3 w b0 B Lp cl cc (part (fch key (chl (ints cl))) ⟨false, []⟩ D).1 (part (fch key (chl (ints cl))) ⟨false, []⟩ D).2.1 (part (fch key (chl (ints cl))) ⟨false, []⟩ D).2.2.asked) := by
  obtain ⟨w3, hw3, hb, hs, hk, hf, hst⟩ := vars3 w key (.iface 54 (.pointer (some ⟨B, 0, none⟩))) false
  have hBl := hrow.lt
  have hlow := hrow.low
  have hcon := parted_any c eg34 (row_clo key (Bk := w.heap.size) (Bs := w.heap.size + 2) (Bf := w.heap.size + 1) (b0 := b0) (B := B) (base := w3.heap.size) (n := D.length) Lp cl cc hlen hcl hby (by omega) (by omega) (by omega)) ⟨false, []⟩ (fun b => b = w.heap.size + 2 ∨ b = B ∨ (Value.slice none 0 0).ownBlock = some b)
    ⟨.slice none 0 0, hk, hf, hst, hrow.keep (Turns.of_below (S := fun _ => False) hb) (fun e => e) (fun _ _ e => e) (fun _ _ e => e), (fun g hg => by simp [Value.ownBlock] at hg), rfl, Nat.zero_le _⟩ (hr.below hb (by omega)) (by omega) (fun b hb' e => by
      rcases e with e | e | e
      · omega
      · omega
      · simp [Value.ownBlock] at e) hlen
  unfold Parts at hcon
  have HC := Lib.hid hcon; have HB := Lib.hid hb; have HS := Lib.hid hs
  have hq := eq74_row
  clear hcon hb hs hk hf hst hr hb1 hlen hrow hcl hby
  unfold Tells3
  subst hw3
  go_enter Try.func23, Try.ntmps23
  go_wp2_with fail
  refine HC.out.mono ?_
  rintro e w4 ⟨A1, A2, F, rfl, hph⟩
  have HPH := Lib.hid hph
  clear hph
  go_wp2_with fail
  go_ret2
  obtain ⟨s, _, _, _, h4, _, _, _⟩ := HPH.out.inv
  refine ⟨A1, A2, s, rfl, HPH.out.two.base (by rw [HS.out]; omega), h4, ((Turns.of_below HB.out).trans HPH.out.turn (fun k hk e => ?_))⟩
  rcases e with e | e | e
  · omega
  · exact e
  · simp [Value.ownBlock] at e
set_option maxHeartbeats 1000000 in
theorem chosen_all {w : World} {b1 : Nat} {A : Option Addr} {D : List Ent} (c : Nat) (key : Int) (hr : Rd w b1 A (flat D)) (hb1 : b1 ≤ w.heap.size) (hlen : D.length ≤ 1000) :
    Calls Try.prog 23 #[.slice A D.length c, .int .u32 key, .iface 67 (.agg #[])] w (Tells2 w (part (fch key (fun _ => 0)) ⟨false, []⟩ D).1 (part (fch key (fun _ => 0)) ⟨false, []⟩ D).2.1) := by
  obtain ⟨w3, hw3, hb, hs, hk, hf, hst⟩ := vars3 w key (.iface 67 (.agg #[])) false
  have hcon := parted_any c eg34 (all_clo key (Bk := w.heap.size) (Bs := w.heap.size + 2) (Bf := w.heap.size + 1) (base := w3.heap.size) (n := D.length) (by omega) (by omega)) ⟨false, []⟩ (fun b => b = w.heap.size + 2)
    ⟨hk, hf, hst, rfl, rfl⟩ (hr.below hb hb1) (by omega) (fun b hb' e => by omega) hlen
  unfold Parts at hcon
  have HC := Lib.hid hcon; have HB := Lib.hid hb; have HS := Lib.hid hs
  have hq := eq74_all
  clear hcon hb hs hk hf hst hr hb1 hlen
  unfold Tells2
  subst hw3
  go_enter Try.func23, Try.ntmps23
  go_wp2_with fail
  refine HC.out.mono ?_
  rintro e w4 ⟨A1, A2, F, rfl, hph⟩
  have HPH := Lib.hid hph
  clear hph
  go_wp2_with fail
  go_ret2
  exact ⟨A1, A2, rfl, HPH.out.two.base (by rw [HS.out]; omega), HB.out.trans (HPH.out.turn.below (by rw [HS.out]; omega) (fun k hk (e : k = w.heap.size + 2) => by omega))⟩
set_option maxHeartbeats 1000000 in
theorem chosen_nil {w : World} {b1 : Nat} {A : Option Addr} {D : List Ent} (c : Nat) (key : Int) (hr : Rd w b1 A (flat D)) (hb1 : b1 ≤ w.heap.size) (hlen : D.length ≤ 1000) :
    Calls Try.prog 23 #[.slice A D.length c, .int .u32 key, .nilIface] w (Tells2 w (part (fch key (fun _ => 0)) ⟨true, []⟩ D).1 (part (fch key (fun _ => 0)) ⟨true, []⟩ D).2.1) := by
  obtain ⟨w3, hw3, hb, hs, hk, hf, hst⟩ := vars3 w key .nilIface true
  have hcon := parted_any c eg34 (nil_clo key (Bk := w.heap.size) (Bs := w.heap.size + 2) (.pointer (some ⟨w.heap.size + 1, 0, none⟩)) (base := w3.heap.size) (n := D.length) (fun _ => 0) (by omega)) ⟨true, []⟩ (fun _ => False)
    ⟨hk, hst, rfl, rfl⟩ (hr.below hb hb1) (by omega) (fun b hb' e => e) hlen
  unfold Parts at hcon
  have HC := Lib.hid hcon; have HB := Lib.hid hb; have HS := Lib.hid hs
  have hq := eq74_nil
  clear hcon hb hs hk hf hst hr hb1 hlen
  unfold Tells2
  subst hw3
  go_enter Try.func23, Try.ntmps23
  go_wp2_with fail
  refine HC.out.mono ?_
  rintro e w4 ⟨A1, A2, F, rfl, hph⟩
  have HPH := Lib.hid hph
  clear hph
  go_wp2_with fail
  go_ret2
  exact ⟨A1, A2, rfl, HPH.out.two.base (by rw [HS.out]; omega), HB.out.trans (HPH.out.turn.below (by rw [HS.out]; omega) (fun k hk e => e))⟩
theorem part_nil (key : Int) (ch : Nat → Nat) (st : Ch) (hs : st.stopped = true) (D : List Ent) : (part (fch key ch) st D).1 = [] ∧ (part (fch key ch) st D).2.1 = D := by
  have H : ∀ (F : List Ent) (x : List Ent × List Ent × Ch), x.2.2.stopped = true → F.foldl (step (fch key ch)) x = (x.1, x.2.1 ++ F, x.2.2) := by
    intro F
    induction F with
    | nil => intro x _; simp
    | cons e r ih =>
      intro x hx
      rw [List.foldl_cons]
      have : step (fch key ch) x e = (x.1, x.2.1 ++ [e], x.2.2) := by unfold step; rw [fch_not (.inr hx)]; rfl
      rw [this, ih (x.1, x.2.1 ++ [e], x.2.2) hx]
      simp
  have := H D ([], [], st) hs
  unfold part
  rw [this]
  exact ⟨rfl, by simp⟩
end Go.Proofs.Ytemdaafnmjenmaa
