/- Texts of this seat, one behind the other. -/
import Derived.Test.YthafnphpcdbnlaaGreatDoorMLawNew27
import Derived.Deep.RegionHeld3
set_option linter.unusedVariables false
set_option linter.unusedSimpArgs false
set_option linter.unusedVariables false
set_option linter.unusedSimpArgs false
namespace Go.Proofs.YthafnphpcdbnlaaGreatDoor.S11
open Go.Proofs.YthafnphpcdbnlaaGreatDoor
open Go.RowKit

theorem rd_noteR (w : World) (n : Nt) : Rd (w.alloc (.cells (nb .i64 n) 166)) (w.heap.size + 1) (some ⟨w.heap.size, 0, none⟩) (flat .i64 [n]) := fun _ =>
  ⟨w.heap.size, 0, rfl, by omega, fun j u e => by rw [Nat.zero_add, cell_row (heap_alloc_new w _)]; rw [flat_one] at e; simpa using e⟩
end Go.Proofs.YthafnphpcdbnlaaGreatDoor.S11
set_option linter.unusedVariables false
set_option linter.unusedSimpArgs false
namespace Go.Proofs.YthafnphpcdbnlaaGreatDoor.S11
open Go.Proofs.YthafnphpcdbnlaaGreatDoor
open Go.RowKit

theorem clip_any (A : Option Addr) (n cap : Nat) (w : World) (h : n ≤ cap) (hc : cap ≤ 9223372036854775807) : Calls Tryz.prog 76 #[.slice A n cap] w fun e w' => e = .returned (.slice A n n) ∧ w = w' := by
  go_enter Tryz.func76, Tryz.ntmps76
  go_wp2
  go_ret
  exact ⟨by simp, rfl⟩
/-- From which place on. -/
def fromN (D : List Nt) (x : Int) : Nat := min x.toNat D.length
/-- Notes in new memory, no room behind. -/
def Told (w w' : World) (F : List Nt) (e : Ending) : Prop := ∃ A, e = .returned (.slice A F.length F.length) ∧ Row w' w.heap.size 7 (.slice A F.length F.length) F.length (flat .u8 F) ∧ Below w.heap.size w w'
theorem told_done {w : World} {D : List Nt} {k : Nat} (hl : (D.drop k).length = D.length - k) {w2 : World} {A2 : Option Addr} {c2 : Nat} (hr : Row w2 w.heap.size 7 (.slice A2 (D.length - k) c2) (0 + (D.length - k)) ([] ++ flat .u8 (D.drop k))) (ht : Turns (fun g => (Value.slice none 0 0).ownBlock = some g) w w2) :
    Told w w2 (D.drop k) (.returned (.slice A2 (D.length - k) (D.length - k))) := by
  rw [Nat.zero_add, List.nil_append] at hr
  refine ⟨A2, by rw [hl], by rw [hl]; exact hr.clip, ht.below (Nat.le_refl _) (fun g _ e => by simp [Value.ownBlock] at e)⟩
theorem since_nil (w : World) (x : Int) : Calls Tryz.prog 44 #[.pointer none, .int .i64 x] w fun e w' => e = .returned (.slice none 0 0) ∧ w = w' := by
  go_enter Tryz.func44, Tryz.ntmps44
  go_wp2
  go_ret
  exact ⟨rfl, rfl⟩
theorem all_nil (w : World) : Calls Tryz.prog 16 #[.pointer none] w fun e w' => e = .returned (.slice none 0 0) ∧ w = w' := by
  have hq := since_nil w 0
  go_enter Tryz.func16, Tryz.ntmps16
  go_wp2_with (go_at_call 44; refine hq.mono ?_; rintro e w' ⟨rfl, rfl⟩)
  go_ret
  exact ⟨rfl, rfl⟩
set_option maxHeartbeats 1000000 in
theorem since_any {w : World} {base p : Nat} {s : Value} {D : List Nt} (h : LAt 150 .u8 w base p s D) (hlen : D.length ≤ 100000) (x : Int) :
    Calls Tryz.prog 44 #[Pt p, .int .i64 x] w fun e w' => Told w w' (D.drop (fromN D x)) e := by
  have c0 := h.cell
  obtain ⟨A, cap, hs, hcap, hc9⟩ := h.own.shape
  subst hs
  have hrow := h.own
  have hrd := hrow.rd
  have HRD := Lib.hid hrd; have HROW := Lib.hid hrow
  clear hrd hrow h
  obtain ⟨k, hk⟩ : ∃ k, k = fromN D x := ⟨_, rfl⟩
  rw [← hk]
  have hkn : k ≤ D.length := by rw [hk]; unfold fromN; omega
  have hxk : min (max x 0) (D.length : Int) = (k : Int) := by rw [hk]; unfold fromN; omega
  clear hk
  go_enter Tryz.func44, Tryz.ntmps44
  go_upto_region 4 with (fail)
  clear hxk
  have hki : (k : Int) ≤ (D.length : Int) := by omega
  have hlen2 : (D.drop k).length = D.length - k := List.length_drop
  have HEND := Lib.hid (fun (w2 : World) (A2 : Option Addr) (c2 : Nat) => told_done (w := w) (k := k) hlen2 (w2 := w2) (A2 := A2) (c2 := c2))
  by_cases hck : cap = k
  · subst hck
    have hn0 : D.length - cap = 0 := by omega
    have hR : Rd w 0 A (flat .u8 (D.drop cap)) := fun hp => by rw [flat_len, hlen2, hn0] at hp; simp at hp
    have HR := Lib.hid hR
    clear hR
    have hfl : (flat .u8 (D.drop cap)).length = 0 * 7 := by rw [flat_len, hlen2, hn0]
    have HFL := Lib.hid hfl
    clear hfl hlen2
    rw [hn0] at HEND
    go_wp2_with (first
      | (at_builtin; refine wpList_append_row layP rfl _ _ rfl rfl (row_nil w w.heap.size 7) (fun u hu => by cases hu) (Nat.le_refl _) 0 rfl HR.out HFL.out (flat_one' _ _) (by omega) ?_; intro v2 w2 hr2 ht2 ho2; (obtain ⟨A2, c2, hv2, hn2, hm2⟩ := hr2.shape); (rw [Nat.zero_add] at hv2 hn2); subst hv2; (have HR2 := Lib.hid hr2); (have HT2 := Lib.hid ht2); (clear hr2 ht2 ho2))
      | (go_at_call 76; refine (clip_any _ _ _ _ hn2 hm2).mono ?_; rintro e w' ⟨rfl, rfl⟩))
    go_ret
    exact HEND.out _ _ _ HR2.out HT2.out
  · cases A with
    | none =>
      exfalso
      obtain ⟨A', cap', e, h0, h1, h2, h3, h4⟩ := HROW.out
      cases e
      have := h3 rfl
      omega
    | some ad =>
      obtain ⟨A', cap', e, h0, h1, h2, h3, h4⟩ := HROW.out
      cases e
      obtain ⟨g, o, rfl, hb, hlt, hl, hc⟩ := h4 _ rfl
      have hR : Rd w w.heap.size (some ⟨g, o + k * 7, none⟩) (flat .u8 (D.drop k)) := fun _ => ⟨g, o + k * 7, rfl, hlt, hl.from k⟩
      have HR := Lib.hid hR
      obtain ⟨m, hm⟩ : ∃ m, D.length - k = m := ⟨_, rfl⟩
      obtain ⟨cc, hcc⟩ : ∃ cc, cap - k = cc := ⟨_, rfl⟩
      have hfl : (flat .u8 (D.drop k)).length = m * 7 := by rw [flat_len, hlen2, hm]
      have hml : 0 + m ≤ 1000000 := by omega
      have HFL := Lib.hid hfl; have HML := Lib.hid hml
      rw [hm] at HEND
      clear hR hfl hlen2 hb hlt hl hc h0 h1 h2 h3 h4 hml
      go_wp2_with (first
        | (at_builtin; refine wpList_append_row (es := flat .u8 (D.drop k)) (m := m) (b2 := w.heap.size) (A := some ⟨g, o + k * 7, none⟩) layP rfl _ _ rfl rfl (row_nil w w.heap.size 7) (fun u hu => by cases hu) (Nat.le_refl _) cc rfl HR.out HFL.out (flat_one' _ _) HML.out ?_; intro v2 w2 hr2 ht2 ho2; (obtain ⟨A2, c2, hv2, hn2, hm2⟩ := hr2.shape); (rw [Nat.zero_add] at hv2 hn2); subst hv2; (have HR2 := Lib.hid hr2); (have HT2 := Lib.hid ht2); (clear hr2 ht2 ho2))
        | (go_at_call 76; refine (clip_any _ _ _ _ hn2 hm2).mono ?_; rintro e w' ⟨rfl, rfl⟩))
      go_ret
      exact HEND.out _ _ _ HR2.out HT2.out
theorem all_any {w : World} {base p : Nat} {s : Value} {D : List Nt} (h : LAt 150 .u8 w base p s D) (hlen : D.length ≤ 100000) : Calls Tryz.prog 16 #[Pt p] w fun e w' => Told w w' D e := by
  have hq := since_any h hlen 0
  have e : fromN D 0 = 0 := by simp [fromN]
  rw [e, List.drop_zero] at hq
  have HQ := Lib.hid hq
  clear hq h
  go_enter Tryz.func16, Tryz.ntmps16
  go_wp2_with (go_at_call 44; refine HQ.out.mono ?_; rintro e w' ⟨A, rfl, h1, h2⟩; (have H1 := Lib.hid (And.intro h1 h2)); (clear h1 h2))
  go_ret
  exact ⟨_, rfl, H1.out.1, H1.out.2⟩
/-- A note as the document has it: its kind is an int. -/
theorem other_any (n : Nt) (hk : n.k < 256) (w : World) : Calls Tryz.prog 61 #[ag .u8 n] w fun e w' => e = .returned (ag .i64 n) ∧ Below w.heap.size w w' := by
  have hwr : IntKind.i64.wrap (n.k : Int) = n.k := by rw [IntKind.wrap_i64]; omega
  go_enter Tryz.func61, Tryz.ntmps61
  go_wp2
  exact bodyPost_ret (v := ag .i64 n) (results_cell Tryz.results61 rfl (run_loadVar_row (P := Tryz.prog) _ (w.heap.size + 1) 166 166 (nb .i64 n) (0, 0) _ (by rw [show w.heap.size + 1 = (w.alloc (.cells (nb .u8 n) 67)).heap.size by simp]; exact heap_alloc_new _ _) Tryz.underlying166 rfl (by kernel_rfl))) rfl ⟨rfl, ((Below.refl _ _).alloc (Nat.le_refl _) _).alloc (by simp) _⟩
end Go.Proofs.YthafnphpcdbnlaaGreatDoor.S11
