/- Entries turned into the document's; all of a list spoilt. -/
import Derived.Test.YtcdoklgjicfkmaaA2
namespace Go.Proofs.Ytcdoklgjicfkmaa
open Go.RowKit

theorem other_any (e : Ent) (w : World) : Calls Try.prog 53 #[ag e] w fun e' w' => e' = .returned (ag e) ∧ Below w.heap.size w w' := by
  go_enter Try.func53, Try.ntmps53
  go_wp2
  exact bodyPost_ret (v := ag e) (by simp [results, Try.results53, go_sem]) rfl ⟨rfl, ((Below.refl _ w).alloc (Nat.le_refl _) _).alloc (by simp) _⟩
theorem clip_any (A : Option Addr) (n cap : Nat) (w : World) (h : n ≤ cap) (hc : cap ≤ 9223372036854775807) : Calls Try.prog 48 #[.slice A n cap] w fun e w' => e = .returned (.slice A n n) ∧ w = w' := by
  go_enter Try.func48, Try.ntmps48
  go_wp2
  go_ret
  exact ⟨by simp, rfl⟩
theorem below1 (w : World) (o : Obj) : Below w.heap.size w (w.alloc o) := (Below.refl _ w).alloc (Nat.le_refl _) o
theorem Row.alloc {w : World} {base sz n : Nat} {s : Value} {cs : List Value} (h : Row w base sz s n cs) (o : Obj) : Row (w.alloc o) base sz s n cs := h.new (below1 w o)
/-- One entry, in new memory. -/
theorem rd_one (w : World) (d : Ent) (T : TypeId) : Rd (w.alloc (.cells #[.int .i64 d.t, .int .u32 d.k, .int .u64 d.z] T)) (w.heap.size + 1) (some ⟨w.heap.size, 0, none⟩) (flat [d]) := fun _ => by
  refine ⟨w.heap.size, 0, rfl, by omega, fun j u e => ?_⟩
  have hnew := heap_alloc_new w (.cells #[.int .i64 d.t, .int .u32 d.k, .int .u64 d.z] T)
  rw [cell_row hnew, Nat.zero_add]
  simpa [flat_one] using e
/-- One cell, in new memory. -/
theorem rd_one1 (w : World) (v : Value) (T : TypeId) : Rd (w.alloc (.cells #[v] T)) (w.heap.size + 1) (some ⟨w.heap.size, 0, none⟩) [v] := fun _ => by
  refine ⟨w.heap.size, 0, rfl, by omega, fun j u e => ?_⟩
  have hnew := heap_alloc_new w (.cells #[v] T)
  rw [cell_row hnew, Nat.zero_add]
  simpa using e
theorem take_snoc {α : Type} [Inhabited α] {D : List α} {k : Nat} (h : k < D.length) : D.take (k + 1) = D.take k ++ [D[k]!] := by
  rw [List.take_add_one, List.getElem?_eq_getElem h, getElem!_pos D k h]; rfl
theorem flat_snoc {D : List Ent} {k : Nat} (h : k < D.length) : flat (D.take (k + 1)) = flat (D.take k) ++ flat [D[k]!] := by rw [take_snoc h, flat_app]
/-- A list of entries of a call's own. -/
abbrev RowE (w : World) (base : Nat) (s : Value) (D : List Ent) : Prop := Row w base 3 s D.length (flat D)
set_option maxHeartbeats 1000000 in
theorem others_any {w : World} {base : Nat} {A : Option Addr} {D : List Ent} (c : Nat) (hr : Rd w base A (flat D)) (hbase : base ≤ w.heap.size) (hlen : D.length ≤ 1000) :
    Calls Try.prog 32 #[.slice A D.length c] w fun e w' => ∃ s, e = .returned s ∧ RowE w' w.heap.size s D ∧ (s = .slice none 0 0 ∨ 0 < D.length) ∧ Below w.heap.size w w' := by
  have HR := Lib.hid hr; have HBS := Lib.hid hbase
  clear hr hbase
  obtain ⟨n, hn⟩ : ∃ n, n = D.length := ⟨_, rfl⟩
  rw [← hn]
  have HN := Lib.hid hn
  have hn6 : n ≤ 1000 := by omega
  clear hn hlen
  go_enter Try.func32, Try.ntmps32
  go_wp2_with fail
  go_loopg [3, 4] n (fun q s3 s4 wx => ∃ k : Nat, k ≤ n ∧ q = n - k ∧ s4 = .int .i64 (k : Int) ∧ Below w.heap.size w wx ∧ Row wx w.heap.size 3 s3 k (flat (D.take k)) ∧ (s3 = .slice none 0 0 ∨ 0 < k))
  case atStart => exact ⟨0, by omega, rfl, rfl, Below.refl _ _, row_nil _ _ _, Or.inl rfl⟩
  case round =>
    obtain ⟨k, hk, rfl, rfl, hb, hrow, hnn⟩ := hrel
    have HB := Lib.hid hb; have HROW := Lib.hid hrow; have HNN := Lib.hid hnn
    clear hb hrow hnn
    by_cases hkn : k < n
    · obtain ⟨lb', lo, rfl, hlb, c0, c1, c2⟩ := (HR.out.below HB.out HBS.out).ent (i := k) (by have := HN.out; omega)
      have hsn := flat_snoc (D := D) (k := k) (by have := HN.out; omega)
      generalize hd : D[k]! = d at *
      have HSN := Lib.hid hsn
      clear hd hsn
      go_wp2_with (first
        | (go_at_call 53; refine (other_any d _).mono ?_; rintro e w1 ⟨rfl, hb1⟩; (have HB1 := Lib.hid hb1); (clear hb1))
        | (at_builtin; refine wpList_append_row layO rfl _ _ rfl rfl ((HROW.out.new HB1.out).alloc _) (flat_one' _) (by have := HB.out.size; have := HB1.out.size; simp; omega) 1 rfl (rd_one w1 d 95) rfl (flat_one' _) (by omega) ?_; intro v' w2 hr2 ht2 _; (rw [← HSN.out] at hr2); (have HR2 := Lib.hid hr2); (have HT2 := Lib.hid ht2); (clear hr2 ht2)))
      go_roundg (n - (k + 1))
      case measure => omega
      case rel =>
        refine ⟨k + 1, by omega, rfl, by go_num, ?_, HR2.out, Or.inr (by omega)⟩
        have hb2 : Below w.heap.size w1 w2 := ((Turns.refl _ w1).alloc _ |>.trans HT2.out (fun k _ e => e)).below (by have := HB.out.size; have := HB1.out.size; omega) (fun k hk e => by have := (HROW.out.lt k e).1; omega)
        exact HB.out.trans ((HB1.out.mono HB.out.size).trans hb2)
    · obtain rfl : k = n := by omega
      go_wp2_with fail
      go_ret
      refine ⟨_, rfl, ?_, HNN.out, HB.out⟩
      have := HROW.out
      rw [HN.out, List.take_length] at this
      exact this
/-- Cells that may be written. -/
def Wr (w : World) (g o m : Nat) : Prop := ∀ j, j < m → ∃ v, w.cell? ⟨g, o + j, none⟩ = some v ∧ w.frozen? ⟨g, o + j, none⟩ = false
theorem Wr.set {w : World} {g o m : Nat} (h : Wr w g o m) (x : Nat) (v : Value) : Wr (w.setCell ⟨g, x, none⟩ v) g o m := by
  intro j hj
  obtain ⟨u, hu, hf⟩ := h j hj
  by_cases e : o + j = x
  · subst e
    exact ⟨v, World.cell?_setCell_same _ _ _ hu, (World.frozen?_setCell _ _ _ _).trans hf⟩
  · exact ⟨u, (World.cell?_setCell_other _ _ _ _ (by simp; (try omega))).trans hu, (World.frozen?_setCell _ _ _ _).trans hf⟩
set_option maxHeartbeats 1000000 in
theorem spoil_any {w : World} {base n cap : Nat} {A : Option Addr} {cs : List Value} (h : Row w base 3 (.slice A n cap) n cs) :
    Calls Try.prog 30 #[.slice A n cap] w fun e w' => e = .returned (.tuple #[]) ∧ Turns (fun k => (Value.slice A n cap).ownBlock = some k) w w' := by
  obtain ⟨A', cap', e, h0, h1, h2, h3, h4⟩ := h
  cases e
  have hcap : cap ≤ 9223372036854775807 := by unfold maxLen at h2; omega
  cases A with
  | none =>
    obtain rfl : n = 0 := by have := h3 rfl; omega
    clear h0 h1 h2 h3 h4
    go_enter Try.func30, Try.ntmps30
    go_wp2_with fail
    refine wp_loop_rounds 1 ?_
    rw [rounds_succ]
    go_wp2_with fail
    go_end0
    exact ⟨rfl, Turns.refl _ _⟩
  | some ad =>
    obtain ⟨g, o, rfl, hb, hlt, hl, hc⟩ := h4 ad rfl
    have hwr : Wr w g o (n * 3) := fun j hj => by
      obtain ⟨h5, h6⟩ := hc j (by omega)
      obtain ⟨u, hu⟩ := Option.isSome_iff_exists.1 h5
      exact ⟨u, hu, h6⟩
    have HWR := Lib.hid hwr
    have hnm : n ≤ 9223372036854775807 := by omega
    clear h0 h1 h2 h3 h4 hl hc hwr
    go_enter Try.func30, Try.ntmps30
    go_wp2_with fail
    go_loopg [2] n (fun q s2 wx => ∃ k : Nat, k ≤ n ∧ q = n - k ∧ s2 = .int .i64 (k : Int) ∧ Turns (fun k => k = g) w wx ∧ Wr wx g o (n * 3))
    case atStart => exact ⟨0, by omega, rfl, rfl, Turns.refl _ _, HWR.out⟩
    case round =>
      obtain ⟨k, hk, rfl, rfl, ht, hw⟩ := hrel
      have HT := Lib.hid ht; have HW := Lib.hid hw
      clear ht hw
      by_cases hkn : k < n
      · obtain ⟨v0, c0, f0⟩ := HW.out (k * 3) (by omega)
        obtain ⟨v1, c1, f1⟩ := HW.out (k * 3 + 1) (by omega)
        obtain ⟨v2, c2, f2⟩ := HW.out (k * 3 + 2) (by omega)
        rw [← Nat.add_assoc] at c1 f1 c2 f2
        go_wp2_with fail
        go_roundg (n - (k + 1))
        case measure => omega
        case rel =>
          refine ⟨k + 1, by omega, rfl, by go_num, ((HT.out.setCell _ _ rfl).setCell _ _ rfl).setCell _ _ rfl, ((HW.out.set _ _).set _ _).set _ _⟩
      · obtain rfl : k = n := by omega
        go_wp2_with fail
        go_end0
        exact ⟨rfl, HT.out.mono (fun k _ e => by subst e; rfl)⟩
end Go.Proofs.Ytcdoklgjicfkmaa
