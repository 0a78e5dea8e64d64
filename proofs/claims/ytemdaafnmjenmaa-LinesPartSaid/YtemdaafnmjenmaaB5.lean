/- The document's Moved. -/
import Derived.Test.YtemdaafnmjenmaaB4
import Derived.Deep.RegionHeld3
namespace Go.Proofs.Ytemdaafnmjenmaa
open Go.RowKit

def re (key : Int) (e : Ent) : Ent := ⟨e.t, key, e.z⟩
def movedL (D M : List Ent) (key : Int) : List Ent := D ++ M.map (re key)
theorem moved_snoc {D M : List Ent} {key : Int} {k : Nat} (h : k < M.length) : movedL D (M.take (k + 1)) key = movedL D (M.take k) key ++ [re key M[k]!] := by
  unfold movedL; rw [take_snoc h, List.map_append, List.append_assoc]; rfl
theorem moved_len (D M : List Ent) (key : Int) : (movedL D M key).length = D.length + M.length := by simp [movedL]
set_option maxHeartbeats 2000000 in
set_option maxRecDepth 100000 in
theorem rmoved_any {w : World} {b1 b2 : Nat} {A B : Option Addr} {D M : List Ent} (c c' : Nat) (key : Int) (hr1 : Rd w b1 A (flat D)) (hr2 : Rd w b2 B (flat M)) (hb1 : b1 ≤ w.heap.size) (hb2 : b2 ≤ w.heap.size) (hD : D.length ≤ 1000) (hM : M.length ≤ 1000) :
    Calls Try.prog 27 #[.slice A D.length c, .slice B M.length c', .int .u32 key] w fun e w' => ∃ s, e = .returned s ∧ RowE w' w.heap.size s (movedL D M key) ∧ Below w.heap.size w w' := by
  have H1 := Lib.hid hr1; have H2 := Lib.hid hr2; have HS1 := Lib.hid hb1; have HS2 := Lib.hid hb2
  clear hr1 hr2 hb1 hb2
  obtain ⟨n, hn⟩ : ∃ n, n = M.length := ⟨_, rfl⟩
  rw [← hn]
  have HN := Lib.hid hn
  have hn6 : n ≤ 1000 := by omega
  clear hn hM
  go_enter Try.func27, Try.ntmps27
  go_wp2_with (at_builtin; refine wpList_append_row lay39 rfl _ _ rfl rfl (row_nil _ w.heap.size 3) (fun u hu => by cases hu) (Nat.le_refl _) c rfl H1.out (flat_len D) (flat_one' _) (by omega) ?_; intro v0 w0 hr0 ht0 _; (rw [Nat.zero_add, List.nil_append] at hr0); (have HR0 := Lib.hid hr0); (have HT0 := Lib.hid ht0); (clear hr0 ht0))
  have hb0 : Below w.heap.size w w0 := HT0.out.below (Nat.le_refl _) (fun k hk e => by cases e)
  have HB0 := Lib.hid hb0
  clear hb0
  go_loopg [7, 8] n (fun q s7 s8 wx => ∃ k : Nat, k ≤ n ∧ q = n - k ∧ s8 = .int .i64 (k : Int) ∧ Below w.heap.size w wx ∧ RowE wx w.heap.size s7 (movedL D (M.take k) key))
  case atStart => exact ⟨0, by omega, rfl, rfl, HB0.out, by simpa [movedL] using HR0.out⟩
  case round =>
    obtain ⟨k, hk, rfl, rfl, hb, hrow⟩ := hrel
    have HB := Lib.hid hb; have HROW := Lib.hid hrow
    clear hb hrow
    by_cases hkn : k < n
    · obtain ⟨g2, o2, rfl, hg2, c0, c1, c2⟩ := (H2.out.below HB.out HS2.out).ent (i := k) (by have := HN.out; omega)
      have hl2 : g2 < wr.heap.size := by have := HB.out.size; have := HS2.out; omega
      have hne2 : ¬ u7.ownBlock = some g2 := fun e => by have := (HROW.out.lt g2 e).1; have := HS2.out; omega
      have hsn := moved_snoc (D := D) (M := M) (key := key) (k := k) (by have := HN.out; omega)
      have hll := moved_len D (M.take k) key
      rw [List.length_take] at hll
      have hl6 : (movedL D (M.take k) key).length ≤ 2000 := by have := Nat.min_le_left k M.length; omega
      have hs : w.heap.size ≤ wr.heap.size := HB.out.size
      have HSN := Lib.hid hsn
      clear hsn hll
      generalize hd : M[k]! = d at *
      clear hd
      go_upto_region 5 with (fail)
      refine wp_region_held_drew (S := fun w' => (w'.cell? ⟨g2, o2 + k * 3, none⟩ = some (.int .i64 d.t) ∧ w'.cell? ⟨g2, o2 + k * 3 + 1, none⟩ = some (.int .u32 d.k) ∧ w'.cell? ⟨g2, o2 + k * 3 + 2, none⟩ = some (.int .u64 d.z)) ∧ Turns (fun g => u7.ownBlock = some g) wr w') (by kernel_rfl) ?_ (fun hHeld => ?_)
      · exact ⟨⟨c0, c1, c2⟩, (Turns.refl _ wr).drew⟩
      refine wpAnyH_take (i := 0) (oi := ({ dst := some 17, op := Op.move (Operand.tmp 7), type := 26, pos := "ref.go:99", after := #[], guard := none } : Oper)) (v := ?v0) rfl (by kernel_rfl) (by kernel_rfl) (by kernel_rfl) (fun _ _ _ h => h) (Or.inl ⟨by rfl, fun w hSw => ?hy0⟩) (by assumption) ?r0
      case hy0 => (try dsimp only at hSw); go_simp; (try with_reducible rfl)
      (try simp only [Act.put, List.setIfInBounds_toArray, List.set_cons_zero, List.set_cons_succ])
      refine wpAnyH_take (i := 1) (oi := ({ dst := some 18, op := Op.move (Operand.tmp 1), type := 26, pos := "ref.go:99", after := #[], guard := none } : Oper)) (v := ?v1) rfl (by kernel_rfl) (by kernel_rfl) (by kernel_rfl) (fun _ _ _ h => h) (Or.inl ⟨by rfl, fun w hSw => ?hy1⟩) (by assumption) ?r1
      case hy1 => (try dsimp only at hSw); go_simp; (try with_reducible rfl)
      (try simp only [Act.put, List.setIfInBounds_toArray, List.set_cons_zero, List.set_cons_succ])
      refine wpAnyH_take (i := 2) (oi := ({ dst := some 19, op := Op.move (Operand.tmp 8), type := 3, pos := "ref.go:99", after := #[], guard := none } : Oper)) (v := ?v2) rfl (by kernel_rfl) (by kernel_rfl) (by kernel_rfl) (fun _ _ _ h => h) (Or.inl ⟨by rfl, fun w hSw => ?hy2⟩) (by assumption) ?r2
      case hy2 => (try dsimp only at hSw); go_simp; (try with_reducible rfl)
      (try simp only [Act.put, List.setIfInBounds_toArray, List.set_cons_zero, List.set_cons_succ])
      refine wpAnyH_take (i := 3) (oi := ({ dst := some 20, op := Op.indexAddr 26 (Operand.tmp 18) (Operand.tmp 19), type := 0, pos := "ref.go:99", after := #[{ on := 1, ground := Ground.data }, { on := 2, ground := Ground.data }], guard := none } : Oper)) (v := ?v3) rfl (by kernel_rfl) (by kernel_rfl) (by kernel_rfl) (fun _ _ _ h => h) (Or.inl ⟨by rfl, fun w hSw => ?hy3⟩) (by assumption) ?r3
      case hy3 => (try dsimp only at hSw); go_simp; (try with_reducible rfl)
      (try simp only [Act.put, List.setIfInBounds_toArray, List.set_cons_zero, List.set_cons_succ])
      refine wpAnyH_take (i := 4) (oi := ({ dst := some 21, op := Op.fieldAddr 39 (Operand.tmp 20) 0, type := 0, pos := "ref.go:99", after := #[{ on := 3, ground := Ground.data }], guard := none } : Oper)) (v := ?v4) rfl (by kernel_rfl) (by kernel_rfl) (by kernel_rfl) (fun _ _ _ h => h) (Or.inl ⟨by rfl, fun w hSw => ?hy4⟩) (by assumption) ?r4
      case hy4 => (try dsimp only at hSw); go_simp; (try with_reducible rfl)
      (try simp only [Act.put, List.setIfInBounds_toArray, List.set_cons_zero, List.set_cons_succ])
      refine wpAnyH_take (i := 5) (oi := ({ dst := some 22, op := Op.load 3 (Operand.tmp 21), type := 3, pos := "ref.go:99", after := #[{ on := 4, ground := Ground.data }], guard := none } : Oper)) (v := ?v5) rfl (by kernel_rfl) (by kernel_rfl) (by kernel_rfl) (fun _ _ _ h => h) (Or.inl ⟨by rfl, fun w hSw => ?hy5⟩) (by assumption) ?r5
      case hy5 => (try dsimp only at hSw); go_simp; (try with_reducible rfl)
      (try simp only [Act.put, List.setIfInBounds_toArray, List.set_cons_zero, List.set_cons_succ])
      refine wpAnyH_take (i := 6) (oi := ({ dst := some 23, op := Op.move (Operand.tmp 2), type := 24, pos := "ref.go:99", after := #[], guard := none } : Oper)) (v := ?v6) rfl (by kernel_rfl) (by kernel_rfl) (by kernel_rfl) (fun _ _ _ h => h) (Or.inl ⟨by rfl, fun w hSw => ?hy6⟩) (by assumption) ?r6
      case hy6 => (try dsimp only at hSw); go_simp; (try with_reducible rfl)
      (try simp only [Act.put, List.setIfInBounds_toArray, List.set_cons_zero, List.set_cons_succ])
      refine wpAnyH_take (i := 7) (oi := ({ dst := some 24, op := Op.move (Operand.tmp 1), type := 26, pos := "ref.go:99", after := #[], guard := none } : Oper)) (v := ?v7) rfl (by kernel_rfl) (by kernel_rfl) (by kernel_rfl) (fun _ _ _ h => h) (Or.inl ⟨by rfl, fun w hSw => ?hy7⟩) (by assumption) ?r7
      case hy7 => (try dsimp only at hSw); go_simp; (try with_reducible rfl)
      (try simp only [Act.put, List.setIfInBounds_toArray, List.set_cons_zero, List.set_cons_succ])
      refine wpAnyH_take (i := 8) (oi := ({ dst := some 25, op := Op.move (Operand.tmp 8), type := 3, pos := "ref.go:99", after := #[], guard := none } : Oper)) (v := ?v8) rfl (by kernel_rfl) (by kernel_rfl) (by kernel_rfl) (fun _ _ _ h => h) (Or.inl ⟨by rfl, fun w hSw => ?hy8⟩) (by assumption) ?r8
      case hy8 => (try dsimp only at hSw); go_simp; (try with_reducible rfl)
      (try simp only [Act.put, List.setIfInBounds_toArray, List.set_cons_zero, List.set_cons_succ])
      refine wpAnyH_take (i := 9) (oi := ({ dst := some 26, op := Op.indexAddr 26 (Operand.tmp 24) (Operand.tmp 25), type := 0, pos := "ref.go:99", after := #[{ on := 7, ground := Ground.data }, { on := 8, ground := Ground.data }], guard := none } : Oper)) (v := ?v9) rfl (by kernel_rfl) (by kernel_rfl) (by kernel_rfl) (fun _ _ _ h => h) (Or.inl ⟨by rfl, fun w hSw => ?hy9⟩) (by assumption) ?r9
      case hy9 => (try dsimp only at hSw); go_simp; (try with_reducible rfl)
      (try simp only [Act.put, List.setIfInBounds_toArray, List.set_cons_zero, List.set_cons_succ])
      refine wpAnyH_take (i := 10) (oi := ({ dst := some 27, op := Op.fieldAddr 39 (Operand.tmp 26) 2, type := 0, pos := "ref.go:99", after := #[{ on := 9, ground := Ground.data }], guard := none } : Oper)) (v := ?v10) rfl (by kernel_rfl) (by kernel_rfl) (by kernel_rfl) (fun _ _ _ h => h) (Or.inl ⟨by rfl, fun w hSw => ?hy10⟩) (by assumption) ?r10
      case hy10 => (try dsimp only at hSw); go_simp; (try with_reducible rfl)
      (try simp only [Act.put, List.setIfInBounds_toArray, List.set_cons_zero, List.set_cons_succ])
      refine wpAnyH_take (i := 11) (oi := ({ dst := some 28, op := Op.load 34 (Operand.tmp 27), type := 34, pos := "ref.go:99", after := #[{ on := 10, ground := Ground.data }], guard := none } : Oper)) (v := ?v11) rfl (by kernel_rfl) (by kernel_rfl) (by kernel_rfl) (fun _ _ _ h => h) (Or.inl ⟨by rfl, fun w hSw => ?hy11⟩) (by assumption) ?r11
      case hy11 => (try dsimp only at hSw); go_simp; (try with_reducible rfl)
      (try simp only [Act.put, List.setIfInBounds_toArray, List.set_cons_zero, List.set_cons_succ])
      refine wpAnyH_take (i := 12) (oi := ({ dst := some 29, op := Op.build 39 #[(0, Operand.tmp 22), (1, Operand.tmp 23), (2, Operand.tmp 28)], type := 39, pos := "ref.go:99", after := #[{ on := 5, ground := Ground.data }, { on := 6, ground := Ground.data }, { on := 11, ground := Ground.data }], guard := none } : Oper)) (v := ?v12) rfl (by kernel_rfl) (by kernel_rfl) (by kernel_rfl) (fun _ _ _ h => h) (Or.inl ⟨by rfl, fun w hSw => ?hy12⟩) (by assumption) ?r12
      case hy12 => (try dsimp only at hSw); go_simp; (try with_reducible rfl)
      (try simp only [Act.put, List.setIfInBounds_toArray, List.set_cons_zero, List.set_cons_succ])
      refine wpAnyH_ready (rs := [13]) (by kernel_rfl) (by simp) ?_
      refine AllReadyH.cons (o := ({ dst := some 30, op := Op.buildSlice 26 1 #[(0, Operand.tmp 29)], type := 26, pos := "ref.go:99", after := #[{ on := 12, ground := Ground.data }], guard := none } : Oper)) rfl (fun Kq hKq => ?_) AllReadyH.nil
      go_simp
      refine hKq.out _ _ ?_ (fun hHeld => ?_)
      · exact ⟨keep3 (below1 wr _).drew hl2 ⟨c0, c1, c2⟩, ((Turns.refl _ wr).alloc _).drew⟩
      clear hKq Kq
      (try simp only [Act.put, List.setIfInBounds_toArray, List.set_cons_zero, List.set_cons_succ])
      refine wpAnyH_ready (rs := [14]) (by kernel_rfl) (by simp) ?_
      refine AllReadyH.cons (o := ({ dst := some 31, op := Op.call { callee := Callee.builtin Builtin.append, args := #[Operand.tmp 17, Operand.tmp 30], argTypes := #[26, 26] }, type := 26, pos := "ref.go:99", after := #[{ on := 0, ground := Ground.data }, { on := 13, ground := Ground.data }], guard := none } : Oper)) rfl (fun Kq hKq => ?_) AllReadyH.nil
      (refine step_append_row lay39 rfl _ _ rfl rfl (HROW.out.drew.alloc _) (flat_one' _) (by simp; omega) 1 rfl (rd_one wr.drew ⟨d.t, key, d.z⟩ 39) rfl (flat_one' _) (by omega) ?_; intro v2 w2 hr2 ht2 _)
      refine hKq.out _ _ ?_ (fun hHeld => ?_)
      · exact ⟨⟨(ht2.cell (by simp; omega) hne2).trans hHeld.1.1, (ht2.cell (by simp; omega) hne2).trans hHeld.1.2.1, (ht2.cell (by simp; omega) hne2).trans hHeld.1.2.2⟩, hHeld.2.trans ht2 (fun k _ e => e)⟩
      clear hKq Kq
      (try simp only [Act.put, List.setIfInBounds_toArray, List.set_cons_zero, List.set_cons_succ])
      refine wpAnyH_take (i := 15) (oi := ({ dst := some 7, op := Op.assign (Operand.tmp 31), type := 26, pos := "ref.go:99", after := #[{ on := 14, ground := Ground.data }, { on := 14, ground := Ground.chain }, { on := 0, ground := Ground.phase }, { on := 1, ground := Ground.phase }, { on := 2, ground := Ground.phase }, { on := 3, ground := Ground.phase }, { on := 4, ground := Ground.phase }, { on := 5, ground := Ground.phase }, { on := 6, ground := Ground.phase }, { on := 7, ground := Ground.phase }, { on := 8, ground := Ground.phase }, { on := 9, ground := Ground.phase }, { on := 10, ground := Ground.phase }, { on := 11, ground := Ground.phase }, { on := 12, ground := Ground.phase }, { on := 13, ground := Ground.phase }, { on := 14, ground := Ground.phase }], guard := none } : Oper)) (v := ?v15) rfl (by kernel_rfl) (by kernel_rfl) (by kernel_rfl) (fun _ _ _ h => h) (Or.inl ⟨by rfl, fun w hSw => ?hy15⟩) (by assumption) ?r15
      case hy15 => (try dsimp only at hSw); go_simp; (try with_reducible rfl)
      (try simp only [Act.put, List.setIfInBounds_toArray, List.set_cons_zero, List.set_cons_succ])
      refine wpAnyH_done (by kernel_rfl) ?_ _
      have HH := Lib.hid hHeld.2; have HR2 := Lib.hid hr2
      clear hHeld ht2 hr2
      go_wp2_with fail
      go_roundg (n - (k + 1))
      case measure => omega
      case rel =>
        refine ⟨k + 1, by omega, rfl, by go_num, HB.out.trans (HROW.out.below_of HH.out hs), ?_⟩
        rw [HSN.out]
        show Row w2 _ 3 _ (movedL D (M.take k) key ++ [re key d]).length _
        rw [flat_app, List.length_append]
        exact HR2.out
    · obtain rfl : k = n := by omega
      go_wp2_with fail
      go_ret
      have := HROW.out
      rw [HN.out, List.take_length] at this
      exact ⟨_, rfl, this, HB.out⟩
end Go.Proofs.Ytemdaafnmjenmaa
