/- Are lists alike? -/
import Derived.Test.YtoefgfolokcdhaaDoorA8
import Derived.Deep.RegionHeld3
namespace Go.Proofs.YtoefgfolokcdhaaDoor
open Go.RowKit

theorem keep7 {w w' : World} {K : IntKind} {base g o : Nat} {d : Nt} (hb : Below base w w') (hg : g < base) (h : w.cell? ⟨g, o, none⟩ = some (.int .i64 d.s) ∧ w.cell? ⟨g, o + 1, none⟩ = some (.int .i64 d.t) ∧ w.cell? ⟨g, o + 2, none⟩ = some (.int K (d.k : Int)) ∧ w.cell? ⟨g, o + 3, none⟩ = some (.int .u32 d.a) ∧ w.cell? ⟨g, o + 4, none⟩ = some (.int .i64 d.o) ∧ w.cell? ⟨g, o + 5, none⟩ = some (.int .u32 d.b) ∧ w.cell? ⟨g, o + 6, none⟩ = some (.int .u64 d.v)) : w'.cell? ⟨g, o, none⟩ = some (.int .i64 d.s) ∧ w'.cell? ⟨g, o + 1, none⟩ = some (.int .i64 d.t) ∧ w'.cell? ⟨g, o + 2, none⟩ = some (.int K (d.k : Int)) ∧ w'.cell? ⟨g, o + 3, none⟩ = some (.int .u32 d.a) ∧ w'.cell? ⟨g, o + 4, none⟩ = some (.int .i64 d.o) ∧ w'.cell? ⟨g, o + 5, none⟩ = some (.int .u32 d.b) ∧ w'.cell? ⟨g, o + 6, none⟩ = some (.int .u64 d.v) :=
  ⟨(hb.cell (by exact hg)).trans h.1, (hb.cell (by exact hg)).trans h.2.1, (hb.cell (by exact hg)).trans h.2.2.1, (hb.cell (by exact hg)).trans h.2.2.2.1, (hb.cell (by exact hg)).trans h.2.2.2.2.1, (hb.cell (by exact hg)).trans h.2.2.2.2.2.1, (hb.cell (by exact hg)).trans h.2.2.2.2.2.2⟩
theorem NtAt.all {w : World} {K : IntKind} {g o : Nat} {d : Nt} (h : NtAt w K g o d) : w.cell? ⟨g, o, none⟩ = some (.int .i64 d.s) ∧ w.cell? ⟨g, o + 1, none⟩ = some (.int .i64 d.t) ∧ w.cell? ⟨g, o + 2, none⟩ = some (.int K (d.k : Int)) ∧ w.cell? ⟨g, o + 3, none⟩ = some (.int .u32 d.a) ∧ w.cell? ⟨g, o + 4, none⟩ = some (.int .i64 d.o) ∧ w.cell? ⟨g, o + 5, none⟩ = some (.int .u32 d.b) ∧ w.cell? ⟨g, o + 6, none⟩ = some (.int .u64 d.v) := ⟨h.c0, h.c1, h.c2, h.c3, h.c4, h.c5, h.c6⟩
set_option maxHeartbeats 2000000 in
set_option maxRecDepth 100000 in
theorem same_any {w : World} {b1 b2 : Nat} {A B : Option Addr} {D : List Nt} (c c' : Nat) (hr1 : Rd w b1 A (flat .u8 D)) (hr2 : Rd w b2 B (flat .i64 D)) (hb1 : b1 ≤ w.heap.size) (hb2 : b2 ≤ w.heap.size) (hlen : D.length ≤ 1000000) (hks : ∀ d ∈ D, d.k < 256) :
    Calls Tryd.prog 15 #[.slice A D.length c, .slice B D.length c'] w fun e w' => e = .returned (.bool true) ∧ Below w.heap.size w w' := by
  have H1 := Lib.hid hr1; have H2 := Lib.hid hr2; have HS1 := Lib.hid hb1; have HS2 := Lib.hid hb2; have HKS := Lib.hid hks
  clear hr1 hr2 hb1 hb2 hks
  obtain ⟨n, hn⟩ : ∃ n, n = D.length := ⟨_, rfl⟩
  rw [← hn]
  have HN := Lib.hid hn
  have hn6 : n ≤ 1000000 := by omega
  clear hn hlen
  go_enter Tryd.func15, Tryd.ntmps15
  go_wp2_with fail
  go_loopg [5] n (fun q s5 wx => ∃ k : Nat, k ≤ n ∧ q = n - k ∧ s5 = .int .i64 (k : Int) ∧ Below w.heap.size w wx)
  case atStart => exact ⟨0, by omega, rfl, rfl, Below.refl _ _⟩
  case round =>
    obtain ⟨k, hk, rfl, rfl, hb⟩ := hrel
    have HB := Lib.hid hb
    clear hb
    by_cases hkn : k < n
    · obtain ⟨g1, o1, rfl, hg1, hN1⟩ := (H1.out.below HB.out HS1.out).note (i := k) (by have := HN.out; omega)
      obtain ⟨g2, o2, rfl, hg2, hN2⟩ := (H2.out.below HB.out HS2.out).note (i := k) (by have := HN.out; omega)
      have hl1 : g1 < wr.heap.size := by have := HB.out.size; have := HS1.out; omega
      have hl2 : g2 < wr.heap.size := by have := HB.out.size; have := HS2.out; omega
      have hdk : D[k]!.k < 256 := HKS.out _ (by have := HN.out; rw [getElem!_pos D k (by omega)]; exact List.getElem_mem _)
      generalize hd : D[k]! = d at *
      clear hd
      have hne := fun W => neq40 d d W
      simp only [decide_true, Bool.not_true] at hne
      go_upto_region 6 with (fail)
      refine wp_region_held_drew (S := fun w' => (w'.cell? ⟨g1, o1 + k * 7, none⟩ = some (.int .i64 d.s) ∧ w'.cell? ⟨g1, o1 + k * 7 + 1, none⟩ = some (.int .i64 d.t) ∧ w'.cell? ⟨g1, o1 + k * 7 + 2, none⟩ = some (.int .u8 (d.k : Int)) ∧ w'.cell? ⟨g1, o1 + k * 7 + 3, none⟩ = some (.int .u32 d.a) ∧ w'.cell? ⟨g1, o1 + k * 7 + 4, none⟩ = some (.int .i64 d.o) ∧ w'.cell? ⟨g1, o1 + k * 7 + 5, none⟩ = some (.int .u32 d.b) ∧ w'.cell? ⟨g1, o1 + k * 7 + 6, none⟩ = some (.int .u64 d.v)) ∧ (w'.cell? ⟨g2, o2 + k * 7, none⟩ = some (.int .i64 d.s) ∧ w'.cell? ⟨g2, o2 + k * 7 + 1, none⟩ = some (.int .i64 d.t) ∧ w'.cell? ⟨g2, o2 + k * 7 + 2, none⟩ = some (.int .i64 (d.k : Int)) ∧ w'.cell? ⟨g2, o2 + k * 7 + 3, none⟩ = some (.int .u32 d.a) ∧ w'.cell? ⟨g2, o2 + k * 7 + 4, none⟩ = some (.int .i64 d.o) ∧ w'.cell? ⟨g2, o2 + k * 7 + 5, none⟩ = some (.int .u32 d.b) ∧ w'.cell? ⟨g2, o2 + k * 7 + 6, none⟩ = some (.int .u64 d.v)) ∧ Below wr.heap.size wr w') (by kernel_rfl) ?_ (fun hHeld => ?_)
      · exact ⟨hN1.all, hN2.all, (Below.refl _ wr).drew⟩
      refine wpAnyH_take (i := 0) (oi := ({ dst := some 17, op := Op.move (Operand.tmp 0), type := 22, pos := "law.go:60", after := #[], guard := none } : Oper)) (v := ?v0) rfl (by kernel_rfl) (by kernel_rfl) (by kernel_rfl) (fun _ _ _ h => h) (Or.inl ⟨by rfl, fun w hSw => ?hy0⟩) (by assumption) ?r0
      case hy0 => (try dsimp only at hSw); go_simp; (try with_reducible rfl)
      (try simp only [Act.put, List.setIfInBounds_toArray, List.set_cons_zero, List.set_cons_succ])
      refine wpAnyH_take (i := 1) (oi := ({ dst := some 18, op := Op.move (Operand.tmp 5), type := 3, pos := "law.go:60", after := #[], guard := none } : Oper)) (v := ?v1) rfl (by kernel_rfl) (by kernel_rfl) (by kernel_rfl) (fun _ _ _ h => h) (Or.inl ⟨by rfl, fun w hSw => ?hy1⟩) (by assumption) ?r1
      case hy1 => (try dsimp only at hSw); go_simp; (try with_reducible rfl)
      (try simp only [Act.put, List.setIfInBounds_toArray, List.set_cons_zero, List.set_cons_succ])
      refine wpAnyH_take (i := 2) (oi := ({ dst := some 19, op := Op.indexAddr 22 (Operand.tmp 17) (Operand.tmp 18), type := 0, pos := "law.go:60", after := #[{ on := 0, ground := Ground.data }, { on := 1, ground := Ground.data }], guard := none } : Oper)) (v := ?v2) rfl (by kernel_rfl) (by kernel_rfl) (by kernel_rfl) (fun _ _ _ h => h) (Or.inl ⟨by rfl, fun w hSw => ?hy2⟩) (by assumption) ?r2
      case hy2 => (try dsimp only at hSw); go_simp; (try with_reducible rfl)
      (try simp only [Act.put, List.setIfInBounds_toArray, List.set_cons_zero, List.set_cons_succ])
      refine wpAnyH_take (i := 3) (oi := ({ dst := some 20, op := Op.load 37 (Operand.tmp 19), type := 37, pos := "law.go:60", after := #[{ on := 2, ground := Ground.data }], guard := none } : Oper)) (v := ?v3) rfl (by kernel_rfl) (by kernel_rfl) (by kernel_rfl) (fun _ _ _ h => h) (Or.inl ⟨by rfl, fun w hSw => ?hy3⟩) (by assumption) ?r3
      case hy3 => (try dsimp only at hSw); go_simp; (try with_reducible rfl)
      (try simp only [Act.put, List.setIfInBounds_toArray, List.set_cons_zero, List.set_cons_succ])
      refine wpAnyH_take (i := 5) (oi := ({ dst := some 22, op := Op.move (Operand.tmp 1), type := 27, pos := "law.go:60", after := #[], guard := none } : Oper)) (v := ?v5) rfl (by kernel_rfl) (by kernel_rfl) (by kernel_rfl) (fun _ _ _ h => h) (Or.inl ⟨by rfl, fun w hSw => ?hy5⟩) (by assumption) ?r5
      case hy5 => (try dsimp only at hSw); go_simp; (try with_reducible rfl)
      (try simp only [Act.put, List.setIfInBounds_toArray, List.set_cons_zero, List.set_cons_succ])
      refine wpAnyH_take (i := 6) (oi := ({ dst := some 23, op := Op.move (Operand.tmp 5), type := 3, pos := "law.go:60", after := #[], guard := none } : Oper)) (v := ?v6) rfl (by kernel_rfl) (by kernel_rfl) (by kernel_rfl) (fun _ _ _ h => h) (Or.inl ⟨by rfl, fun w hSw => ?hy6⟩) (by assumption) ?r6
      case hy6 => (try dsimp only at hSw); go_simp; (try with_reducible rfl)
      (try simp only [Act.put, List.setIfInBounds_toArray, List.set_cons_zero, List.set_cons_succ])
      refine wpAnyH_take (i := 7) (oi := ({ dst := some 24, op := Op.indexAddr 27 (Operand.tmp 22) (Operand.tmp 23), type := 0, pos := "law.go:60", after := #[{ on := 5, ground := Ground.data }, { on := 6, ground := Ground.data }], guard := none } : Oper)) (v := ?v7) rfl (by kernel_rfl) (by kernel_rfl) (by kernel_rfl) (fun _ _ _ h => h) (Or.inl ⟨by rfl, fun w hSw => ?hy7⟩) (by assumption) ?r7
      case hy7 => (try dsimp only at hSw); go_simp; (try with_reducible rfl)
      (try simp only [Act.put, List.setIfInBounds_toArray, List.set_cons_zero, List.set_cons_succ])
      refine wpAnyH_take (i := 8) (oi := ({ dst := some 25, op := Op.load 40 (Operand.tmp 24), type := 40, pos := "law.go:60", after := #[{ on := 7, ground := Ground.data }], guard := none } : Oper)) (v := ?v8) rfl (by kernel_rfl) (by kernel_rfl) (by kernel_rfl) (fun _ _ _ h => h) (Or.inl ⟨by rfl, fun w hSw => ?hy8⟩) (by assumption) ?r8
      case hy8 => (try dsimp only at hSw); go_simp; (try with_reducible rfl)
      (try simp only [Act.put, List.setIfInBounds_toArray, List.set_cons_zero, List.set_cons_succ])
      refine wpAnyH_ready (rs := [4]) (by kernel_rfl) (by simp) ?_
      refine AllReadyH.cons (o := ({ dst := some 21, op := Op.call { callee := Callee.value (Operand.func 11), args := #[Operand.tmp 20], argTypes := #[37] }, type := 40, pos := "law.go:60", after := #[{ on := 3, ground := Ground.data }], guard := none } : Oper)) rfl (fun Kq hKq => ?_) AllReadyH.nil
      go_simp
      (refine (other_any d hdk _).mono ?_; rintro e w1 ⟨rfl, hb1⟩)
      refine hKq.out _ _ ?_ (fun hHeld => ?_)
      · exact ⟨keep7 hb1 (by have := hHeld.2.2.size; omega) hHeld.1, keep7 hb1 (by have := hHeld.2.2.size; omega) hHeld.2.1, hHeld.2.2.trans (hb1.mono hHeld.2.2.size)⟩
      clear hKq Kq
      (try simp only [Act.put, List.setIfInBounds_toArray, List.set_cons_zero, List.set_cons_succ])
      refine wpAnyH_take (i := 9) (oi := ({ dst := some 26, op := Op.binOp BinOp.neq 40 (Operand.tmp 21) (Operand.tmp 25) 40, type := 4, pos := "law.go:60", after := #[{ on := 4, ground := Ground.data }, { on := 8, ground := Ground.data }], guard := none } : Oper)) (v := ?v9) rfl (by kernel_rfl) (by kernel_rfl) (by kernel_rfl) (fun _ _ _ h => h) (Or.inl ⟨by rfl, fun w hSw => ?hy9⟩) (by assumption) ?r9
      case hy9 => (try dsimp only at hSw); go_simp; (try with_reducible rfl)
      (try simp only [Act.put, List.setIfInBounds_toArray, List.set_cons_zero, List.set_cons_succ])
      refine wpAnyH_done (by kernel_rfl) ?_ _
      have HH := Lib.hid hHeld.2.2
      clear hHeld
      go_wp2_with fail
      go_roundg (n - (k + 1))
      case measure => omega
      case rel => exact ⟨k + 1, by omega, rfl, by go_num, HB.out.trans (HH.out.mono HB.out.size)⟩
    · obtain rfl : k = n := by omega
      go_wp2_with fail
      go_ret
      exact ⟨rfl, HB.out⟩
end Go.Proofs.YtoefgfolokcdhaaDoor
