/- LinesAsk's walk. -/
import Derived.Test.YtemdaafnmjenmaaE1
import Derived.Deep.RegionHeld3
namespace Go.Proofs.Ytemdaafnmjenmaa
open Go.RowKit

/-- What came in, and the document's of it. -/
structure Duo (w : World) (A : Option Addr) (s : Value) (D : List Ent) (x : World) : Prop where
  b : Below w.heap.size w x
  m : RowE x w.heap.size s D
  l : Rd x w.heap.size A (flat D)
theorem Duo.new {w x y : World} {A : Option Addr} {s : Value} {D : List Ent} (h : Duo w A s D x) (hb : Below x.heap.size x y) : Duo w A s D y := ⟨h.b.trans (hb.mono h.b.size), h.m.new hb, h.l.below hb h.b.size⟩
theorem Duo.rd {w x : World} {A B : Option Addr} {c n : Nat} {D : List Ent} (h : Duo w A (.slice B n c) D x) (hn : n = D.length) : Rd x x.heap.size B (flat D) := by subst hn; exact h.m.rd
theorem Duo.keep {S : Nat → Prop} {w x y : World} {A : Option Addr} {s : Value} {D : List Ent} (h : Duo w A s D x) (t : Turns S x y) (hs : ∀ b, S b → w.heap.size ≤ b ∧ s.ownBlock ≠ some b) : Duo w A s D y :=
  ⟨h.b.trans (t.below h.b.size (fun k hk e => by have := (hs k e).1; omega)), h.m.keep t (fun g hg e => (hs g e).2 hg), h.l.kept t h.b.size (fun k hk e => by have := (hs k e).1; omega)⟩
set_option maxHeartbeats 4000000 in
set_option maxRecDepth 100000 in
theorem law_ask (A : Option Addr) (n c : Nat) (D : List Ent) (key p : Int) (hn : n = D.length) (hc : n ≤ c) (hc2 : c ≤ 9223372036854775807) (w : World) (hin : Rd w w.heap.size A (flat D)) :
    Calls Try.prog 3 #[.slice A n c, .int .u32 key, .int .i64 p] w fun e w' => e = .returned (.bool true) ∧ Below w.heap.size w w' := by
  have hl := lives_any
  have HL := Lib.hid hl; have HIN := Lib.hid hin; have HC := Lib.hid hc; have HC2 := Lib.hid hc2
  clear hl hin hc hc2
  by_cases h100 : n ≤ 100
  · have hot := others_any c HIN.out (Nat.le_refl _) (by omega)
    rw [← hn] at hot
    have HOT := Lib.hid hot; have HN := Lib.hid hn
    clear hot hn
    go_enter Try.func3, Try.ntmps3
    go_wp2_with fail
    refine HOT.out.mono ?_
    rintro e w1 ⟨s, rfl, hr, hb⟩
    obtain ⟨B, cap, rfl, hcap1, hcap2⟩ := hr.shape
    have hd : Duo w A (.slice B D.length cap) D w1 := ⟨hb, hr, HIN.out.below hb (Nat.le_refl _)⟩
    rw [← HN.out] at hd ⊢
    have H1 := Lib.hid hd
    clear hr hb hd
    obtain ⟨x1, hx1⟩ : ∃ x, x = idx (byKey key) D := ⟨_, rfl⟩
    obtain ⟨x2, hx2⟩ : ∃ x, x = idx (byThread p) D := ⟨_, rfl⟩
    have HX1 := Lib.hid hx1; have HX2 := Lib.hid hx2
    clear hx1 hx2
    -- First of both
    have hf := first_any c key H1.out.l H1.out.b.size (by have := HN.out; omega)
    rw [← HN.out, ← HX1.out] at hf
    have HF := Lib.hid hf
    clear hf
    go_wp2_with fail
    refine HF.out.mono ?_
    rintro e w2 ⟨rfl, hb2⟩
    have H2 := Lib.hid (H1.out.new hb2)
    have hf := rfirst_any cap key (H2.out.rd HN.out) (by have := HN.out; omega)
    rw [← HN.out, ← HX1.out] at hf
    have HF2 := Lib.hid hf
    clear hf hb2
    go_wp2_with fail
    refine HF2.out.mono ?_
    rintro e w2' ⟨rfl, rfl⟩
    -- Has of both
    have hf := has_any c key H2.out.l H2.out.b.size (by have := HN.out; omega)
    rw [← HN.out, ← HX1.out] at hf
    have HF3 := Lib.hid hf
    clear hf
    go_wp2_with fail
    refine HF3.out.mono ?_
    rintro e w3 ⟨rfl, hb3⟩
    have H3 := Lib.hid (H2.out.new hb3)
    have hf := rhas_any cap key (H3.out.rd HN.out) (by have := HN.out; omega)
    rw [← HN.out, ← HX1.out] at hf
    have HF4 := Lib.hid hf
    clear hf hb3
    go_wp2_with fail
    refine HF4.out.mono ?_
    rintro e w3' ⟨rfl, rfl⟩
    -- Of of both
    have hf := of_any c p H3.out.l H3.out.b.size (by have := HN.out; omega)
    rw [← HN.out, ← HX2.out] at hf
    have HF5 := Lib.hid hf
    clear hf
    go_wp2_with fail
    refine HF5.out.mono ?_
    rintro e w4 ⟨rfl, hb4⟩
    have H4 := Lib.hid (H3.out.new hb4)
    have hf := rof_any cap p (H4.out.rd HN.out) (by have := HN.out; omega)
    rw [← HN.out, ← HX2.out] at hf
    have HF6 := Lib.hid hf
    clear hf hb4
    go_wp2_with fail
    refine HF6.out.mono ?_
    rintro e w4' ⟨rfl, rfl⟩
    -- Cut of both
    have hf := cut_any c p H4.out.l H4.out.b.size (by have := HN.out; omega) (by have := HN.out; have := HC.out; omega) HC2.out
    have hfl := cutL_len D p
    rw [← HN.out] at hf hfl
    unfold Cuts at hf
    have HF7 := Lib.hid hf
    clear hf
    obtain ⟨x, hx⟩ : ∃ x, x = cutE D p := ⟨_, rfl⟩
    obtain ⟨F, hF⟩ : ∃ F, F = cutL D p := ⟨_, rfl⟩
    obtain ⟨ok, hok⟩ : ∃ b, b = cutB D p := ⟨_, rfl⟩
    rw [← hx, ← hF, ← hok] at HF7
    rw [← hF] at hfl
    have HX := Lib.hid hx; have HFF := Lib.hid hF; have HOK := Lib.hid hok
    clear hx hF hok
    go_wp2_with fail
    refine HF7.out.mono ?_
    rintro e w5 ⟨A3, rfl, hr5, hb5⟩
    have hba := below1 w5 (.cells #[.int .i64 x.t, .int .u32 x.k, .int .u64 x.z] 36)
    have hna := heap_alloc_new w5 (.cells #[.int .i64 x.t, .int .u32 x.k, .int .u64 x.z] 36)
    have hsa : (w5.alloc (.cells #[.int .i64 x.t, .int .u32 x.k, .int .u64 x.z] 36)).heap.size = w5.heap.size + 1 := by simp
    have H5 := Lib.hid ((H4.out.new hb5).new hba)
    have HS5 := Lib.hid hb5.size
    have HR5 := Lib.hid (hr5.new hba)
    have HNA := Lib.hid hna; have HSA := Lib.hid hsa
    clear hr5 hb5 hba hna hsa
    have hf := rcut_any cap p (H5.out.rd HN.out) (Nat.le_refl _) (by have := HN.out; omega)
    rw [← HN.out, ← HX.out, ← HFF.out, ← HOK.out] at hf
    have HF8 := Lib.hid hf
    clear hf
    go_wp2_with fail
    refine HF8.out.mono ?_
    rintro e w6 ⟨s6, rfl, hr6, hb6⟩
    obtain ⟨B6, cap6, rfl, _, _⟩ := hr6.shape
    have hba := below1 w6 (.cells #[.int .i64 x.t, .int .u32 x.k, .int .u64 x.z] 39)
    have hna := heap_alloc_new w6 (.cells #[.int .i64 x.t, .int .u32 x.k, .int .u64 x.z] 39)
    have hsa : (w6.alloc (.cells #[.int .i64 x.t, .int .u32 x.k, .int .u64 x.z] 39)).heap.size = w6.heap.size + 1 := by simp
    go_upto_region 8 with (fail)
    have hbx := hb6.trans (hba.mono hb6.size)
    have H6 := Lib.hid (H5.out.new hbx)
    have HL3 := Lib.hid (HR5.out.new hbx)
    have HF := Lib.hid ((HR5.out.new hbx).rd)
    have HR := Lib.hid ((hr6.new hba).rd)
    have hX : w5.heap.size < (w6.alloc (.cells #[.int .i64 x.t, .int .u32 x.k, .int .u64 x.z] 39)).heap.size := by have := hbx.size; have := HSA.out; omega
    have hY : w6.heap.size < (w6.alloc (.cells #[.int .i64 x.t, .int .u32 x.k, .int .u64 x.z] 39)).heap.size := by omega
    have hxx := (hbx.block w5.heap.size (by have := HSA.out; omega)).trans HNA.out
    have x0 : (w6.alloc (.cells #[.int .i64 x.t, .int .u32 x.k, .int .u64 x.z] 39)).cell? ⟨w5.heap.size, 0, none⟩ = some (.int .i64 x.t) ∧ (w6.alloc (.cells #[.int .i64 x.t, .int .u32 x.k, .int .u64 x.z] 39)).cell? ⟨w5.heap.size, 0 + 1, none⟩ = some (.int .u32 x.k) ∧ (w6.alloc (.cells #[.int .i64 x.t, .int .u32 x.k, .int .u64 x.z] 39)).cell? ⟨w5.heap.size, 0 + 2, none⟩ = some (.int .u64 x.z) := ⟨cell_row hxx 0, cell_row hxx 1, cell_row hxx 2⟩
    have y0 : (w6.alloc (.cells #[.int .i64 x.t, .int .u32 x.k, .int .u64 x.z] 39)).cell? ⟨w6.heap.size, 0, none⟩ = some (.int .i64 x.t) ∧ (w6.alloc (.cells #[.int .i64 x.t, .int .u32 x.k, .int .u64 x.z] 39)).cell? ⟨w6.heap.size, 0 + 1, none⟩ = some (.int .u32 x.k) ∧ (w6.alloc (.cells #[.int .i64 x.t, .int .u32 x.k, .int .u64 x.z] 39)).cell? ⟨w6.heap.size, 0 + 2, none⟩ = some (.int .u64 x.z) := ⟨cell_row hna 0, cell_row hna 1, cell_row hna 2⟩
    clear hr6 hbx hb6 hba hna hsa hxx
    have hlF : F.length ≤ 100 := by omega
    have HS3 := Lib.hid HS5.out
    have HM4 : Hid (∀ g, (Value.slice B n cap).ownBlock = some g → g < w4.heap.size) := fun g hg => (H4.out.m.lt g hg).2
    have HW4 : Hid (w.heap.size ≤ w4.heap.size) := H4.out.b.size
    have hwz : Hid (w.heap.size ≤ w5.heap.size) := Nat.le_trans H4.out.b.size HS5.out
    generalize w6.alloc (.cells #[.int .i64 x.t, .int .u32 x.k, .int .u64 x.z] 39) = wz at *
    generalize w5.heap.size = X at *
    generalize w6.heap.size = Y at *
    clear HOT HF2 HF3 HF4 HF5 HF6 HF7 HF8 H1 H2 H3 H4 H5
    have hne := fun W => neq39 x x W
    simp only [decide_true, Bool.not_true] at hne
    refine wp_region_held_drew (S := fun w' => (w'.cell? ⟨X, 0, none⟩ = some (.int .i64 x.t) ∧ w'.cell? ⟨X, 0 + 1, none⟩ = some (.int .u32 x.k) ∧ w'.cell? ⟨X, 0 + 2, none⟩ = some (.int .u64 x.z)) ∧ (w'.cell? ⟨Y, 0, none⟩ = some (.int .i64 x.t) ∧ w'.cell? ⟨Y, 0 + 1, none⟩ = some (.int .u32 x.k) ∧ w'.cell? ⟨Y, 0 + 2, none⟩ = some (.int .u64 x.z)) ∧ Below wz.heap.size wz w') (by kernel_rfl) ?_ (fun hHeld => ?_)
    · exact ⟨x0, y0, (Below.refl _ wz).drew⟩
    refine wpAnyH_take (i := 0) (oi := ({ dst := some 59, op := Op.load 36 (Operand.tmp 8), type := 36, pos := "law.go:25", after := #[], guard := none } : Oper)) (v := ?v0) rfl (by kernel_rfl) (by kernel_rfl) (by kernel_rfl) (fun _ _ _ h => h) (Or.inl ⟨by rfl, fun w hSw => ?hy0⟩) (by assumption) ?r0
    case hy0 => (try dsimp only at hSw); go_simp; (try with_reducible rfl)
    (try simp only [Act.put, List.setIfInBounds_toArray, List.set_cons_zero, List.set_cons_succ])
    refine wpAnyH_take (i := 2) (oi := ({ dst := some 61, op := Op.load 39 (Operand.tmp 11), type := 39, pos := "law.go:25", after := #[], guard := none } : Oper)) (v := ?v2) rfl (by kernel_rfl) (by kernel_rfl) (by kernel_rfl) (fun _ _ _ h => h) (Or.inl ⟨by rfl, fun w hSw => ?hy2⟩) (by assumption) ?r2
    case hy2 => (try dsimp only at hSw); go_simp; (try with_reducible rfl)
    (try simp only [Act.put, List.setIfInBounds_toArray, List.set_cons_zero, List.set_cons_succ])
    refine wpAnyH_ready (rs := [1]) (by kernel_rfl) (by simp) ?_
    refine AllReadyH.cons (o := ({ dst := some 60, op := Op.call { callee := Callee.value (Operand.func 17), args := #[Operand.tmp 59], argTypes := #[36] }, type := 39, pos := "law.go:25", after := #[{ on := 0, ground := Ground.data }], guard := none } : Oper)) rfl (fun Kq hKq => ?_) AllReadyH.nil
    go_simp
    (refine (other_any x _).mono ?_; rintro e w1 ⟨rfl, hb1⟩)
    refine hKq.out _ _ ?_ (fun hHeld => ?_)
    · exact ⟨keep3 hb1 (by have := hHeld.2.2.size; omega) hHeld.1, keep3 hb1 (by have := hHeld.2.2.size; omega) hHeld.2.1, hHeld.2.2.trans (hb1.mono hHeld.2.2.size)⟩
    clear hKq Kq
    (try simp only [Act.put, List.setIfInBounds_toArray, List.set_cons_zero, List.set_cons_succ])
    refine wpAnyH_take (i := 3) (oi := ({ dst := some 62, op := Op.binOp BinOp.neq 39 (Operand.tmp 60) (Operand.tmp 61) 39, type := 4, pos := "law.go:25", after := #[{ on := 1, ground := Ground.data }, { on := 2, ground := Ground.data }], guard := none } : Oper)) (v := ?v3) rfl (by kernel_rfl) (by kernel_rfl) (by kernel_rfl) (fun _ _ _ h => h) (Or.inl ⟨by rfl, fun w hSw => ?hy3⟩) (by assumption) ?r3
    case hy3 => (try dsimp only at hSw); go_simp; (try with_reducible rfl)
    (try simp only [Act.put, List.setIfInBounds_toArray, List.set_cons_zero, List.set_cons_succ])
    refine wpAnyH_take (i := 4) (oi := ({ dst := some 63, op := Op.move (Operand.tmp 62), type := 4, pos := "law.go:25", after := #[{ on := 3, ground := Ground.data }, { on := 1, ground := Ground.chain }], guard := none } : Oper)) (v := ?v4) rfl (by kernel_rfl) (by kernel_rfl) (by kernel_rfl) (fun _ _ _ h => h) (Or.inl ⟨by rfl, fun w hSw => ?hy4⟩) (by assumption) ?r4
    case hy4 => (try dsimp only at hSw); go_simp; (try with_reducible rfl)
    (try simp only [Act.put, List.setIfInBounds_toArray, List.set_cons_zero, List.set_cons_succ])
    refine wpAnyH_take (i := 5) (oi := ({ dst := some 64, op := Op.move (Operand.tmp 9), type := 22, pos := "law.go:25", after := #[{ on := 4, ground := Ground.guard }], guard := some (4, false) } : Oper)) (v := ?v5) rfl (by kernel_rfl) (by kernel_rfl) (by kernel_rfl) (fun _ _ _ h => h) (Or.inl ⟨by rfl, fun w hSw => ?hy5⟩) (by assumption) ?r5
    case hy5 => (try dsimp only at hSw); go_simp; (try with_reducible rfl)
    (try simp only [Act.put, List.setIfInBounds_toArray, List.set_cons_zero, List.set_cons_succ])
    refine wpAnyH_take (i := 6) (oi := ({ dst := some 65, op := Op.move (Operand.tmp 12), type := 26, pos := "law.go:25", after := #[{ on := 4, ground := Ground.guard }], guard := some (4, false) } : Oper)) (v := ?v6) rfl (by kernel_rfl) (by kernel_rfl) (by kernel_rfl) (fun _ _ _ h => h) (Or.inl ⟨by rfl, fun w hSw => ?hy6⟩) (by assumption) ?r6
    case hy6 => (try dsimp only at hSw); go_simp; (try with_reducible rfl)
    (try simp only [Act.put, List.setIfInBounds_toArray, List.set_cons_zero, List.set_cons_succ])
    refine wpAnyH_ready (rs := [7]) (by kernel_rfl) (by simp) ?_
    refine AllReadyH.cons (o := ({ dst := some 66, op := Op.call { callee := Callee.value (Operand.func 18), args := #[Operand.tmp 64, Operand.tmp 65], argTypes := #[22, 26] }, type := 4, pos := "law.go:25", after := #[{ on := 5, ground := Ground.data }, { on := 6, ground := Ground.data }, { on := 4, ground := Ground.chain }, { on := 4, ground := Ground.guard }], guard := some (4, false) } : Oper)) rfl (fun Kq hKq => ?_) AllReadyH.nil
    go_simp
    (refine (same_any F.length cap6 (HF.out.below hHeld.2.2 (Nat.le_refl _)) (HR.out.below hHeld.2.2 (Nat.le_refl _)) hHeld.2.2.size hHeld.2.2.size (by omega)).mono ?_; rintro e w1 ⟨rfl, hb1⟩)
    refine hKq.out _ _ ?_ (fun hHeld => ?_)
    · exact ⟨keep3 hb1 (by have := hHeld.2.2.size; omega) hHeld.1, keep3 hb1 (by have := hHeld.2.2.size; omega) hHeld.2.1, hHeld.2.2.trans (hb1.mono hHeld.2.2.size)⟩
    clear hKq Kq
    (try simp only [Act.put, List.setIfInBounds_toArray, List.set_cons_zero, List.set_cons_succ])
    refine wpAnyH_take (i := 8) (oi := ({ dst := some 67, op := Op.unOp UnOp.not 4 (Operand.tmp 66), type := 4, pos := "law.go:25", after := #[{ on := 7, ground := Ground.data }, { on := 4, ground := Ground.guard }], guard := some (4, false) } : Oper)) (v := ?v8) rfl (by kernel_rfl) (by kernel_rfl) (by kernel_rfl) (fun _ _ _ h => h) (Or.inl ⟨by rfl, fun w hSw => ?hy8⟩) (by assumption) ?r8
    case hy8 => (try dsimp only at hSw); go_simp; (try with_reducible rfl)
    (try simp only [Act.put, List.setIfInBounds_toArray, List.set_cons_zero, List.set_cons_succ])
    refine wpAnyH_take (i := 9) (oi := ({ dst := some 68, op := Op.pick (Operand.tmp 63) (Operand.const (Value.bool true)) (Operand.tmp 67), type := 4, pos := "law.go:25", after := #[{ on := 4, ground := Ground.data }, { on := 8, ground := Ground.data }], guard := none } : Oper)) (v := ?v9) rfl (by kernel_rfl) (by kernel_rfl) (by kernel_rfl) (fun _ _ _ h => h) (Or.inl ⟨by rfl, fun w hSw => ?hy9⟩) (by assumption) ?r9
    case hy9 => (try dsimp only at hSw); go_simp; (try with_reducible rfl)
    (try simp only [Act.put, List.setIfInBounds_toArray, List.set_cons_zero, List.set_cons_succ])
    refine wpAnyH_take (i := 10) (oi := ({ dst := some 69, op := Op.move (Operand.tmp 68), type := 4, pos := "law.go:25", after := #[{ on := 9, ground := Ground.data }, { on := 7, ground := Ground.chain }], guard := none } : Oper)) (v := ?v10) rfl (by kernel_rfl) (by kernel_rfl) (by kernel_rfl) (fun _ _ _ h => h) (Or.inl ⟨by rfl, fun w hSw => ?hy10⟩) (by assumption) ?r10
    case hy10 => (try dsimp only at hSw); go_simp; (try with_reducible rfl)
    (try simp only [Act.put, List.setIfInBounds_toArray, List.set_cons_zero, List.set_cons_succ])
    refine wpAnyH_take (i := 11) (oi := ({ dst := some 70, op := Op.move (Operand.tmp 10), type := 4, pos := "law.go:25", after := #[{ on := 10, ground := Ground.guard }], guard := some (10, false) } : Oper)) (v := ?v11) rfl (by kernel_rfl) (by kernel_rfl) (by kernel_rfl) (fun _ _ _ h => h) (Or.inl ⟨by rfl, fun w hSw => ?hy11⟩) (by assumption) ?r11
    case hy11 => (try dsimp only at hSw); go_simp; (try with_reducible rfl)
    (try simp only [Act.put, List.setIfInBounds_toArray, List.set_cons_zero, List.set_cons_succ])
    refine wpAnyH_take (i := 12) (oi := ({ dst := some 71, op := Op.move (Operand.tmp 13), type := 4, pos := "law.go:25", after := #[{ on := 10, ground := Ground.guard }], guard := some (10, false) } : Oper)) (v := ?v12) rfl (by kernel_rfl) (by kernel_rfl) (by kernel_rfl) (fun _ _ _ h => h) (Or.inl ⟨by rfl, fun w hSw => ?hy12⟩) (by assumption) ?r12
    case hy12 => (try dsimp only at hSw); go_simp; (try with_reducible rfl)
    (try simp only [Act.put, List.setIfInBounds_toArray, List.set_cons_zero, List.set_cons_succ])
    refine wpAnyH_take (i := 13) (oi := ({ dst := some 72, op := Op.binOp BinOp.neq 4 (Operand.tmp 70) (Operand.tmp 71) 4, type := 4, pos := "law.go:25", after := #[{ on := 11, ground := Ground.data }, { on := 12, ground := Ground.data }, { on := 10, ground := Ground.guard }], guard := some (10, false) } : Oper)) (v := ?v13) rfl (by kernel_rfl) (by kernel_rfl) (by kernel_rfl) (fun _ _ _ h => h) (Or.inl ⟨by rfl, fun w hSw => ?hy13⟩) (by assumption) ?r13
    case hy13 => (try dsimp only at hSw); go_simp; (try with_reducible rfl)
    (try simp only [Act.put, List.setIfInBounds_toArray, List.set_cons_zero, List.set_cons_succ])
    refine wpAnyH_take (i := 14) (oi := ({ dst := some 73, op := Op.pick (Operand.tmp 69) (Operand.const (Value.bool true)) (Operand.tmp 72), type := 4, pos := "law.go:25", after := #[{ on := 10, ground := Ground.data }, { on := 13, ground := Ground.data }], guard := none } : Oper)) (v := ?v14) rfl (by kernel_rfl) (by kernel_rfl) (by kernel_rfl) (fun _ _ _ h => h) (Or.inl ⟨by rfl, fun w hSw => ?hy14⟩) (by assumption) ?r14
    case hy14 => (try dsimp only at hSw); go_simp; (try with_reducible rfl)
    (try simp only [Act.put, List.setIfInBounds_toArray, List.set_cons_zero, List.set_cons_succ])
    refine wpAnyH_take (i := 15) (oi := ({ dst := some 74, op := Op.move (Operand.tmp 73), type := 4, pos := "law.go:25", after := #[{ on := 14, ground := Ground.data }, { on := 10, ground := Ground.chain }], guard := none } : Oper)) (v := ?v15) rfl (by kernel_rfl) (by kernel_rfl) (by kernel_rfl) (fun _ _ _ h => h) (Or.inl ⟨by rfl, fun w hSw => ?hy15⟩) (by assumption) ?r15
    case hy15 => (try dsimp only at hSw); go_simp; (try with_reducible rfl)
    (try simp only [Act.put, List.setIfInBounds_toArray, List.set_cons_zero, List.set_cons_succ])
    refine wpAnyH_take (i := 16) (oi := ({ dst := some 75, op := Op.move (Operand.tmp 9), type := 22, pos := "law.go:25", after := #[{ on := 15, ground := Ground.guard }], guard := some (15, false) } : Oper)) (v := ?v16) rfl (by kernel_rfl) (by kernel_rfl) (by kernel_rfl) (fun _ _ _ h => h) (Or.inl ⟨by rfl, fun w hSw => ?hy16⟩) (by assumption) ?r16
    case hy16 => (try dsimp only at hSw); go_simp; (try with_reducible rfl)
    (try simp only [Act.put, List.setIfInBounds_toArray, List.set_cons_zero, List.set_cons_succ])
    refine wpAnyH_ready (rs := [17]) (by kernel_rfl) (by simp) ?_
    refine AllReadyH.cons (o := ({ dst := some 76, op := Op.call { callee := Callee.value (Operand.func 19), args := #[Operand.tmp 75, Operand.const (Value.slice none 0 0)], argTypes := #[22, 22] }, type := 4, pos := "law.go:25", after := #[{ on := 16, ground := Ground.data }, { on := 15, ground := Ground.chain }, { on := 15, ground := Ground.guard }], guard := some (15, false) } : Oper)) rfl (fun Kq hKq => ?_) AllReadyH.nil
    go_simp
    (refine (tight_any A3 none F.length 0 _).mono ?_; rintro e w1 ⟨rfl, rfl⟩)
    refine hKq.out _ _ ?_ (fun hHeld => ?_)
    · exact hHeld
    clear hKq Kq
    (try simp only [Act.put, List.setIfInBounds_toArray, List.set_cons_zero, List.set_cons_succ])
    refine wpAnyH_take (i := 18) (oi := ({ dst := some 77, op := Op.unOp UnOp.not 4 (Operand.tmp 76), type := 4, pos := "law.go:25", after := #[{ on := 17, ground := Ground.data }, { on := 15, ground := Ground.guard }], guard := some (15, false) } : Oper)) (v := ?v18) rfl (by kernel_rfl) (by kernel_rfl) (by kernel_rfl) (fun _ _ _ h => h) (Or.inl ⟨by rfl, fun w hSw => ?hy18⟩) (by assumption) ?r18
    case hy18 => (try dsimp only at hSw); go_simp; (try with_reducible rfl)
    (try simp only [Act.put, List.setIfInBounds_toArray, List.set_cons_zero, List.set_cons_succ])
    refine wpAnyH_take (i := 19) (oi := ({ dst := some 78, op := Op.pick (Operand.tmp 74) (Operand.const (Value.bool true)) (Operand.tmp 77), type := 4, pos := "law.go:25", after := #[{ on := 15, ground := Ground.data }, { on := 18, ground := Ground.data }], guard := none } : Oper)) (v := ?v19) rfl (by kernel_rfl) (by kernel_rfl) (by kernel_rfl) (fun _ _ _ h => h) (Or.inl ⟨by rfl, fun w hSw => ?hy19⟩) (by assumption) ?r19
    case hy19 => (try dsimp only at hSw); go_simp; (try with_reducible rfl)
    (try simp only [Act.put, List.setIfInBounds_toArray, List.set_cons_zero, List.set_cons_succ])
    refine wpAnyH_done (by kernel_rfl) ?_ _
    have h7 := H6.out.new hHeld.2.2
    have hl7 := HL3.out.new hHeld.2.2
    have H7 := Lib.hid h7; have HL7 := Lib.hid hl7
    clear hHeld h7 hl7 x0 y0
    go_wp2_with fail
    refine (spoil_any HL7.out).mono ?_
    rintro e w9 ⟨rfl, ht9⟩
    have h9 := H7.out.keep ht9 (fun b hb => ⟨Nat.le_trans HW4.out (HL7.out.lt b hb).1, fun hg => by have := HM4.out b hg; have := (HL7.out.lt b hb).1; omega⟩)
    have H9 := Lib.hid h9
    have hf := same_any c cap H9.out.l (H9.out.rd HN.out) H9.out.b.size (Nat.le_refl _) (by have := HN.out; omega)
    rw [← HN.out] at hf
    have HF9 := Lib.hid hf
    clear h9 ht9 hf
    go_wp2_with fail
    refine HF9.out.mono ?_
    rintro e w10 ⟨rfl, hb10⟩
    have HB10 := Lib.hid (H9.out.b.trans (hb10.mono H9.out.b.size))
    clear hb10
    go_wp2_with fail
    refine (HL.out _).mono ?_
    rintro e w11 ⟨rfl, hb11⟩
    have HB11 := Lib.hid (HB10.out.trans (hb11.mono HB10.out.size))
    clear hb11
    go_wp2_with fail
    go_ret
    exact ⟨rfl, HB11.out⟩
  · go_enter Try.func3, Try.ntmps3
    go_wp2_with fail
    refine (HL.out _).mono ?_
    rintro e w5 ⟨rfl, hb⟩
    have HB3 := Lib.hid hb
    clear hb
    go_wp2_with fail
    go_ret
    exact ⟨rfl, HB3.out⟩
end Go.Proofs.Ytemdaafnmjenmaa
