/- An act done to both sets: both tell the same, and both are alike then. -/
import Derived.Test.YtlmgboggnljefaaC3
import Derived.Deep.RegionHeld3
import Derived.Deep.CutRange
import Derived.Deep.DeepCutAuto
import Derived.Deep.CutBlock
namespace Go.Proofs.Ytlmgboggnljefaa
open Go.RowKit

/-- Both sets are alike behind it, and nothing else has turned. -/
def Done (w : World) (B R : Nat) (e : Ending) (w' : World) : Prop := e = .returned (.bool true) ∧ ∃ S', Duo w' B R S' S' ∧ Turns (fun k => k = B ∨ k = R) w w'
theorem done {w w1 w2 w3 : World} {B R : Nat} {S' : Lk} (b : Turns (fun k => k = B ∨ k = R) w w1) (t1 : Turns (fun k => k = B) w1 w2) (t2 : Turns (fun k => k = R) w2 w3) (h : Duo w3 B R S' S') : Done w B R (.returned (.bool true)) w3 :=
  ⟨rfl, S', h, (b.trans (t1.mono (T := fun k => k = B ∨ k = R) (fun _ _ e => .inl e)) (fun _ _ e => e)).trans (t2.mono (T := fun k => k = B ∨ k = R) (fun _ _ e => .inr e)) (fun _ _ e => e)⟩
set_option maxHeartbeats 1000000 in
set_option maxRecDepth 100000 in
theorem do_any {w : World} {B R : Nat} {S : Lk} (h : Duo w B R S S) (K : Nat) (A V : Int) (hK : K < 256) :
    Calls Try.prog 9 #[Pt B, Pt R, .agg #[.int .u8 (K : Int), .int .i64 A, .int .i64 V]] w (Done w B R) := by
  obtain ⟨o, ho⟩ := num_any A
  obtain ⟨p, hp⟩ := num_any V
  have ba : Below w.heap.size w (w.alloc (.cells #[.int .u8 (K : Int), .int .i64 A, .int .i64 V] 34)) := below1 w _
  have h1 := h.new ba
  have hX1 := h.hb.lt
  have hX2 := h.hr.lt
  have hX : w.heap.size < (w.alloc (.cells #[.int .u8 (K : Int), .int .i64 A, .int .i64 V] 34)).heap.size := by simp
  have e0 : (w.alloc (.cells #[.int .u8 (K : Int), .int .i64 A, .int .i64 V] 34)).cell? ⟨w.heap.size, 0, none⟩ = some (.int .u8 (K : Int)) := by rw [World.cell?_alloc_at _ _ _ _ rfl]; rfl
  have e1 : (w.alloc (.cells #[.int .u8 (K : Int), .int .i64 A, .int .i64 V] 34)).cell? ⟨w.heap.size, 1, none⟩ = some (.int .i64 A) := by rw [World.cell?_alloc_at _ _ _ _ rfl]; rfl
  have e2 : (w.alloc (.cells #[.int .u8 (K : Int), .int .i64 A, .int .i64 V] 34)).cell? ⟨w.heap.size, 2, none⟩ = some (.int .i64 V) := by rw [World.cell?_alloc_at _ _ _ _ rfl]; rfl
  have hk3 : K % 3 < 3 := Nat.mod_lt _ (by omega)
  have H1 := Lib.hid h1; have BA := Lib.hid (turns_new (fun k => k = B ∨ k = R) ba); have HO := Lib.hid ho; have HP := Lib.hid hp
  clear h h1 ba ho hp
  by_cases z0 : K % 3 = 0
  · have t0 : (((K : Int) % 3) == 0) = true := by rw [beq_iff_eq]; omega
    clear z0
    go_enter Try.func9, Try.ntmps9
    go_upto_region 1 with (fail)
    generalize w.alloc (.cells #[.int .u8 (K : Int), .int .i64 A, .int .i64 V] 34) = w1 at *
    generalize w.heap.size = X at *
    go_wp2_with fail
    refine (duo_push H1.out HO.out HP.out).mono ?_
    rintro e w2 ⟨rfl, h2, t2⟩
    have f1 := (t2.cell (o := 1) hX (by omega)).trans e1
    have f2 := (t2.cell (o := 2) hX (by omega)).trans e2
    have H2 := Lib.hid h2; have T2 := Lib.hid t2
    clear h2 t2 e0 e1 e2
    go_wp2_with fail
    refine (duo_rpush H2.out HO.out HP.out).mono ?_
    rintro e w3 ⟨rfl, h3, t3⟩
    have H3 := Lib.hid h3; have T3 := Lib.hid t3
    clear h3 t3
    go_wp2_with fail
    go_ret
    exact done BA.out T2.out T3.out H3.out
  · have t0 : (((K : Int) % 3) == 0) = false := by rw [beq_eq_false_iff_ne]; omega
    by_cases z1 : K % 3 = 1
    · have t1 : (((K : Int) % 3) == 1) = true := by rw [beq_iff_eq]; omega
      clear z0 z1
      go_enter Try.func9, Try.ntmps9
      go_upto_region 1 with (fail)
      generalize w.alloc (.cells #[.int .u8 (K : Int), .int .i64 A, .int .i64 V] 34) = w1 at *
      generalize w.heap.size = X at *
      go_upto_region 7 with (fail)
      have hh := H1.out.new (below0 w1)
      clear H1
      have H1 := Lib.hid hh
      clear hh e0
      have BA2 := Lib.hid (BA.out.drew)
      refine wp_region_held_drew (S := fun w' => w'.cell? ⟨X, 1, none⟩ = some (.int .i64 A) ∧ w'.cell? ⟨X, 2, none⟩ = some (.int .i64 V)) (by kernel_rfl) ?_ (fun hHeld => ?_)
      · exact ⟨e1, e2⟩
      refine wpAnyH_take (i := 0) (oi := ({ dst := some 39, op := Op.move (Operand.tmp 0), type := 24, pos := "law.go:34", after := #[], guard := none } : Oper)) (v := ?va0) rfl (by kernel_rfl) (by kernel_rfl) (by kernel_rfl) (fun _ _ _ h => h) (Or.inl ⟨by rfl, fun w hSw => ?hya0⟩) (by assumption) ?ra0
      case hya0 => (try dsimp only at hSw); go_simp; (try with_reducible rfl)
      (try simp only [Act.put, List.setIfInBounds_toArray, List.set_cons_zero, List.set_cons_succ])
      refine wpAnyH_take (i := 1) (oi := ({ dst := some 40, op := Op.fieldAddr 34 (Operand.tmp 5) 1, type := 0, pos := "law.go:34", after := #[], guard := none } : Oper)) (v := ?va1) rfl (by kernel_rfl) (by kernel_rfl) (by kernel_rfl) (fun _ _ _ h => h) (Or.inl ⟨by rfl, fun w hSw => ?hya1⟩) (by assumption) ?ra1
      case hya1 => (try dsimp only at hSw); go_simp; (try with_reducible rfl)
      (try simp only [Act.put, List.setIfInBounds_toArray, List.set_cons_zero, List.set_cons_succ])
      refine wpAnyH_take (i := 2) (oi := ({ dst := some 41, op := Op.load 3 (Operand.tmp 40), type := 3, pos := "law.go:34", after := #[{ on := 1, ground := Ground.data }], guard := none } : Oper)) (v := ?va2) rfl (by kernel_rfl) (by kernel_rfl) (by kernel_rfl) (fun _ _ _ h => h) (Or.inl ⟨by rfl, fun w hSw => ?hya2⟩) (by assumption) ?ra2
      case hya2 => (try dsimp only at hSw); go_simp; (try with_reducible rfl)
      (try simp only [Act.put, List.setIfInBounds_toArray, List.set_cons_zero, List.set_cons_succ])
      refine wpAnyH_take (i := 4) (oi := ({ dst := some 43, op := Op.move (Operand.tmp 1), type := 26, pos := "law.go:34", after := #[], guard := none } : Oper)) (v := ?va4) rfl (by kernel_rfl) (by kernel_rfl) (by kernel_rfl) (fun _ _ _ h => h) (Or.inl ⟨by rfl, fun w hSw => ?hya4⟩) (by assumption) ?ra4
      case hya4 => (try dsimp only at hSw); go_simp; (try with_reducible rfl)
      (try simp only [Act.put, List.setIfInBounds_toArray, List.set_cons_zero, List.set_cons_succ])
      refine wpAnyH_take (i := 5) (oi := ({ dst := some 44, op := Op.fieldAddr 34 (Operand.tmp 5) 1, type := 0, pos := "law.go:34", after := #[], guard := none } : Oper)) (v := ?va5) rfl (by kernel_rfl) (by kernel_rfl) (by kernel_rfl) (fun _ _ _ h => h) (Or.inl ⟨by rfl, fun w hSw => ?hya5⟩) (by assumption) ?ra5
      case hya5 => (try dsimp only at hSw); go_simp; (try with_reducible rfl)
      (try simp only [Act.put, List.setIfInBounds_toArray, List.set_cons_zero, List.set_cons_succ])
      refine wpAnyH_take (i := 6) (oi := ({ dst := some 45, op := Op.load 3 (Operand.tmp 44), type := 3, pos := "law.go:34", after := #[{ on := 5, ground := Ground.data }], guard := none } : Oper)) (v := ?va6) rfl (by kernel_rfl) (by kernel_rfl) (by kernel_rfl) (fun _ _ _ h => h) (Or.inl ⟨by rfl, fun w hSw => ?hya6⟩) (by assumption) ?ra6
      case hya6 => (try dsimp only at hSw); go_simp; (try with_reducible rfl)
      (try simp only [Act.put, List.setIfInBounds_toArray, List.set_cons_zero, List.set_cons_succ])
      refine wpAnyH_ready (rs := [3]) (by kernel_rfl) (by simp) ?_
      refine AllReadyH.cons (o := ({ dst := some 42, op := Op.call { callee := Callee.value (Operand.func 13), args := #[Operand.tmp 39, Operand.tmp 41], argTypes := #[24, 3] }, type := 3, pos := "law.go:34", after := #[{ on := 0, ground := Ground.data }, { on := 2, ground := Ground.data }], guard := none } : Oper)) rfl (fun Kq hKq => ?_) AllReadyH.nil
      go_simp
      (refine (duo_seek H1.out HO.out).mono ?_; rintro e w2 ⟨rfl, h2, t2⟩; have f1 := (t2.cell (o := 1) hX (by omega)).trans e1; have f2 := (t2.cell (o := 2) hX (by omega)).trans e2; have H2 := Lib.hid h2; have T2 := Lib.hid t2; clear h2 t2)
      refine hKq.out _ _ ?_ (fun hHeld => ?_)
      · exact ⟨f1, f2⟩
      clear hKq Kq
      (try simp only [Act.put, List.setIfInBounds_toArray, List.set_cons_zero, List.set_cons_succ])
      refine wpAnyH_ready (rs := [7]) (by kernel_rfl) (by simp) ?_
      refine AllReadyH.cons (o := ({ dst := some 46, op := Op.call { callee := Callee.value (Operand.func 16), args := #[Operand.tmp 43, Operand.tmp 45], argTypes := #[26, 3] }, type := 3, pos := "law.go:34", after := #[{ on := 4, ground := Ground.data }, { on := 6, ground := Ground.data }, { on := 3, ground := Ground.chain }], guard := none } : Oper)) rfl (fun Kq hKq => ?_) AllReadyH.nil
      go_simp
      (refine (duo_rseek H2.out HO.out).mono ?_; rintro e w3 ⟨rfl, h3, t3⟩; have g1 := (t3.cell (o := 1) (by have := T2.out.size; have : w1.drew.heap.size = w1.heap.size := rfl; omega) (by omega)).trans f1; have g2 := (t3.cell (o := 2) (by have := T2.out.size; have : w1.drew.heap.size = w1.heap.size := rfl; omega) (by omega)).trans f2; have H3 := Lib.hid h3; have T3 := Lib.hid t3; clear h3 t3)
      refine hKq.out _ _ ?_ (fun hHeld => ?_)
      · exact ⟨g1, g2⟩
      clear hKq Kq
      (try simp only [Act.put, List.setIfInBounds_toArray, List.set_cons_zero, List.set_cons_succ])
      refine wpAnyH_take (i := 8) (oi := ({ dst := some 47, op := Op.binOp BinOp.eql 3 (Operand.tmp 42) (Operand.tmp 46) 3, type := 4, pos := "law.go:34", after := #[{ on := 3, ground := Ground.data }, { on := 7, ground := Ground.data }], guard := none } : Oper)) (v := ?va8) rfl (by kernel_rfl) (by kernel_rfl) (by kernel_rfl) (fun _ _ _ h => h) (Or.inl ⟨by rfl, fun w hSw => ?hya8⟩) (by assumption) ?ra8
      case hya8 => (try dsimp only at hSw); go_simp; (try with_reducible rfl)
      (try simp only [Act.put, List.setIfInBounds_toArray, List.set_cons_zero, List.set_cons_succ])
      refine wpAnyH_take (i := 9) (oi := ({ dst := some 6, op := Op.assign (Operand.tmp 47), type := 4, pos := "law.go:34", after := #[{ on := 8, ground := Ground.data }, { on := 7, ground := Ground.chain }, { on := 0, ground := Ground.phase }, { on := 1, ground := Ground.phase }, { on := 2, ground := Ground.phase }, { on := 3, ground := Ground.phase }, { on := 4, ground := Ground.phase }, { on := 5, ground := Ground.phase }, { on := 6, ground := Ground.phase }, { on := 7, ground := Ground.phase }, { on := 8, ground := Ground.phase }], guard := none } : Oper)) (v := ?va9) rfl (by kernel_rfl) (by kernel_rfl) (by kernel_rfl) (fun _ _ _ h => h) (Or.inl ⟨by rfl, fun w hSw => ?hya9⟩) (by assumption) ?ra9
      case hya9 => (try dsimp only at hSw); go_simp; (try with_reducible rfl)
      (try simp only [Act.put, List.setIfInBounds_toArray, List.set_cons_zero, List.set_cons_succ])
      refine wpAnyH_done (by kernel_rfl) ?_ _

      go_wp2_with fail
      go_ret
      exact done BA2.out T2.out T3.out H3.out
    · have t1 : (((K : Int) % 3) == 1) = false := by rw [beq_eq_false_iff_ne]; omega
      clear z0 z1
      go_enter Try.func9, Try.ntmps9
      go_upto_region 1 with (fail)
      generalize w.alloc (.cells #[.int .u8 (K : Int), .int .i64 A, .int .i64 V] 34) = w1 at *
      generalize w.heap.size = X at *
      go_upto_region 2 with (fail)
      have hh := H1.out.new (below0 w1)
      clear H1
      have H1 := Lib.hid hh
      clear hh e0
      have BA2 := Lib.hid (BA.out.drew)
      refine wp_region_held_drew (S := fun w' => w'.cell? ⟨X, 1, none⟩ = some (.int .i64 A) ∧ w'.cell? ⟨X, 2, none⟩ = some (.int .i64 V)) (by kernel_rfl) ?_ (fun hHeld => ?_)
      · exact ⟨e1, e2⟩
      refine wpAnyH_take (i := 0) (oi := ({ dst := some 10, op := Op.move (Operand.tmp 0), type := 24, pos := "law.go:36", after := #[], guard := none } : Oper)) (v := ?vb0) rfl (by kernel_rfl) (by kernel_rfl) (by kernel_rfl) (fun _ _ _ h => h) (Or.inl ⟨by rfl, fun w hSw => ?hyb0⟩) (by assumption) ?rb0
      case hyb0 => (try dsimp only at hSw); go_simp; (try with_reducible rfl)
      (try simp only [Act.put, List.setIfInBounds_toArray, List.set_cons_zero, List.set_cons_succ])
      refine wpAnyH_take (i := 1) (oi := ({ dst := some 11, op := Op.fieldAddr 34 (Operand.tmp 5) 1, type := 0, pos := "law.go:36", after := #[], guard := none } : Oper)) (v := ?vb1) rfl (by kernel_rfl) (by kernel_rfl) (by kernel_rfl) (fun _ _ _ h => h) (Or.inl ⟨by rfl, fun w hSw => ?hyb1⟩) (by assumption) ?rb1
      case hyb1 => (try dsimp only at hSw); go_simp; (try with_reducible rfl)
      (try simp only [Act.put, List.setIfInBounds_toArray, List.set_cons_zero, List.set_cons_succ])
      refine wpAnyH_take (i := 2) (oi := ({ dst := some 12, op := Op.load 3 (Operand.tmp 11), type := 3, pos := "law.go:36", after := #[{ on := 1, ground := Ground.data }], guard := none } : Oper)) (v := ?vb2) rfl (by kernel_rfl) (by kernel_rfl) (by kernel_rfl) (fun _ _ _ h => h) (Or.inl ⟨by rfl, fun w hSw => ?hyb2⟩) (by assumption) ?rb2
      case hyb2 => (try dsimp only at hSw); go_simp; (try with_reducible rfl)
      (try simp only [Act.put, List.setIfInBounds_toArray, List.set_cons_zero, List.set_cons_succ])
      refine wpAnyH_take (i := 3) (oi := ({ dst := some 13, op := Op.fieldAddr 34 (Operand.tmp 5) 2, type := 0, pos := "law.go:36", after := #[], guard := none } : Oper)) (v := ?vb3) rfl (by kernel_rfl) (by kernel_rfl) (by kernel_rfl) (fun _ _ _ h => h) (Or.inl ⟨by rfl, fun w hSw => ?hyb3⟩) (by assumption) ?rb3
      case hyb3 => (try dsimp only at hSw); go_simp; (try with_reducible rfl)
      (try simp only [Act.put, List.setIfInBounds_toArray, List.set_cons_zero, List.set_cons_succ])
      refine wpAnyH_take (i := 4) (oi := ({ dst := some 14, op := Op.load 3 (Operand.tmp 13), type := 3, pos := "law.go:36", after := #[{ on := 3, ground := Ground.data }], guard := none } : Oper)) (v := ?vb4) rfl (by kernel_rfl) (by kernel_rfl) (by kernel_rfl) (fun _ _ _ h => h) (Or.inl ⟨by rfl, fun w hSw => ?hyb4⟩) (by assumption) ?rb4
      case hyb4 => (try dsimp only at hSw); go_simp; (try with_reducible rfl)
      (try simp only [Act.put, List.setIfInBounds_toArray, List.set_cons_zero, List.set_cons_succ])
      refine wpAnyH_take (i := 6) (oi := ({ dst := some 16, op := Op.move (Operand.tmp 1), type := 26, pos := "law.go:36", after := #[], guard := none } : Oper)) (v := ?vb6) rfl (by kernel_rfl) (by kernel_rfl) (by kernel_rfl) (fun _ _ _ h => h) (Or.inl ⟨by rfl, fun w hSw => ?hyb6⟩) (by assumption) ?rb6
      case hyb6 => (try dsimp only at hSw); go_simp; (try with_reducible rfl)
      (try simp only [Act.put, List.setIfInBounds_toArray, List.set_cons_zero, List.set_cons_succ])
      refine wpAnyH_take (i := 7) (oi := ({ dst := some 17, op := Op.fieldAddr 34 (Operand.tmp 5) 1, type := 0, pos := "law.go:36", after := #[], guard := none } : Oper)) (v := ?vb7) rfl (by kernel_rfl) (by kernel_rfl) (by kernel_rfl) (fun _ _ _ h => h) (Or.inl ⟨by rfl, fun w hSw => ?hyb7⟩) (by assumption) ?rb7
      case hyb7 => (try dsimp only at hSw); go_simp; (try with_reducible rfl)
      (try simp only [Act.put, List.setIfInBounds_toArray, List.set_cons_zero, List.set_cons_succ])
      refine wpAnyH_take (i := 8) (oi := ({ dst := some 18, op := Op.load 3 (Operand.tmp 17), type := 3, pos := "law.go:36", after := #[{ on := 7, ground := Ground.data }], guard := none } : Oper)) (v := ?vb8) rfl (by kernel_rfl) (by kernel_rfl) (by kernel_rfl) (fun _ _ _ h => h) (Or.inl ⟨by rfl, fun w hSw => ?hyb8⟩) (by assumption) ?rb8
      case hyb8 => (try dsimp only at hSw); go_simp; (try with_reducible rfl)
      (try simp only [Act.put, List.setIfInBounds_toArray, List.set_cons_zero, List.set_cons_succ])
      refine wpAnyH_take (i := 9) (oi := ({ dst := some 19, op := Op.fieldAddr 34 (Operand.tmp 5) 2, type := 0, pos := "law.go:36", after := #[], guard := none } : Oper)) (v := ?vb9) rfl (by kernel_rfl) (by kernel_rfl) (by kernel_rfl) (fun _ _ _ h => h) (Or.inl ⟨by rfl, fun w hSw => ?hyb9⟩) (by assumption) ?rb9
      case hyb9 => (try dsimp only at hSw); go_simp; (try with_reducible rfl)
      (try simp only [Act.put, List.setIfInBounds_toArray, List.set_cons_zero, List.set_cons_succ])
      refine wpAnyH_take (i := 10) (oi := ({ dst := some 20, op := Op.load 3 (Operand.tmp 19), type := 3, pos := "law.go:36", after := #[{ on := 9, ground := Ground.data }], guard := none } : Oper)) (v := ?vb10) rfl (by kernel_rfl) (by kernel_rfl) (by kernel_rfl) (fun _ _ _ h => h) (Or.inl ⟨by rfl, fun w hSw => ?hyb10⟩) (by assumption) ?rb10
      case hyb10 => (try dsimp only at hSw); go_simp; (try with_reducible rfl)
      (try simp only [Act.put, List.setIfInBounds_toArray, List.set_cons_zero, List.set_cons_succ])
      refine wpAnyH_ready (rs := [5]) (by kernel_rfl) (by simp) ?_
      refine AllReadyH.cons (o := ({ dst := some 15, op := Op.call { callee := Callee.value (Operand.func 14), args := #[Operand.tmp 10, Operand.tmp 12, Operand.tmp 14], argTypes := #[24, 3, 3] }, type := 3, pos := "law.go:36", after := #[{ on := 0, ground := Ground.data }, { on := 2, ground := Ground.data }, { on := 4, ground := Ground.data }], guard := none } : Oper)) rfl (fun Kq hKq => ?_) AllReadyH.nil
      go_simp
      (refine (duo_cut H1.out HO.out HP.out).mono ?_; rintro e w2 ⟨rfl, h2, t2⟩; have f1 := (t2.cell (o := 1) hX (by omega)).trans e1; have f2 := (t2.cell (o := 2) hX (by omega)).trans e2; have H2 := Lib.hid h2; have T2 := Lib.hid t2; clear h2 t2)
      refine hKq.out _ _ ?_ (fun hHeld => ?_)
      · exact ⟨f1, f2⟩
      clear hKq Kq
      (try simp only [Act.put, List.setIfInBounds_toArray, List.set_cons_zero, List.set_cons_succ])
      refine wpAnyH_ready (rs := [11]) (by kernel_rfl) (by simp) ?_
      refine AllReadyH.cons (o := ({ dst := some 21, op := Op.call { callee := Callee.value (Operand.func 17), args := #[Operand.tmp 16, Operand.tmp 18, Operand.tmp 20], argTypes := #[26, 3, 3] }, type := 3, pos := "law.go:36", after := #[{ on := 6, ground := Ground.data }, { on := 8, ground := Ground.data }, { on := 10, ground := Ground.data }, { on := 5, ground := Ground.chain }], guard := none } : Oper)) rfl (fun Kq hKq => ?_) AllReadyH.nil
      go_simp
      (refine (duo_rcut H2.out HO.out HP.out).mono ?_; rintro e w3 ⟨rfl, h3, t3⟩; have g1 := (t3.cell (o := 1) (by have := T2.out.size; have : w1.drew.heap.size = w1.heap.size := rfl; omega) (by omega)).trans f1; have g2 := (t3.cell (o := 2) (by have := T2.out.size; have : w1.drew.heap.size = w1.heap.size := rfl; omega) (by omega)).trans f2; have H3 := Lib.hid h3; have T3 := Lib.hid t3; clear h3 t3)
      refine hKq.out _ _ ?_ (fun hHeld => ?_)
      · exact ⟨g1, g2⟩
      clear hKq Kq
      (try simp only [Act.put, List.setIfInBounds_toArray, List.set_cons_zero, List.set_cons_succ])
      refine wpAnyH_take (i := 12) (oi := ({ dst := some 22, op := Op.binOp BinOp.eql 3 (Operand.tmp 15) (Operand.tmp 21) 3, type := 4, pos := "law.go:36", after := #[{ on := 5, ground := Ground.data }, { on := 11, ground := Ground.data }], guard := none } : Oper)) (v := ?vb12) rfl (by kernel_rfl) (by kernel_rfl) (by kernel_rfl) (fun _ _ _ h => h) (Or.inl ⟨by rfl, fun w hSw => ?hyb12⟩) (by assumption) ?rb12
      case hyb12 => (try dsimp only at hSw); go_simp; (try with_reducible rfl)
      (try simp only [Act.put, List.setIfInBounds_toArray, List.set_cons_zero, List.set_cons_succ])
      refine wpAnyH_take (i := 13) (oi := ({ dst := some 6, op := Op.assign (Operand.tmp 22), type := 4, pos := "law.go:36", after := #[{ on := 12, ground := Ground.data }, { on := 11, ground := Ground.chain }, { on := 0, ground := Ground.phase }, { on := 1, ground := Ground.phase }, { on := 2, ground := Ground.phase }, { on := 3, ground := Ground.phase }, { on := 4, ground := Ground.phase }, { on := 5, ground := Ground.phase }, { on := 6, ground := Ground.phase }, { on := 7, ground := Ground.phase }, { on := 8, ground := Ground.phase }, { on := 9, ground := Ground.phase }, { on := 10, ground := Ground.phase }, { on := 11, ground := Ground.phase }, { on := 12, ground := Ground.phase }], guard := none } : Oper)) (v := ?vb13) rfl (by kernel_rfl) (by kernel_rfl) (by kernel_rfl) (fun _ _ _ h => h) (Or.inl ⟨by rfl, fun w hSw => ?hyb13⟩) (by assumption) ?rb13
      case hyb13 => (try dsimp only at hSw); go_simp; (try with_reducible rfl)
      (try simp only [Act.put, List.setIfInBounds_toArray, List.set_cons_zero, List.set_cons_succ])
      refine wpAnyH_done (by kernel_rfl) ?_ _

      go_wp2_with fail
      go_ret
      exact done BA2.out T2.out T3.out H3.out
end Go.Proofs.Ytlmgboggnljefaa
