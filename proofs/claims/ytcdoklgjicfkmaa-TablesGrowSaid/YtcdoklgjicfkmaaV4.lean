/- An act done to both: kinds 1, 2, 3. -/
import Derived.Test.YtcdoklgjicfkmaaV3
namespace Go.Proofs.Ytcdoklgjicfkmaa
open Go.RowKit

/-- What an act leaves. -/
def DoP (w : World) (base : Nat) (s r : Value) (n N : Nat) (Z : Nat → Prop) (e : Ending) (w' : World) : Prop :=
  e = .returned (.bool true) ∧ ∃ own' ownR' n' M', Sc w' base own' ownR' s r n' M' M' Z ∧ Good M' (N + 60) ∧ n' ≤ n + 1 ∧ Below base w w' ∧ Turns (fun g => ¬ Z g) w w'
theorem boxed_facts {w w1 : World} {kd pb pi tg now v ta tf x y : Value} (hb : Below (w.alloc (.cells #[kd, pb, pi, tg, now, v, ta, tf] 35)).heap.size (w.alloc (.cells #[kd, pb, pi, tg, now, v, ta, tf] 35)) w1) :
    Below w.heap.size w (w1.alloc (.cells #[x, y] 79)) ∧ (w1.alloc (.cells #[x, y] 79)).heap[w.heap.size]? = some (.cells #[kd, pb, pi, tg, now, v, ta, tf] 35 (0, 0)) ∧ (w1.alloc (.cells #[x, y] 79)).heap[w1.heap.size]? = some (.cells #[x, y] 79 (0, 0)) ∧ w.heap.size < w1.heap.size ∧ (w1.alloc (.cells #[x, y] 79)).heap.size = w1.heap.size + 1 := by
  have h0 := below1 w (.cells #[kd, pb, pi, tg, now, v, ta, tf] 35)
  have hs : (w.alloc (.cells #[kd, pb, pi, tg, now, v, ta, tf] 35)).heap.size = w.heap.size + 1 := by simp
  have h1 := hb.size
  have h2 := below1 w1 (.cells #[x, y] 79)
  refine ⟨(h0.trans (hb.mono (by omega))).trans (h2.mono (by omega)), ?_, heap_alloc_new w1 _, by omega, by simp⟩
  exact (h2.block _ (by omega)).trans ((hb.block _ (by omega)).trans (heap_alloc_new w _))
set_option maxHeartbeats 4000000 in
set_option maxRecDepth 100000 in
theorem do1 {w : World} {base : Nat} {own ownR : Nat → Option Role} {s r : Value} {n N : Nat} {M : Int → List Bk} {Z : Nat → Prop} (B : Sc w base own ownR s r n M M Z) (hg : Good M N) (hN : N ≤ 100000) (hn9 : n < 1000000) (kd : Nat) {pb tg : Int} (hpb : InI pb) (htg : InI tg) (pi now ta tf : Int) (A : Option Addr) (m c : Nat) (hk : kd % 5 = 1) :
    Calls Try.prog 10 #[s, r, .agg #[.int .u8 (kd : Int), .int .i64 pb, .int .i64 pi, .int .i64 tg, .int .u64 now, .slice A m c, .int .u64 ta, .int .u64 tf]] w (DoP w base s r n N Z) := by
  obtain ⟨a, M', hg', hp, hr⟩ := putT_all hg hpb pi ta tf
  have HB := Lib.hid B; have HG := Lib.hid hg'; have HP := Lib.hid hp; have HR := Lib.hid hr
  clear B hg hg' hp hr
  have t0 : (((kd : Int) % 5) == 0) = false := by rw [beq_eq_false_iff_ne]; omega
  have t1 : (((kd : Int) % 5) == 1) = true := by rw [beq_iff_eq]; omega
  clear hk
  go_enter Try.func10, Try.ntmps10
  go_wp2_with fail
  refine (otherP_any pb pi _).mono ?_
  rintro e w1 ⟨rfl, hb1⟩
  have hbf := boxed_facts (x := .int .i64 pb) (y := .int .i64 pi) hb1
  clear hb1
  have HBF := Lib.hid hbf
  clear hbf
  go_upto_region 2 with (fail)
  obtain ⟨hbw, hn5, hn7, h57, hsz⟩ := HBF.out
  generalize hw2 : w1.alloc (.cells #[.int .i64 pb, .int .i64 pi] 79) = w2 at *
  clear hw2
  have hsc : Sc w2.drew base own ownR s r n M M (fun g => Z g ∨ (g = w.heap.size ∨ g = w1.heap.size)) := (HB.out.add hbw (Y := fun g => g = w.heap.size ∨ g = w1.heap.size) (fun g hg => by omega)).drew
  have HBW : Hid (Below w.heap.size w w2.drew) := Lib.hid hbw.drew
  obtain ⟨X5, hX5⟩ : ∃ X, X = w.heap.size := ⟨_, rfl⟩
  obtain ⟨X7, hX7⟩ : ∃ X, X = w1.heap.size := ⟨_, rfl⟩
  rw [← hX5] at hn5 hsc ⊢
  rw [← hX7] at hn7 hsc ⊢
  have HSC := Lib.hid hsc
  have hl5 : X5 < w2.drew.heap.size := (hsc.cl X5 (.inr (.inl rfl))).1
  have hl7 : X7 < w2.drew.heap.size := (hsc.cl X7 (.inr (.inr rfl))).1
  have x50 : w2.cell? ⟨X5, 0, none⟩ = some (.int .u8 (kd : Int)) := cell_row hn5 0
  have x51 : w2.cell? ⟨X5, 1, none⟩ = some (.int .i64 pb) := cell_row hn5 1
  have x52 : w2.cell? ⟨X5, 2, none⟩ = some (.int .i64 pi) := cell_row hn5 2
  have x53 : w2.cell? ⟨X5, 3, none⟩ = some (.int .i64 tg) := cell_row hn5 3
  have x54 : w2.cell? ⟨X5, 4, none⟩ = some (.int .u64 now) := cell_row hn5 4
  have x55 : w2.cell? ⟨X5, 5, none⟩ = some (.slice A m c) := cell_row hn5 5
  have x56 : w2.cell? ⟨X5, 6, none⟩ = some (.int .u64 ta) := cell_row hn5 6
  have x57 : w2.cell? ⟨X5, 7, none⟩ = some (.int .u64 tf) := cell_row hn5 7
  have x70 : w2.cell? ⟨X7, 0, none⟩ = some (.int .i64 pb) := cell_row hn7 0
  have x71 : w2.cell? ⟨X7, 1, none⟩ = some (.int .i64 pi) := cell_row hn7 1
  clear hn5 hn7 hsc hbw hX5 hX7 h57 hsz
  go_upto_region 9 with (fail)
  refine wp_region_held_drew (S := fun w' => w'.cell? ⟨X5, 1, none⟩ = some (.int .i64 pb) ∧ w'.cell? ⟨X5, 2, none⟩ = some (.int .i64 pi) ∧ w'.cell? ⟨X5, 6, none⟩ = some (.int .u64 ta) ∧ w'.cell? ⟨X5, 7, none⟩ = some (.int .u64 tf) ∧ w'.cell? ⟨X7, 0, none⟩ = some (.int .i64 pb) ∧ w'.cell? ⟨X7, 1, none⟩ = some (.int .i64 pi)) (by kernel_rfl) ?_ (fun hHeld => ?_)
  · exact ⟨x51, x52, x56, x57, x70, x71⟩
  refine wpAnyH_take (i := 0) (oi := ({ dst := some 39, op := Op.move (Operand.tmp 0), type := 25, pos := "law.go:33", after := #[], guard := none } : Oper)) (v := ?va0) rfl (by kernel_rfl) (by kernel_rfl) (by kernel_rfl) (fun _ _ _ h => h) (Or.inl ⟨by rfl, fun w hSw => ?hya0⟩) (by assumption) ?ra0
  case hya0 => (try dsimp only at hSw); go_simp; (try with_reducible rfl)
  (try simp only [Act.put, List.setIfInBounds_toArray, List.set_cons_zero, List.set_cons_succ])
  refine wpAnyH_take (i := 1) (oi := ({ dst := some 40, op := Op.fieldAddr 35 (Operand.tmp 5) 1, type := 0, pos := "law.go:33", after := #[], guard := none } : Oper)) (v := ?va1) rfl (by kernel_rfl) (by kernel_rfl) (by kernel_rfl) (fun _ _ _ h => h) (Or.inl ⟨by rfl, fun w hSw => ?hya1⟩) (by assumption) ?ra1
  case hya1 => (try dsimp only at hSw); go_simp; (try with_reducible rfl)
  (try simp only [Act.put, List.setIfInBounds_toArray, List.set_cons_zero, List.set_cons_succ])
  refine wpAnyH_take (i := 2) (oi := ({ dst := some 41, op := Op.load 30 (Operand.tmp 40), type := 30, pos := "law.go:33", after := #[{ on := 1, ground := Ground.data }], guard := none } : Oper)) (v := ?va2) rfl (by kernel_rfl) (by kernel_rfl) (by kernel_rfl) (fun _ _ _ h => h) (Or.inl ⟨by rfl, fun w hSw => ?hya2⟩) (by assumption) ?ra2
  case hya2 => (try dsimp only at hSw); go_simp; (try with_reducible rfl)
  (try simp only [Act.put, List.setIfInBounds_toArray, List.set_cons_zero, List.set_cons_succ])
  refine wpAnyH_take (i := 3) (oi := ({ dst := some 42, op := Op.fieldAddr 35 (Operand.tmp 5) 5, type := 0, pos := "law.go:33", after := #[], guard := none } : Oper)) (v := ?va3) rfl (by kernel_rfl) (by kernel_rfl) (by kernel_rfl) (fun _ _ _ h => h) (Or.inl ⟨by rfl, fun w hSw => ?hya3⟩) (by assumption) ?ra3
  case hya3 => (try dsimp only at hSw); go_simp; (try with_reducible rfl)
  (try simp only [Act.put, List.setIfInBounds_toArray, List.set_cons_zero, List.set_cons_succ])
  refine wpAnyH_take (i := 4) (oi := ({ dst := some 43, op := Op.load 33 (Operand.tmp 42), type := 33, pos := "law.go:33", after := #[{ on := 3, ground := Ground.data }], guard := none } : Oper)) (v := ?va4) rfl (by kernel_rfl) (by kernel_rfl) (by kernel_rfl) (fun _ _ _ h => h) (Or.inl ⟨by rfl, fun w hSw => ?hya4⟩) (by assumption) ?ra4
  case hya4 => (try dsimp only at hSw); go_simp; (try with_reducible rfl)
  (try simp only [Act.put, List.setIfInBounds_toArray, List.set_cons_zero, List.set_cons_succ])
  refine wpAnyH_take (i := 6) (oi := ({ dst := some 45, op := Op.move (Operand.tmp 1), type := 27, pos := "law.go:33", after := #[], guard := none } : Oper)) (v := ?va6) rfl (by kernel_rfl) (by kernel_rfl) (by kernel_rfl) (fun _ _ _ h => h) (Or.inl ⟨by rfl, fun w hSw => ?hya6⟩) (by assumption) ?ra6
  case hya6 => (try dsimp only at hSw); go_simp; (try with_reducible rfl)
  (try simp only [Act.put, List.setIfInBounds_toArray, List.set_cons_zero, List.set_cons_succ])
  refine wpAnyH_take (i := 7) (oi := ({ dst := some 46, op := Op.load 79 (Operand.tmp 7), type := 79, pos := "law.go:33", after := #[], guard := none } : Oper)) (v := ?va7) rfl (by kernel_rfl) (by kernel_rfl) (by kernel_rfl) (fun _ _ _ h => h) (Or.inl ⟨by rfl, fun w hSw => ?hya7⟩) (by assumption) ?ra7
  case hya7 => (try dsimp only at hSw); go_simp; (try with_reducible rfl)
  (try simp only [Act.put, List.setIfInBounds_toArray, List.set_cons_zero, List.set_cons_succ])
  refine wpAnyH_take (i := 8) (oi := ({ dst := some 47, op := Op.fieldAddr 35 (Operand.tmp 5) 5, type := 0, pos := "law.go:33", after := #[], guard := none } : Oper)) (v := ?va8) rfl (by kernel_rfl) (by kernel_rfl) (by kernel_rfl) (fun _ _ _ h => h) (Or.inl ⟨by rfl, fun w hSw => ?hya8⟩) (by assumption) ?ra8
  case hya8 => (try dsimp only at hSw); go_simp; (try with_reducible rfl)
  (try simp only [Act.put, List.setIfInBounds_toArray, List.set_cons_zero, List.set_cons_succ])
  refine wpAnyH_take (i := 9) (oi := ({ dst := some 48, op := Op.load 33 (Operand.tmp 47), type := 33, pos := "law.go:33", after := #[{ on := 8, ground := Ground.data }], guard := none } : Oper)) (v := ?va9) rfl (by kernel_rfl) (by kernel_rfl) (by kernel_rfl) (fun _ _ _ h => h) (Or.inl ⟨by rfl, fun w hSw => ?hya9⟩) (by assumption) ?ra9
  case hya9 => (try dsimp only at hSw); go_simp; (try with_reducible rfl)
  (try simp only [Act.put, List.setIfInBounds_toArray, List.set_cons_zero, List.set_cons_succ])
  refine wpAnyH_ready (rs := [5]) (by kernel_rfl) (by simp) ?_
  refine AllReadyH.cons (o := ({ dst := some 44, op := Op.call { callee := Callee.value (Operand.func 16), args := #[Operand.tmp 39, Operand.tmp 41, Operand.tmp 43], argTypes := #[25, 30, 33] }, type := 4, pos := "law.go:33", after := #[{ on := 0, ground := Ground.data }, { on := 2, ground := Ground.data }, { on := 4, ground := Ground.data }], guard := none } : Oper)) rfl (fun Kq hKq => ?_) AllReadyH.nil
  go_simp
  (refine (HP.out _ _ _ _ _ HSC.out.st).mono ?_; rintro e w3 ⟨rfl, hs3, ht3⟩; obtain ⟨sc3, t3, b3⟩ := HSC.out.one hs3 ht3 (Fresh.refl _ _); have HSC3 := Lib.hid sc3; have HT3 := Lib.hid t3; have HB3 := Lib.hid b3; clear hs3 ht3 sc3 b3)
  refine hKq.out _ _ ?_ (fun hHeld => ?_)
  · exact ⟨HSC.out.keepC t3 (.inr (.inl rfl)) hHeld.1, HSC.out.keepC t3 (.inr (.inl rfl)) hHeld.2.1, HSC.out.keepC t3 (.inr (.inl rfl)) hHeld.2.2.1, HSC.out.keepC t3 (.inr (.inl rfl)) hHeld.2.2.2.1, HSC.out.keepC t3 (.inr (.inr rfl)) hHeld.2.2.2.2.1, HSC.out.keepC t3 (.inr (.inr rfl)) hHeld.2.2.2.2.2⟩
  clear hKq Kq
  (try simp only [Act.put, List.setIfInBounds_toArray, List.set_cons_zero, List.set_cons_succ])
  refine wpAnyH_ready (rs := [10]) (by kernel_rfl) (by simp) ?_
  refine AllReadyH.cons (o := ({ dst := some 49, op := Op.call { callee := Callee.value (Operand.func 34), args := #[Operand.tmp 48], argTypes := #[33] }, type := 86, pos := "law.go:33", after := #[{ on := 9, ground := Ground.data }, { on := 5, ground := Ground.chain }], guard := none } : Oper)) rfl (fun Kq hKq => ?_) AllReadyH.nil
  go_simp
  (have l35 := (HSC3.out.cl X5 (.inr (.inl rfl))).1; have l37 := (HSC3.out.cl X7 (.inr (.inr rfl))).1; refine (otherT_any ta tf _).mono ?_; rintro e w4 ⟨rfl, hb4⟩; have HSC4 := Lib.hid (HSC3.out.new hb4); have HB4 := Lib.hid hb4)
  refine hKq.out _ _ ?_ (fun hHeld => ?_)
  · exact ⟨(hb4.cell (p := ⟨X5, 1, none⟩) l35).trans hHeld.1, (hb4.cell (p := ⟨X5, 2, none⟩) l35).trans hHeld.2.1, (hb4.cell (p := ⟨X5, 6, none⟩) l35).trans hHeld.2.2.1, (hb4.cell (p := ⟨X5, 7, none⟩) l35).trans hHeld.2.2.2.1, (hb4.cell (p := ⟨X7, 0, none⟩) l37).trans hHeld.2.2.2.2.1, (hb4.cell (p := ⟨X7, 1, none⟩) l37).trans hHeld.2.2.2.2.2⟩
  clear hKq Kq
  (try simp only [Act.put, List.setIfInBounds_toArray, List.set_cons_zero, List.set_cons_succ])
  refine wpAnyH_ready (rs := [11]) (by kernel_rfl) (by simp) ?_
  refine AllReadyH.cons (o := ({ dst := some 50, op := Op.call { callee := Callee.value (Operand.func 33), args := #[Operand.tmp 45, Operand.tmp 46, Operand.tmp 49], argTypes := #[27, 79, 86] }, type := 4, pos := "law.go:33", after := #[{ on := 6, ground := Ground.data }, { on := 7, ground := Ground.data }, { on := 10, ground := Ground.data }, { on := 10, ground := Ground.chain }], guard := none } : Oper)) rfl (fun Kq hKq => ?_) AllReadyH.nil
  go_simp
  (refine (HR.out _ _ _ _ HSC4.out.rt).mono ?_; rintro e w5 ⟨rfl, hs5, ht5⟩; obtain ⟨sc5, t5, b5⟩ := HSC4.out.two hs5 ht5 (Fresh.refl _ _); have HSC5 := Lib.hid sc5; have HT5 := Lib.hid t5; have HB5 := Lib.hid b5; clear hs5 ht5 sc5 b5)
  refine hKq.out _ _ ?_ (fun hHeld => ?_)
  · exact ⟨HSC4.out.keepC t5 (.inr (.inl rfl)) hHeld.1, HSC4.out.keepC t5 (.inr (.inl rfl)) hHeld.2.1, HSC4.out.keepC t5 (.inr (.inl rfl)) hHeld.2.2.1, HSC4.out.keepC t5 (.inr (.inl rfl)) hHeld.2.2.2.1, HSC4.out.keepC t5 (.inr (.inr rfl)) hHeld.2.2.2.2.1, HSC4.out.keepC t5 (.inr (.inr rfl)) hHeld.2.2.2.2.2⟩
  clear hKq Kq
  (try simp only [Act.put, List.setIfInBounds_toArray, List.set_cons_zero, List.set_cons_succ])
  refine wpAnyH_take (i := 12) (oi := ({ dst := some 51, op := Op.binOp BinOp.eql 4 (Operand.tmp 44) (Operand.tmp 50) 4, type := 4, pos := "law.go:33", after := #[{ on := 5, ground := Ground.data }, { on := 11, ground := Ground.data }], guard := none } : Oper)) (v := ?va12) rfl (by kernel_rfl) (by kernel_rfl) (by kernel_rfl) (fun _ _ _ h => h) (Or.inl ⟨by rfl, fun w hSw => ?hya12⟩) (by assumption) ?ra12
  case hya12 => (try dsimp only at hSw); go_simp; (try with_reducible rfl)
  (try simp only [Act.put, List.setIfInBounds_toArray, List.set_cons_zero, List.set_cons_succ])
  refine wpAnyH_take (i := 13) (oi := ({ dst := some 6, op := Op.assign (Operand.tmp 51), type := 4, pos := "law.go:33", after := #[{ on := 12, ground := Ground.data }, { on := 11, ground := Ground.chain }, { on := 0, ground := Ground.phase }, { on := 1, ground := Ground.phase }, { on := 2, ground := Ground.phase }, { on := 3, ground := Ground.phase }, { on := 4, ground := Ground.phase }, { on := 5, ground := Ground.phase }, { on := 6, ground := Ground.phase }, { on := 7, ground := Ground.phase }, { on := 8, ground := Ground.phase }, { on := 9, ground := Ground.phase }, { on := 10, ground := Ground.phase }, { on := 11, ground := Ground.phase }, { on := 12, ground := Ground.phase }], guard := none } : Oper)) (v := ?va13) rfl (by kernel_rfl) (by kernel_rfl) (by kernel_rfl) (fun _ _ _ h => h) (Or.inl ⟨by rfl, fun w hSw => ?hya13⟩) (by assumption) ?ra13
  case hya13 => (try dsimp only at hSw); go_simp; (try with_reducible rfl)
  (try simp only [Act.put, List.setIfInBounds_toArray, List.set_cons_zero, List.set_cons_succ])
  refine wpAnyH_done (by kernel_rfl) ?_ _
  go_wp2_with fail
  go_ret
  have hb0 := HSC.out.st.le
  have b24 : Below base w3 w4 := HB4.out.mono HSC3.out.st.le
  have bw : Below base w w2.drew := HBW.out.mono HB.out.st.le
  have t23 := HT3.out.mono (T := fun g => ¬ Z g) (fun g _ hn hz => hn (.inl hz))
  have t34 : Turns (fun g => ¬ Z g) w3 w4 := Turns.of_below HB4.out
  have t45 := HT5.out.mono (T := fun g => ¬ Z g) (fun g _ hn hz => hn (.inl hz))
  refine ⟨by simp, _, _, n, M', HSC5.out.sub (fun g hz => .inl hz), HG.out.mono (by omega), by omega, bw.trans (HB3.out.trans (b24.trans HB5.out)), ?_⟩
  exact (((Turns.of_below HBW.out).trans t23 (fun _ _ e => e)).trans t34 (fun _ _ e => e)).trans t45 (fun _ _ e => e)
set_option maxHeartbeats 4000000 in
set_option maxRecDepth 100000 in
theorem do2 {w : World} {base : Nat} {own ownR : Nat → Option Role} {s r : Value} {n N : Nat} {M : Int → List Bk} {Z : Nat → Prop} (B : Sc w base own ownR s r n M M Z) (hg : Good M N) (hN : N ≤ 100000) (hn9 : n < 1000000) (kd : Nat) {pb tg : Int} (hpb : InI pb) (htg : InI tg) (pi now ta tf : Int) (A : Option Addr) (m c : Nat) (hk : kd % 5 = 2) :
    Calls Try.prog 10 #[s, r, .agg #[.int .u8 (kd : Int), .int .i64 pb, .int .i64 pi, .int .i64 tg, .int .u64 now, .slice A m c, .int .u64 ta, .int .u64 tf]] w (DoP w base s r n N Z) := by
  obtain ⟨a, M', hg', hp, hr⟩ := grow_all hg hN hpb htg now
  have HB := Lib.hid B; have HG := Lib.hid hg'; have HP := Lib.hid hp; have HR := Lib.hid hr
  clear B hg hg' hp hr
  have t0 : (((kd : Int) % 5) == 0) = false := by rw [beq_eq_false_iff_ne]; omega
  have t1 : (((kd : Int) % 5) == 1) = false := by rw [beq_eq_false_iff_ne]; omega
  have t2 : (((kd : Int) % 5) == 2) = true := by rw [beq_iff_eq]; omega
  clear hk
  go_enter Try.func10, Try.ntmps10
  go_wp2_with fail
  refine (otherP_any pb pi _).mono ?_
  rintro e w1 ⟨rfl, hb1⟩
  have hbf := boxed_facts (x := .int .i64 pb) (y := .int .i64 pi) hb1
  clear hb1
  have HBF := Lib.hid hbf
  clear hbf
  go_upto_region 2 with (fail)
  obtain ⟨hbw, hn5, hn7, h57, hsz⟩ := HBF.out
  generalize hw2 : w1.alloc (.cells #[.int .i64 pb, .int .i64 pi] 79) = w2 at *
  clear hw2
  have hsc : Sc w2.drew base own ownR s r n M M (fun g => Z g ∨ (g = w.heap.size ∨ g = w1.heap.size)) := (HB.out.add hbw (Y := fun g => g = w.heap.size ∨ g = w1.heap.size) (fun g hg => by omega)).drew
  have HBW : Hid (Below w.heap.size w w2.drew) := Lib.hid hbw.drew
  obtain ⟨X5, hX5⟩ : ∃ X, X = w.heap.size := ⟨_, rfl⟩
  obtain ⟨X7, hX7⟩ : ∃ X, X = w1.heap.size := ⟨_, rfl⟩
  rw [← hX5] at hn5 hsc ⊢
  rw [← hX7] at hn7 hsc ⊢
  have HSC := Lib.hid hsc
  have hl5 : X5 < w2.drew.heap.size := (hsc.cl X5 (.inr (.inl rfl))).1
  have hl7 : X7 < w2.drew.heap.size := (hsc.cl X7 (.inr (.inr rfl))).1
  have x50 : w2.cell? ⟨X5, 0, none⟩ = some (.int .u8 (kd : Int)) := cell_row hn5 0
  have x51 : w2.cell? ⟨X5, 1, none⟩ = some (.int .i64 pb) := cell_row hn5 1
  have x52 : w2.cell? ⟨X5, 2, none⟩ = some (.int .i64 pi) := cell_row hn5 2
  have x53 : w2.cell? ⟨X5, 3, none⟩ = some (.int .i64 tg) := cell_row hn5 3
  have x54 : w2.cell? ⟨X5, 4, none⟩ = some (.int .u64 now) := cell_row hn5 4
  have x55 : w2.cell? ⟨X5, 5, none⟩ = some (.slice A m c) := cell_row hn5 5
  have x56 : w2.cell? ⟨X5, 6, none⟩ = some (.int .u64 ta) := cell_row hn5 6
  have x57 : w2.cell? ⟨X5, 7, none⟩ = some (.int .u64 tf) := cell_row hn5 7
  have x70 : w2.cell? ⟨X7, 0, none⟩ = some (.int .i64 pb) := cell_row hn7 0
  have x71 : w2.cell? ⟨X7, 1, none⟩ = some (.int .i64 pi) := cell_row hn7 1
  clear hn5 hn7 hsc hbw hX5 hX7 h57 hsz
  go_upto_region 11 with (fail)
  refine wp_region_held_drew (S := fun w' => w'.cell? ⟨X5, 1, none⟩ = some (.int .i64 pb) ∧ w'.cell? ⟨X5, 3, none⟩ = some (.int .i64 tg) ∧ w'.cell? ⟨X5, 4, none⟩ = some (.int .u64 now) ∧ w'.cell? ⟨X7, 0, none⟩ = some (.int .i64 pb)) (by kernel_rfl) ?_ (fun hHeld => ?_)
  · exact ⟨x51, x53, x54, x70⟩
  refine wpAnyH_take (i := 0) (oi := ({ dst := some 54, op := Op.move (Operand.tmp 0), type := 25, pos := "law.go:35", after := #[], guard := none } : Oper)) (v := ?vb0) rfl (by kernel_rfl) (by kernel_rfl) (by kernel_rfl) (fun _ _ _ h => h) (Or.inl ⟨by rfl, fun w hSw => ?hyb0⟩) (by assumption) ?rb0
  case hyb0 => (try dsimp only at hSw); go_simp; (try with_reducible rfl)
  (try simp only [Act.put, List.setIfInBounds_toArray, List.set_cons_zero, List.set_cons_succ])
  refine wpAnyH_take (i := 1) (oi := ({ dst := some 55, op := Op.fieldAddr 35 (Operand.tmp 5) 1, type := 0, pos := "law.go:35", after := #[], guard := none } : Oper)) (v := ?vb1) rfl (by kernel_rfl) (by kernel_rfl) (by kernel_rfl) (fun _ _ _ h => h) (Or.inl ⟨by rfl, fun w hSw => ?hyb1⟩) (by assumption) ?rb1
  case hyb1 => (try dsimp only at hSw); go_simp; (try with_reducible rfl)
  (try simp only [Act.put, List.setIfInBounds_toArray, List.set_cons_zero, List.set_cons_succ])
  refine wpAnyH_take (i := 2) (oi := ({ dst := some 56, op := Op.fieldAddr 30 (Operand.tmp 55) 0, type := 0, pos := "law.go:35", after := #[{ on := 1, ground := Ground.data }], guard := none } : Oper)) (v := ?vb2) rfl (by kernel_rfl) (by kernel_rfl) (by kernel_rfl) (fun _ _ _ h => h) (Or.inl ⟨by rfl, fun w hSw => ?hyb2⟩) (by assumption) ?rb2
  case hyb2 => (try dsimp only at hSw); go_simp; (try with_reducible rfl)
  (try simp only [Act.put, List.setIfInBounds_toArray, List.set_cons_zero, List.set_cons_succ])
  refine wpAnyH_take (i := 3) (oi := ({ dst := some 57, op := Op.load 3 (Operand.tmp 56), type := 3, pos := "law.go:35", after := #[{ on := 2, ground := Ground.data }], guard := none } : Oper)) (v := ?vb3) rfl (by kernel_rfl) (by kernel_rfl) (by kernel_rfl) (fun _ _ _ h => h) (Or.inl ⟨by rfl, fun w hSw => ?hyb3⟩) (by assumption) ?rb3
  case hyb3 => (try dsimp only at hSw); go_simp; (try with_reducible rfl)
  (try simp only [Act.put, List.setIfInBounds_toArray, List.set_cons_zero, List.set_cons_succ])
  refine wpAnyH_take (i := 4) (oi := ({ dst := some 58, op := Op.fieldAddr 35 (Operand.tmp 5) 2, type := 0, pos := "law.go:35", after := #[], guard := none } : Oper)) (v := ?vb4) rfl (by kernel_rfl) (by kernel_rfl) (by kernel_rfl) (fun _ _ _ h => h) (Or.inl ⟨by rfl, fun w hSw => ?hyb4⟩) (by assumption) ?rb4
  case hyb4 => (try dsimp only at hSw); go_simp; (try with_reducible rfl)
  (try simp only [Act.put, List.setIfInBounds_toArray, List.set_cons_zero, List.set_cons_succ])
  refine wpAnyH_take (i := 5) (oi := ({ dst := some 59, op := Op.load 3 (Operand.tmp 58), type := 3, pos := "law.go:35", after := #[{ on := 4, ground := Ground.data }], guard := none } : Oper)) (v := ?vb5) rfl (by kernel_rfl) (by kernel_rfl) (by kernel_rfl) (fun _ _ _ h => h) (Or.inl ⟨by rfl, fun w hSw => ?hyb5⟩) (by assumption) ?rb5
  case hyb5 => (try dsimp only at hSw); go_simp; (try with_reducible rfl)
  (try simp only [Act.put, List.setIfInBounds_toArray, List.set_cons_zero, List.set_cons_succ])
  refine wpAnyH_take (i := 6) (oi := ({ dst := some 60, op := Op.fieldAddr 35 (Operand.tmp 5) 3, type := 0, pos := "law.go:35", after := #[], guard := none } : Oper)) (v := ?vb6) rfl (by kernel_rfl) (by kernel_rfl) (by kernel_rfl) (fun _ _ _ h => h) (Or.inl ⟨by rfl, fun w hSw => ?hyb6⟩) (by assumption) ?rb6
  case hyb6 => (try dsimp only at hSw); go_simp; (try with_reducible rfl)
  (try simp only [Act.put, List.setIfInBounds_toArray, List.set_cons_zero, List.set_cons_succ])
  refine wpAnyH_take (i := 7) (oi := ({ dst := some 61, op := Op.load 22 (Operand.tmp 60), type := 22, pos := "law.go:35", after := #[{ on := 6, ground := Ground.data }], guard := none } : Oper)) (v := ?vb7) rfl (by kernel_rfl) (by kernel_rfl) (by kernel_rfl) (fun _ _ _ h => h) (Or.inl ⟨by rfl, fun w hSw => ?hyb7⟩) (by assumption) ?rb7
  case hyb7 => (try dsimp only at hSw); go_simp; (try with_reducible rfl)
  (try simp only [Act.put, List.setIfInBounds_toArray, List.set_cons_zero, List.set_cons_succ])
  refine wpAnyH_take (i := 9) (oi := ({ dst := some 63, op := Op.move (Operand.tmp 1), type := 27, pos := "law.go:35", after := #[], guard := none } : Oper)) (v := ?vb9) rfl (by kernel_rfl) (by kernel_rfl) (by kernel_rfl) (fun _ _ _ h => h) (Or.inl ⟨by rfl, fun w hSw => ?hyb9⟩) (by assumption) ?rb9
  case hyb9 => (try dsimp only at hSw); go_simp; (try with_reducible rfl)
  (try simp only [Act.put, List.setIfInBounds_toArray, List.set_cons_zero, List.set_cons_succ])
  refine wpAnyH_take (i := 10) (oi := ({ dst := some 64, op := Op.fieldAddr 79 (Operand.tmp 7) 0, type := 0, pos := "law.go:35", after := #[], guard := none } : Oper)) (v := ?vb10) rfl (by kernel_rfl) (by kernel_rfl) (by kernel_rfl) (fun _ _ _ h => h) (Or.inl ⟨by rfl, fun w hSw => ?hyb10⟩) (by assumption) ?rb10
  case hyb10 => (try dsimp only at hSw); go_simp; (try with_reducible rfl)
  (try simp only [Act.put, List.setIfInBounds_toArray, List.set_cons_zero, List.set_cons_succ])
  refine wpAnyH_take (i := 11) (oi := ({ dst := some 65, op := Op.load 3 (Operand.tmp 64), type := 3, pos := "law.go:35", after := #[{ on := 10, ground := Ground.data }], guard := none } : Oper)) (v := ?vb11) rfl (by kernel_rfl) (by kernel_rfl) (by kernel_rfl) (fun _ _ _ h => h) (Or.inl ⟨by rfl, fun w hSw => ?hyb11⟩) (by assumption) ?rb11
  case hyb11 => (try dsimp only at hSw); go_simp; (try with_reducible rfl)
  (try simp only [Act.put, List.setIfInBounds_toArray, List.set_cons_zero, List.set_cons_succ])
  refine wpAnyH_take (i := 12) (oi := ({ dst := some 66, op := Op.fieldAddr 35 (Operand.tmp 5) 2, type := 0, pos := "law.go:35", after := #[], guard := none } : Oper)) (v := ?vb12) rfl (by kernel_rfl) (by kernel_rfl) (by kernel_rfl) (fun _ _ _ h => h) (Or.inl ⟨by rfl, fun w hSw => ?hyb12⟩) (by assumption) ?rb12
  case hyb12 => (try dsimp only at hSw); go_simp; (try with_reducible rfl)
  (try simp only [Act.put, List.setIfInBounds_toArray, List.set_cons_zero, List.set_cons_succ])
  refine wpAnyH_take (i := 13) (oi := ({ dst := some 67, op := Op.load 3 (Operand.tmp 66), type := 3, pos := "law.go:35", after := #[{ on := 12, ground := Ground.data }], guard := none } : Oper)) (v := ?vb13) rfl (by kernel_rfl) (by kernel_rfl) (by kernel_rfl) (fun _ _ _ h => h) (Or.inl ⟨by rfl, fun w hSw => ?hyb13⟩) (by assumption) ?rb13
  case hyb13 => (try dsimp only at hSw); go_simp; (try with_reducible rfl)
  (try simp only [Act.put, List.setIfInBounds_toArray, List.set_cons_zero, List.set_cons_succ])
  refine wpAnyH_take (i := 14) (oi := ({ dst := some 68, op := Op.fieldAddr 35 (Operand.tmp 5) 3, type := 0, pos := "law.go:35", after := #[], guard := none } : Oper)) (v := ?vb14) rfl (by kernel_rfl) (by kernel_rfl) (by kernel_rfl) (fun _ _ _ h => h) (Or.inl ⟨by rfl, fun w hSw => ?hyb14⟩) (by assumption) ?rb14
  case hyb14 => (try dsimp only at hSw); go_simp; (try with_reducible rfl)
  (try simp only [Act.put, List.setIfInBounds_toArray, List.set_cons_zero, List.set_cons_succ])
  refine wpAnyH_take (i := 15) (oi := ({ dst := some 69, op := Op.load 22 (Operand.tmp 68), type := 22, pos := "law.go:35", after := #[{ on := 14, ground := Ground.data }], guard := none } : Oper)) (v := ?vb15) rfl (by kernel_rfl) (by kernel_rfl) (by kernel_rfl) (fun _ _ _ h => h) (Or.inl ⟨by rfl, fun w hSw => ?hyb15⟩) (by assumption) ?rb15
  case hyb15 => (try dsimp only at hSw); go_simp; (try with_reducible rfl)
  (try simp only [Act.put, List.setIfInBounds_toArray, List.set_cons_zero, List.set_cons_succ])
  refine wpAnyH_ready (rs := [8]) (by kernel_rfl) (by simp) ?_
  refine AllReadyH.cons (o := ({ dst := some 62, op := Op.call { callee := Callee.value (Operand.func 17), args := #[Operand.tmp 54, Operand.tmp 57, Operand.tmp 59, Operand.tmp 61], argTypes := #[25, 3, 3, 22] }, type := 4, pos := "law.go:35", after := #[{ on := 0, ground := Ground.data }, { on := 3, ground := Ground.data }, { on := 5, ground := Ground.data }, { on := 7, ground := Ground.data }], guard := none } : Oper)) rfl (fun Kq hKq => ?_) AllReadyH.nil
  go_simp
  (refine (HP.out _ _ _ _ _ hn9 HSC.out.st).mono ?_; rintro e w3 ⟨rfl, own3, hs3, ht3, hf3⟩; obtain ⟨sc3, t3, b3⟩ := HSC.out.one hs3 ht3 hf3; have HSC3 := Lib.hid sc3; have HT3 := Lib.hid t3; have HB3 := Lib.hid b3; clear hs3 ht3 hf3 sc3 b3)
  refine hKq.out _ _ ?_ (fun hHeld => ?_)
  · exact ⟨HSC.out.keepC t3 (.inr (.inl rfl)) hHeld.1, HSC.out.keepC t3 (.inr (.inl rfl)) hHeld.2.1, HSC.out.keepC t3 (.inr (.inl rfl)) hHeld.2.2.1, HSC.out.keepC t3 (.inr (.inr rfl)) hHeld.2.2.2⟩
  clear hKq Kq
  (try simp only [Act.put, List.setIfInBounds_toArray, List.set_cons_zero, List.set_cons_succ])
  refine wpAnyH_ready (rs := [16]) (by kernel_rfl) (by simp) ?_
  refine AllReadyH.cons (o := ({ dst := some 70, op := Op.call { callee := Callee.value (Operand.func 35), args := #[Operand.tmp 63, Operand.tmp 65, Operand.tmp 67, Operand.tmp 69], argTypes := #[27, 3, 3, 22] }, type := 4, pos := "law.go:35", after := #[{ on := 9, ground := Ground.data }, { on := 11, ground := Ground.data }, { on := 13, ground := Ground.data }, { on := 15, ground := Ground.data }, { on := 8, ground := Ground.chain }], guard := none } : Oper)) rfl (fun Kq hKq => ?_) AllReadyH.nil
  go_simp
  (refine (HR.out _ _ _ _ HSC3.out.rt).mono ?_; rintro e w5 ⟨rfl, own5, hs5, ht5, hf5⟩; obtain ⟨sc5, t5, b5⟩ := HSC3.out.two hs5 ht5 hf5; have HSC5 := Lib.hid sc5; have HT5 := Lib.hid t5; have HB5 := Lib.hid b5; clear hs5 ht5 hf5 sc5 b5)
  refine hKq.out _ _ ?_ (fun hHeld => ?_)
  · exact ⟨HSC3.out.keepC t5 (.inr (.inl rfl)) hHeld.1, HSC3.out.keepC t5 (.inr (.inl rfl)) hHeld.2.1, HSC3.out.keepC t5 (.inr (.inl rfl)) hHeld.2.2.1, HSC3.out.keepC t5 (.inr (.inr rfl)) hHeld.2.2.2⟩
  clear hKq Kq
  (try simp only [Act.put, List.setIfInBounds_toArray, List.set_cons_zero, List.set_cons_succ])
  refine wpAnyH_take (i := 17) (oi := ({ dst := some 71, op := Op.binOp BinOp.eql 4 (Operand.tmp 62) (Operand.tmp 70) 4, type := 4, pos := "law.go:35", after := #[{ on := 8, ground := Ground.data }, { on := 16, ground := Ground.data }], guard := none } : Oper)) (v := ?vb17) rfl (by kernel_rfl) (by kernel_rfl) (by kernel_rfl) (fun _ _ _ h => h) (Or.inl ⟨by rfl, fun w hSw => ?hyb17⟩) (by assumption) ?rb17
  case hyb17 => (try dsimp only at hSw); go_simp; (try with_reducible rfl)
  (try simp only [Act.put, List.setIfInBounds_toArray, List.set_cons_zero, List.set_cons_succ])
  refine wpAnyH_take (i := 18) (oi := ({ dst := some 6, op := Op.assign (Operand.tmp 71), type := 4, pos := "law.go:35", after := #[{ on := 17, ground := Ground.data }, { on := 16, ground := Ground.chain }, { on := 0, ground := Ground.phase }, { on := 1, ground := Ground.phase }, { on := 2, ground := Ground.phase }, { on := 3, ground := Ground.phase }, { on := 4, ground := Ground.phase }, { on := 5, ground := Ground.phase }, { on := 6, ground := Ground.phase }, { on := 7, ground := Ground.phase }, { on := 8, ground := Ground.phase }, { on := 9, ground := Ground.phase }, { on := 10, ground := Ground.phase }, { on := 11, ground := Ground.phase }, { on := 12, ground := Ground.phase }, { on := 13, ground := Ground.phase }, { on := 14, ground := Ground.phase }, { on := 15, ground := Ground.phase }, { on := 16, ground := Ground.phase }, { on := 17, ground := Ground.phase }], guard := none } : Oper)) (v := ?vb18) rfl (by kernel_rfl) (by kernel_rfl) (by kernel_rfl) (fun _ _ _ h => h) (Or.inl ⟨by rfl, fun w hSw => ?hyb18⟩) (by assumption) ?rb18
  case hyb18 => (try dsimp only at hSw); go_simp; (try with_reducible rfl)
  (try simp only [Act.put, List.setIfInBounds_toArray, List.set_cons_zero, List.set_cons_succ])
  refine wpAnyH_done (by kernel_rfl) ?_ _
  go_wp2_with fail
  go_ret
  have hb0 := HSC.out.st.le
  have bw : Below base w w2.drew := HBW.out.mono HB.out.st.le
  have t23 := HT3.out.mono (T := fun g => ¬ Z g) (fun g _ hn hz => hn (.inl hz))
  have t45 := HT5.out.mono (T := fun g => ¬ Z g) (fun g _ hn hz => hn (.inl hz))
  refine ⟨by simp, _, _, n + 1, M', HSC5.out.sub (fun g hz => .inl hz), HG.out.mono (by omega), by omega, bw.trans (HB3.out.trans HB5.out), ?_⟩
  exact ((Turns.of_below HBW.out).trans t23 (fun _ _ e => e)).trans t45 (fun _ _ e => e)
set_option maxHeartbeats 4000000 in
set_option maxRecDepth 100000 in
theorem do3 {w : World} {base : Nat} {own ownR : Nat → Option Role} {s r : Value} {n N : Nat} {M : Int → List Bk} {Z : Nat → Prop} (B : Sc w base own ownR s r n M M Z) (hg : Good M N) (hN : N ≤ 100000) (hn9 : n < 1000000) (kd : Nat) {pb tg : Int} (hpb : InI pb) (htg : InI tg) (pi now ta tf : Int) (A : Option Addr) (m c : Nat) (hk : kd % 5 = 3) :
    Calls Try.prog 10 #[s, r, .agg #[.int .u8 (kd : Int), .int .i64 pb, .int .i64 pi, .int .i64 tg, .int .u64 now, .slice A m c, .int .u64 ta, .int .u64 tf]] w (DoP w base s r n N Z) := by
  obtain ⟨D, hD, hp, hr⟩ := places_all hg hN tg
  have HB := Lib.hid B; have HG := Lib.hid hg; have HP := Lib.hid hp; have HR := Lib.hid hr
  clear B hg hp hr
  obtain ⟨nd, hnd⟩ : ∃ nd, nd = D.length := ⟨_, rfl⟩
  have HND := Lib.hid hnd; have HD9 := Lib.hid hD
  rw [← hnd] at HP
  clear hnd hD
  have t0 : (((kd : Int) % 5) == 0) = false := by rw [beq_eq_false_iff_ne]; omega
  have t1 : (((kd : Int) % 5) == 1) = false := by rw [beq_eq_false_iff_ne]; omega
  have t2 : (((kd : Int) % 5) == 2) = false := by rw [beq_eq_false_iff_ne]; omega
  have t3 : (((kd : Int) % 5) == 3) = true := by rw [beq_iff_eq]; omega
  clear hk
  go_enter Try.func10, Try.ntmps10
  go_wp2_with fail
  refine (otherP_any pb pi _).mono ?_
  rintro e w1 ⟨rfl, hb1⟩
  have hbf := boxed_facts (x := .int .i64 pb) (y := .int .i64 pi) hb1
  clear hb1
  have HBF := Lib.hid hbf
  clear hbf
  go_upto_region 2 with (fail)
  obtain ⟨hbw, hn5, hn7, h57, hsz⟩ := HBF.out
  generalize hw2 : w1.alloc (.cells #[.int .i64 pb, .int .i64 pi] 79) = w2 at *
  clear hw2
  have hsc : Sc w2.drew base own ownR s r n M M (fun g => Z g ∨ (g = w.heap.size ∨ g = w1.heap.size)) := (HB.out.add hbw (Y := fun g => g = w.heap.size ∨ g = w1.heap.size) (fun g hg => by omega)).drew
  have HBW : Hid (Below w.heap.size w w2.drew) := Lib.hid hbw.drew
  obtain ⟨X5, hX5⟩ : ∃ X, X = w.heap.size := ⟨_, rfl⟩
  obtain ⟨X7, hX7⟩ : ∃ X, X = w1.heap.size := ⟨_, rfl⟩
  rw [← hX5] at hn5 hsc ⊢
  rw [← hX7] at hn7 hsc ⊢
  have HSC := Lib.hid hsc
  have hl5 : X5 < w2.drew.heap.size := (hsc.cl X5 (.inr (.inl rfl))).1
  have hl7 : X7 < w2.drew.heap.size := (hsc.cl X7 (.inr (.inr rfl))).1
  have x50 : w2.cell? ⟨X5, 0, none⟩ = some (.int .u8 (kd : Int)) := cell_row hn5 0
  have x51 : w2.cell? ⟨X5, 1, none⟩ = some (.int .i64 pb) := cell_row hn5 1
  have x52 : w2.cell? ⟨X5, 2, none⟩ = some (.int .i64 pi) := cell_row hn5 2
  have x53 : w2.cell? ⟨X5, 3, none⟩ = some (.int .i64 tg) := cell_row hn5 3
  have x54 : w2.cell? ⟨X5, 4, none⟩ = some (.int .u64 now) := cell_row hn5 4
  have x55 : w2.cell? ⟨X5, 5, none⟩ = some (.slice A m c) := cell_row hn5 5
  have x56 : w2.cell? ⟨X5, 6, none⟩ = some (.int .u64 ta) := cell_row hn5 6
  have x57 : w2.cell? ⟨X5, 7, none⟩ = some (.int .u64 tf) := cell_row hn5 7
  have x70 : w2.cell? ⟨X7, 0, none⟩ = some (.int .i64 pb) := cell_row hn7 0
  have x71 : w2.cell? ⟨X7, 1, none⟩ = some (.int .i64 pi) := cell_row hn7 1
  clear hn5 hn7 hsc hbw hX5 hX7 h57 hsz
  go_upto_region 13 with (fail)
  refine wp_region_held_drew (S := fun w' => w'.cell? ⟨X5, 3, none⟩ = some (.int .i64 tg)) (by kernel_rfl) ?_ (fun hHeld => ?_)
  · exact x53
  refine wpAnyH_take (i := 0) (oi := ({ dst := some 74, op := Op.move (Operand.tmp 0), type := 25, pos := "law.go:37", after := #[], guard := none } : Oper)) (v := ?vc0) rfl (by kernel_rfl) (by kernel_rfl) (by kernel_rfl) (fun _ _ _ h => h) (Or.inl ⟨by rfl, fun w hSw => ?hyc0⟩) (by assumption) ?rc0
  case hyc0 => (try dsimp only at hSw); go_simp; (try with_reducible rfl)
  (try simp only [Act.put, List.setIfInBounds_toArray, List.set_cons_zero, List.set_cons_succ])
  refine wpAnyH_take (i := 1) (oi := ({ dst := some 75, op := Op.fieldAddr 35 (Operand.tmp 5) 2, type := 0, pos := "law.go:37", after := #[], guard := none } : Oper)) (v := ?vc1) rfl (by kernel_rfl) (by kernel_rfl) (by kernel_rfl) (fun _ _ _ h => h) (Or.inl ⟨by rfl, fun w hSw => ?hyc1⟩) (by assumption) ?rc1
  case hyc1 => (try dsimp only at hSw); go_simp; (try with_reducible rfl)
  (try simp only [Act.put, List.setIfInBounds_toArray, List.set_cons_zero, List.set_cons_succ])
  refine wpAnyH_take (i := 2) (oi := ({ dst := some 76, op := Op.load 3 (Operand.tmp 75), type := 3, pos := "law.go:37", after := #[{ on := 1, ground := Ground.data }], guard := none } : Oper)) (v := ?vc2) rfl (by kernel_rfl) (by kernel_rfl) (by kernel_rfl) (fun _ _ _ h => h) (Or.inl ⟨by rfl, fun w hSw => ?hyc2⟩) (by assumption) ?rc2
  case hyc2 => (try dsimp only at hSw); go_simp; (try with_reducible rfl)
  (try simp only [Act.put, List.setIfInBounds_toArray, List.set_cons_zero, List.set_cons_succ])
  refine wpAnyH_take (i := 4) (oi := ({ dst := some 78, op := Op.move (Operand.tmp 1), type := 27, pos := "law.go:37", after := #[], guard := none } : Oper)) (v := ?vc4) rfl (by kernel_rfl) (by kernel_rfl) (by kernel_rfl) (fun _ _ _ h => h) (Or.inl ⟨by rfl, fun w hSw => ?hyc4⟩) (by assumption) ?rc4
  case hyc4 => (try dsimp only at hSw); go_simp; (try with_reducible rfl)
  (try simp only [Act.put, List.setIfInBounds_toArray, List.set_cons_zero, List.set_cons_succ])
  refine wpAnyH_take (i := 5) (oi := ({ dst := some 79, op := Op.fieldAddr 35 (Operand.tmp 5) 2, type := 0, pos := "law.go:37", after := #[], guard := none } : Oper)) (v := ?vc5) rfl (by kernel_rfl) (by kernel_rfl) (by kernel_rfl) (fun _ _ _ h => h) (Or.inl ⟨by rfl, fun w hSw => ?hyc5⟩) (by assumption) ?rc5
  case hyc5 => (try dsimp only at hSw); go_simp; (try with_reducible rfl)
  (try simp only [Act.put, List.setIfInBounds_toArray, List.set_cons_zero, List.set_cons_succ])
  refine wpAnyH_take (i := 6) (oi := ({ dst := some 80, op := Op.load 3 (Operand.tmp 79), type := 3, pos := "law.go:37", after := #[{ on := 5, ground := Ground.data }], guard := none } : Oper)) (v := ?vc6) rfl (by kernel_rfl) (by kernel_rfl) (by kernel_rfl) (fun _ _ _ h => h) (Or.inl ⟨by rfl, fun w hSw => ?hyc6⟩) (by assumption) ?rc6
  case hyc6 => (try dsimp only at hSw); go_simp; (try with_reducible rfl)
  (try simp only [Act.put, List.setIfInBounds_toArray, List.set_cons_zero, List.set_cons_succ])
  refine wpAnyH_ready (rs := [3]) (by kernel_rfl) (by simp) ?_
  refine AllReadyH.cons (o := ({ dst := some 77, op := Op.call { callee := Callee.value (Operand.func 12), args := #[Operand.tmp 74, Operand.tmp 76], argTypes := #[25, 3] }, type := 38, pos := "law.go:37", after := #[{ on := 0, ground := Ground.data }, { on := 2, ground := Ground.data }], guard := none } : Oper)) rfl (fun Kq hKq => ?_) AllReadyH.nil
  go_simp
  (refine (HP.out _ _ _ _ _ HSC.out.st).mono ?_; rintro e w3 ⟨A3, rfl, hr3, hb3⟩; have HSC3 := Lib.hid (HSC.out.new hb3); have HR3 := Lib.hid hr3; have HB3 := Lib.hid hb3; clear hr3)
  refine hKq.out _ _ ?_ (fun hHeld => ?_)
  · exact (hb3.cell (p := ⟨X5, 3, none⟩) hl5).trans hHeld
  clear hKq Kq
  (try simp only [Act.put, List.setIfInBounds_toArray, List.set_cons_zero, List.set_cons_succ])
  refine wpAnyH_ready (rs := [7]) (by kernel_rfl) (by simp) ?_
  refine AllReadyH.cons (o := ({ dst := some 81, op := Op.call { callee := Callee.value (Operand.func 13), args := #[Operand.tmp 78, Operand.tmp 80], argTypes := #[27, 3] }, type := 40, pos := "law.go:37", after := #[{ on := 4, ground := Ground.data }, { on := 6, ground := Ground.data }, { on := 3, ground := Ground.chain }], guard := none } : Oper)) rfl (fun Kq hKq => ?_) AllReadyH.nil
  go_simp
  (have l35 := (HSC3.out.cl X5 (.inr (.inl rfl))).1; refine (HR.out _ _ _ _ HSC3.out.rt).mono ?_; rintro e w4 ⟨s4, rfl, hr4, hb4⟩; obtain ⟨A4, c4, hse, hc4, hc49⟩ := hr4.shape; rw [← HND.out] at hse hc4; subst hse; have HSC4 := Lib.hid (HSC3.out.new hb4); have HR4 := Lib.hid hr4; have HB4 := Lib.hid hb4; clear hr4)
  refine hKq.out _ _ ?_ (fun hHeld => ?_)
  · exact (hb4.cell (p := ⟨X5, 3, none⟩) l35).trans hHeld
  clear hKq Kq
  (try simp only [Act.put, List.setIfInBounds_toArray, List.set_cons_zero, List.set_cons_succ])
  refine wpAnyH_ready (rs := [8]) (by kernel_rfl) (by simp) ?_
  refine AllReadyH.cons (o := ({ dst := some 82, op := Op.call { callee := Callee.value (Operand.func 11), args := #[Operand.tmp 77, Operand.tmp 81], argTypes := #[38, 40] }, type := 4, pos := "law.go:37", after := #[{ on := 3, ground := Ground.data }, { on := 7, ground := Ground.data }, { on := 7, ground := Ground.chain }], guard := none } : Oper)) rfl (fun Kq hKq => ?_) AllReadyH.nil
  go_simp
  (have l45 := (HSC4.out.cl X5 (.inr (.inl rfl))).1; rw [HND.out] at HR4 ⊢; have hq3 := (HR3.out.new HB4.out); rw [HND.out] at hq3; refine (samePlaces_any c4 hq3.rd HR4.out.rd (Nat.le_refl _) (Nat.le_refl _) HD9.out).mono ?_; rintro e w5 ⟨rfl, hb5⟩; have HSC5 := Lib.hid (HSC4.out.new hb5); have HB5 := Lib.hid hb5)
  refine hKq.out _ _ ?_ (fun hHeld => ?_)
  · exact (hb5.cell (p := ⟨X5, 3, none⟩) l45).trans hHeld
  clear hKq Kq
  (try simp only [Act.put, List.setIfInBounds_toArray, List.set_cons_zero, List.set_cons_succ])
  refine wpAnyH_take (i := 9) (oi := ({ dst := some 6, op := Op.assign (Operand.tmp 82), type := 4, pos := "law.go:37", after := #[{ on := 8, ground := Ground.data }, { on := 8, ground := Ground.chain }, { on := 0, ground := Ground.phase }, { on := 1, ground := Ground.phase }, { on := 2, ground := Ground.phase }, { on := 3, ground := Ground.phase }, { on := 4, ground := Ground.phase }, { on := 5, ground := Ground.phase }, { on := 6, ground := Ground.phase }, { on := 7, ground := Ground.phase }, { on := 8, ground := Ground.phase }], guard := none } : Oper)) (v := ?vc9) rfl (by kernel_rfl) (by kernel_rfl) (by kernel_rfl) (fun _ _ _ h => h) (Or.inl ⟨by rfl, fun w hSw => ?hyc9⟩) (by assumption) ?rc9
  case hyc9 => (try dsimp only at hSw); go_simp; (try with_reducible rfl)
  (try simp only [Act.put, List.setIfInBounds_toArray, List.set_cons_zero, List.set_cons_succ])
  refine wpAnyH_done (by kernel_rfl) ?_ _
  go_wp2_with fail
  go_ret
  have hb0 := HSC.out.st.le
  have s3 := HSC3.out.st.le; have s4 := HSC4.out.st.le
  have bw : Below base w w2.drew := HBW.out.mono HB.out.st.le
  refine ⟨rfl, _, _, n, M, HSC5.out.sub (fun g hz => .inl hz), HG.out.mono (by omega), by omega, bw.trans ((HB3.out.mono hb0).trans ((HB4.out.mono s3).trans (HB5.out.mono s4))), ?_⟩
  exact (((Turns.of_below HBW.out).trans (T := fun g => ¬ Z g) (Turns.of_below HB3.out) (fun _ _ e => e)).trans (T := fun g => ¬ Z g) (Turns.of_below HB4.out) (fun _ _ e => e)).trans (T := fun g => ¬ Z g) (Turns.of_below HB5.out) (fun _ _ e => e)
end Go.Proofs.Ytcdoklgjicfkmaa
