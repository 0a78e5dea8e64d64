/- An act done to both: kinds 0 and 4. -/
import Derived.Test.YtcdoklgjicfkmaaV4
import Derived.Test.YtcdoklgjicfkmaaA4
namespace Go.Proofs.Ytcdoklgjicfkmaa
open Go.RowKit

set_option maxHeartbeats 4000000 in
set_option maxRecDepth 100000 in
theorem do0 {w : World} {base : Nat} {own ownR : Nat → Option Role} {s r : Value} {n N : Nat} {M : Int → List Bk} {Z : Nat → Prop} (B : Sc w base own ownR s r n M M Z) (hg : Good M N) (hN : N ≤ 100000) (hn9 : n < 1000000) (kd : Nat) {pb tg : Int} (hpb : InI pb) (htg : InI tg) (pi now ta tf : Int) (A : Option Addr) (m c : Nat) {b0 : Nat} {D : List Ent} (hr : Rd w b0 A (flat D)) (hb0 : b0 ≤ base) (hm : D.length = m) (hkeys : Keys D) (hm60 : m ≤ 60) (hk : kd % 5 = 0) :
    Calls Try.prog 10 #[s, r, .agg #[.int .u8 (kd : Int), .int .i64 pb, .int .i64 pi, .int .i64 tg, .int .u64 now, .slice A m c, .int .u64 ta, .int .u64 tf]] w (DoP w base s r n N Z) := by
  obtain ⟨a, M', hg', hp, hrr⟩ := put_all hg hpb pi hkeys (by omega)
  rw [hm] at hp hrr
  have HB := Lib.hid B; have HG := Lib.hid hg'; have HP := Lib.hid hp; have HR := Lib.hid hrr; have HRD := Lib.hid hr; have HM := Lib.hid hm
  have hbase := B.st.le
  clear B hg hg' hp hrr hr hm hkeys
  have t0 : (((kd : Int) % 5) == 0) = true := by rw [beq_iff_eq]; omega
  clear hk
  go_enter Try.func10, Try.ntmps10
  go_wp2_with fail
  refine (otherP_any pb pi _).mono ?_
  rintro e w1 ⟨rfl, hb1⟩
  have hbf := boxed_facts (x := .int .i64 pb) (y := .int .i64 pi) hb1
  clear hb1
  have HBF := Lib.hid hbf
  clear hbf
  go_upto_region 2 with (fail)
  obtain ⟨hbw, hn5, hn7, h57, hsz⟩ := HBF.out
  generalize hw2 : w1.alloc (.cells #[.int .i64 pb, .int .i64 pi] 79) = w2 at *
  clear hw2
  have hsc : Sc w2 base own ownR s r n M M (fun g => Z g ∨ (g = w.heap.size ∨ g = w1.heap.size)) := (HB.out.add hbw (Y := fun g => g = w.heap.size ∨ g = w1.heap.size) (fun g hg => by omega))
  have HBW : Hid (Below w.heap.size w w2) := Lib.hid hbw
  obtain ⟨X5, hX5⟩ : ∃ X, X = w.heap.size := ⟨_, rfl⟩
  obtain ⟨X7, hX7⟩ : ∃ X, X = w1.heap.size := ⟨_, rfl⟩
  rw [← hX5] at hn5 hsc ⊢
  rw [← hX7] at hn7 hsc ⊢
  have HSC := Lib.hid hsc
  have hl5 : X5 < w2.heap.size := (hsc.cl X5 (.inr (.inl rfl))).1
  have hl7 : X7 < w2.heap.size := (hsc.cl X7 (.inr (.inr rfl))).1
  have x50 : w2.cell? ⟨X5, 0, none⟩ = some (.int .u8 (kd : Int)) := cell_row hn5 0
  have x51 : w2.cell? ⟨X5, 1, none⟩ = some (.int .i64 pb) := cell_row hn5 1
  have x52 : w2.cell? ⟨X5, 2, none⟩ = some (.int .i64 pi) := cell_row hn5 2
  have x53 : w2.cell? ⟨X5, 3, none⟩ = some (.int .i64 tg) := cell_row hn5 3
  have x54 : w2.cell? ⟨X5, 4, none⟩ = some (.int .u64 now) := cell_row hn5 4
  have x55 : w2.cell? ⟨X5, 5, none⟩ = some (.slice A m c) := cell_row hn5 5
  have x56 : w2.cell? ⟨X5, 6, none⟩ = some (.int .u64 ta) := cell_row hn5 6
  have x57 : w2.cell? ⟨X5, 7, none⟩ = some (.int .u64 tf) := cell_row hn5 7
  have x70 : w2.cell? ⟨X7, 0, none⟩ = some (.int .i64 pb) := cell_row hn7 0
  have x71 : w2.cell? ⟨X7, 1, none⟩ = some (.int .i64 pi) := cell_row hn7 1
  clear hn5 hn7 hsc hbw hX5 hX7 h57 hsz
  go_upto_region 4 with (fail)
  have HRD2 : Hid (Rd w2 b0 A (flat D)) := Lib.hid (HRD.out.below (HBW.out : Below w.heap.size w w2) (by omega))
  go_upto_region 5 with (at_builtin; refine wpList_append_row layE rfl _ _ rfl rfl (row_nil w2 w2.heap.size 3) (fun u hu => by cases hu) (Nat.le_refl _) c rfl HRD2.out (by rw [flat_len, HM.out]) (flat_one' D) (by omega) ?_; intro v3 w3 hr3 ht3 ho3; (obtain ⟨A3, c3, hse, hc3, hc39⟩ := hr3.shape); (rw [Nat.zero_add] at hse hc3); subst hse; (have hb3 : Below w2.heap.size w2 w3 := ht3.below (Nat.le_refl _) (fun k hk e => by change (none : Option Nat) = some k at e; cases e)); (have y51 := (hb3.cell (p := ⟨X5, 1, none⟩) hl5).trans x51); (have y52 := (hb3.cell (p := ⟨X5, 2, none⟩) hl5).trans x52); (have y55 := (hb3.cell (p := ⟨X5, 5, none⟩) hl5).trans x55); (have y70 := (hb3.cell (p := ⟨X7, 0, none⟩) hl7).trans x70); (have y71 := (hb3.cell (p := ⟨X7, 1, none⟩) hl7).trans x71); clear x50 x51 x52 x53 x54 x55 x56 x57 x70 x71 ht3 ho3)
  have hr3' : RowE w3 w2.heap.size (.slice A3 m c3) D := by
    have := hr3
    rw [Nat.zero_add, List.nil_append] at this
    rw [← HM.out] at this ⊢
    exact this
  have hlq : ∀ g, (Value.slice A3 m c3).ownBlock = some g → w2.heap.size ≤ g ∧ g < w3.heap.size := fun g e => hr3'.lt g e
  have HSC3 := Lib.hid ((HSC.out : Sc w2 base own ownR s r n M M _).add hb3 (Y := fun g => (Value.slice A3 m c3).ownBlock = some g) hlq)
  have HR3 := Lib.hid hr3'; have HB3 := Lib.hid hb3; have HLQ := Lib.hid hlq
  have hrd3 : Rd w3 w3.heap.size A3 (flat D) := by
    have hx := hr3'
    unfold RowE at hx
    rw [HM.out] at hx
    exact hx.rd
  clear hr3 hr3' hb3 hlq
  go_wp2_with fail
  refine (HP.out w3 base own s n w3.heap.size A3 c3 HSC3.out.st hrd3 (Nat.le_refl _)).mono ?_
  rintro e w4 ⟨rfl, own4, hs4, ht4, hf4⟩
  obtain ⟨sc4, t4, b4⟩ := HSC3.out.one hs4 ht4 hf4
  have hr4 := HR3.out.keep t4 (fun g e hn => hn (.inr e))
  have y55 := HSC3.out.keepC t4 (.inl (.inr (.inl rfl))) y55
  have y70 := HSC3.out.keepC t4 (.inl (.inr (.inr rfl))) y70
  have y71 := HSC3.out.keepC t4 (.inl (.inr (.inr rfl))) y71
  have HSC4 := Lib.hid sc4; have HT4 := Lib.hid t4; have HB4 := Lib.hid b4
  have hsp : Calls Try.prog 30 #[.slice A3 m c3] w4 fun e w' => e = .returned (.tuple #[]) ∧ Turns (fun k => (Value.slice A3 m c3).ownBlock = some k) w4 w' := by
    have hx := hr4
    unfold RowE at hx
    rw [HM.out] at hx
    exact spoil_any hx
  have HSP := Lib.hid hsp
  clear hs4 ht4 hf4 sc4 t4 b4 hr4 hrd3 hsp y51 y52
  go_wp2_with fail
  refine HSP.out.mono ?_
  rintro e w5 ⟨rfl, ht5⟩
  have hX5 : X5 < w4.heap.size ∧ ¬ (Value.slice A3 m c3).ownBlock = some X5 := ⟨(HSC4.out.cl X5 (.inl (.inr (.inl rfl)))).1, fun e => by have := HLQ.out X5 e; have : X5 < w2.heap.size := hl5; omega⟩
  have hX7 : X7 < w4.heap.size ∧ ¬ (Value.slice A3 m c3).ownBlock = some X7 := ⟨(HSC4.out.cl X7 (.inl (.inr (.inr rfl)))).1, fun e => by have := HLQ.out X7 e; have : X7 < w2.heap.size := hl7; omega⟩
  have z55 := (ht5.cell (g := X5) (o := 5) hX5.1 hX5.2).trans y55
  have z70 := (ht5.cell (g := X7) (o := 0) hX7.1 hX7.2).trans y70
  have z71 := (ht5.cell (g := X7) (o := 1) hX7.1 hX7.2).trans y71
  have sc5 := HSC4.out.turn ht5 (fun g hm e => (HSC4.out.cl g (.inr e)).2.1 hm) (fun g hm e => (HSC4.out.cl g (.inr e)).2.2 hm)
  have hbw2 : base ≤ w2.heap.size := HSC.out.st.le
  have b25 : Below base w2 w5 := (HB3.out.mono hbw2).trans (HB4.out.trans (ht5.below HSC4.out.st.le (fun k hk e => by have := HLQ.out k e; omega)))
  have hrd5 : Rd w5.drew b0 A (flat D) := HRD2.out.below (b25.drew) hb0
  have HSC5 : Hid (Sc w5.drew base _ ownR s r n _ M _) := Lib.hid sc5.drew
  have HT5 := Lib.hid ht5; have HB25 := Lib.hid b25; have HRD5 := Lib.hid hrd5
  have l55 := (HSC5.out.cl X5 (.inl (.inr (.inl rfl)))).1
  have l57 := (HSC5.out.cl X7 (.inl (.inr (.inr rfl)))).1
  clear y55 y70 y71 hX5 hX7 sc5 b25 hrd5
  go_upto_region 7 with (fail)
  refine wp_region_held_drew (S := fun w' => w'.cell? ⟨X5, 5, none⟩ = some (.slice A m c) ∧ w'.cell? ⟨X7, 0, none⟩ = some (.int .i64 pb) ∧ w'.cell? ⟨X7, 1, none⟩ = some (.int .i64 pi)) (by kernel_rfl) ?_ (fun hHeld => ?_)
  · exact ⟨z55, z70, z71⟩
  refine wpAnyH_take (i := 0) (oi := ({ dst := some 29, op := Op.move (Operand.tmp 9), type := 4, pos := "law.go:31", after := #[], guard := none } : Oper)) (v := ?va0) rfl (by kernel_rfl) (by kernel_rfl) (by kernel_rfl) (fun _ _ _ h => h) (Or.inl ⟨by rfl, fun w hSw => ?hya0⟩) (by assumption) ?ra0
  case hya0 => (try dsimp only at hSw); go_simp; (try with_reducible rfl)
  (try simp only [Act.put, List.setIfInBounds_toArray, List.set_cons_zero, List.set_cons_succ])
  refine wpAnyH_take (i := 1) (oi := ({ dst := some 30, op := Op.move (Operand.tmp 1), type := 27, pos := "law.go:31", after := #[], guard := none } : Oper)) (v := ?va1) rfl (by kernel_rfl) (by kernel_rfl) (by kernel_rfl) (fun _ _ _ h => h) (Or.inl ⟨by rfl, fun w hSw => ?hya1⟩) (by assumption) ?ra1
  case hya1 => (try dsimp only at hSw); go_simp; (try with_reducible rfl)
  (try simp only [Act.put, List.setIfInBounds_toArray, List.set_cons_zero, List.set_cons_succ])
  refine wpAnyH_take (i := 2) (oi := ({ dst := some 31, op := Op.load 79 (Operand.tmp 7), type := 79, pos := "law.go:31", after := #[], guard := none } : Oper)) (v := ?va2) rfl (by kernel_rfl) (by kernel_rfl) (by kernel_rfl) (fun _ _ _ h => h) (Or.inl ⟨by rfl, fun w hSw => ?hya2⟩) (by assumption) ?ra2
  case hya2 => (try dsimp only at hSw); go_simp; (try with_reducible rfl)
  (try simp only [Act.put, List.setIfInBounds_toArray, List.set_cons_zero, List.set_cons_succ])
  refine wpAnyH_take (i := 3) (oi := ({ dst := some 32, op := Op.fieldAddr 35 (Operand.tmp 5) 4, type := 0, pos := "law.go:31", after := #[], guard := none } : Oper)) (v := ?va3) rfl (by kernel_rfl) (by kernel_rfl) (by kernel_rfl) (fun _ _ _ h => h) (Or.inl ⟨by rfl, fun w hSw => ?hya3⟩) (by assumption) ?ra3
  case hya3 => (try dsimp only at hSw); go_simp; (try with_reducible rfl)
  (try simp only [Act.put, List.setIfInBounds_toArray, List.set_cons_zero, List.set_cons_succ])
  refine wpAnyH_take (i := 4) (oi := ({ dst := some 33, op := Op.load 31 (Operand.tmp 32), type := 31, pos := "law.go:31", after := #[{ on := 3, ground := Ground.data }], guard := none } : Oper)) (v := ?va4) rfl (by kernel_rfl) (by kernel_rfl) (by kernel_rfl) (fun _ _ _ h => h) (Or.inl ⟨by rfl, fun w hSw => ?hya4⟩) (by assumption) ?ra4
  case hya4 => (try dsimp only at hSw); go_simp; (try with_reducible rfl)
  (try simp only [Act.put, List.setIfInBounds_toArray, List.set_cons_zero, List.set_cons_succ])
  refine wpAnyH_ready (rs := [5]) (by kernel_rfl) (by simp) ?_
  refine AllReadyH.cons (o := ({ dst := some 34, op := Op.call { callee := Callee.value (Operand.func 32), args := #[Operand.tmp 33], argTypes := #[31] }, type := 83, pos := "law.go:31", after := #[{ on := 4, ground := Ground.data }], guard := none } : Oper)) rfl (fun Kq hKq => ?_) AllReadyH.nil
  go_simp
  (have hcall := others_any c HRD5.out (Nat.le_trans hb0 HSC5.out.st.le) (by rw [HM.out]; omega); rw [HM.out] at hcall; refine hcall.mono ?_; rintro e w6 ⟨s6, rfl, hr6, hnil6, hb6⟩; obtain ⟨A6, c6, hse, hc6, hc69⟩ := hr6.shape; rw [HM.out] at hse hc6; subst hse; have HSC6 := Lib.hid (HSC5.out.new hb6); have HR6 := Lib.hid hr6; have HB6 := Lib.hid hb6; clear hr6 hnil6 hcall)
  refine hKq.out _ _ ?_ (fun hHeld => ?_)
  · exact ⟨(hb6.cell (p := ⟨X5, 5, none⟩) l55).trans hHeld.1, (hb6.cell (p := ⟨X7, 0, none⟩) l57).trans hHeld.2.1, (hb6.cell (p := ⟨X7, 1, none⟩) l57).trans hHeld.2.2⟩
  clear hKq Kq
  (try simp only [Act.put, List.setIfInBounds_toArray, List.set_cons_zero, List.set_cons_succ])
  refine wpAnyH_ready (rs := [6]) (by kernel_rfl) (by simp) ?_
  refine AllReadyH.cons (o := ({ dst := some 35, op := Op.call { callee := Callee.value (Operand.func 31), args := #[Operand.tmp 30, Operand.tmp 31, Operand.tmp 34], argTypes := #[27, 79, 83] }, type := 4, pos := "law.go:31", after := #[{ on := 1, ground := Ground.data }, { on := 2, ground := Ground.data }, { on := 5, ground := Ground.data }, { on := 5, ground := Ground.chain }], guard := none } : Oper)) rfl (fun Kq hKq => ?_) AllReadyH.nil
  go_simp
  (have hr6 := HR6.out; rw [← HM.out] at hr6; refine (HR.out w6 base ownR r w6.heap.size A6 c6 HSC6.out.rt hr6.rd (Nat.le_refl _)).mono ?_; rintro e w7 ⟨rfl, own7, hs7, ht7, hf7⟩; obtain ⟨sc7, t7, b7⟩ := HSC6.out.two hs7 ht7 hf7; have HSC7 := Lib.hid sc7; have HT7 := Lib.hid t7; have HB7 := Lib.hid b7; clear hs7 ht7 hf7 sc7 b7 hr6)
  refine hKq.out _ _ ?_ (fun hHeld => ?_)
  · exact ⟨HSC6.out.keepC t7 (.inl (.inr (.inl rfl))) hHeld.1, HSC6.out.keepC t7 (.inl (.inr (.inr rfl))) hHeld.2.1, HSC6.out.keepC t7 (.inl (.inr (.inr rfl))) hHeld.2.2⟩
  clear hKq Kq
  (try simp only [Act.put, List.setIfInBounds_toArray, List.set_cons_zero, List.set_cons_succ])
  refine wpAnyH_take (i := 7) (oi := ({ dst := some 36, op := Op.binOp BinOp.eql 4 (Operand.tmp 29) (Operand.tmp 35) 4, type := 4, pos := "law.go:31", after := #[{ on := 0, ground := Ground.data }, { on := 6, ground := Ground.data }], guard := none } : Oper)) (v := ?va7) rfl (by kernel_rfl) (by kernel_rfl) (by kernel_rfl) (fun _ _ _ h => h) (Or.inl ⟨by rfl, fun w hSw => ?hya7⟩) (by assumption) ?ra7
  case hya7 => (try dsimp only at hSw); go_simp; (try with_reducible rfl)
  (try simp only [Act.put, List.setIfInBounds_toArray, List.set_cons_zero, List.set_cons_succ])
  refine wpAnyH_take (i := 8) (oi := ({ dst := some 6, op := Op.assign (Operand.tmp 36), type := 4, pos := "law.go:31", after := #[{ on := 7, ground := Ground.data }, { on := 6, ground := Ground.chain }, { on := 0, ground := Ground.phase }, { on := 1, ground := Ground.phase }, { on := 2, ground := Ground.phase }, { on := 3, ground := Ground.phase }, { on := 4, ground := Ground.phase }, { on := 5, ground := Ground.phase }, { on := 6, ground := Ground.phase }, { on := 7, ground := Ground.phase }], guard := none } : Oper)) (v := ?va8) rfl (by kernel_rfl) (by kernel_rfl) (by kernel_rfl) (fun _ _ _ h => h) (Or.inl ⟨by rfl, fun w hSw => ?hya8⟩) (by assumption) ?ra8
  case hya8 => (try dsimp only at hSw); go_simp; (try with_reducible rfl)
  (try simp only [Act.put, List.setIfInBounds_toArray, List.set_cons_zero, List.set_cons_succ])
  refine wpAnyH_done (by kernel_rfl) ?_ _
  go_wp2_with fail
  go_ret
  have s5 := HSC5.out.st.le
  have bw : Below base w w2 := (HBW.out : Below w.heap.size w w2).mono HB.out.st.le
  have t23 : Turns (fun g => ¬ Z g) w2 w3 := Turns.of_below HB3.out
  have t34 := HT4.out.mono (T := fun g => ¬ Z g) (fun g _ hn hz => hn (.inl (.inl hz)))
  have t45 : Turns (fun g => ¬ Z g) w4 w5.drew := (HT5.out.mono (T := fun g => ¬ Z g) (fun g _ e hz => by have := HLQ.out g e; have := ((HSC.out : Sc w2 base own ownR s r n M M _).cl g (.inl hz)).1; omega)).drew
  have t56 : Turns (fun g => ¬ Z g) w5.drew w6 := Turns.of_below HB6.out
  have t67 := HT7.out.mono (T := fun g => ¬ Z g) (fun g _ hn hz => hn (.inl (.inl hz)))
  refine ⟨by simp, _, _, n, M', HSC7.out.sub (fun g hz => .inl (.inl hz)), HG.out, by omega, bw.trans (HB25.out.drew.trans ((HB6.out.mono s5).trans HB7.out)), ?_⟩
  exact ((((Turns.of_below (HBW.out : Below w.heap.size w w2)).trans t23 (fun _ _ e => e)).trans t34 (fun _ _ e => e)).trans t45 (fun _ _ e => e)).trans (t56.trans t67 (fun _ _ e => e)) (fun _ _ e => e)
set_option maxHeartbeats 4000000 in
set_option maxRecDepth 100000 in
theorem do4 {w : World} {base : Nat} {own ownR : Nat → Option Role} {s r : Value} {n N : Nat} {M : Int → List Bk} {Z : Nat → Prop} (B : Sc w base own ownR s r n M M Z) (hg : Good M N) (hN : N ≤ 100000) (hn9 : n < 1000000) (kd : Nat) {pb tg : Int} (hpb : InI pb) (htg : InI tg) (pi now ta tf : Int) (A : Option Addr) (m c : Nat) (hk : kd % 5 = 4) :
    Calls Try.prog 10 #[s, r, .agg #[.int .u8 (kd : Int), .int .i64 pb, .int .i64 pi, .int .i64 tg, .int .u64 now, .slice A m c, .int .u64 ta, .int .u64 tf]] w (DoP w base s r n N Z) := by
  obtain ⟨D, hD, hq, hrq⟩ := queue_all hg hN hpb pi
  obtain ⟨xa, xf, htm, hrtm⟩ := timer_all M hpb pi
  obtain ⟨hv, hhs, hrhs⟩ := has_all M htg
  have HB := Lib.hid B; have HG := Lib.hid hg; have HQ := Lib.hid hq; have HRQ := Lib.hid hrq; have HTM := Lib.hid htm; have HRTM := Lib.hid hrtm; have HHS := Lib.hid hhs; have HRHS := Lib.hid hrhs
  clear B hg hq hrq htm hrtm hhs hrhs
  obtain ⟨nd, hnd⟩ : ∃ nd, nd = D.length := ⟨_, rfl⟩
  have HND := Lib.hid hnd; have HD9 := Lib.hid hD
  rw [← hnd] at HQ HRQ
  clear hnd hD
  have hne := fun W => neqT xa xf xa xf W
  simp only [and_self, decide_true, Bool.not_true] at hne
  have t0 : (((kd : Int) % 5) == 0) = false := by rw [beq_eq_false_iff_ne]; omega
  have t1 : (((kd : Int) % 5) == 1) = false := by rw [beq_eq_false_iff_ne]; omega
  have t2 : (((kd : Int) % 5) == 2) = false := by rw [beq_eq_false_iff_ne]; omega
  have t3 : (((kd : Int) % 5) == 3) = false := by rw [beq_eq_false_iff_ne]; omega
  clear hk
  go_enter Try.func10, Try.ntmps10
  go_wp2_with fail
  refine (otherP_any pb pi _).mono ?_
  rintro e w1 ⟨rfl, hb1⟩
  have hbf := boxed_facts (x := .int .i64 pb) (y := .int .i64 pi) hb1
  clear hb1
  have HBF := Lib.hid hbf
  clear hbf
  go_upto_region 2 with (fail)
  obtain ⟨hbw, hn5, hn7, h57, hsz⟩ := HBF.out
  generalize hw2 : w1.alloc (.cells #[.int .i64 pb, .int .i64 pi] 79) = w2 at *
  clear hw2
  have hsc : Sc w2 base own ownR s r n M M (fun g => Z g ∨ (g = w.heap.size ∨ g = w1.heap.size)) := (HB.out.add hbw (Y := fun g => g = w.heap.size ∨ g = w1.heap.size) (fun g hg => by omega))
  have HBW : Hid (Below w.heap.size w w2) := Lib.hid hbw
  obtain ⟨X5, hX5⟩ : ∃ X, X = w.heap.size := ⟨_, rfl⟩
  obtain ⟨X7, hX7⟩ : ∃ X, X = w1.heap.size := ⟨_, rfl⟩
  rw [← hX5] at hn5 hsc ⊢
  rw [← hX7] at hn7 hsc ⊢
  have HSC := Lib.hid hsc
  have hl5 : X5 < w2.heap.size := (hsc.cl X5 (.inr (.inl rfl))).1
  have hl7 : X7 < w2.heap.size := (hsc.cl X7 (.inr (.inr rfl))).1
  have x50 : w2.cell? ⟨X5, 0, none⟩ = some (.int .u8 (kd : Int)) := cell_row hn5 0
  have x51 : w2.cell? ⟨X5, 1, none⟩ = some (.int .i64 pb) := cell_row hn5 1
  have x52 : w2.cell? ⟨X5, 2, none⟩ = some (.int .i64 pi) := cell_row hn5 2
  have x53 : w2.cell? ⟨X5, 3, none⟩ = some (.int .i64 tg) := cell_row hn5 3
  have x54 : w2.cell? ⟨X5, 4, none⟩ = some (.int .u64 now) := cell_row hn5 4
  have x55 : w2.cell? ⟨X5, 5, none⟩ = some (.slice A m c) := cell_row hn5 5
  have x56 : w2.cell? ⟨X5, 6, none⟩ = some (.int .u64 ta) := cell_row hn5 6
  have x57 : w2.cell? ⟨X5, 7, none⟩ = some (.int .u64 tf) := cell_row hn5 7
  have x70 : w2.cell? ⟨X7, 0, none⟩ = some (.int .i64 pb) := cell_row hn7 0
  have x71 : w2.cell? ⟨X7, 1, none⟩ = some (.int .i64 pi) := cell_row hn7 1
  clear hn5 hn7 hsc hbw hX5 hX7 h57 hsz
  go_upto_region 14 with (fail)
  go_wp2_with fail
  refine (HQ.out w2 base own s n HSC.out.st).mono ?_
  rintro e w3 ⟨A3, rfl, hr3, hb3⟩
  have y51 := (hb3.cell (p := ⟨X5, 1, none⟩) hl5).trans x51
  have y52 := (hb3.cell (p := ⟨X5, 2, none⟩) hl5).trans x52
  have y53 := (hb3.cell (p := ⟨X5, 3, none⟩) hl5).trans x53
  have y70 := (hb3.cell (p := ⟨X7, 0, none⟩) hl7).trans x70
  have y71 := (hb3.cell (p := ⟨X7, 1, none⟩) hl7).trans x71
  have hlq : ∀ g, (Value.slice A3 nd nd).ownBlock = some g → w2.heap.size ≤ g ∧ g < w3.heap.size := fun g e => hr3.lt g e
  have HSC3 : Hid (Sc w3.drew base own ownR s r n M M _) := Lib.hid (((HSC.out : Sc w2 base own ownR s r n M M _).add hb3 (Y := fun g => (Value.slice A3 nd nd).ownBlock = some g) hlq).drew)
  have HR3 : Hid (RowE w3.drew w2.heap.size (.slice A3 nd nd) D) := Lib.hid hr3.drew
  have HB3 : Hid (Below w2.heap.size w2 w3.drew) := Lib.hid hb3.drew
  have HLQ := Lib.hid hlq
  clear x50 x51 x52 x53 x54 x55 x56 x57 x70 x71 hr3 hb3 hlq
  go_upto_region 15 with (fail)
  refine wp_region_held_drew (S := fun w' => w'.cell? ⟨X5, 1, none⟩ = some (.int .i64 pb) ∧ w'.cell? ⟨X5, 2, none⟩ = some (.int .i64 pi) ∧ w'.cell? ⟨X5, 3, none⟩ = some (.int .i64 tg) ∧ w'.cell? ⟨X7, 0, none⟩ = some (.int .i64 pb) ∧ w'.cell? ⟨X7, 1, none⟩ = some (.int .i64 pi)) (by kernel_rfl) ?_ (fun hHeld => ?_)
  · exact ⟨y51, y52, y53, y70, y71⟩
  refine wpAnyH_take (i := 0) (oi := ({ dst := some 87, op := Op.move (Operand.tmp 10), type := 31, pos := "law.go:40", after := #[], guard := none } : Oper)) (v := ?vb0) rfl (by kernel_rfl) (by kernel_rfl) (by kernel_rfl) (fun _ _ _ h => h) (Or.inl ⟨by rfl, fun w hSw => ?hyb0⟩) (by assumption) ?rb0
  case hyb0 => (try dsimp only at hSw); go_simp; (try with_reducible rfl)
  (try simp only [Act.put, List.setIfInBounds_toArray, List.set_cons_zero, List.set_cons_succ])
  refine wpAnyH_take (i := 1) (oi := ({ dst := some 88, op := Op.move (Operand.tmp 1), type := 27, pos := "law.go:40", after := #[], guard := none } : Oper)) (v := ?vb1) rfl (by kernel_rfl) (by kernel_rfl) (by kernel_rfl) (fun _ _ _ h => h) (Or.inl ⟨by rfl, fun w hSw => ?hyb1⟩) (by assumption) ?rb1
  case hyb1 => (try dsimp only at hSw); go_simp; (try with_reducible rfl)
  (try simp only [Act.put, List.setIfInBounds_toArray, List.set_cons_zero, List.set_cons_succ])
  refine wpAnyH_take (i := 2) (oi := ({ dst := some 89, op := Op.load 79 (Operand.tmp 7), type := 79, pos := "law.go:40", after := #[], guard := none } : Oper)) (v := ?vb2) rfl (by kernel_rfl) (by kernel_rfl) (by kernel_rfl) (fun _ _ _ h => h) (Or.inl ⟨by rfl, fun w hSw => ?hyb2⟩) (by assumption) ?rb2
  case hyb2 => (try dsimp only at hSw); go_simp; (try with_reducible rfl)
  (try simp only [Act.put, List.setIfInBounds_toArray, List.set_cons_zero, List.set_cons_succ])
  refine wpAnyH_ready (rs := [3]) (by kernel_rfl) (by simp) ?_
  refine AllReadyH.cons (o := ({ dst := some 90, op := Op.call { callee := Callee.value (Operand.func 37), args := #[Operand.tmp 88, Operand.tmp 89], argTypes := #[27, 79] }, type := 83, pos := "law.go:40", after := #[{ on := 1, ground := Ground.data }, { on := 2, ground := Ground.data }], guard := none } : Oper)) rfl (fun Kq hKq => ?_) AllReadyH.nil
  go_simp
  (have l5 := (HSC3.out.cl X5 (.inl (.inr (.inl rfl)))).1; have l7 := (HSC3.out.cl X7 (.inl (.inr (.inr rfl)))).1; refine (HRQ.out _ base ownR r HSC3.out.rt).mono ?_; rintro e w4 ⟨A4, c4, rfl, hc4, hc49, hr4, hb4⟩; have HR4 := Lib.hid hr4; clear hr4; have HSC4 := Lib.hid (HSC3.out.new hb4); have HB4 := Lib.hid hb4)
  refine hKq.out _ _ ?_ (fun hHeld => ?_)
  · exact ⟨(hb4.cell (p := ⟨X5, 1, none⟩) l5).trans hHeld.1, (hb4.cell (p := ⟨X5, 2, none⟩) l5).trans hHeld.2.1, (hb4.cell (p := ⟨X5, 3, none⟩) l5).trans hHeld.2.2.1, (hb4.cell (p := ⟨X7, 0, none⟩) l7).trans hHeld.2.2.2.1, (hb4.cell (p := ⟨X7, 1, none⟩) l7).trans hHeld.2.2.2.2⟩
  clear hKq Kq
  (try simp only [Act.put, List.setIfInBounds_toArray, List.set_cons_zero, List.set_cons_succ])
  refine wpAnyH_ready (rs := [4]) (by kernel_rfl) (by simp) ?_
  refine AllReadyH.cons (o := ({ dst := some 91, op := Op.call { callee := Callee.value (Operand.func 36), args := #[Operand.tmp 87, Operand.tmp 90], argTypes := #[31, 83] }, type := 4, pos := "law.go:40", after := #[{ on := 0, ground := Ground.data }, { on := 3, ground := Ground.data }, { on := 3, ground := Ground.chain }], guard := none } : Oper)) rfl (fun Kq hKq => ?_) AllReadyH.nil
  go_simp
  (have l5 := (HSC4.out.cl X5 (.inl (.inr (.inl rfl)))).1; have l7 := (HSC4.out.cl X7 (.inl (.inr (.inr rfl)))).1; have hq4 := HR3.out.new HB4.out; rw [HND.out] at hq4; have hsm := same_any D.length c4 hq4.rd ((HR4.out).more HB4.out.size) (Nat.le_refl _) (Nat.le_refl _) (by have := HD9.out; omega); rw [← HND.out] at hsm; refine hsm.mono ?_; rintro e w5 ⟨rfl, hb5⟩; have HSC5 := Lib.hid (HSC4.out.new hb5); have HB5 := Lib.hid hb5; clear hq4 hsm)
  refine hKq.out _ _ ?_ (fun hHeld => ?_)
  · exact ⟨(hb5.cell (p := ⟨X5, 1, none⟩) l5).trans hHeld.1, (hb5.cell (p := ⟨X5, 2, none⟩) l5).trans hHeld.2.1, (hb5.cell (p := ⟨X5, 3, none⟩) l5).trans hHeld.2.2.1, (hb5.cell (p := ⟨X7, 0, none⟩) l7).trans hHeld.2.2.2.1, (hb5.cell (p := ⟨X7, 1, none⟩) l7).trans hHeld.2.2.2.2⟩
  clear hKq Kq
  (try simp only [Act.put, List.setIfInBounds_toArray, List.set_cons_zero, List.set_cons_succ])
  refine wpAnyH_take (i := 5) (oi := ({ dst := some 92, op := Op.unOp UnOp.not 4 (Operand.tmp 91), type := 4, pos := "law.go:40", after := #[{ on := 4, ground := Ground.data }], guard := none } : Oper)) (v := ?vb5) rfl (by kernel_rfl) (by kernel_rfl) (by kernel_rfl) (fun _ _ _ h => h) (Or.inl ⟨by rfl, fun w hSw => ?hyb5⟩) (by assumption) ?rb5
  case hyb5 => (try dsimp only at hSw); go_simp; (try with_reducible rfl)
  (try simp only [Act.put, List.setIfInBounds_toArray, List.set_cons_zero, List.set_cons_succ])
  refine wpAnyH_take (i := 6) (oi := ({ dst := some 93, op := Op.move (Operand.tmp 92), type := 4, pos := "law.go:40", after := #[{ on := 5, ground := Ground.data }, { on := 4, ground := Ground.chain }], guard := none } : Oper)) (v := ?vb6) rfl (by kernel_rfl) (by kernel_rfl) (by kernel_rfl) (fun _ _ _ h => h) (Or.inl ⟨by rfl, fun w hSw => ?hyb6⟩) (by assumption) ?rb6
  case hyb6 => (try dsimp only at hSw); go_simp; (try with_reducible rfl)
  (try simp only [Act.put, List.setIfInBounds_toArray, List.set_cons_zero, List.set_cons_succ])
  refine wpAnyH_take (i := 7) (oi := ({ dst := some 94, op := Op.move (Operand.tmp 10), type := 31, pos := "law.go:40", after := #[{ on := 6, ground := Ground.guard }], guard := some (6, false) } : Oper)) (v := ?vb7) rfl (by kernel_rfl) (by kernel_rfl) (by kernel_rfl) (fun _ _ _ h => h) (Or.inl ⟨by rfl, fun w hSw => ?hyb7⟩) (by assumption) ?rb7
  case hyb7 => (try dsimp only at hSw); go_simp; (try with_reducible rfl)
  (try simp only [Act.put, List.setIfInBounds_toArray, List.set_cons_zero, List.set_cons_succ])
  refine wpAnyH_take (i := 8) (oi := ({ dst := some 95, op := Op.call { callee := Callee.builtin Builtin.cap, args := #[Operand.tmp 94], argTypes := #[31] }, type := 3, pos := "law.go:40", after := #[{ on := 7, ground := Ground.data }, { on := 6, ground := Ground.guard }], guard := some (6, false) } : Oper)) (v := ?vb8) rfl (by kernel_rfl) (by kernel_rfl) (by kernel_rfl) (fun _ _ _ h => h) (Or.inl ⟨by rfl, fun w hSw => ?hyb8⟩) (by assumption) ?rb8
  case hyb8 => (try dsimp only at hSw); go_simp; (try with_reducible rfl)
  (try simp only [Act.put, List.setIfInBounds_toArray, List.set_cons_zero, List.set_cons_succ])
  refine wpAnyH_take (i := 9) (oi := ({ dst := some 96, op := Op.move (Operand.tmp 10), type := 31, pos := "law.go:40", after := #[{ on := 6, ground := Ground.guard }], guard := some (6, false) } : Oper)) (v := ?vb9) rfl (by kernel_rfl) (by kernel_rfl) (by kernel_rfl) (fun _ _ _ h => h) (Or.inl ⟨by rfl, fun w hSw => ?hyb9⟩) (by assumption) ?rb9
  case hyb9 => (try dsimp only at hSw); go_simp; (try with_reducible rfl)
  (try simp only [Act.put, List.setIfInBounds_toArray, List.set_cons_zero, List.set_cons_succ])
  refine wpAnyH_take (i := 10) (oi := ({ dst := some 97, op := Op.call { callee := Callee.builtin Builtin.len, args := #[Operand.tmp 96], argTypes := #[31] }, type := 3, pos := "law.go:40", after := #[{ on := 9, ground := Ground.data }, { on := 6, ground := Ground.guard }], guard := some (6, false) } : Oper)) (v := ?vb10) rfl (by kernel_rfl) (by kernel_rfl) (by kernel_rfl) (fun _ _ _ h => h) (Or.inl ⟨by rfl, fun w hSw => ?hyb10⟩) (by assumption) ?rb10
  case hyb10 => (try dsimp only at hSw); go_simp; (try with_reducible rfl)
  (try simp only [Act.put, List.setIfInBounds_toArray, List.set_cons_zero, List.set_cons_succ])
  refine wpAnyH_take (i := 11) (oi := ({ dst := some 98, op := Op.binOp BinOp.neq 3 (Operand.tmp 95) (Operand.tmp 97) 3, type := 4, pos := "law.go:40", after := #[{ on := 8, ground := Ground.data }, { on := 10, ground := Ground.data }, { on := 6, ground := Ground.guard }], guard := some (6, false) } : Oper)) (v := ?vb11) rfl (by kernel_rfl) (by kernel_rfl) (by kernel_rfl) (fun _ _ _ h => h) (Or.inl ⟨by rfl, fun w hSw => ?hyb11⟩) (by assumption) ?rb11
  case hyb11 => (try dsimp only at hSw); go_simp; (try with_reducible rfl)
  (try simp only [Act.put, List.setIfInBounds_toArray, List.set_cons_zero, List.set_cons_succ])
  refine wpAnyH_take (i := 12) (oi := ({ dst := some 99, op := Op.pick (Operand.tmp 93) (Operand.const (Value.bool true)) (Operand.tmp 98), type := 4, pos := "law.go:40", after := #[{ on := 6, ground := Ground.data }, { on := 11, ground := Ground.data }], guard := none } : Oper)) (v := ?vb12) rfl (by kernel_rfl) (by kernel_rfl) (by kernel_rfl) (fun _ _ _ h => h) (Or.inl ⟨by rfl, fun w hSw => ?hyb12⟩) (by assumption) ?rb12
  case hyb12 => (try dsimp only at hSw); go_simp; (try with_reducible rfl)
  (try simp only [Act.put, List.setIfInBounds_toArray, List.set_cons_zero, List.set_cons_succ])
  refine wpAnyH_take (i := 13) (oi := ({ dst := some 100, op := Op.move (Operand.tmp 99), type := 4, pos := "law.go:40", after := #[{ on := 12, ground := Ground.data }, { on := 6, ground := Ground.chain }], guard := none } : Oper)) (v := ?vb13) rfl (by kernel_rfl) (by kernel_rfl) (by kernel_rfl) (fun _ _ _ h => h) (Or.inl ⟨by rfl, fun w hSw => ?hyb13⟩) (by assumption) ?rb13
  case hyb13 => (try dsimp only at hSw); go_simp; (try with_reducible rfl)
  (try simp only [Act.put, List.setIfInBounds_toArray, List.set_cons_zero, List.set_cons_succ])
  refine wpAnyH_take (i := 14) (oi := ({ dst := some 101, op := Op.move (Operand.tmp 0), type := 25, pos := "law.go:40", after := #[{ on := 13, ground := Ground.guard }], guard := some (13, false) } : Oper)) (v := ?vb14) rfl (by kernel_rfl) (by kernel_rfl) (by kernel_rfl) (fun _ _ _ h => h) (Or.inl ⟨by rfl, fun w hSw => ?hyb14⟩) (by assumption) ?rb14
  case hyb14 => (try dsimp only at hSw); go_simp; (try with_reducible rfl)
  (try simp only [Act.put, List.setIfInBounds_toArray, List.set_cons_zero, List.set_cons_succ])
  refine wpAnyH_take (i := 15) (oi := ({ dst := some 102, op := Op.fieldAddr 35 (Operand.tmp 5) 1, type := 0, pos := "law.go:40", after := #[{ on := 13, ground := Ground.guard }], guard := some (13, false) } : Oper)) (v := ?vb15) rfl (by kernel_rfl) (by kernel_rfl) (by kernel_rfl) (fun _ _ _ h => h) (Or.inl ⟨by rfl, fun w hSw => ?hyb15⟩) (by assumption) ?rb15
  case hyb15 => (try dsimp only at hSw); go_simp; (try with_reducible rfl)
  (try simp only [Act.put, List.setIfInBounds_toArray, List.set_cons_zero, List.set_cons_succ])
  refine wpAnyH_take (i := 16) (oi := ({ dst := some 103, op := Op.load 30 (Operand.tmp 102), type := 30, pos := "law.go:40", after := #[{ on := 15, ground := Ground.data }, { on := 13, ground := Ground.guard }], guard := some (13, false) } : Oper)) (v := ?vb16) rfl (by kernel_rfl) (by kernel_rfl) (by kernel_rfl) (fun _ _ _ h => h) (Or.inl ⟨by rfl, fun w hSw => ?hyb16⟩) (by assumption) ?rb16
  case hyb16 => (try dsimp only at hSw); go_simp; (try with_reducible rfl)
  (try simp only [Act.put, List.setIfInBounds_toArray, List.set_cons_zero, List.set_cons_succ])
  refine wpAnyH_take (i := 19) (oi := ({ dst := some 106, op := Op.move (Operand.tmp 1), type := 27, pos := "law.go:40", after := #[{ on := 13, ground := Ground.guard }], guard := some (13, false) } : Oper)) (v := ?vb19) rfl (by kernel_rfl) (by kernel_rfl) (by kernel_rfl) (fun _ _ _ h => h) (Or.inl ⟨by rfl, fun w hSw => ?hyb19⟩) (by assumption) ?rb19
  case hyb19 => (try dsimp only at hSw); go_simp; (try with_reducible rfl)
  (try simp only [Act.put, List.setIfInBounds_toArray, List.set_cons_zero, List.set_cons_succ])
  refine wpAnyH_take (i := 20) (oi := ({ dst := some 107, op := Op.load 79 (Operand.tmp 7), type := 79, pos := "law.go:40", after := #[{ on := 13, ground := Ground.guard }], guard := some (13, false) } : Oper)) (v := ?vb20) rfl (by kernel_rfl) (by kernel_rfl) (by kernel_rfl) (fun _ _ _ h => h) (Or.inl ⟨by rfl, fun w hSw => ?hyb20⟩) (by assumption) ?rb20
  case hyb20 => (try dsimp only at hSw); go_simp; (try with_reducible rfl)
  (try simp only [Act.put, List.setIfInBounds_toArray, List.set_cons_zero, List.set_cons_succ])
  refine wpAnyH_ready (rs := [17]) (by kernel_rfl) (by simp) ?_
  refine AllReadyH.cons (o := ({ dst := some 104, op := Op.call { callee := Callee.value (Operand.func 20), args := #[Operand.tmp 101, Operand.tmp 103], argTypes := #[25, 30] }, type := 33, pos := "law.go:40", after := #[{ on := 14, ground := Ground.data }, { on := 16, ground := Ground.data }, { on := 13, ground := Ground.chain }, { on := 13, ground := Ground.guard }], guard := some (13, false) } : Oper)) rfl (fun Kq hKq => ?_) AllReadyH.nil
  go_simp
  (have l5 := (HSC5.out.cl X5 (.inl (.inr (.inl rfl)))).1; have l7 := (HSC5.out.cl X7 (.inl (.inr (.inr rfl)))).1; refine (HTM.out _ base own s n HSC5.out.st).mono ?_; rintro e w6 ⟨rfl, hb6⟩; have HSC6 := Lib.hid (HSC5.out.new hb6); have HB6 := Lib.hid hb6)
  refine hKq.out _ _ ?_ (fun hHeld => ?_)
  · exact ⟨(hb6.cell (p := ⟨X5, 1, none⟩) l5).trans hHeld.1, (hb6.cell (p := ⟨X5, 2, none⟩) l5).trans hHeld.2.1, (hb6.cell (p := ⟨X5, 3, none⟩) l5).trans hHeld.2.2.1, (hb6.cell (p := ⟨X7, 0, none⟩) l7).trans hHeld.2.2.2.1, (hb6.cell (p := ⟨X7, 1, none⟩) l7).trans hHeld.2.2.2.2⟩
  clear hKq Kq
  (try simp only [Act.put, List.setIfInBounds_toArray, List.set_cons_zero, List.set_cons_succ])
  refine wpAnyH_ready (rs := [18]) (by kernel_rfl) (by simp) ?_
  refine AllReadyH.cons (o := ({ dst := some 105, op := Op.call { callee := Callee.value (Operand.func 34), args := #[Operand.tmp 104], argTypes := #[33] }, type := 86, pos := "law.go:40", after := #[{ on := 17, ground := Ground.data }, { on := 17, ground := Ground.chain }, { on := 13, ground := Ground.guard }], guard := some (13, false) } : Oper)) rfl (fun Kq hKq => ?_) AllReadyH.nil
  go_simp
  (have l5 := (HSC6.out.cl X5 (.inl (.inr (.inl rfl)))).1; have l7 := (HSC6.out.cl X7 (.inl (.inr (.inr rfl)))).1; refine (otherT_any xa xf _).mono ?_; rintro e w7 ⟨rfl, hb7⟩; have HSC7 := Lib.hid (HSC6.out.new hb7); have HB7 := Lib.hid hb7)
  refine hKq.out _ _ ?_ (fun hHeld => ?_)
  · exact ⟨(hb7.cell (p := ⟨X5, 1, none⟩) l5).trans hHeld.1, (hb7.cell (p := ⟨X5, 2, none⟩) l5).trans hHeld.2.1, (hb7.cell (p := ⟨X5, 3, none⟩) l5).trans hHeld.2.2.1, (hb7.cell (p := ⟨X7, 0, none⟩) l7).trans hHeld.2.2.2.1, (hb7.cell (p := ⟨X7, 1, none⟩) l7).trans hHeld.2.2.2.2⟩
  clear hKq Kq
  (try simp only [Act.put, List.setIfInBounds_toArray, List.set_cons_zero, List.set_cons_succ])
  refine wpAnyH_ready (rs := [21]) (by kernel_rfl) (by simp) ?_
  refine AllReadyH.cons (o := ({ dst := some 108, op := Op.call { callee := Callee.value (Operand.func 38), args := #[Operand.tmp 106, Operand.tmp 107], argTypes := #[27, 79] }, type := 86, pos := "law.go:40", after := #[{ on := 19, ground := Ground.data }, { on := 20, ground := Ground.data }, { on := 18, ground := Ground.chain }, { on := 13, ground := Ground.guard }], guard := some (13, false) } : Oper)) rfl (fun Kq hKq => ?_) AllReadyH.nil
  go_simp
  (have l5 := (HSC7.out.cl X5 (.inl (.inr (.inl rfl)))).1; have l7 := (HSC7.out.cl X7 (.inl (.inr (.inr rfl)))).1; refine (HRTM.out _ base ownR r HSC7.out.rt).mono ?_; rintro e w8 ⟨rfl, hb8⟩; have HSC8 := Lib.hid (HSC7.out.new hb8); have HB8 := Lib.hid hb8)
  refine hKq.out _ _ ?_ (fun hHeld => ?_)
  · exact ⟨(hb8.cell (p := ⟨X5, 1, none⟩) l5).trans hHeld.1, (hb8.cell (p := ⟨X5, 2, none⟩) l5).trans hHeld.2.1, (hb8.cell (p := ⟨X5, 3, none⟩) l5).trans hHeld.2.2.1, (hb8.cell (p := ⟨X7, 0, none⟩) l7).trans hHeld.2.2.2.1, (hb8.cell (p := ⟨X7, 1, none⟩) l7).trans hHeld.2.2.2.2⟩
  clear hKq Kq
  (try simp only [Act.put, List.setIfInBounds_toArray, List.set_cons_zero, List.set_cons_succ])
  refine wpAnyH_take (i := 22) (oi := ({ dst := some 109, op := Op.binOp BinOp.neq 86 (Operand.tmp 105) (Operand.tmp 108) 86, type := 4, pos := "law.go:40", after := #[{ on := 18, ground := Ground.data }, { on := 21, ground := Ground.data }, { on := 13, ground := Ground.guard }], guard := some (13, false) } : Oper)) (v := ?vb22) rfl (by kernel_rfl) (by kernel_rfl) (by kernel_rfl) (fun _ _ _ h => h) (Or.inl ⟨by rfl, fun w hSw => ?hyb22⟩) (by assumption) ?rb22
  case hyb22 => (try dsimp only at hSw); go_simp; (try with_reducible rfl)
  (try simp only [Act.put, List.setIfInBounds_toArray, List.set_cons_zero, List.set_cons_succ])
  refine wpAnyH_take (i := 23) (oi := ({ dst := some 110, op := Op.pick (Operand.tmp 100) (Operand.const (Value.bool true)) (Operand.tmp 109), type := 4, pos := "law.go:40", after := #[{ on := 13, ground := Ground.data }, { on := 22, ground := Ground.data }], guard := none } : Oper)) (v := ?vb23) rfl (by kernel_rfl) (by kernel_rfl) (by kernel_rfl) (fun _ _ _ h => h) (Or.inl ⟨by rfl, fun w hSw => ?hyb23⟩) (by assumption) ?rb23
  case hyb23 => (try dsimp only at hSw); go_simp; (try with_reducible rfl)
  (try simp only [Act.put, List.setIfInBounds_toArray, List.set_cons_zero, List.set_cons_succ])
  refine wpAnyH_take (i := 24) (oi := ({ dst := some 111, op := Op.move (Operand.tmp 110), type := 4, pos := "law.go:40", after := #[{ on := 23, ground := Ground.data }, { on := 21, ground := Ground.chain }], guard := none } : Oper)) (v := ?vb24) rfl (by kernel_rfl) (by kernel_rfl) (by kernel_rfl) (fun _ _ _ h => h) (Or.inl ⟨by rfl, fun w hSw => ?hyb24⟩) (by assumption) ?rb24
  case hyb24 => (try dsimp only at hSw); go_simp; (try with_reducible rfl)
  (try simp only [Act.put, List.setIfInBounds_toArray, List.set_cons_zero, List.set_cons_succ])
  refine wpAnyH_take (i := 25) (oi := ({ dst := some 112, op := Op.move (Operand.tmp 0), type := 25, pos := "law.go:40", after := #[{ on := 24, ground := Ground.guard }], guard := some (24, false) } : Oper)) (v := ?vb25) rfl (by kernel_rfl) (by kernel_rfl) (by kernel_rfl) (fun _ _ _ h => h) (Or.inl ⟨by rfl, fun w hSw => ?hyb25⟩) (by assumption) ?rb25
  case hyb25 => (try dsimp only at hSw); go_simp; (try with_reducible rfl)
  (try simp only [Act.put, List.setIfInBounds_toArray, List.set_cons_zero, List.set_cons_succ])
  refine wpAnyH_take (i := 26) (oi := ({ dst := some 113, op := Op.fieldAddr 35 (Operand.tmp 5) 2, type := 0, pos := "law.go:40", after := #[{ on := 24, ground := Ground.guard }], guard := some (24, false) } : Oper)) (v := ?vb26) rfl (by kernel_rfl) (by kernel_rfl) (by kernel_rfl) (fun _ _ _ h => h) (Or.inl ⟨by rfl, fun w hSw => ?hyb26⟩) (by assumption) ?rb26
  case hyb26 => (try dsimp only at hSw); go_simp; (try with_reducible rfl)
  (try simp only [Act.put, List.setIfInBounds_toArray, List.set_cons_zero, List.set_cons_succ])
  refine wpAnyH_take (i := 27) (oi := ({ dst := some 114, op := Op.load 3 (Operand.tmp 113), type := 3, pos := "law.go:40", after := #[{ on := 26, ground := Ground.data }, { on := 24, ground := Ground.guard }], guard := some (24, false) } : Oper)) (v := ?vb27) rfl (by kernel_rfl) (by kernel_rfl) (by kernel_rfl) (fun _ _ _ h => h) (Or.inl ⟨by rfl, fun w hSw => ?hyb27⟩) (by assumption) ?rb27
  case hyb27 => (try dsimp only at hSw); go_simp; (try with_reducible rfl)
  (try simp only [Act.put, List.setIfInBounds_toArray, List.set_cons_zero, List.set_cons_succ])
  refine wpAnyH_take (i := 29) (oi := ({ dst := some 116, op := Op.move (Operand.tmp 1), type := 27, pos := "law.go:40", after := #[{ on := 24, ground := Ground.guard }], guard := some (24, false) } : Oper)) (v := ?vb29) rfl (by kernel_rfl) (by kernel_rfl) (by kernel_rfl) (fun _ _ _ h => h) (Or.inl ⟨by rfl, fun w hSw => ?hyb29⟩) (by assumption) ?rb29
  case hyb29 => (try dsimp only at hSw); go_simp; (try with_reducible rfl)
  (try simp only [Act.put, List.setIfInBounds_toArray, List.set_cons_zero, List.set_cons_succ])
  refine wpAnyH_take (i := 30) (oi := ({ dst := some 117, op := Op.fieldAddr 35 (Operand.tmp 5) 2, type := 0, pos := "law.go:40", after := #[{ on := 24, ground := Ground.guard }], guard := some (24, false) } : Oper)) (v := ?vb30) rfl (by kernel_rfl) (by kernel_rfl) (by kernel_rfl) (fun _ _ _ h => h) (Or.inl ⟨by rfl, fun w hSw => ?hyb30⟩) (by assumption) ?rb30
  case hyb30 => (try dsimp only at hSw); go_simp; (try with_reducible rfl)
  (try simp only [Act.put, List.setIfInBounds_toArray, List.set_cons_zero, List.set_cons_succ])
  refine wpAnyH_take (i := 31) (oi := ({ dst := some 118, op := Op.load 3 (Operand.tmp 117), type := 3, pos := "law.go:40", after := #[{ on := 30, ground := Ground.data }, { on := 24, ground := Ground.guard }], guard := some (24, false) } : Oper)) (v := ?vb31) rfl (by kernel_rfl) (by kernel_rfl) (by kernel_rfl) (fun _ _ _ h => h) (Or.inl ⟨by rfl, fun w hSw => ?hyb31⟩) (by assumption) ?rb31
  case hyb31 => (try dsimp only at hSw); go_simp; (try with_reducible rfl)
  (try simp only [Act.put, List.setIfInBounds_toArray, List.set_cons_zero, List.set_cons_succ])
  refine wpAnyH_ready (rs := [28]) (by kernel_rfl) (by simp) ?_
  refine AllReadyH.cons (o := ({ dst := some 115, op := Op.call { callee := Callee.value (Operand.func 18), args := #[Operand.tmp 112, Operand.tmp 114], argTypes := #[25, 3] }, type := 4, pos := "law.go:40", after := #[{ on := 25, ground := Ground.data }, { on := 27, ground := Ground.data }, { on := 24, ground := Ground.chain }, { on := 24, ground := Ground.guard }], guard := some (24, false) } : Oper)) rfl (fun Kq hKq => ?_) AllReadyH.nil
  go_simp
  (refine (HHS.out _ base own s n HSC8.out.st).mono ?_; rintro e w9 ⟨rfl, rfl⟩)
  refine hKq.out _ _ ?_ (fun hHeld => ?_)
  · exact hHeld
  clear hKq Kq
  (try simp only [Act.put, List.setIfInBounds_toArray, List.set_cons_zero, List.set_cons_succ])
  refine wpAnyH_ready (rs := [32]) (by kernel_rfl) (by simp) ?_
  refine AllReadyH.cons (o := ({ dst := some 119, op := Op.call { callee := Callee.value (Operand.func 39), args := #[Operand.tmp 116, Operand.tmp 118], argTypes := #[27, 3] }, type := 4, pos := "law.go:40", after := #[{ on := 29, ground := Ground.data }, { on := 31, ground := Ground.data }, { on := 28, ground := Ground.chain }, { on := 24, ground := Ground.guard }], guard := some (24, false) } : Oper)) rfl (fun Kq hKq => ?_) AllReadyH.nil
  go_simp
  (refine (HRHS.out _ base ownR r HSC8.out.rt).mono ?_; rintro e w9 ⟨rfl, rfl⟩)
  refine hKq.out _ _ ?_ (fun hHeld => ?_)
  · exact hHeld
  clear hKq Kq
  (try simp only [Act.put, List.setIfInBounds_toArray, List.set_cons_zero, List.set_cons_succ])
  refine wpAnyH_take (i := 33) (oi := ({ dst := some 120, op := Op.binOp BinOp.neq 4 (Operand.tmp 115) (Operand.tmp 119) 4, type := 4, pos := "law.go:40", after := #[{ on := 28, ground := Ground.data }, { on := 32, ground := Ground.data }, { on := 24, ground := Ground.guard }], guard := some (24, false) } : Oper)) (v := ?vb33) rfl (by kernel_rfl) (by kernel_rfl) (by kernel_rfl) (fun _ _ _ h => h) (Or.inl ⟨by rfl, fun w hSw => ?hyb33⟩) (by assumption) ?rb33
  case hyb33 => (try dsimp only at hSw); go_simp; (try with_reducible rfl)
  (try simp only [Act.put, List.setIfInBounds_toArray, List.set_cons_zero, List.set_cons_succ])
  refine wpAnyH_take (i := 34) (oi := ({ dst := some 121, op := Op.pick (Operand.tmp 111) (Operand.const (Value.bool true)) (Operand.tmp 120), type := 4, pos := "law.go:40", after := #[{ on := 24, ground := Ground.data }, { on := 33, ground := Ground.data }], guard := none } : Oper)) (v := ?vb34) rfl (by kernel_rfl) (by kernel_rfl) (by kernel_rfl) (fun _ _ _ h => h) (Or.inl ⟨by rfl, fun w hSw => ?hyb34⟩) (by assumption) ?rb34
  case hyb34 => (try dsimp only at hSw); go_simp; (try with_reducible rfl)
  (try simp only [Act.put, List.setIfInBounds_toArray, List.set_cons_zero, List.set_cons_succ])
  refine wpAnyH_done (by kernel_rfl) ?_ _
  have hr8 := (((HR3.out.new HB4.out).new HB5.out).new HB6.out).new HB7.out |>.new HB8.out
  obtain ⟨z51, z52, -, z70, z71⟩ := hHeld
  have hsp : Calls Try.prog 30 #[.slice A3 nd nd] w8 fun e w' => e = .returned (.tuple #[]) ∧ Turns (fun k => (Value.slice A3 nd nd).ownBlock = some k) w8 w' := by
    have hx := hr8
    unfold RowE at hx
    rw [← HND.out] at hx
    exact spoil_any hx
  have HSP := Lib.hid hsp
  clear hr8 hsp hne
  go_upto_region 17 with (fail)
  go_wp2_with fail
  refine HSP.out.mono ?_
  rintro e w9 ⟨rfl, ht9⟩
  have hX5 : X5 < w8.heap.size ∧ ¬ (Value.slice A3 nd nd).ownBlock = some X5 := ⟨(HSC8.out.cl X5 (.inl (.inr (.inl rfl)))).1, fun e => by have := HLQ.out X5 e; have : X5 < w2.heap.size := hl5; omega⟩
  have hX7 : X7 < w8.heap.size ∧ ¬ (Value.slice A3 nd nd).ownBlock = some X7 := ⟨(HSC8.out.cl X7 (.inl (.inr (.inr rfl)))).1, fun e => by have := HLQ.out X7 e; have : X7 < w2.heap.size := hl7; omega⟩
  have u51 := (ht9.cell (g := X5) (o := 1) hX5.1 hX5.2).trans z51
  have u52 := (ht9.cell (g := X5) (o := 2) hX5.1 hX5.2).trans z52
  have u70 := (ht9.cell (g := X7) (o := 0) hX7.1 hX7.2).trans z70
  have u71 := (ht9.cell (g := X7) (o := 1) hX7.1 hX7.2).trans z71
  have sc9 := HSC8.out.turn ht9 (fun g hm e => (HSC8.out.cl g (.inr e)).2.1 hm) (fun g hm e => (HSC8.out.cl g (.inr e)).2.2 hm)
  have hbw2 : base ≤ w2.heap.size := HSC.out.st.le
  have s3 := HSC3.out.st.le; have s4 := HSC4.out.st.le; have s5 := HSC5.out.st.le; have s6 := HSC6.out.st.le; have s7 := HSC7.out.st.le
  have b28 : Below base w2 w8 := (HB3.out.mono hbw2).trans ((HB4.out.mono s3).trans ((HB5.out.mono s4).trans ((HB6.out.mono s5).trans ((HB7.out.mono s6).trans (HB8.out.mono s7)))))
  have b29 : Below base w2 w9.drew := (b28.trans (ht9.below HSC8.out.st.le (fun k hk e => by have := HLQ.out k e; omega))).drew
  have t28 : Turns (fun g => ¬ Z g) w2 w8 := (((((Turns.of_below HB3.out).trans (T := fun g => ¬ Z g) (Turns.of_below HB4.out) (fun _ _ e => e)).trans (T := fun g => ¬ Z g) (Turns.of_below HB5.out) (fun _ _ e => e)).trans (T := fun g => ¬ Z g) (Turns.of_below HB6.out) (fun _ _ e => e)).trans (T := fun g => ¬ Z g) (Turns.of_below HB7.out) (fun _ _ e => e)).trans (T := fun g => ¬ Z g) (Turns.of_below HB8.out) (fun _ _ e => e)
  have t89 : Turns (fun g => ¬ Z g) w8 w9.drew := (ht9.mono (T := fun g => ¬ Z g) (fun g _ e hz => by have := HLQ.out g e; have := ((HSC.out : Sc w2 base own ownR s r n M M _).cl g (.inl hz)).1; omega)).drew
  have T29 := Lib.hid (t28.trans t89 (fun _ _ e => e))
  have HSC9 : Hid (Sc w9.drew base own ownR s r n M M _) := Lib.hid sc9.drew
  have HB29 := Lib.hid b29
  clear z51 z52 z70 z71 hX5 hX7 ht9 sc9 b28 b29 t28 t89
  go_upto_region 18 with (fail)
  refine wp_region_held_drew (S := fun w' => w'.cell? ⟨X5, 1, none⟩ = some (.int .i64 pb) ∧ w'.cell? ⟨X5, 2, none⟩ = some (.int .i64 pi) ∧ w'.cell? ⟨X7, 0, none⟩ = some (.int .i64 pb) ∧ w'.cell? ⟨X7, 1, none⟩ = some (.int .i64 pi)) (by kernel_rfl) ?_ (fun hHeld => ?_)
  · exact ⟨u51, u52, u70, u71⟩
  refine wpAnyH_take (i := 0) (oi := ({ dst := some 124, op := Op.move (Operand.tmp 0), type := 25, pos := "law.go:44", after := #[], guard := none } : Oper)) (v := ?vc0) rfl (by kernel_rfl) (by kernel_rfl) (by kernel_rfl) (fun _ _ _ h => h) (Or.inl ⟨by rfl, fun w hSw => ?hyc0⟩) (by assumption) ?rc0
  case hyc0 => (try dsimp only at hSw); go_simp; (try with_reducible rfl)
  (try simp only [Act.put, List.setIfInBounds_toArray, List.set_cons_zero, List.set_cons_succ])
  refine wpAnyH_take (i := 1) (oi := ({ dst := some 125, op := Op.fieldAddr 35 (Operand.tmp 5) 1, type := 0, pos := "law.go:44", after := #[], guard := none } : Oper)) (v := ?vc1) rfl (by kernel_rfl) (by kernel_rfl) (by kernel_rfl) (fun _ _ _ h => h) (Or.inl ⟨by rfl, fun w hSw => ?hyc1⟩) (by assumption) ?rc1
  case hyc1 => (try dsimp only at hSw); go_simp; (try with_reducible rfl)
  (try simp only [Act.put, List.setIfInBounds_toArray, List.set_cons_zero, List.set_cons_succ])
  refine wpAnyH_take (i := 2) (oi := ({ dst := some 126, op := Op.load 30 (Operand.tmp 125), type := 30, pos := "law.go:44", after := #[{ on := 1, ground := Ground.data }], guard := none } : Oper)) (v := ?vc2) rfl (by kernel_rfl) (by kernel_rfl) (by kernel_rfl) (fun _ _ _ h => h) (Or.inl ⟨by rfl, fun w hSw => ?hyc2⟩) (by assumption) ?rc2
  case hyc2 => (try dsimp only at hSw); go_simp; (try with_reducible rfl)
  (try simp only [Act.put, List.setIfInBounds_toArray, List.set_cons_zero, List.set_cons_succ])
  refine wpAnyH_take (i := 4) (oi := ({ dst := some 128, op := Op.move (Operand.tmp 1), type := 27, pos := "law.go:44", after := #[], guard := none } : Oper)) (v := ?vc4) rfl (by kernel_rfl) (by kernel_rfl) (by kernel_rfl) (fun _ _ _ h => h) (Or.inl ⟨by rfl, fun w hSw => ?hyc4⟩) (by assumption) ?rc4
  case hyc4 => (try dsimp only at hSw); go_simp; (try with_reducible rfl)
  (try simp only [Act.put, List.setIfInBounds_toArray, List.set_cons_zero, List.set_cons_succ])
  refine wpAnyH_take (i := 5) (oi := ({ dst := some 129, op := Op.load 79 (Operand.tmp 7), type := 79, pos := "law.go:44", after := #[], guard := none } : Oper)) (v := ?vc5) rfl (by kernel_rfl) (by kernel_rfl) (by kernel_rfl) (fun _ _ _ h => h) (Or.inl ⟨by rfl, fun w hSw => ?hyc5⟩) (by assumption) ?rc5
  case hyc5 => (try dsimp only at hSw); go_simp; (try with_reducible rfl)
  (try simp only [Act.put, List.setIfInBounds_toArray, List.set_cons_zero, List.set_cons_succ])
  refine wpAnyH_ready (rs := [3]) (by kernel_rfl) (by simp) ?_
  refine AllReadyH.cons (o := ({ dst := some 127, op := Op.call { callee := Callee.value (Operand.func 19), args := #[Operand.tmp 124, Operand.tmp 126], argTypes := #[25, 30] }, type := 31, pos := "law.go:44", after := #[{ on := 0, ground := Ground.data }, { on := 2, ground := Ground.data }], guard := none } : Oper)) rfl (fun Kq hKq => ?_) AllReadyH.nil
  go_simp
  (have l5 := (HSC9.out.cl X5 (.inl (.inr (.inl rfl)))).1; have l7 := (HSC9.out.cl X7 (.inl (.inr (.inr rfl)))).1; refine (HQ.out _ base own s n HSC9.out.st).mono ?_; rintro e w10 ⟨A10, rfl, hr10, hb10⟩; have HR10 := Lib.hid hr10; clear hr10; have HSC10 := Lib.hid (HSC9.out.new hb10); have HB10 := Lib.hid hb10)
  refine hKq.out _ _ ?_ (fun hHeld => ?_)
  · exact ⟨(hb10.cell (p := ⟨X5, 1, none⟩) l5).trans hHeld.1, (hb10.cell (p := ⟨X5, 2, none⟩) l5).trans hHeld.2.1, (hb10.cell (p := ⟨X7, 0, none⟩) l7).trans hHeld.2.2.1, (hb10.cell (p := ⟨X7, 1, none⟩) l7).trans hHeld.2.2.2⟩
  clear hKq Kq
  (try simp only [Act.put, List.setIfInBounds_toArray, List.set_cons_zero, List.set_cons_succ])
  refine wpAnyH_ready (rs := [6]) (by kernel_rfl) (by simp) ?_
  refine AllReadyH.cons (o := ({ dst := some 130, op := Op.call { callee := Callee.value (Operand.func 37), args := #[Operand.tmp 128, Operand.tmp 129], argTypes := #[27, 79] }, type := 83, pos := "law.go:44", after := #[{ on := 4, ground := Ground.data }, { on := 5, ground := Ground.data }, { on := 3, ground := Ground.chain }], guard := none } : Oper)) rfl (fun Kq hKq => ?_) AllReadyH.nil
  go_simp
  (have l5 := (HSC10.out.cl X5 (.inl (.inr (.inl rfl)))).1; have l7 := (HSC10.out.cl X7 (.inl (.inr (.inr rfl)))).1; refine (HRQ.out _ base ownR r HSC10.out.rt).mono ?_; rintro e w11 ⟨A11, c11, rfl, hc11, hc119, hr11, hb11⟩; have HR11 := Lib.hid hr11; clear hr11; have HSC11 := Lib.hid (HSC10.out.new hb11); have HB11 := Lib.hid hb11)
  refine hKq.out _ _ ?_ (fun hHeld => ?_)
  · exact ⟨(hb11.cell (p := ⟨X5, 1, none⟩) l5).trans hHeld.1, (hb11.cell (p := ⟨X5, 2, none⟩) l5).trans hHeld.2.1, (hb11.cell (p := ⟨X7, 0, none⟩) l7).trans hHeld.2.2.1, (hb11.cell (p := ⟨X7, 1, none⟩) l7).trans hHeld.2.2.2⟩
  clear hKq Kq
  (try simp only [Act.put, List.setIfInBounds_toArray, List.set_cons_zero, List.set_cons_succ])
  refine wpAnyH_ready (rs := [7]) (by kernel_rfl) (by simp) ?_
  refine AllReadyH.cons (o := ({ dst := some 131, op := Op.call { callee := Callee.value (Operand.func 36), args := #[Operand.tmp 127, Operand.tmp 130], argTypes := #[31, 83] }, type := 4, pos := "law.go:44", after := #[{ on := 3, ground := Ground.data }, { on := 6, ground := Ground.data }, { on := 6, ground := Ground.chain }], guard := none } : Oper)) rfl (fun Kq hKq => ?_) AllReadyH.nil
  go_simp
  (have l5 := (HSC11.out.cl X5 (.inl (.inr (.inl rfl)))).1; have l7 := (HSC11.out.cl X7 (.inl (.inr (.inr rfl)))).1; have hq4 := HR10.out.new HB11.out; rw [HND.out] at hq4; have hsm := same_any D.length c11 hq4.rd ((HR11.out).more HB11.out.size) (Nat.le_refl _) (Nat.le_refl _) (by have := HD9.out; omega); rw [← HND.out] at hsm; refine hsm.mono ?_; rintro e w12 ⟨rfl, hb12⟩; have HSC12 := Lib.hid (HSC11.out.new hb12); have HB12 := Lib.hid hb12; clear hq4 hsm)
  refine hKq.out _ _ ?_ (fun hHeld => ?_)
  · exact ⟨(hb12.cell (p := ⟨X5, 1, none⟩) l5).trans hHeld.1, (hb12.cell (p := ⟨X5, 2, none⟩) l5).trans hHeld.2.1, (hb12.cell (p := ⟨X7, 0, none⟩) l7).trans hHeld.2.2.1, (hb12.cell (p := ⟨X7, 1, none⟩) l7).trans hHeld.2.2.2⟩
  clear hKq Kq
  (try simp only [Act.put, List.setIfInBounds_toArray, List.set_cons_zero, List.set_cons_succ])
  refine wpAnyH_take (i := 8) (oi := ({ dst := some 6, op := Op.assign (Operand.tmp 131), type := 4, pos := "law.go:44", after := #[{ on := 7, ground := Ground.data }, { on := 7, ground := Ground.chain }, { on := 0, ground := Ground.phase }, { on := 1, ground := Ground.phase }, { on := 2, ground := Ground.phase }, { on := 3, ground := Ground.phase }, { on := 4, ground := Ground.phase }, { on := 5, ground := Ground.phase }, { on := 6, ground := Ground.phase }, { on := 7, ground := Ground.phase }], guard := none } : Oper)) (v := ?vc8) rfl (by kernel_rfl) (by kernel_rfl) (by kernel_rfl) (fun _ _ _ h => h) (Or.inl ⟨by rfl, fun w hSw => ?hyc8⟩) (by assumption) ?rc8
  case hyc8 => (try dsimp only at hSw); go_simp; (try with_reducible rfl)
  (try simp only [Act.put, List.setIfInBounds_toArray, List.set_cons_zero, List.set_cons_succ])
  refine wpAnyH_done (by kernel_rfl) ?_ _
  go_wp2_with fail
  go_ret
  have s9 := HSC9.out.st.le; have s10 := HSC10.out.st.le; have s11 := HSC11.out.st.le
  have bw : Below base w w2 := (HBW.out : Below w.heap.size w w2).mono HB.out.st.le
  refine ⟨rfl, _, _, n, M, HSC12.out.sub (fun g hz => .inl (.inl hz)), HG.out.mono (by omega), by omega, bw.trans (HB29.out.trans ((HB10.out.mono s9).trans ((HB11.out.mono s10).trans (HB12.out.mono s11)))), ?_⟩
  exact ((((Turns.of_below (HBW.out : Below w.heap.size w w2)).trans T29.out (fun _ _ e => e)).trans (T := fun g => ¬ Z g) (Turns.of_below HB10.out) (fun _ _ e => e)).trans (T := fun g => ¬ Z g) (Turns.of_below HB11.out) (fun _ _ e => e)).trans (T := fun g => ¬ Z g) (Turns.of_below HB12.out) (fun _ _ e => e)
end Go.Proofs.Ytcdoklgjicfkmaa
