/- Texts of this seat, one behind the other. -/
import Derived.Test.YthafnphpcdbnlaaGreatDoorMLawNew30
import Derived.Test.YthafnphpcdbnlaaGreatDoorMLawNew37
set_option linter.unusedVariables false
set_option linter.unusedSimpArgs false
set_option linter.unusedVariables false
set_option linter.unusedSimpArgs false
namespace Go.Proofs.YthafnphpcdbnlaaGreatDoor.S10
open Go.Proofs.YthafnphpcdbnlaaGreatDoor
open Go.RowKit

/-- Both sets, from bases of their own, and blocks Z beside them. -/
structure Se (W : World) (base baseR : Nat) (own ownR : Nat → Option Role) (s r : Value) (n : Nat) (M R : Int → List Bk) (Z : Nat → Prop) : Prop where
  st : St W base own s n M
  rt : Rt W baseR ownR r R
  dj : ∀ g, Mine own g → ¬ Mine ownR g
  cl : ∀ g, Z g → g < W.heap.size ∧ ¬ Mine own g ∧ ¬ Mine ownR g
section
variable {W w' : World} {base baseR : Nat} {own ownR own' : Nat → Option Role} {s r : Value} {n n' : Nat} {M M' R R' : Int → List Bk} {Z : Nat → Prop}
theorem Se.turn (h : Se W base baseR own ownR s r n M R Z) {S : Nat → Prop} (t : Turns S W w') (h1 : ∀ g, Mine own g → ¬ S g) (h2 : ∀ g, Mine ownR g → ¬ S g) : Se w' base baseR own ownR s r n M R Z :=
  ⟨h.st.keep t h1, h.rt.keep t h2, h.dj, fun g hz => ⟨Nat.lt_of_lt_of_le (h.cl g hz).1 t.size, (h.cl g hz).2⟩⟩
theorem Se.new (h : Se W base baseR own ownR s r n M R Z) (hb : Below W.heap.size W w') : Se w' base baseR own ownR s r n M R Z :=
  h.turn (Turns.of_below (S := fun _ => False) hb) (fun _ _ e => e) (fun _ _ e => e)
theorem Se.drew (h : Se W base baseR own ownR s r n M R Z) : Se W.drew base baseR own ownR s r n M R Z := h.turn (Turns.refl (fun _ => False) W).drew (fun _ _ e => e) (fun _ _ e => e)
/-- Blocks that are new stand beside, too. -/
theorem Se.add (h : Se W base baseR own ownR s r n M R Z) (hb : Below W.heap.size W w') {Y : Nat → Prop} (hy : ∀ g, Y g → W.heap.size ≤ g ∧ g < w'.heap.size) : Se w' base baseR own ownR s r n M R (fun g => Z g ∨ Y g) := by
  have h1 := h.new hb
  refine ⟨h1.st, h1.rt, h.dj, fun g hg => ?_⟩
  rcases hg with hz | hy'
  · exact h1.cl g hz
  · have := hy g hy'
    refine ⟨this.2, fun hm => ?_, fun hm => ?_⟩
    · have := (h.st.fp hm).2; omega
    · have := (h.rt.fp hm).2; omega
theorem Se.sub (h : Se W base baseR own ownR s r n M R Z) {Y : Nat → Prop} (hy : ∀ g, Y g → Z g) : Se W base baseR own ownR s r n M R Y := ⟨h.st, h.rt, h.dj, fun g hg => h.cl g (hy g hg)⟩
end
set_option maxHeartbeats 4000000 in
set_option maxRecDepth 100000 in
theorem same_sets {w : World} {base baseR : Nat} {own ownR : Nat → Option Role} {s r : Value} {n N : Nat} {M : Int → List Bk} {Z : Nat → Prop} (B : Se w base baseR own ownR s r n M M Z) (hg : Good M N) (hN : N ≤ 100000) :
    Calls Tryz.prog 30 #[s, r] w fun e w' => e = .returned (.bool true) ∧ Below w.heap.size w w' := by
  have HSC := Lib.hid (B.sub (Y := fun _ => False) (fun g h => h.elim)); have HG := Lib.hid hg
  clear B hg
  go_enter Tryz.func30, Tryz.ntmps30
  go_wp2_with fail
  go_loopg [5] 9 (fun q s5 wx => ∃ k : Nat, k ≤ 9 ∧ q = 9 - k ∧ s5 = .int .i64 ((k + 1 : Nat) : Int) ∧ Below w.heap.size w wx)
  case atStart => exact ⟨0, by omega, rfl, rfl, Below.refl _ _⟩
  case round =>
    obtain ⟨k, hk, rfl, rfl, hb⟩ := hrel
    have HB := Lib.hid hb
    clear hb
    obtain ⟨wo, rfl⟩ : ∃ wo : World, wo = wr := ⟨_, rfl⟩
    by_cases hk9 : k < 9
    · obtain ⟨b, hbk⟩ : ∃ b : Int, b = ((k + 1 : Nat) : Int) := ⟨_, rfl⟩
      have HBK := Lib.hid hbk
      have hb9 : b ≤ 9 := by omega
      have hb1 : 1 ≤ b := by omega
      have hbI : InI b := by unfold InI; omega
      rw [← hbk]
      have hsc1 := HSC.out.new HB.out
      have hhs : ∀ W, Below w.heap.size w W → Calls Tryz.prog 62 #[s, .int .i64 b] W fun e w' => e = .returned (.bool (decide (0 < (M b).length))) ∧ W = w' := fun W hW => by
        obtain ⟨F, hr⟩ := (HSC.out.new hW).st.rs
        obtain ⟨A, c, V, e, _⟩ := hr.rd b
        exact has_any hr.sv hbI e
      have hrhs : ∀ W, Below w.heap.size w W → Calls Tryz.prog 63 #[r, .int .i64 b] W fun e w' => e = .returned (.bool (decide (0 < (M b).length))) ∧ W = w' := fun W hW => rhas_any (HSC.out.new hW).rt b
      have htc : 0 < (M b).length → ∃ rb k A c, r = .pointer (some ⟨rb, 0, none⟩) ∧ b = (k : Nat) ∧ k < 9 ∧ ∀ W, Below w.heap.size w W → W.cell? ⟨rb, 9 + k, none⟩ = some (.slice A (M b).length c) := fun hp => by
        obtain ⟨rb, Q, T, V, hf⟩ := HSC.out.rt
        obtain ⟨k, hbk, hk2, hk9⟩ := hf.nat (b := b) (fun e => by rw [e] at hp; simp at hp)
        subst hbk
        obtain ⟨A, c, e, _⟩ := (hf.ht k hk9).shape
        refine ⟨rb, k, A, c, hf.hs, rfl, hk9, fun W hW => ?_⟩
        rw [← e]
        exact (hW.cell (p := ⟨rb, 9 + k, none⟩) (hf.fp rb _ hf.os).2).trans (hf.hT k hk9).1
      have hml := HG.out.len b
      obtain ⟨m, hm⟩ : ∃ m, m = (M b).length := ⟨_, rfl⟩
      rw [← hm] at hhs hrhs htc hml
      have HHS := Lib.hid hhs; have HRHS := Lib.hid hrhs; have HTC := Lib.hid htc; have HM := Lib.hid hm
      clear hhs hrhs htc hm hsc1 hbk
      by_cases hm0 : m = 0
      · subst hm0
        have hd : decide (0 < 0) = false := by decide
        rw [hd] at HHS HRHS
        clear hd
        have e12 : IntKind.i64.wrap (b + 1) = b + 1 := by rw [IntKind.wrap_i64]; omega
        go_wp2_with (first
          | (go_at_call 62; refine (HHS.out _ HB.out).mono ?_; rintro e w' ⟨rfl, rfl⟩)
          | (go_at_call 63; refine (HRHS.out _ HB.out).mono ?_; rintro e w' ⟨rfl, rfl⟩))
        refine wp_loop_rounds 1 ?_
        rw [rounds_succ]
        go_wp2_with (go_at_call 63; refine (HRHS.out _ HB.out).mono ?_; rintro e w' ⟨rfl, rfl⟩)
        go_roundg (9 - (k + 1))
        case measure => omega
        case rel => exact ⟨k + 1, by omega, rfl, by rw [HBK.out]; go_num, HB.out⟩
      · obtain ⟨rb, kb, Ar, cr, rfl, hbkb, hkb9, hcell⟩ := HTC.out (by omega)
        have hd : decide (0 < m) = true := by simpa using Nat.pos_of_ne_zero hm0
        rw [hd] at HHS HRHS
        subst hbkb
        have HCELL := Lib.hid hcell
        clear hd hcell HTC
        have e12 : IntKind.i64.wrap ((kb : Int) + 1) = (kb : Int) + 1 := by rw [IntKind.wrap_i64]; omega
        go_wp2_with (first
          | (go_at_call 62; refine (HHS.out _ HB.out).mono ?_; rintro e w' ⟨rfl, rfl⟩)
          | (go_at_call 63; refine (HRHS.out _ HB.out).mono ?_; rintro e w' ⟨rfl, rfl⟩))
        go_loopg [6] m (fun q s6 wx => ∃ i : Nat, i ≤ m ∧ q = m - i ∧ s6 = .int .i64 (i : Int) ∧ Below w.heap.size w wx)
        case atStart => exact ⟨0, by omega, rfl, rfl, HB.out⟩
        case round =>
          obtain ⟨i, hi, rfl, rfl, hb2⟩ := hrel
          have HB2 := Lib.hid hb2
          have hcw := HCELL.out wr hb2
          clear hb2
          by_cases him : i < m
          · obtain ⟨xa, xf, htm, hrtm⟩ := timer_all M hbI (i : Int)
            obtain ⟨D, hD, hq, hrq⟩ := queue_all HG.out hN hbI (i : Int)
            obtain ⟨nd, hnd⟩ : ∃ nd, nd = D.length := ⟨_, rfl⟩
            rw [← hnd] at hq hrq
            have HTM := Lib.hid htm; have HRTM := Lib.hid hrtm; have HQ := Lib.hid hq; have HRQ := Lib.hid hrq; have HND := Lib.hid hnd; have HD9 := Lib.hid hD
            have hne := fun W => neqT xa xf xa xf W
            simp only [and_self, decide_true, Bool.not_true] at hne
            clear htm hrtm hq hrq hnd hD
            go_upto_region 10 with (go_at_call 63; refine (HRHS.out _ HB2.out).mono ?_; rintro e w' ⟨rfl, rfl⟩)
            have hnew := heap_alloc_new wr (.cells #[.int .i64 (kb : Int), .int .i64 (i : Int)] 169)
            have hbn := below1 wr (.cells #[.int .i64 (kb : Int), .int .i64 (i : Int)] 169)
            have hsz : (wr.alloc (.cells #[.int .i64 (kb : Int), .int .i64 (i : Int)] 169)).heap.size = wr.heap.size + 1 := by simp
            generalize hw3 : wr.alloc (.cells #[.int .i64 (kb : Int), .int .i64 (i : Int)] 169) = w3 at *
            clear hw3
            obtain ⟨X7, hX7⟩ : ∃ X, X = wr.heap.size := ⟨_, rfl⟩
            have hsc3 : Se w3.drew base baseR own ownR s (.pointer (some ⟨rb, 0, none⟩)) n M M (fun g => g = X7) := (((HSC.out.new HB2.out).add hbn (Y := fun g => g = X7) (fun g hg => by omega)).drew).sub (fun g hg => .inr hg)
            rw [← hX7] at hnew ⊢
            have x0 : w3.drew.cell? ⟨X7, 0, none⟩ = some (.int .i64 (kb : Int)) := cell_row hnew 0
            have x1 : w3.drew.cell? ⟨X7, 1, none⟩ = some (.int .i64 (i : Int)) := cell_row hnew 1
            have HSC3 := Lib.hid hsc3
            have HB3 : Hid (Below w.heap.size w w3.drew) := Lib.hid ((HB2.out.trans (hbn.mono HB2.out.size)).drew)
            clear hnew hbn hsz hX7 hsc3 hcw
            refine wp_region_held_drew (S := fun w' => w'.cell? ⟨X7, 0, none⟩ = some (.int .i64 (kb : Int)) ∧ w'.cell? ⟨X7, 1, none⟩ = some (.int .i64 (i : Int))) (by kernel_rfl) ?_ (fun hHeld => ?_)
            · exact ⟨x0, x1⟩
            refine wpAnyH_take (i := 0) (oi := ({ dst := some 38, op := Op.move (Operand.tmp 0), type := 43, pos := "help.go:23", after := #[], guard := none } : Oper)) (v := ?va0) rfl (by kernel_rfl) (by kernel_rfl) (by kernel_rfl) (fun _ _ _ h => h) (Or.inl ⟨by rfl, fun w hSw => ?hya0⟩) (by assumption) ?ra0
            case hya0 => (try dsimp only at hSw); go_simp; (try with_reducible rfl)
            (try simp only [Act.put, List.setIfInBounds_toArray, List.set_cons_zero, List.set_cons_succ])
            refine wpAnyH_take (i := 1) (oi := ({ dst := some 39, op := Op.load 169 (Operand.tmp 7), type := 169, pos := "help.go:23", after := #[], guard := none } : Oper)) (v := ?va1) rfl (by kernel_rfl) (by kernel_rfl) (by kernel_rfl) (fun _ _ _ h => h) (Or.inl ⟨by rfl, fun w hSw => ?hya1⟩) (by assumption) ?ra1
            case hya1 => (try dsimp only at hSw); go_simp; (try with_reducible rfl)
            (try simp only [Act.put, List.setIfInBounds_toArray, List.set_cons_zero, List.set_cons_succ])
            refine wpAnyH_take (i := 4) (oi := ({ dst := some 42, op := Op.move (Operand.tmp 1), type := 52, pos := "help.go:23", after := #[], guard := none } : Oper)) (v := ?va4) rfl (by kernel_rfl) (by kernel_rfl) (by kernel_rfl) (fun _ _ _ h => h) (Or.inl ⟨by rfl, fun w hSw => ?hya4⟩) (by assumption) ?ra4
            case hya4 => (try dsimp only at hSw); go_simp; (try with_reducible rfl)
            (try simp only [Act.put, List.setIfInBounds_toArray, List.set_cons_zero, List.set_cons_succ])
            refine wpAnyH_take (i := 5) (oi := ({ dst := some 43, op := Op.load 169 (Operand.tmp 7), type := 169, pos := "help.go:23", after := #[], guard := none } : Oper)) (v := ?va5) rfl (by kernel_rfl) (by kernel_rfl) (by kernel_rfl) (fun _ _ _ h => h) (Or.inl ⟨by rfl, fun w hSw => ?hya5⟩) (by assumption) ?ra5
            case hya5 => (try dsimp only at hSw); go_simp; (try with_reducible rfl)
            (try simp only [Act.put, List.setIfInBounds_toArray, List.set_cons_zero, List.set_cons_succ])
            refine wpAnyH_ready (rs := [2]) (by kernel_rfl) (by simp) ?_
            refine AllReadyH.cons (o := ({ dst := some 40, op := Op.call { callee := Callee.value (Operand.func 65), args := #[Operand.tmp 38, Operand.tmp 39], argTypes := #[43, 169] }, type := 173, pos := "help.go:23", after := #[{ on := 0, ground := Ground.data }, { on := 1, ground := Ground.data }], guard := none } : Oper)) rfl (fun Kq hKq => ?_) AllReadyH.nil
            go_simp
            (have l7 := (HSC3.out.cl X7 rfl).1; refine (HTM.out _ base own s n HSC3.out.st).mono ?_; rintro e w4 ⟨rfl, hb4⟩; have HSC4 := Lib.hid (HSC3.out.new hb4); have HB4 := Lib.hid hb4)
            refine hKq.out _ _ ?_ (fun hHeld => ?_)
            · exact ⟨(hb4.cell (p := ⟨X7, 0, none⟩) l7).trans hHeld.1, (hb4.cell (p := ⟨X7, 1, none⟩) l7).trans hHeld.2⟩
            clear hKq Kq
            (try simp only [Act.put, List.setIfInBounds_toArray, List.set_cons_zero, List.set_cons_succ])
            refine wpAnyH_ready (rs := [3]) (by kernel_rfl) (by simp) ?_
            refine AllReadyH.cons (o := ({ dst := some 41, op := Op.call { callee := Callee.value (Operand.func 64), args := #[Operand.tmp 40], argTypes := #[173] }, type := 171, pos := "help.go:23", after := #[{ on := 2, ground := Ground.data }, { on := 2, ground := Ground.chain }], guard := none } : Oper)) rfl (fun Kq hKq => ?_) AllReadyH.nil
            go_simp
            (have l7 := (HSC4.out.cl X7 rfl).1; refine (otherT_any xa xf _).mono ?_; rintro e w5 ⟨rfl, hb5⟩; have HSC5 := Lib.hid (HSC4.out.new hb5); have HB5 := Lib.hid hb5)
            refine hKq.out _ _ ?_ (fun hHeld => ?_)
            · exact ⟨(hb5.cell (p := ⟨X7, 0, none⟩) l7).trans hHeld.1, (hb5.cell (p := ⟨X7, 1, none⟩) l7).trans hHeld.2⟩
            clear hKq Kq
            (try simp only [Act.put, List.setIfInBounds_toArray, List.set_cons_zero, List.set_cons_succ])
            refine wpAnyH_ready (rs := [6]) (by kernel_rfl) (by simp) ?_
            refine AllReadyH.cons (o := ({ dst := some 44, op := Op.call { callee := Callee.value (Operand.func 67), args := #[Operand.tmp 43], argTypes := #[169] }, type := 176, pos := "help.go:23", after := #[{ on := 5, ground := Ground.data }, { on := 3, ground := Ground.chain }], guard := none } : Oper)) rfl (fun Kq hKq => ?_) AllReadyH.nil
            go_simp
            (have l7 := (HSC5.out.cl X7 rfl).1; refine (otherP_any (kb : Int) (i : Int) _).mono ?_; rintro e w6 ⟨rfl, hb6⟩; have HSC6 := Lib.hid (HSC5.out.new hb6); have HB6 := Lib.hid hb6)
            refine hKq.out _ _ ?_ (fun hHeld => ?_)
            · exact ⟨(hb6.cell (p := ⟨X7, 0, none⟩) l7).trans hHeld.1, (hb6.cell (p := ⟨X7, 1, none⟩) l7).trans hHeld.2⟩
            clear hKq Kq
            (try simp only [Act.put, List.setIfInBounds_toArray, List.set_cons_zero, List.set_cons_succ])
            refine wpAnyH_ready (rs := [7]) (by kernel_rfl) (by simp) ?_
            refine AllReadyH.cons (o := ({ dst := some 45, op := Op.call { callee := Callee.value (Operand.func 66), args := #[Operand.tmp 42, Operand.tmp 44], argTypes := #[52, 176] }, type := 171, pos := "help.go:23", after := #[{ on := 4, ground := Ground.data }, { on := 6, ground := Ground.data }, { on := 6, ground := Ground.chain }], guard := none } : Oper)) rfl (fun Kq hKq => ?_) AllReadyH.nil
            go_simp
            (have l7 := (HSC6.out.cl X7 rfl).1; refine (HRTM.out _ baseR ownR _ HSC6.out.rt).mono ?_; rintro e w7 ⟨rfl, hb7⟩; have HSC7 := Lib.hid (HSC6.out.new hb7); have HB7 := Lib.hid hb7)
            refine hKq.out _ _ ?_ (fun hHeld => ?_)
            · exact ⟨(hb7.cell (p := ⟨X7, 0, none⟩) l7).trans hHeld.1, (hb7.cell (p := ⟨X7, 1, none⟩) l7).trans hHeld.2⟩
            clear hKq Kq
            (try simp only [Act.put, List.setIfInBounds_toArray, List.set_cons_zero, List.set_cons_succ])
            refine wpAnyH_take (i := 8) (oi := ({ dst := some 46, op := Op.binOp BinOp.neq 171 (Operand.tmp 41) (Operand.tmp 45) 171, type := 4, pos := "help.go:23", after := #[{ on := 3, ground := Ground.data }, { on := 7, ground := Ground.data }], guard := none } : Oper)) (v := ?va8) rfl (by kernel_rfl) (by kernel_rfl) (by kernel_rfl) (fun _ _ _ h => h) (Or.inl ⟨by rfl, fun w hSw => ?hya8⟩) (by assumption) ?ra8
            case hya8 => (try dsimp only at hSw); go_simp; (try with_reducible rfl)
            (try simp only [Act.put, List.setIfInBounds_toArray, List.set_cons_zero, List.set_cons_succ])
            refine wpAnyH_take (i := 9) (oi := ({ dst := some 47, op := Op.move (Operand.tmp 46), type := 4, pos := "help.go:23", after := #[{ on := 8, ground := Ground.data }, { on := 7, ground := Ground.chain }], guard := none } : Oper)) (v := ?va9) rfl (by kernel_rfl) (by kernel_rfl) (by kernel_rfl) (fun _ _ _ h => h) (Or.inl ⟨by rfl, fun w hSw => ?hya9⟩) (by assumption) ?ra9
            case hya9 => (try dsimp only at hSw); go_simp; (try with_reducible rfl)
            (try simp only [Act.put, List.setIfInBounds_toArray, List.set_cons_zero, List.set_cons_succ])
            refine wpAnyH_take (i := 10) (oi := ({ dst := some 48, op := Op.move (Operand.tmp 0), type := 43, pos := "help.go:23", after := #[{ on := 9, ground := Ground.guard }], guard := some (9, false) } : Oper)) (v := ?va10) rfl (by kernel_rfl) (by kernel_rfl) (by kernel_rfl) (fun _ _ _ h => h) (Or.inl ⟨by rfl, fun w hSw => ?hya10⟩) (by assumption) ?ra10
            case hya10 => (try dsimp only at hSw); go_simp; (try with_reducible rfl)
            (try simp only [Act.put, List.setIfInBounds_toArray, List.set_cons_zero, List.set_cons_succ])
            refine wpAnyH_take (i := 11) (oi := ({ dst := some 49, op := Op.load 169 (Operand.tmp 7), type := 169, pos := "help.go:23", after := #[{ on := 9, ground := Ground.guard }], guard := some (9, false) } : Oper)) (v := ?va11) rfl (by kernel_rfl) (by kernel_rfl) (by kernel_rfl) (fun _ _ _ h => h) (Or.inl ⟨by rfl, fun w hSw => ?hya11⟩) (by assumption) ?ra11
            case hya11 => (try dsimp only at hSw); go_simp; (try with_reducible rfl)
            (try simp only [Act.put, List.setIfInBounds_toArray, List.set_cons_zero, List.set_cons_succ])
            refine wpAnyH_take (i := 13) (oi := ({ dst := some 51, op := Op.move (Operand.tmp 1), type := 52, pos := "help.go:23", after := #[{ on := 9, ground := Ground.guard }], guard := some (9, false) } : Oper)) (v := ?va13) rfl (by kernel_rfl) (by kernel_rfl) (by kernel_rfl) (fun _ _ _ h => h) (Or.inl ⟨by rfl, fun w hSw => ?hya13⟩) (by assumption) ?ra13
            case hya13 => (try dsimp only at hSw); go_simp; (try with_reducible rfl)
            (try simp only [Act.put, List.setIfInBounds_toArray, List.set_cons_zero, List.set_cons_succ])
            refine wpAnyH_take (i := 14) (oi := ({ dst := some 52, op := Op.load 169 (Operand.tmp 7), type := 169, pos := "help.go:23", after := #[{ on := 9, ground := Ground.guard }], guard := some (9, false) } : Oper)) (v := ?va14) rfl (by kernel_rfl) (by kernel_rfl) (by kernel_rfl) (fun _ _ _ h => h) (Or.inl ⟨by rfl, fun w hSw => ?hya14⟩) (by assumption) ?ra14
            case hya14 => (try dsimp only at hSw); go_simp; (try with_reducible rfl)
            (try simp only [Act.put, List.setIfInBounds_toArray, List.set_cons_zero, List.set_cons_succ])
            refine wpAnyH_ready (rs := [12]) (by kernel_rfl) (by simp) ?_
            refine AllReadyH.cons (o := ({ dst := some 50, op := Op.call { callee := Callee.value (Operand.func 69), args := #[Operand.tmp 48, Operand.tmp 49], argTypes := #[43, 169] }, type := 179, pos := "help.go:23", after := #[{ on := 10, ground := Ground.data }, { on := 11, ground := Ground.data }, { on := 9, ground := Ground.chain }, { on := 9, ground := Ground.guard }], guard := some (9, false) } : Oper)) rfl (fun Kq hKq => ?_) AllReadyH.nil
            go_simp
            (have l7 := (HSC7.out.cl X7 rfl).1; refine (HQ.out _ base own s n HSC7.out.st).mono ?_; rintro e w8 ⟨A8, rfl, hr8, hb8⟩; have HR8 := Lib.hid hr8; clear hr8; have HSC8 := Lib.hid (HSC7.out.new hb8); have HB8 := Lib.hid hb8)
            refine hKq.out _ _ ?_ (fun hHeld => ?_)
            · exact ⟨(hb8.cell (p := ⟨X7, 0, none⟩) l7).trans hHeld.1, (hb8.cell (p := ⟨X7, 1, none⟩) l7).trans hHeld.2⟩
            clear hKq Kq
            (try simp only [Act.put, List.setIfInBounds_toArray, List.set_cons_zero, List.set_cons_succ])
            refine wpAnyH_ready (rs := [15]) (by kernel_rfl) (by simp) ?_
            refine AllReadyH.cons (o := ({ dst := some 53, op := Op.call { callee := Callee.value (Operand.func 67), args := #[Operand.tmp 52], argTypes := #[169] }, type := 176, pos := "help.go:23", after := #[{ on := 14, ground := Ground.data }, { on := 12, ground := Ground.chain }, { on := 9, ground := Ground.guard }], guard := some (9, false) } : Oper)) rfl (fun Kq hKq => ?_) AllReadyH.nil
            go_simp
            (have l7 := (HSC8.out.cl X7 rfl).1; refine (otherP_any (kb : Int) (i : Int) _).mono ?_; rintro e w9 ⟨rfl, hb9⟩; have HSC9 := Lib.hid (HSC8.out.new hb9); have HB9 := Lib.hid hb9)
            refine hKq.out _ _ ?_ (fun hHeld => ?_)
            · exact ⟨(hb9.cell (p := ⟨X7, 0, none⟩) l7).trans hHeld.1, (hb9.cell (p := ⟨X7, 1, none⟩) l7).trans hHeld.2⟩
            clear hKq Kq
            (try simp only [Act.put, List.setIfInBounds_toArray, List.set_cons_zero, List.set_cons_succ])
            refine wpAnyH_ready (rs := [16]) (by kernel_rfl) (by simp) ?_
            refine AllReadyH.cons (o := ({ dst := some 54, op := Op.call { callee := Callee.value (Operand.func 70), args := #[Operand.tmp 51, Operand.tmp 53], argTypes := #[52, 176] }, type := 181, pos := "help.go:23", after := #[{ on := 13, ground := Ground.data }, { on := 15, ground := Ground.data }, { on := 15, ground := Ground.chain }, { on := 9, ground := Ground.guard }], guard := some (9, false) } : Oper)) rfl (fun Kq hKq => ?_) AllReadyH.nil
            go_simp
            (have l7 := (HSC9.out.cl X7 rfl).1; refine (HRQ.out _ baseR ownR _ HSC9.out.rt).mono ?_; rintro e w10 ⟨A10, c10, rfl, hc10, hc109, hr10, hb10⟩; have HR10 := Lib.hid hr10; clear hr10; have HSC10 := Lib.hid (HSC9.out.new hb10); have HB10 := Lib.hid hb10)
            refine hKq.out _ _ ?_ (fun hHeld => ?_)
            · exact ⟨(hb10.cell (p := ⟨X7, 0, none⟩) l7).trans hHeld.1, (hb10.cell (p := ⟨X7, 1, none⟩) l7).trans hHeld.2⟩
            clear hKq Kq
            (try simp only [Act.put, List.setIfInBounds_toArray, List.set_cons_zero, List.set_cons_succ])
            refine wpAnyH_ready (rs := [17]) (by kernel_rfl) (by simp) ?_
            refine AllReadyH.cons (o := ({ dst := some 55, op := Op.call { callee := Callee.value (Operand.func 68), args := #[Operand.tmp 50, Operand.tmp 54], argTypes := #[179, 181] }, type := 4, pos := "help.go:23", after := #[{ on := 12, ground := Ground.data }, { on := 16, ground := Ground.data }, { on := 16, ground := Ground.chain }, { on := 9, ground := Ground.guard }], guard := some (9, false) } : Oper)) rfl (fun Kq hKq => ?_) AllReadyH.nil
            go_simp
            (have l7 := (HSC10.out.cl X7 rfl).1; have hq4 := (HR8.out.new HB9.out).new HB10.out; rw [HND.out] at hq4; have hsm := same_any D.length c10 hq4.rd ((HR10.out).more HB10.out.size) (Nat.le_refl _) (Nat.le_refl _) (by have := HD9.out; omega); rw [← HND.out] at hsm; refine hsm.mono ?_; rintro e w11 ⟨rfl, hb11⟩; have HSC11 := Lib.hid (HSC10.out.new hb11); have HB11 := Lib.hid hb11; clear hq4 hsm)
            refine hKq.out _ _ ?_ (fun hHeld => ?_)
            · exact ⟨(hb11.cell (p := ⟨X7, 0, none⟩) l7).trans hHeld.1, (hb11.cell (p := ⟨X7, 1, none⟩) l7).trans hHeld.2⟩
            clear hKq Kq
            (try simp only [Act.put, List.setIfInBounds_toArray, List.set_cons_zero, List.set_cons_succ])
            refine wpAnyH_take (i := 18) (oi := ({ dst := some 56, op := Op.unOp UnOp.not 4 (Operand.tmp 55), type := 4, pos := "help.go:23", after := #[{ on := 17, ground := Ground.data }, { on := 9, ground := Ground.guard }], guard := some (9, false) } : Oper)) (v := ?va18) rfl (by kernel_rfl) (by kernel_rfl) (by kernel_rfl) (fun _ _ _ h => h) (Or.inl ⟨by rfl, fun w hSw => ?hya18⟩) (by assumption) ?ra18
            case hya18 => (try dsimp only at hSw); go_simp; (try with_reducible rfl)
            (try simp only [Act.put, List.setIfInBounds_toArray, List.set_cons_zero, List.set_cons_succ])
            refine wpAnyH_take (i := 19) (oi := ({ dst := some 57, op := Op.pick (Operand.tmp 47) (Operand.const (Value.bool true)) (Operand.tmp 56), type := 4, pos := "help.go:23", after := #[{ on := 9, ground := Ground.data }, { on := 18, ground := Ground.data }], guard := none } : Oper)) (v := ?va19) rfl (by kernel_rfl) (by kernel_rfl) (by kernel_rfl) (fun _ _ _ h => h) (Or.inl ⟨by rfl, fun w hSw => ?hya19⟩) (by assumption) ?ra19
            case hya19 => (try dsimp only at hSw); go_simp; (try with_reducible rfl)
            (try simp only [Act.put, List.setIfInBounds_toArray, List.set_cons_zero, List.set_cons_succ])
            refine wpAnyH_done (by kernel_rfl) ?_ _
            have b4 := HB3.out.trans (HB4.out.mono HB3.out.size)
            have b5 := b4.trans (HB5.out.mono b4.size)
            have b6 := b5.trans (HB6.out.mono b5.size)
            have b7 := b6.trans (HB7.out.mono b6.size)
            have b8 := b7.trans (HB8.out.mono b7.size)
            have b9 := b8.trans (HB9.out.mono b8.size)
            have b10 := b9.trans (HB10.out.mono b9.size)
            have HB12 := Lib.hid (b10.trans (HB11.out.mono b10.size))
            clear b4 b5 b6 b7 b8 b9 b10 hne
            go_wp2_with fail
            go_roundg (m - (i + 1))
            case measure => omega
            case rel => exact ⟨i + 1, by omega, rfl, by go_num, HB12.out⟩
          · obtain rfl : i = m := by omega
            go_wp2_with (go_at_call 63; refine (HRHS.out _ HB2.out).mono ?_; rintro e w' ⟨rfl, rfl⟩)
            go_roundg (9 - (k + 1))
            case measure => omega
            case rel => exact ⟨k + 1, by omega, rfl, by have := HBK.out; rw [this]; go_num, HB2.out⟩
    · obtain rfl : k = 9 := by omega
      go_wp2_with fail
      go_ret
      exact ⟨rfl, HB.out⟩
end Go.Proofs.YthafnphpcdbnlaaGreatDoor.S10
