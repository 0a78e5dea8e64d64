/- Texts of this seat, one behind the other. -/
import Derived.Test.YtlflagjnlclffaaGreatMLawPlay141
import Derived.Test.YtlflagjnlclffaaGreatMLawPlay1426
import Derived.Test.YtlflagjnlclffaaGreatMLawPlay1428
set_option linter.unusedVariables false
set_option linter.unusedSimpArgs false
namespace Go.Proofs.YtlflagjnlclffaaGreat.S10
set_option maxRecDepth 100000
set_option maxHeartbeats 16000000
open Go.Proofs.YtlflagjnlclffaaGreat
open Go.RowKit
structure Se (W : World) (base baseR : Nat) (own ownR : Nat → Option Role) (s r : Value) (n : Nat) (M R : Int → List Bk) (Z : Nat → Prop) : Prop where
  st : St W base own s n M
  rt : Rt W baseR ownR r R
  dj : ∀ g, Mine own g → ¬ Mine ownR g
  cl : ∀ g, Z g → g < W.heap.size ∧ ¬ Mine own g ∧ ¬ Mine ownR g
section
variable {W w' : World} {base baseR : Nat} {own ownR own' : Nat → Option Role} {s r : Value} {n n' : Nat} {M M' R R' : Int → List Bk} {Z : Nat → Prop}
theorem Se.turn (h : Se W base baseR own ownR s r n M R Z) {S : Nat → Prop} (t : Turns S W w') (h1 : ∀ g, Mine own g → ¬ S g) (h2 : ∀ g, Mine ownR g → ¬ S g) : Se w' base baseR own ownR s r n M R Z :=
  ⟨h.st.keep t h1, h.rt.keep t h2, h.dj, fun g hz => ⟨Nat.lt_of_lt_of_le (h.cl g hz).1 t.size, (h.cl g hz).2⟩⟩
theorem Se.new (h : Se W base baseR own ownR s r n M R Z) (hb : Below W.heap.size W w') : Se w' base baseR own ownR s r n M R Z :=
  h.turn (Turns.of_below (S := fun _ => False) hb) (fun _ _ e => e) (fun _ _ e => e)
theorem Se.drew (h : Se W base baseR own ownR s r n M R Z) : Se W.drew base baseR own ownR s r n M R Z := h.turn (Turns.refl (fun _ => False) W).drew (fun _ _ e => e) (fun _ _ e => e)
theorem Se.add (h : Se W base baseR own ownR s r n M R Z) (hb : Below W.heap.size W w') {Y : Nat → Prop} (hy : ∀ g, Y g → W.heap.size ≤ g ∧ g < w'.heap.size) : Se w' base baseR own ownR s r n M R (fun g => Z g ∨ Y g) := by
  have h1 := h.new hb
  refine ⟨h1.st, h1.rt, h.dj, fun g hg => ?_⟩
  rcases hg with hz | hy'
  · exact h1.cl g hz
  · have := hy g hy'
    refine ⟨this.2, fun hm => ?_, fun hm => ?_⟩
    · have := (h.st.fp hm).2; omega
    · have := (h.rt.fp hm).2; omega
theorem Se.sub (h : Se W base baseR own ownR s r n M R Z) {Y : Nat → Prop} (hy : ∀ g, Y g → Z g) : Se W base baseR own ownR s r n M R Y := ⟨h.st, h.rt, h.dj, fun g hg => h.cl g (hy g hg)⟩
end
theorem same_sets {w : World} {base baseR : Nat} {own ownR : Nat → Option Role} {s r : Value} {n N : Nat} {M : Int → List Bk} {Z : Nat → Prop} (B : Se w base baseR own ownR s r n M M Z) (hg : Good M N) (hN : N ≤ 100000) :
    Calls Tryz.prog 65 #[s, r] w fun e w' => e = .returned (.bool true) ∧ Below w.heap.size w w' := by
  have HSC := Lib.hid (B.sub (Y := fun _ => False) (fun g h => h.elim)); have HG := Lib.hid hg
  clear B hg
  go_enter Tryz.func65, Tryz.ntmps65
  go_wp2_with fail
  go_loopg [5] 9 (fun q s5 wx => ∃ k : Nat, k ≤ 9 ∧ q = 9 - k ∧ s5 = .int .i64 ((k + 1 : Nat) : Int) ∧ Below w.heap.size w wx)
  case atStart => exact ⟨0, by omega, rfl, rfl, Below.refl _ _⟩
  case round =>
    obtain ⟨k, hk, rfl, rfl, hb⟩ := hrel
    have HB := Lib.hid hb
    clear hb
    obtain ⟨wo, rfl⟩ : ∃ wo : World, wo = wr := ⟨_, rfl⟩
    by_cases hk9 : k < 9
    · obtain ⟨b, hbk⟩ : ∃ b : Int, b = ((k + 1 : Nat) : Int) := ⟨_, rfl⟩
      have HBK := Lib.hid hbk
      have hb9 : b ≤ 9 := by omega
      have hb1 : 1 ≤ b := by omega
      have hbI : InI b := by unfold InI; omega
      rw [← hbk]
      have hsc1 := HSC.out.new HB.out
      have hhs : ∀ W, Below w.heap.size w W → Calls Tryz.prog 89 #[s, .int .i64 b] W fun e w' => e = .returned (.bool (decide (0 < (M b).length))) ∧ W = w' := fun W hW => by
        obtain ⟨F, hr⟩ := (HSC.out.new hW).st.rs
        obtain ⟨A, c, V, e, _⟩ := hr.rd b
        exact has_any hr.sv hbI e
      have hrhs : ∀ W, Below w.heap.size w W → Calls Tryz.prog 86 #[r, .int .i64 b] W fun e w' => e = .returned (.bool (decide (0 < (M b).length))) ∧ W = w' := fun W hW => rhas_any (HSC.out.new hW).rt b
      have htc : 0 < (M b).length → ∃ rb k A c, r = .pointer (some ⟨rb, 0, none⟩) ∧ b = (k : Nat) ∧ k < 9 ∧ ∀ W, Below w.heap.size w W → W.cell? ⟨rb, 9 + k, none⟩ = some (.slice A (M b).length c) := fun hp => by
        obtain ⟨rb, Q, T, V, hf⟩ := HSC.out.rt
        obtain ⟨k, hbk, hk2, hk9⟩ := hf.nat (b := b) (fun e => by rw [e] at hp; simp at hp)
        subst hbk
        obtain ⟨A, c, e, _⟩ := (hf.ht k hk9).shape
        refine ⟨rb, k, A, c, hf.hs, rfl, hk9, fun W hW => ?_⟩
        rw [← e]
        exact (hW.cell (p := ⟨rb, 9 + k, none⟩) (hf.fp rb _ hf.os).2).trans (hf.hT k hk9).1
      have hml := HG.out.len b
      obtain ⟨m, hm⟩ : ∃ m, m = (M b).length := ⟨_, rfl⟩
      rw [← hm] at hhs hrhs htc hml
      have HHS := Lib.hid hhs; have HRHS := Lib.hid hrhs; have HTC := Lib.hid htc; have HM := Lib.hid hm
      clear hhs hrhs htc hm hsc1 hbk
      by_cases hm0 : m = 0
      · subst hm0
        have hd : decide (0 < 0) = false := by decide
        rw [hd] at HHS HRHS
        clear hd
        have e12 : IntKind.i64.wrap (b + 1) = b + 1 := by rw [IntKind.wrap_i64]; omega
        go_wp2_with (first
          | (go_at_call 89; refine (HHS.out _ HB.out).mono ?_; rintro e w' ⟨rfl, rfl⟩)
          | (go_at_call 86; refine (HRHS.out _ HB.out).mono ?_; rintro e w' ⟨rfl, rfl⟩))
        refine wp_loop_rounds 1 ?_
        rw [rounds_succ]
        go_wp2_with (go_at_call 86; refine (HRHS.out _ HB.out).mono ?_; rintro e w' ⟨rfl, rfl⟩)
        go_roundg (9 - (k + 1))
        case measure => omega
        case rel => exact ⟨k + 1, by omega, rfl, by rw [HBK.out]; go_num, HB.out⟩
      · obtain ⟨rb, kb, Ar, cr, rfl, hbkb, hkb9, hcell⟩ := HTC.out (by omega)
        have hd : decide (0 < m) = true := by simpa using Nat.pos_of_ne_zero hm0
        rw [hd] at HHS HRHS
        subst hbkb
        have HCELL := Lib.hid hcell
        clear hd hcell HTC
        have e12 : IntKind.i64.wrap ((kb : Int) + 1) = (kb : Int) + 1 := by rw [IntKind.wrap_i64]; omega
        go_wp2_with (first
          | (go_at_call 89; refine (HHS.out _ HB.out).mono ?_; rintro e w' ⟨rfl, rfl⟩)
          | (go_at_call 86; refine (HRHS.out _ HB.out).mono ?_; rintro e w' ⟨rfl, rfl⟩))
        go_loopg [6] m (fun q s6 wx => ∃ i : Nat, i ≤ m ∧ q = m - i ∧ s6 = .int .i64 (i : Int) ∧ Below w.heap.size w wx)
        case atStart => exact ⟨0, by omega, rfl, rfl, HB.out⟩
        case round =>
          obtain ⟨i, hi, rfl, rfl, hb2⟩ := hrel
          have HB2 := Lib.hid hb2
          have hcw := HCELL.out wr hb2
          clear hb2
          by_cases him : i < m
          · obtain ⟨xa, xf, htm, hrtm⟩ := timer_all M hbI (i : Int)
            obtain ⟨D, hD, hq, hrq⟩ := queue_all HG.out hN hbI (i : Int)
            obtain ⟨nd, hnd⟩ : ∃ nd, nd = D.length := ⟨_, rfl⟩
            rw [← hnd] at hq hrq
            have HTM := Lib.hid htm; have HRTM := Lib.hid hrtm; have HQ := Lib.hid hq; have HRQ := Lib.hid hrq; have HND := Lib.hid hnd; have HD9 := Lib.hid hD
            have hne := fun W => neqT xa xf xa xf W
            simp only [and_self, decide_true, Bool.not_true] at hne
            clear htm hrtm hq hrq hnd hD
            go_upto_region 10 with (go_at_call 86; refine (HRHS.out _ HB2.out).mono ?_; rintro e w' ⟨rfl, rfl⟩)
            have hnew := heap_alloc_new wr (.cells #[.int .i64 (kb : Int), .int .i64 (i : Int)] 110)
            have hbn := below1 wr (.cells #[.int .i64 (kb : Int), .int .i64 (i : Int)] 110)
            have hsz : (wr.alloc (.cells #[.int .i64 (kb : Int), .int .i64 (i : Int)] 110)).heap.size = wr.heap.size + 1 := by simp
            generalize hw3 : wr.alloc (.cells #[.int .i64 (kb : Int), .int .i64 (i : Int)] 110) = w3 at *
            clear hw3
            obtain ⟨X7, hX7⟩ : ∃ X, X = wr.heap.size := ⟨_, rfl⟩
            have hsc3 : Se w3.drew base baseR own ownR s (.pointer (some ⟨rb, 0, none⟩)) n M M (fun g => g = X7) := (((HSC.out.new HB2.out).add hbn (Y := fun g => g = X7) (fun g hg => by omega)).drew).sub (fun g hg => .inr hg)
            rw [← hX7] at hnew ⊢
            have x0 : w3.drew.cell? ⟨X7, 0, none⟩ = some (.int .i64 (kb : Int)) := cell_row hnew 0
            have x1 : w3.drew.cell? ⟨X7, 1, none⟩ = some (.int .i64 (i : Int)) := cell_row hnew 1
            have HSC3 := Lib.hid hsc3
            have HB3 : Hid (Below w.heap.size w w3.drew) := Lib.hid ((HB2.out.trans (hbn.mono HB2.out.size)).drew)
            clear hnew hbn hsz hX7 hsc3 hcw
            refine wp_region_held_drew (S := fun w' => w'.cell? ⟨X7, 0, none⟩ = some (.int .i64 (kb : Int)) ∧ w'.cell? ⟨X7, 1, none⟩ = some (.int .i64 (i : Int))) (by kernel_rfl) ?_ (fun hHeld => ?_)
            · exact ⟨x0, x1⟩
            refine tA 0 ⟨some 38, .move (.tmp 0), 85, "help.go:23", #[], none⟩ ?va0 ?ra0
            (try simp only [Act.put, tC, tD, tE])
            refine tA 1 ⟨some 39, .load 110 (.tmp 7), 110, "help.go:23", #[], none⟩ ?va1 ?ra1
            (try simp only [Act.put, tC, tD, tE])
            refine tA 4 ⟨some 42, .move (.tmp 1), 104, "help.go:23", #[], none⟩ ?va4 ?ra4
            (try simp only [Act.put, tC, tD, tE])
            refine tA 5 ⟨some 43, .load 110 (.tmp 7), 110, "help.go:23", #[], none⟩ ?va5 ?ra5
            (try simp only [Act.put, tC, tD, tE])
            refine wpAnyH_ready (rs := [2]) (by kernel_rfl) (by simp) ?_
            refine AllReadyH.cons (o := ⟨some 40, .call ⟨.value (.func 120), #[.tmp 38, .tmp 39], #[85, 110]⟩, 113, "help.go:23", #[⟨0, .data⟩, ⟨1, .data⟩], none⟩) rfl (fun Kq hKq => ?_) AllReadyH.nil
            go_simp
            (have l7 := (HSC3.out.cl X7 rfl).1; refine (HTM.out _ base own s n HSC3.out.st).mono ?_; rintro e w4 ⟨rfl, hb4⟩; have HSC4 := Lib.hid (HSC3.out.new hb4); have HB4 := Lib.hid hb4)
            refine hKq.out _ _ ?_ (fun hHeld => ?_)
            · exact ⟨(hb4.cell (p := ⟨X7, 0, none⟩) l7).trans hHeld.1, (hb4.cell (p := ⟨X7, 1, none⟩) l7).trans hHeld.2⟩
            clear hKq Kq
            (try simp only [Act.put, tC, tD, tE])
            refine wpAnyH_ready (rs := [3]) (by kernel_rfl) (by simp) ?_
            refine AllReadyH.cons (o := ⟨some 41, .call ⟨.value (.func 119), #[.tmp 40], #[113]⟩, 124, "help.go:23", #[⟨2, .data⟩, ⟨2, .chain⟩], none⟩) rfl (fun Kq hKq => ?_) AllReadyH.nil
            go_simp
            (have l7 := (HSC4.out.cl X7 rfl).1; refine (otherT_any xa xf _).mono ?_; rintro e w5 ⟨rfl, hb5⟩; have HSC5 := Lib.hid (HSC4.out.new hb5); have HB5 := Lib.hid hb5)
            refine hKq.out _ _ ?_ (fun hHeld => ?_)
            · exact ⟨(hb5.cell (p := ⟨X7, 0, none⟩) l7).trans hHeld.1, (hb5.cell (p := ⟨X7, 1, none⟩) l7).trans hHeld.2⟩
            clear hKq Kq
            (try simp only [Act.put, tC, tD, tE])
            refine wpAnyH_ready (rs := [6]) (by kernel_rfl) (by simp) ?_
            refine AllReadyH.cons (o := ⟨some 44, .call ⟨.value (.func 34), #[.tmp 43], #[110]⟩, 116, "help.go:23", #[⟨5, .data⟩, ⟨3, .chain⟩], none⟩) rfl (fun Kq hKq => ?_) AllReadyH.nil
            go_simp
            (have l7 := (HSC5.out.cl X7 rfl).1; refine (otherP_any (kb : Int) (i : Int) _).mono ?_; rintro e w6 ⟨rfl, hb6⟩; have HSC6 := Lib.hid (HSC5.out.new hb6); have HB6 := Lib.hid hb6)
            refine hKq.out _ _ ?_ (fun hHeld => ?_)
            · exact ⟨(hb6.cell (p := ⟨X7, 0, none⟩) l7).trans hHeld.1, (hb6.cell (p := ⟨X7, 1, none⟩) l7).trans hHeld.2⟩
            clear hKq Kq
            (try simp only [Act.put, tC, tD, tE])
            refine wpAnyH_ready (rs := [7]) (by kernel_rfl) (by simp) ?_
            refine AllReadyH.cons (o := ⟨some 45, .call ⟨.value (.func 121), #[.tmp 42, .tmp 44], #[104, 116]⟩, 124, "help.go:23", #[⟨4, .data⟩, ⟨6, .data⟩, ⟨6, .chain⟩], none⟩) rfl (fun Kq hKq => ?_) AllReadyH.nil
            go_simp
            (have l7 := (HSC6.out.cl X7 rfl).1; refine (HRTM.out _ baseR ownR _ HSC6.out.rt).mono ?_; rintro e w7 ⟨rfl, hb7⟩; have HSC7 := Lib.hid (HSC6.out.new hb7); have HB7 := Lib.hid hb7)
            refine hKq.out _ _ ?_ (fun hHeld => ?_)
            · exact ⟨(hb7.cell (p := ⟨X7, 0, none⟩) l7).trans hHeld.1, (hb7.cell (p := ⟨X7, 1, none⟩) l7).trans hHeld.2⟩
            clear hKq Kq
            (try simp only [Act.put, tC, tD, tE])
            refine tA 8 ⟨some 46, .binOp .neq 124 (.tmp 41) (.tmp 45) 124, 4, "help.go:23", #[⟨3, .data⟩, ⟨7, .data⟩], none⟩ ?va8 ?ra8
            (try simp only [Act.put, tC, tD, tE])
            refine tA 9 ⟨some 47, .move (.tmp 46), 4, "help.go:23", #[⟨8, .data⟩, ⟨7, .chain⟩], none⟩ ?va9 ?ra9
            (try simp only [Act.put, tC, tD, tE])
            refine tA 10 ⟨some 48, .move (.tmp 0), 85, "help.go:23", #[⟨9, .guard⟩], some (9, false)⟩ ?va10 ?ra10
            (try simp only [Act.put, tC, tD, tE])
            refine tA 11 ⟨some 49, .load 110 (.tmp 7), 110, "help.go:23", #[⟨9, .guard⟩], some (9, false)⟩ ?va11 ?ra11
            (try simp only [Act.put, tC, tD, tE])
            refine tA 13 ⟨some 51, .move (.tmp 1), 104, "help.go:23", #[⟨9, .guard⟩], some (9, false)⟩ ?va13 ?ra13
            (try simp only [Act.put, tC, tD, tE])
            refine tA 14 ⟨some 52, .load 110 (.tmp 7), 110, "help.go:23", #[⟨9, .guard⟩], some (9, false)⟩ ?va14 ?ra14
            (try simp only [Act.put, tC, tD, tE])
            refine wpAnyH_ready (rs := [12]) (by kernel_rfl) (by simp) ?_
            refine AllReadyH.cons (o := ⟨some 50, .call ⟨.value (.func 123), #[.tmp 48, .tmp 49], #[85, 110]⟩, 111, "help.go:23", #[⟨10, .data⟩, ⟨11, .data⟩, ⟨9, .chain⟩, ⟨9, .guard⟩], some (9, false)⟩) rfl (fun Kq hKq => ?_) AllReadyH.nil
            go_simp
            (have l7 := (HSC7.out.cl X7 rfl).1; refine (HQ.out _ base own s n HSC7.out.st).mono ?_; rintro e w8 ⟨A8, rfl, hr8, hb8⟩; have HR8 := Lib.hid hr8; clear hr8; have HSC8 := Lib.hid (HSC7.out.new hb8); have HB8 := Lib.hid hb8)
            refine hKq.out _ _ ?_ (fun hHeld => ?_)
            · exact ⟨(hb8.cell (p := ⟨X7, 0, none⟩) l7).trans hHeld.1, (hb8.cell (p := ⟨X7, 1, none⟩) l7).trans hHeld.2⟩
            clear hKq Kq
            (try simp only [Act.put, tC, tD, tE])
            refine wpAnyH_ready (rs := [15]) (by kernel_rfl) (by simp) ?_
            refine AllReadyH.cons (o := ⟨some 53, .call ⟨.value (.func 34), #[.tmp 52], #[110]⟩, 116, "help.go:23", #[⟨14, .data⟩, ⟨12, .chain⟩, ⟨9, .guard⟩], some (9, false)⟩) rfl (fun Kq hKq => ?_) AllReadyH.nil
            go_simp
            (have l7 := (HSC8.out.cl X7 rfl).1; refine (otherP_any (kb : Int) (i : Int) _).mono ?_; rintro e w9 ⟨rfl, hb9⟩; have HSC9 := Lib.hid (HSC8.out.new hb9); have HB9 := Lib.hid hb9)
            refine hKq.out _ _ ?_ (fun hHeld => ?_)
            · exact ⟨(hb9.cell (p := ⟨X7, 0, none⟩) l7).trans hHeld.1, (hb9.cell (p := ⟨X7, 1, none⟩) l7).trans hHeld.2⟩
            clear hKq Kq
            (try simp only [Act.put, tC, tD, tE])
            refine wpAnyH_ready (rs := [16]) (by kernel_rfl) (by simp) ?_
            refine AllReadyH.cons (o := ⟨some 54, .call ⟨.value (.func 124), #[.tmp 51, .tmp 53], #[104, 116]⟩, 120, "help.go:23", #[⟨13, .data⟩, ⟨15, .data⟩, ⟨15, .chain⟩, ⟨9, .guard⟩], some (9, false)⟩) rfl (fun Kq hKq => ?_) AllReadyH.nil
            go_simp
            (have l7 := (HSC9.out.cl X7 rfl).1; refine (HRQ.out _ baseR ownR _ HSC9.out.rt).mono ?_; rintro e w10 ⟨A10, c10, rfl, hc10, hc109, hr10, hb10⟩; have HR10 := Lib.hid hr10; clear hr10; have HSC10 := Lib.hid (HSC9.out.new hb10); have HB10 := Lib.hid hb10)
            refine hKq.out _ _ ?_ (fun hHeld => ?_)
            · exact ⟨(hb10.cell (p := ⟨X7, 0, none⟩) l7).trans hHeld.1, (hb10.cell (p := ⟨X7, 1, none⟩) l7).trans hHeld.2⟩
            clear hKq Kq
            (try simp only [Act.put, tC, tD, tE])
            refine wpAnyH_ready (rs := [17]) (by kernel_rfl) (by simp) ?_
            refine AllReadyH.cons (o := ⟨some 55, .call ⟨.value (.func 122), #[.tmp 50, .tmp 54], #[111, 120]⟩, 4, "help.go:23", #[⟨12, .data⟩, ⟨16, .data⟩, ⟨16, .chain⟩, ⟨9, .guard⟩], some (9, false)⟩) rfl (fun Kq hKq => ?_) AllReadyH.nil
            go_simp
            (have l7 := (HSC10.out.cl X7 rfl).1; have hq4 := (HR8.out.new HB9.out).new HB10.out; rw [HND.out] at hq4; have hsm := same_any D.length c10 hq4.rd ((HR10.out).more HB10.out.size) (Nat.le_refl _) (Nat.le_refl _) (by have := HD9.out; omega); rw [← HND.out] at hsm; refine hsm.mono ?_; rintro e w11 ⟨rfl, hb11⟩; have HSC11 := Lib.hid (HSC10.out.new hb11); have HB11 := Lib.hid hb11; clear hq4 hsm)
            refine hKq.out _ _ ?_ (fun hHeld => ?_)
            · exact ⟨(hb11.cell (p := ⟨X7, 0, none⟩) l7).trans hHeld.1, (hb11.cell (p := ⟨X7, 1, none⟩) l7).trans hHeld.2⟩
            clear hKq Kq
            (try simp only [Act.put, tC, tD, tE])
            refine tA 18 ⟨some 56, .unOp .not 4 (.tmp 55), 4, "help.go:23", #[⟨17, .data⟩, ⟨9, .guard⟩], some (9, false)⟩ ?va18 ?ra18
            (try simp only [Act.put, tC, tD, tE])
            refine tA 19 ⟨some 57, .pick (.tmp 47) (.const (.bool true)) (.tmp 56), 4, "help.go:23", #[⟨9, .data⟩, ⟨18, .data⟩], none⟩ ?va19 ?ra19
            (try simp only [Act.put, tC, tD, tE])
            refine wpAnyH_done (by kernel_rfl) ?_ _
            have b4 := HB3.out.trans (HB4.out.mono HB3.out.size)
            have b5 := b4.trans (HB5.out.mono b4.size)
            have b6 := b5.trans (HB6.out.mono b5.size)
            have b7 := b6.trans (HB7.out.mono b6.size)
            have b8 := b7.trans (HB8.out.mono b7.size)
            have b9 := b8.trans (HB9.out.mono b8.size)
            have b10 := b9.trans (HB10.out.mono b9.size)
            have HB12 := Lib.hid (b10.trans (HB11.out.mono b10.size))
            clear b4 b5 b6 b7 b8 b9 b10 hne
            go_wp2_with fail
            go_roundg (m - (i + 1))
            case measure => omega
            case rel => exact ⟨i + 1, by omega, rfl, by go_num, HB12.out⟩
          · obtain rfl : i = m := by omega
            go_wp2_with (go_at_call 86; refine (HRHS.out _ HB2.out).mono ?_; rintro e w' ⟨rfl, rfl⟩)
            go_roundg (9 - (k + 1))
            case measure => omega
            case rel => exact ⟨k + 1, by omega, rfl, by have := HBK.out; rw [this]; go_num, HB2.out⟩
    · obtain rfl : k = 9 := by omega
      go_wp2_with fail
      go_ret
      exact ⟨rfl, HB.out⟩
end Go.Proofs.YtlflagjnlclffaaGreat.S10
namespace Go.Proofs.YtlflagjnlclffaaGreat.S12
set_option maxRecDepth 100000
set_option maxHeartbeats 16000000
open Go.Proofs.YtlflagjnlclffaaGreat Go.Proofs.YtlflagjnlclffaaGreat.S11
open Go.RowKit
section
variable {P : Program} {ops : Array Oper} {Q : Exit → Act → World → Prop} {md : Region.Mode} {S S' : World → Prop}
theorem wpAnyH_more (h : ∀ w, S' w → S w) : ∀ (fuel : Nat) (listed : Array Bool) (a : Act) (w : World), wpAnyH P md ops Q S' fuel listed a w → wpAnyH P md ops Q S fuel listed a w
  | 0, _, _, _, hq => hq
  | fuel + 1, _, _, _, hq => ⟨hq.1, fun i hi => wpOp_mono (fun a' w' h' => ⟨h w' h'.1, wpAnyH_more h fuel _ a' w' h'.2⟩) (hq.2 i hi)⟩
end
theorem Bg.both02 {w0 w : World} {base WB RB N cn tn : Nat} {M : Sd} {E : List Part} {X : Wm} {Y : Rm} (h : Bg w0 w base WB RB N cn tn M M E X Y) : S2.Both w 0 X.cB Y.rB X.L X.n X.k X.a X.was X.is := by
  have heq : X.sd = Y.sd := by rw [h.xm, h.ym]
  have e_L : X.L = Y.L := congrArg Sd.L heq
  have e_n : X.n = Y.n := congrArg Sd.n heq
  have e_k : X.k = Y.k := congrArg Sd.k heq
  have e_a : X.a = Y.a := congrArg Sd.a heq
  have e_was : X.was = Y.was := congrArg Sd.was heq
  have e_is : X.is = Y.is := congrArg Sd.is heq
  have hr := h.pr.rcells
  rw [← e_L, ← e_n, ← e_k, ← e_a, ← e_was, ← e_is] at hr
  have ap : ∀ k, (cellsP X.cB X.cM X.L X.n X.k X.a X.was X.is).fp k → ¬ (rcellsP Y.rb Y.rB Y.rs Y.L Y.n Y.k Y.a Y.was Y.is).fp k := h.pr.apart 0 7 _ _ rfl rfl (by decide)
  refine ⟨Nat.zero_le _, Nat.zero_le _, Nat.zero_le _, fun e => ap X.cB (.inl rfl) (.inl e.symm), h.byt, X.cM, Y.rs, h.pr.pw.cells, ⟨hr.good, hr.row, S2.row_base hr.own (Nat.zero_le _), hr.ne⟩, fun m hm => ⟨Nat.zero_le _, fun e => ap m (.inr hm) (.inl e), fun e => ap m (.inr hm) (.inr e)⟩, fun e => ap X.cB (.inl rfl) (.inr e)⟩
theorem Bg.se {w0 w : World} {base WB RB N cn tn : Nat} {M : Sd} {E : List Part} {X : Wm} {Y : Rm} (h : Bg w0 w base WB RB N cn tn M M E X Y) : S10.Se w X.tb Y.tb X.tO Y.tO X.ts Y.ts X.tn M.m M.m (fun _ => False) :=
  ⟨h.st, h.rt, h.pr.apart 4 9 _ _ rfl rfl (by decide), fun _ e => e.elim⟩
def Z64l : List Value := List.replicate 64 (.int .u64 0)
def Z64 : Array Value := Z64l.toArray
theorem under64 : Tryz.prog.underlying 87 = some (.array 64 22) := by kernel_rfl
theorem info64 : (Tryz.prog.info? 87).map (·.size) = some Z64l.length := by kernel_rfl
theorem neq64 (w : World) : (binOp .neq 87 (.agg Z64) (.agg Z64)).run Tryz.prog w = .ok (.bool false) w := by kernel_rfl
theorem z64_get (j : Nat) (hj : j < 64) : Z64l[j]? = some (.int .u64 0) := by
  unfold Z64l
  rw [List.getElem?_replicate, if_pos hj]
theorem zx7 : ∀ j, j < 64 → Tryz.zeroCells89[7 + j]? = some (.int .u64 0) := by
  intro j hj
  have e : Tryz.zeroCells89 = (#[.pointer none, .pointer none, .pointer none, .pointer none, .pointer none, .pointer none, .int .i64 0] ++ Z64 : Array Value) := by kernel_rfl
  rw [e, Array.getElem?_append_right (by simp)]
  show Z64[7 + j - 7]? = _
  rw [Nat.add_sub_cancel_left]
  unfold Z64
  rw [List.getElem?_toArray]
  exact z64_get j hj
theorem zy7 : ∀ j, j < 64 → Tryz.zeroCells107[7 + j]? = some (.int .u64 0) := by
  intro j hj
  have e : Tryz.zeroCells107 = (#[.pointer none, .pointer none, .pointer none, .pointer none, .pointer none, .pointer none, .int .i64 0] ++ Z64 : Array Value) := by kernel_rfl
  rw [e, Array.getElem?_append_right (by simp)]
  show Z64[7 + j - 7]? = _
  rw [Nat.add_sub_cancel_left]
  unfold Z64
  rw [List.getElem?_toArray]
  exact z64_get j hj
theorem px7 (a b c d e f : Value) (sp : Int) (j : Nat) (hj : j < 64) : (pcells a b c d e f sp)[7 + j]? = some (.int .u64 0) := by
  simp [pcells, Array.getElem?_setIfInBounds, zsize, zx7 j hj, show ¬ 0 = 7 + j by omega, show ¬ 1 = 7 + j by omega, show ¬ 2 = 7 + j by omega, show ¬ 3 = 7 + j by omega, show ¬ 4 = 7 + j by omega, show ¬ 5 = 7 + j by omega, show ¬ 6 = 7 + j by omega]
theorem py7 (a b c d e f : Value) (sp : Int) (j : Nat) (hj : j < 64) : (wcells a b c d e f sp)[7 + j]? = some (.int .u64 0) := by
  simp [wcells, Array.getElem?_setIfInBounds, rsize, zy7 j hj, show ¬ 0 = 7 + j by omega, show ¬ 1 = 7 + j by omega, show ¬ 2 = 7 + j by omega, show ¬ 3 = 7 + j by omega, show ¬ 4 = 7 + j by omega, show ¬ 5 = 7 + j by omega, show ¬ 6 = 7 + j by omega]
theorem Bg.tokX {w0 w : World} {base WB RB N cn tn : Nat} {M RM : Sd} {E : List Part} {X : Wm} {Y : Rm} (h : Bg w0 w base WB RB N cn tn M RM E X Y) : w.rangeAt WB 7 Z64l := fun j v hj => by
  have hl : j < 64 := by
    have := (List.getElem?_eq_some_iff.1 hj).1
    unfold Z64l at this
    rwa [List.length_replicate] at this
  have hv : v = .int .u64 0 := by rw [z64_get j hl] at hj; injection hj with hj; exact hj.symm
  rw [hv, ← h.wB]
  exact (cell_row h.pr.pw.own (7 + j)).trans (px7 _ _ _ _ _ _ _ j hl)
theorem Bg.tokY {w0 w : World} {base WB RB N cn tn : Nat} {M RM : Sd} {E : List Part} {X : Wm} {Y : Rm} (h : Bg w0 w base WB RB N cn tn M RM E X Y) : w.rangeAt RB 7 Z64l := fun j v hj => by
  have hl : j < 64 := by
    have := (List.getElem?_eq_some_iff.1 hj).1
    unfold Z64l at this
    rwa [List.length_replicate] at this
  have hv : v = .int .u64 0 := by rw [z64_get j hl] at hj; injection hj with hj; exact hj.symm
  rw [hv, ← h.rB]
  exact (cell_row h.pr.rown (7 + j)).trans (py7 _ _ _ _ _ _ _ j hl)
def SaF (w2 : World) (B0 WB RB cB kB nB rB rkB rnB nl nc T : Nat) (ts rts : Value) (nA : Option Addr) (w' : World) : Prop := Below w2.heap.size w2 w' ∧ w'.cell? ⟨B0, 0, none⟩ = some (Pw WB) ∧ w'.cell? ⟨B0, 1, none⟩ = some (Pw RB) ∧ w'.cell? ⟨WB, 0, none⟩ = some (Pw cB) ∧ w'.cell? ⟨WB, 1, none⟩ = some (Pw kB) ∧ w'.cell? ⟨WB, 4, none⟩ = some ts ∧ w'.cell? ⟨WB, 5, none⟩ = some (Pw nB) ∧ w'.cell? ⟨RB, 0, none⟩ = some (Pw rB) ∧ w'.cell? ⟨RB, 1, none⟩ = some (Pw rkB) ∧ w'.cell? ⟨RB, 4, none⟩ = some rts ∧ w'.cell? ⟨RB, 5, none⟩ = some (Pw rnB) ∧ w'.cell? ⟨rnB, 0, none⟩ = some (.slice nA nl nc) ∧ w'.cell? ⟨rkB, 0, none⟩ = some (.int .u64 (T : Int))
theorem SaF.new {w2 w' w'' : World} {B0 WB RB cB kB nB rB rkB rnB nl nc T : Nat} {ts rts : Value} {nA : Option Addr} (h : SaF w2 B0 WB RB cB kB nB rB rkB rnB nl nc T ts rts nA w') (hb : Below w'.heap.size w' w'') : SaF w2 B0 WB RB cB kB nB rB rkB rnB nl nc T ts rts nA w'' := by
  obtain ⟨hb0, c0, c1, c2, c3, c4, c5, c6, c7, c8, c9, c10, c11⟩ := h
  exact ⟨hb0.trans (hb.mono hb0.size), bcell hb c0, bcell hb c1, bcell hb c2, bcell hb c3, bcell hb c4, bcell hb c5, bcell hb c6, bcell hb c7, bcell hb c8, bcell hb c9, bcell hb c10, bcell hb c11⟩
def SbF (w2 : World) (B0 WB RB pB rpB Bx : Nat) (xa : Bool) (w' : World) : Prop := Below w2.heap.size w2 w' ∧ w'.cell? ⟨B0, 0, none⟩ = some (Pw WB) ∧ w'.cell? ⟨B0, 1, none⟩ = some (Pw RB) ∧ w'.cell? ⟨WB, 2, none⟩ = some (Pw pB) ∧ w'.cell? ⟨RB, 2, none⟩ = some (Pw rpB) ∧ w'.cell? ⟨Bx, 1, none⟩ = some (.bool xa)
theorem SbF.new {w2 w' w'' : World} {B0 WB RB pB rpB Bx : Nat} {xa : Bool} (h : SbF w2 B0 WB RB pB rpB Bx xa w') (hb : Below w'.heap.size w' w'') : SbF w2 B0 WB RB pB rpB Bx xa w'' := by
  obtain ⟨hb0, c0, c1, c2, c3, c4⟩ := h
  exact ⟨hb0.trans (hb.mono hb0.size), bcell hb c0, bcell hb c1, bcell hb c2, bcell hb c3, bcell hb c4⟩
theorem pair_all {w0 w : World} {base WB RB N cn tn : Nat} {M : Sd} {E : List Part} {X : Wm} {Y : Rm} (h : Bg w0 w base WB RB N cn tn M M E X Y) (hc : cn ≤ 2100000) (hN : N ≤ 100000) :
    Calls Tryz.prog 16 #[.agg #[Pw WB, Pw RB]] w fun e w' => e = .returned (.bool true) ∧ Below w.heap.size w w' := by
  have hb1 : Below w.heap.size w (w.alloc (.cells #[Pw WB, Pw RB] 36)) := (Below.refl _ _).alloc (Nat.le_refl _) _
  have hq0 := heap_alloc_new w (.cells #[Pw WB, Pw RB] 36)
  have h2 := h.new hb1
  obtain ⟨B0, hB0⟩ : ∃ B0, B0 = w.heap.size := ⟨_, rfl⟩
  rw [← hB0] at hq0
  have HB1 := Lib.hid hb1
  have HB0 := Lib.hid hB0
  clear hb1 h hB0
  go_enter Tryz.func16, Tryz.ntmps16
  go_upto_region 1 with (fail)
  rw [← HB0.out]
  generalize w.alloc (.cells #[Pw WB, Pw RB] 36) = w2 at *
  have b0 := cell_row hq0 0; have b1 := cell_row hq0 1
  simp only [List.getElem?_toArray, List.getElem?_cons_zero, List.getElem?_cons_succ] at b0 b1
  obtain ⟨nA, nc, hns, _⟩ := h2.pr.rnotes.own.shape
  have heq : X.sd = Y.sd := by rw [h2.xm, h2.ym]
  have e_T : X.T = Y.T := congrArg Sd.T heq
  have e_nD : X.nD = Y.nD := congrArg Sd.nD heq
  have e_pf : X.pf = Y.pf := congrArg Sd.pf heq
  have e_lk : X.lk = Y.lk := congrArg Sd.lk heq
  have hsm := fun (W : World) (q : Below w2.heap.size w2 W) => pair_same (h2.new q) (by omega)
  have hs2 := fun (W : World) (q : Below w2.heap.size w2 W) => S2.same_any W 0 X.cB Y.rB X.L X.n X.k X.a X.was X.is (h2.new q).both02
  have hal := fun (W : World) (q : Below w2.heap.size w2 W) => S11.all_any (h2.new q).pr.pw.notes (by have := h2.nD; omega)
  have hnl : Y.nD.length ≤ 2100000 := by rw [← e_nD]; have := h2.nD; omega
  have hnw := fun (W : World) (q : Below w2.heap.size w2 W) => S3.now_any (h2.new q).pr.pw.clock
  have hts := fun (W : World) (q : Below w2.heap.size w2 W) => S10.same_sets (h2.new q).se h2.gd hN
  have hnr : ∀ W, Below w2.heap.size w2 W → Rd W W.heap.size nA (flat .i64 X.nD) := fun W q => by
    have hr := (h2.new q).pr.rnotes.own
    rw [hns] at hr
    rw [e_nD]
    exact hr.rd
  have f2 := h2.pr.pw.c0; have f3 := h2.pr.pw.c1; have f4 := h2.pr.pw.c4; have f5 := h2.pr.pw.c5
  have f6 := h2.pr.r0; have f7 := h2.pr.r1; have f8 := h2.pr.r4; have f9 := h2.pr.r5
  have f10 := h2.pr.rnotes.cell
  have f11 := cell_row h2.pr.rclock.row 0
  simp only [List.getElem?_toArray, List.getElem?_cons_zero, List.getElem?_cons_succ] at f11
  rw [hns, ← e_nD] at f10
  rw [← e_T] at f11
  rw [h2.wB] at f2 f3 f4 f5
  rw [h2.rB] at f6 f7 f8 f9
  have hns2 : ∀ W A9 b9, Below w2.heap.size w2 W → ∀ _ : Unit, ∀ _ : Unit, Row W b9 7 (.slice A9 X.nD.length X.nD.length) X.nD.length (flat .u8 X.nD) → Calls Tryz.prog 63 #[.slice A9 X.nD.length X.nD.length, .slice nA X.nD.length nc] W fun e w' => e = .returned (.bool true) ∧ Below W.heap.size W w' := fun W A9 b9 q _ _ hr =>
    S11.same_any _ nc hr.rd (hnr W q) (Nat.le_refl _) (Nat.le_refl _) (by have := h2.nD; omega) h2.nk
  have H2 := Lib.hid h2
  obtain ⟨D, hD⟩ : ∃ D, D = X.nD := ⟨_, rfl⟩
  rw [← hD] at f10 hns2 hal
  obtain ⟨nl, hnl2⟩ : ∃ x, x = D.length := ⟨_, rfl⟩
  have hal2 : ∀ W, Below w2.heap.size w2 W → Calls Tryz.prog 64 #[Pw X.nB] W fun e w' => ∃ A, e = .returned (.slice A nl nl) ∧ Row w' W.heap.size 7 (.slice A nl nl) nl (flat .u8 D) ∧ Below W.heap.size W w' := fun W q => by rw [hnl2]; exact hal W q
  rw [← hnl2] at f10 hns2
  have HTX := Lib.hid (fun (W : World) (q : Below w2.heap.size w2 W) => (h2.new q).tokX)
  have HTY := Lib.hid (fun (W : World) (q : Below w2.heap.size w2 W) => (h2.new q).tokY)
  have HSM := Lib.hid hsm; have HS2 := Lib.hid hs2; have HAL := Lib.hid hal2; have HNS := Lib.hid hns2; have HTS := Lib.hid hts; have HNW := Lib.hid hnw
  have HE := Lib.hid (And.intro e_pf e_lk)
  clear hsm hs2 hal hal2 hns2 hts hnw hnr hnl hnl2 hD e_T e_nD e_pf e_lk heq hc hN
  obtain ⟨kB, hkB⟩ : ∃ x, x = X.kB := ⟨_, rfl⟩
  obtain ⟨cB, hcB⟩ : ∃ x, x = X.cB := ⟨_, rfl⟩
  obtain ⟨nB, hnB⟩ : ∃ x, x = X.nB := ⟨_, rfl⟩
  obtain ⟨ts, hts⟩ : ∃ x, x = X.ts := ⟨_, rfl⟩
  obtain ⟨rts, hrts⟩ : ∃ x, x = Y.ts := ⟨_, rfl⟩
  obtain ⟨rB, hrB⟩ : ∃ x, x = Y.rB := ⟨_, rfl⟩
  obtain ⟨rkB, hrkB⟩ : ∃ x, x = Y.kB := ⟨_, rfl⟩
  obtain ⟨rnB, hrnB⟩ : ∃ x, x = Y.nB := ⟨_, rfl⟩
  obtain ⟨T, hT⟩ : ∃ x, x = X.T := ⟨_, rfl⟩
  rw [← hcB, ← hrB] at HS2; rw [← hnB] at HAL; rw [← hts, ← hrts] at HTS; rw [← hkB, ← hT] at HNW
  rw [← hcB] at f2; rw [← hkB] at f3; rw [← hts] at f4; rw [← hnB] at f5; rw [← hrB] at f6; rw [← hrkB] at f7 f11; rw [← hrts] at f8; rw [← hrnB] at f9 f10; rw [← hT] at f11
  have hev := fun W => neq64 W
  have HF : Hid (w2.drew.cell? ⟨B0, 0, none⟩ = some (Pw WB) ∧ w2.drew.cell? ⟨B0, 1, none⟩ = some (Pw RB) ∧ w2.drew.cell? ⟨WB, 0, none⟩ = some (Pw cB) ∧ w2.drew.cell? ⟨WB, 1, none⟩ = some (Pw kB) ∧ w2.drew.cell? ⟨WB, 4, none⟩ = some ts ∧ w2.drew.cell? ⟨WB, 5, none⟩ = some (Pw nB) ∧ w2.drew.cell? ⟨RB, 0, none⟩ = some (Pw rB) ∧ w2.drew.cell? ⟨RB, 1, none⟩ = some (Pw rkB) ∧ w2.drew.cell? ⟨RB, 4, none⟩ = some rts ∧ w2.drew.cell? ⟨RB, 5, none⟩ = some (Pw rnB) ∧ w2.drew.cell? ⟨rnB, 0, none⟩ = some (.slice nA nl nc) ∧ w2.drew.cell? ⟨rkB, 0, none⟩ = some (.int .u64 (T : Int))) := Lib.hid ⟨b0, b1, f2, f3, f4, f5, f6, f7, f8, f9, f10, f11⟩
  have HQ0 := Lib.hid hq0
  clear b0 b1 f2 f3 f4 f5 f6 f7 f8 f9 f10 f11 hkB hcB hnB hts hrts hrB hrkB hrnB hT hns h2 hq0
  (try simp only [List.append_eq, List.cons_append, List.nil_append])
  refine wp_region_held_drew (S := fun w' => Below w2.heap.size w2 w' ∧ w'.cell? ⟨B0, 0, none⟩ = some (Pw WB) ∧ w'.cell? ⟨B0, 1, none⟩ = some (Pw RB) ∧ w'.cell? ⟨WB, 0, none⟩ = some (Pw cB) ∧ w'.cell? ⟨WB, 1, none⟩ = some (Pw kB) ∧ w'.cell? ⟨WB, 4, none⟩ = some ts ∧ w'.cell? ⟨WB, 5, none⟩ = some (Pw nB) ∧ w'.cell? ⟨RB, 0, none⟩ = some (Pw rB) ∧ w'.cell? ⟨RB, 1, none⟩ = some (Pw rkB) ∧ w'.cell? ⟨RB, 4, none⟩ = some rts ∧ w'.cell? ⟨RB, 5, none⟩ = some (Pw rnB) ∧ w'.cell? ⟨rnB, 0, none⟩ = some (.slice nA nl nc) ∧ w'.cell? ⟨rkB, 0, none⟩ = some (.int .u64 (T : Int))) (by kernel_rfl) ?_ (fun hHeld => ?_)
  · exact ⟨(Below.refl _ _).drew, HF.out⟩
  refine tA 0 ⟨some 10, .load 36 (.tmp 1), 36, "help.go:113", #[], none⟩ ?vam1 ?ram1
  (try simp only [Act.put, tC, tD, tE])
  refine wpAnyH_ready (rs := [1]) (by kernel_rfl) (by simp) ?_
  refine AllReadyH.cons (o := ⟨some 11, .call ⟨.value (.func 15), #[.tmp 10], #[36]⟩, 4, "help.go:113", #[⟨0, .data⟩], none⟩) rfl (fun Kq hKq => ?_) AllReadyH.nil
  go_simp
  (refine (HSM.out _ hHeld.1).mono ?_; rintro e w3 ⟨rfl, hb⟩)
  refine hKq.out _ _ ?_ (fun hHeld => ?_)
  · exact SaF.new hHeld hb
  clear hKq Kq
  (try simp only [Act.put, tC, tD, tE])
  refine tA 2 ⟨some 12, .unOp .not 4 (.tmp 11), 4, "help.go:113", #[⟨1, .data⟩], none⟩ ?vam2 ?ram2
  (try simp only [Act.put, tC, tD, tE])
  refine tA 3 ⟨some 13, .move (.tmp 12), 4, "help.go:113", #[⟨2, .data⟩, ⟨1, .chain⟩], none⟩ ?vam3 ?ram3
  (try simp only [Act.put, tC, tD, tE])
  refine tA 4 ⟨some 14, .fieldAddr 36 (.tmp 1) 0, 0, "help.go:113", #[⟨3, .guard⟩], some (3, false)⟩ ?vam4 ?ram4
  (try simp only [Act.put, tC, tD, tE])
  refine tA 5 ⟨some 15, .load 33 (.tmp 14), 33, "help.go:113", #[⟨4, .data⟩, ⟨3, .guard⟩], some (3, false)⟩ ?vam5 ?ram5
  (try simp only [Act.put, tC, tD, tE])
  refine tA 6 ⟨some 16, .nilCheck (.tmp 15), 0, "help.go:113", #[⟨5, .data⟩, ⟨3, .guard⟩], some (3, false)⟩ ?vam6 ?ram6
  (try simp only [Act.put, tC, tD, tE])
  refine tA 7 ⟨some 17, .fieldAddr 89 (.tmp 16) 0, 0, "help.go:113", #[⟨6, .data⟩, ⟨3, .guard⟩], some (3, false)⟩ ?vam7 ?ram7
  (try simp only [Act.put, tC, tD, tE])
  refine tA 8 ⟨some 18, .load 81 (.tmp 17), 81, "help.go:113", #[⟨7, .data⟩, ⟨3, .guard⟩], some (3, false)⟩ ?vam8 ?ram8
  (try simp only [Act.put, tC, tD, tE])
  refine tA 9 ⟨some 19, .fieldAddr 36 (.tmp 1) 1, 0, "help.go:113", #[⟨3, .guard⟩], some (3, false)⟩ ?vam9 ?ram9
  (try simp only [Act.put, tC, tD, tE])
  refine tA 10 ⟨some 20, .load 34 (.tmp 19), 34, "help.go:113", #[⟨9, .data⟩, ⟨3, .guard⟩], some (3, false)⟩ ?vam10 ?ram10
  (try simp only [Act.put, tC, tD, tE])
  refine tA 11 ⟨some 21, .nilCheck (.tmp 20), 0, "help.go:113", #[⟨10, .data⟩, ⟨3, .guard⟩], some (3, false)⟩ ?vam11 ?ram11
  (try simp only [Act.put, tC, tD, tE])
  refine tA 12 ⟨some 22, .fieldAddr 107 (.tmp 21) 0, 0, "help.go:113", #[⟨11, .data⟩, ⟨3, .guard⟩], some (3, false)⟩ ?vam12 ?ram12
  (try simp only [Act.put, tC, tD, tE])
  refine tA 13 ⟨some 23, .load 100 (.tmp 22), 100, "help.go:113", #[⟨12, .data⟩, ⟨3, .guard⟩], some (3, false)⟩ ?vam13 ?ram13
  (try simp only [Act.put, tC, tD, tE])
  refine wpAnyH_ready (rs := [14]) (by kernel_rfl) (by simp) ?_
  refine AllReadyH.cons (o := ⟨some 24, .call ⟨.value (.func 62), #[.tmp 18, .tmp 23], #[81, 100]⟩, 4, "help.go:113", #[⟨8, .data⟩, ⟨13, .data⟩, ⟨3, .chain⟩, ⟨3, .guard⟩], some (3, false)⟩) rfl (fun Kq hKq => ?_) AllReadyH.nil
  go_simp
  (refine (HS2.out _ hHeld.1).mono ?_; rintro e w3 ⟨rfl, hb⟩)
  refine hKq.out _ _ ?_ (fun hHeld => ?_)
  · exact SaF.new hHeld hb
  clear hKq Kq
  (try simp only [Act.put, tC, tD, tE])
  refine tA 15 ⟨some 25, .unOp .not 4 (.tmp 24), 4, "help.go:113", #[⟨14, .data⟩, ⟨3, .guard⟩], some (3, false)⟩ ?vam14 ?ram14
  (try simp only [Act.put, tC, tD, tE])
  refine tA 16 ⟨some 26, .pick (.tmp 13) (.const (.bool true)) (.tmp 25), 4, "help.go:113", #[⟨3, .data⟩, ⟨15, .data⟩], none⟩ ?vam15 ?ram15
  (try simp only [Act.put, tC, tD, tE])
  refine tA 17 ⟨some 27, .move (.tmp 26), 4, "help.go:113", #[⟨16, .data⟩, ⟨14, .chain⟩], none⟩ ?vam16 ?ram16
  (try simp only [Act.put, tC, tD, tE])
  refine tA 18 ⟨some 28, .fieldAddr 36 (.tmp 1) 0, 0, "help.go:113", #[⟨17, .guard⟩], some (17, false)⟩ ?vam17 ?ram17
  (try simp only [Act.put, tC, tD, tE])
  refine tA 19 ⟨some 29, .load 33 (.tmp 28), 33, "help.go:113", #[⟨18, .data⟩, ⟨17, .guard⟩], some (17, false)⟩ ?vam18 ?ram18
  (try simp only [Act.put, tC, tD, tE])
  refine tA 20 ⟨some 30, .nilCheck (.tmp 29), 0, "help.go:113", #[⟨19, .data⟩, ⟨17, .guard⟩], some (17, false)⟩ ?vam19 ?ram19
  (try simp only [Act.put, tC, tD, tE])
  refine tA 21 ⟨some 31, .fieldAddr 89 (.tmp 30) 5, 0, "help.go:113", #[⟨20, .data⟩, ⟨17, .guard⟩], some (17, false)⟩ ?vam20 ?ram20
  (try simp only [Act.put, tC, tD, tE])
  refine tA 22 ⟨some 32, .load 86 (.tmp 31), 86, "help.go:113", #[⟨21, .data⟩, ⟨17, .guard⟩], some (17, false)⟩ ?vam21 ?ram21
  (try simp only [Act.put, tC, tD, tE])
  refine tA 24 ⟨some 34, .fieldAddr 36 (.tmp 1) 1, 0, "help.go:113", #[⟨17, .guard⟩], some (17, false)⟩ ?vam22 ?ram22
  (try simp only [Act.put, tC, tD, tE])
  refine tA 25 ⟨some 35, .load 34 (.tmp 34), 34, "help.go:113", #[⟨24, .data⟩, ⟨17, .guard⟩], some (17, false)⟩ ?vam23 ?ram23
  (try simp only [Act.put, tC, tD, tE])
  refine tA 26 ⟨some 36, .nilCheck (.tmp 35), 0, "help.go:113", #[⟨25, .data⟩, ⟨17, .guard⟩], some (17, false)⟩ ?vam24 ?ram24
  (try simp only [Act.put, tC, tD, tE])
  refine tA 27 ⟨some 37, .fieldAddr 107 (.tmp 36) 5, 0, "help.go:113", #[⟨26, .data⟩, ⟨17, .guard⟩], some (17, false)⟩ ?vam25 ?ram25
  (try simp only [Act.put, tC, tD, tE])
  refine tA 28 ⟨some 38, .load 105 (.tmp 37), 105, "help.go:113", #[⟨27, .data⟩, ⟨17, .guard⟩], some (17, false)⟩ ?vam26 ?ram26
  (try simp only [Act.put, tC, tD, tE])
  refine tA 29 ⟨some 39, .nilCheck (.tmp 38), 0, "help.go:113", #[⟨28, .data⟩, ⟨17, .guard⟩], some (17, false)⟩ ?vam27 ?ram27
  (try simp only [Act.put, tC, tD, tE])
  refine tA 30 ⟨some 40, .fieldAddr 159 (.tmp 39) 0, 0, "help.go:113", #[⟨29, .data⟩, ⟨17, .guard⟩], some (17, false)⟩ ?vam28 ?ram28
  (try simp only [Act.put, tC, tD, tE])
  refine tA 31 ⟨some 41, .load 157 (.tmp 40), 157, "help.go:113", #[⟨30, .data⟩, ⟨17, .guard⟩], some (17, false)⟩ ?vam29 ?ram29
  (try simp only [Act.put, tC, tD, tE])
  refine wpAnyH_ready (rs := [23]) (by kernel_rfl) (by simp) ?_
  refine AllReadyH.cons (o := ⟨some 33, .call ⟨.value (.func 64), #[.tmp 32], #[86]⟩, 164, "help.go:113", #[⟨22, .data⟩, ⟨17, .chain⟩, ⟨17, .guard⟩], some (17, false)⟩) rfl (fun Kq hKq => ?_) AllReadyH.nil
  go_simp
  (refine (HAL.out _ hHeld.1).mono ?_; rintro e w3 ⟨A9, rfl, hrow, hb⟩)
  refine hKq.out _ _ ?_ (fun hHeld => ?_)
  · exact SaF.new hHeld hb
  clear hKq Kq
  (try simp only [Act.put, tC, tD, tE])
  obtain ⟨b9, hrow⟩ : ∃ b, Row w3 b 7 (.slice A9 nl nl) nl (flat .u8 D) ∧ b ≤ w3.heap.size := ⟨_, hrow, hb.size⟩
  refine wpAnyH_more (S' := fun w' => (Below w2.heap.size w2 w' ∧ w'.cell? ⟨B0, 0, none⟩ = some (Pw WB) ∧ w'.cell? ⟨B0, 1, none⟩ = some (Pw RB) ∧ w'.cell? ⟨WB, 0, none⟩ = some (Pw cB) ∧ w'.cell? ⟨WB, 1, none⟩ = some (Pw kB) ∧ w'.cell? ⟨WB, 4, none⟩ = some ts ∧ w'.cell? ⟨WB, 5, none⟩ = some (Pw nB) ∧ w'.cell? ⟨RB, 0, none⟩ = some (Pw rB) ∧ w'.cell? ⟨RB, 1, none⟩ = some (Pw rkB) ∧ w'.cell? ⟨RB, 4, none⟩ = some rts ∧ w'.cell? ⟨RB, 5, none⟩ = some (Pw rnB) ∧ w'.cell? ⟨rnB, 0, none⟩ = some (.slice nA nl nc) ∧ w'.cell? ⟨rkB, 0, none⟩ = some (.int .u64 (T : Int))) ∧ Row w' b9 7 (.slice A9 nl nl) nl (flat .u8 D)) (fun _ h => h.1) _ _ _ _ ?_
  have HB9 := Lib.hid hrow.2
  have hHeld : (fun w' => (Below w2.heap.size w2 w' ∧ w'.cell? ⟨B0, 0, none⟩ = some (Pw WB) ∧ w'.cell? ⟨B0, 1, none⟩ = some (Pw RB) ∧ w'.cell? ⟨WB, 0, none⟩ = some (Pw cB) ∧ w'.cell? ⟨WB, 1, none⟩ = some (Pw kB) ∧ w'.cell? ⟨WB, 4, none⟩ = some ts ∧ w'.cell? ⟨WB, 5, none⟩ = some (Pw nB) ∧ w'.cell? ⟨RB, 0, none⟩ = some (Pw rB) ∧ w'.cell? ⟨RB, 1, none⟩ = some (Pw rkB) ∧ w'.cell? ⟨RB, 4, none⟩ = some rts ∧ w'.cell? ⟨RB, 5, none⟩ = some (Pw rnB) ∧ w'.cell? ⟨rnB, 0, none⟩ = some (.slice nA nl nc) ∧ w'.cell? ⟨rkB, 0, none⟩ = some (.int .u64 (T : Int))) ∧ Row w' b9 7 (.slice A9 nl nl) nl (flat .u8 D)) w3 := ⟨hHeld, hrow.1⟩
  refine wpAnyH_ready (rs := [32]) (by kernel_rfl) (by simp) ?_
  refine AllReadyH.cons (o := ⟨some 42, .call ⟨.value (.func 63), #[.tmp 33, .tmp 41], #[164, 157]⟩, 4, "help.go:113", #[⟨23, .data⟩, ⟨31, .data⟩, ⟨23, .chain⟩, ⟨17, .guard⟩], some (17, false)⟩) rfl (fun Kq hKq => ?_) AllReadyH.nil
  go_simp
  (refine (HNS.out _ _ _ hHeld.1.1 () () hHeld.2).mono ?_; rintro e w3 ⟨rfl, hb⟩)
  refine hKq.out _ _ ?_ (fun hHeld => ?_)
  · exact ⟨SaF.new hHeld.1 hb, hHeld.2.keep (Turns.of_below (S := fun _ => False) hb) (fun _ _ e => e)⟩
  clear hKq Kq
  (try simp only [Act.put, tC, tD, tE])
  refine tA 33 ⟨some 43, .unOp .not 4 (.tmp 42), 4, "help.go:113", #[⟨32, .data⟩, ⟨17, .guard⟩], some (17, false)⟩ ?vam30 ?ram30
  (try simp only [Act.put, tC, tD, tE])
  refine tA 34 ⟨some 44, .pick (.tmp 27) (.const (.bool true)) (.tmp 43), 4, "help.go:113", #[⟨17, .data⟩, ⟨33, .data⟩], none⟩ ?vam31 ?ram31
  (try simp only [Act.put, tC, tD, tE])
  refine tA 35 ⟨some 45, .move (.tmp 44), 4, "help.go:113", #[⟨34, .data⟩, ⟨32, .chain⟩], none⟩ ?vam32 ?ram32
  (try simp only [Act.put, tC, tD, tE])
  refine tA 36 ⟨some 46, .fieldAddr 36 (.tmp 1) 0, 0, "help.go:113", #[⟨35, .guard⟩], some (35, false)⟩ ?vam33 ?ram33
  (try simp only [Act.put, tC, tD, tE])
  refine tA 37 ⟨some 47, .load 33 (.tmp 46), 33, "help.go:113", #[⟨36, .data⟩, ⟨35, .guard⟩], some (35, false)⟩ ?vam34 ?ram34
  (try simp only [Act.put, tC, tD, tE])
  refine tA 38 ⟨some 48, .nilCheck (.tmp 47), 0, "help.go:113", #[⟨37, .data⟩, ⟨35, .guard⟩], some (35, false)⟩ ?vam35 ?ram35
  (try simp only [Act.put, tC, tD, tE])
  refine tA 39 ⟨some 49, .fieldAddr 89 (.tmp 48) 4, 0, "help.go:113", #[⟨38, .data⟩, ⟨35, .guard⟩], some (35, false)⟩ ?vam36 ?ram36
  (try simp only [Act.put, tC, tD, tE])
  refine tA 40 ⟨some 50, .load 85 (.tmp 49), 85, "help.go:113", #[⟨39, .data⟩, ⟨35, .guard⟩], some (35, false)⟩ ?vam37 ?ram37
  (try simp only [Act.put, tC, tD, tE])
  refine tA 41 ⟨some 51, .fieldAddr 36 (.tmp 1) 1, 0, "help.go:113", #[⟨35, .guard⟩], some (35, false)⟩ ?vam38 ?ram38
  (try simp only [Act.put, tC, tD, tE])
  refine tA 42 ⟨some 52, .load 34 (.tmp 51), 34, "help.go:113", #[⟨41, .data⟩, ⟨35, .guard⟩], some (35, false)⟩ ?vam39 ?ram39
  (try simp only [Act.put, tC, tD, tE])
  refine tA 43 ⟨some 53, .nilCheck (.tmp 52), 0, "help.go:113", #[⟨42, .data⟩, ⟨35, .guard⟩], some (35, false)⟩ ?vam40 ?ram40
  (try simp only [Act.put, tC, tD, tE])
  refine tA 44 ⟨some 54, .fieldAddr 107 (.tmp 53) 4, 0, "help.go:113", #[⟨43, .data⟩, ⟨35, .guard⟩], some (35, false)⟩ ?vam41 ?ram41
  (try simp only [Act.put, tC, tD, tE])
  refine tA 45 ⟨some 55, .load 104 (.tmp 54), 104, "help.go:113", #[⟨44, .data⟩, ⟨35, .guard⟩], some (35, false)⟩ ?vam42 ?ram42
  (try simp only [Act.put, tC, tD, tE])
  refine wpAnyH_ready (rs := [46]) (by kernel_rfl) (by simp) ?_
  refine AllReadyH.cons (o := ⟨some 56, .call ⟨.value (.func 65), #[.tmp 50, .tmp 55], #[85, 104]⟩, 4, "help.go:113", #[⟨40, .data⟩, ⟨45, .data⟩, ⟨35, .chain⟩, ⟨35, .guard⟩], some (35, false)⟩) rfl (fun Kq hKq => ?_) AllReadyH.nil
  go_simp
  (refine (HTS.out _ hHeld.1.1).mono ?_; rintro e w3 ⟨rfl, hb⟩)
  refine hKq.out _ _ ?_ (fun hHeld => ?_)
  · exact ⟨SaF.new hHeld.1 hb, hHeld.2.keep (Turns.of_below (S := fun _ => False) hb) (fun _ _ e => e)⟩
  clear hKq Kq
  (try simp only [Act.put, tC, tD, tE])
  refine tA 47 ⟨some 57, .unOp .not 4 (.tmp 56), 4, "help.go:113", #[⟨46, .data⟩, ⟨35, .guard⟩], some (35, false)⟩ ?vam43 ?ram43
  (try simp only [Act.put, tC, tD, tE])
  refine tA 48 ⟨some 58, .pick (.tmp 45) (.const (.bool true)) (.tmp 57), 4, "help.go:113", #[⟨35, .data⟩, ⟨47, .data⟩], none⟩ ?vam44 ?ram44
  (try simp only [Act.put, tC, tD, tE])
  refine tA 49 ⟨some 59, .move (.tmp 58), 4, "help.go:113", #[⟨48, .data⟩, ⟨46, .chain⟩], none⟩ ?vam45 ?ram45
  (try simp only [Act.put, tC, tD, tE])
  refine tA 50 ⟨some 60, .fieldAddr 36 (.tmp 1) 0, 0, "help.go:113", #[⟨49, .guard⟩], some (49, false)⟩ ?vam46 ?ram46
  (try simp only [Act.put, tC, tD, tE])
  refine tA 51 ⟨some 61, .load 33 (.tmp 60), 33, "help.go:113", #[⟨50, .data⟩, ⟨49, .guard⟩], some (49, false)⟩ ?vam47 ?ram47
  (try simp only [Act.put, tC, tD, tE])
  refine tA 52 ⟨some 62, .nilCheck (.tmp 61), 0, "help.go:113", #[⟨51, .data⟩, ⟨49, .guard⟩], some (49, false)⟩ ?vam48 ?ram48
  (try simp only [Act.put, tC, tD, tE])
  refine tA 53 ⟨some 63, .fieldAddr 89 (.tmp 62) 7, 0, "help.go:113", #[⟨52, .data⟩, ⟨49, .guard⟩], some (49, false)⟩ ?vam49 ?ram49
  (try simp only [Act.put, tC, tD, tE])
  refine wpAnyH_take (i := 54) (oi := ({ dst := some 64, op := Op.load 87 (Operand.tmp 63), type := 87, pos := "help.go:113", after := #[{ on := 53, ground := Ground.data }, { on := 49, ground := Ground.guard }], guard := some (49, false) } : Oper)) (v := .agg Z64) rfl (by kernel_rfl) (by kernel_rfl) (by kernel_rfl) (fun _ _ _ h => h) (yieldsIf_load_mid (by rfl) 87 (Operand.tmp 63) rfl WB 7 (by rfl) Z64l _ (fun w hS => HTX.out w hS.1.1) under64 rfl info64) (by assumption) ?ram50
  skip
  (try simp only [Act.put, tC, tD, tE])
  refine tA 55 ⟨some 65, .fieldAddr 36 (.tmp 1) 1, 0, "help.go:113", #[⟨49, .guard⟩], some (49, false)⟩ ?vam51 ?ram51
  (try simp only [Act.put, tC, tD, tE])
  refine tA 56 ⟨some 66, .load 34 (.tmp 65), 34, "help.go:113", #[⟨55, .data⟩, ⟨49, .guard⟩], some (49, false)⟩ ?vam52 ?ram52
  (try simp only [Act.put, tC, tD, tE])
  refine tA 57 ⟨some 67, .nilCheck (.tmp 66), 0, "help.go:113", #[⟨56, .data⟩, ⟨49, .guard⟩], some (49, false)⟩ ?vam53 ?ram53
  (try simp only [Act.put, tC, tD, tE])
  refine tA 58 ⟨some 68, .fieldAddr 107 (.tmp 67) 7, 0, "help.go:113", #[⟨57, .data⟩, ⟨49, .guard⟩], some (49, false)⟩ ?vam54 ?ram54
  (try simp only [Act.put, tC, tD, tE])
  refine wpAnyH_take (i := 59) (oi := ({ dst := some 69, op := Op.load 87 (Operand.tmp 68), type := 87, pos := "help.go:113", after := #[{ on := 58, ground := Ground.data }, { on := 49, ground := Ground.guard }], guard := some (49, false) } : Oper)) (v := .agg Z64) rfl (by kernel_rfl) (by kernel_rfl) (by kernel_rfl) (fun _ _ _ h => h) (yieldsIf_load_mid (by rfl) 87 (Operand.tmp 68) rfl RB 7 (by rfl) Z64l _ (fun w hS => HTY.out w hS.1.1) under64 rfl info64) (by assumption) ?ram55
  skip
  (try simp only [Act.put, tC, tD, tE])
  refine tA 60 ⟨some 70, .binOp .neq 87 (.tmp 64) (.tmp 69) 87, 4, "help.go:113", #[⟨54, .data⟩, ⟨59, .data⟩, ⟨49, .guard⟩], some (49, false)⟩ ?vam56 ?ram56
  (try simp only [Act.put, tC, tD, tE])
  refine tA 61 ⟨some 71, .pick (.tmp 59) (.const (.bool true)) (.tmp 70), 4, "help.go:113", #[⟨49, .data⟩, ⟨60, .data⟩], none⟩ ?vam57 ?ram57
  (try simp only [Act.put, tC, tD, tE])
  refine tA 62 ⟨some 72, .move (.tmp 71), 4, "help.go:113", #[⟨61, .data⟩, ⟨49, .chain⟩], none⟩ ?vam58 ?ram58
  (try simp only [Act.put, tC, tD, tE])
  refine tA 63 ⟨some 73, .fieldAddr 36 (.tmp 1) 0, 0, "help.go:113", #[⟨62, .guard⟩], some (62, false)⟩ ?vam59 ?ram59
  (try simp only [Act.put, tC, tD, tE])
  refine tA 64 ⟨some 74, .load 33 (.tmp 73), 33, "help.go:113", #[⟨63, .data⟩, ⟨62, .guard⟩], some (62, false)⟩ ?vam60 ?ram60
  (try simp only [Act.put, tC, tD, tE])
  refine tA 65 ⟨some 75, .nilCheck (.tmp 74), 0, "help.go:113", #[⟨64, .data⟩, ⟨62, .guard⟩], some (62, false)⟩ ?vam61 ?ram61
  (try simp only [Act.put, tC, tD, tE])
  refine tA 66 ⟨some 76, .fieldAddr 89 (.tmp 75) 1, 0, "help.go:113", #[⟨65, .data⟩, ⟨62, .guard⟩], some (62, false)⟩ ?vam62 ?ram62
  (try simp only [Act.put, tC, tD, tE])
  refine tA 67 ⟨some 77, .load 82 (.tmp 76), 82, "help.go:113", #[⟨66, .data⟩, ⟨62, .guard⟩], some (62, false)⟩ ?vam63 ?ram63
  (try simp only [Act.put, tC, tD, tE])
  refine tA 69 ⟨some 79, .fieldAddr 36 (.tmp 1) 1, 0, "help.go:113", #[⟨62, .guard⟩], some (62, false)⟩ ?vam64 ?ram64
  (try simp only [Act.put, tC, tD, tE])
  refine tA 70 ⟨some 80, .load 34 (.tmp 79), 34, "help.go:113", #[⟨69, .data⟩, ⟨62, .guard⟩], some (62, false)⟩ ?vam65 ?ram65
  (try simp only [Act.put, tC, tD, tE])
  refine tA 71 ⟨some 81, .nilCheck (.tmp 80), 0, "help.go:113", #[⟨70, .data⟩, ⟨62, .guard⟩], some (62, false)⟩ ?vam66 ?ram66
  (try simp only [Act.put, tC, tD, tE])
  refine tA 72 ⟨some 82, .fieldAddr 107 (.tmp 81) 1, 0, "help.go:113", #[⟨71, .data⟩, ⟨62, .guard⟩], some (62, false)⟩ ?vam67 ?ram67
  (try simp only [Act.put, tC, tD, tE])
  refine tA 73 ⟨some 83, .load 101 (.tmp 82), 101, "help.go:113", #[⟨72, .data⟩, ⟨62, .guard⟩], some (62, false)⟩ ?vam68 ?ram68
  (try simp only [Act.put, tC, tD, tE])
  refine tA 74 ⟨some 84, .nilCheck (.tmp 83), 0, "help.go:113", #[⟨73, .data⟩, ⟨62, .guard⟩], some (62, false)⟩ ?vam69 ?ram69
  (try simp only [Act.put, tC, tD, tE])
  refine tA 75 ⟨some 85, .fieldAddr 161 (.tmp 84) 0, 0, "help.go:113", #[⟨74, .data⟩, ⟨62, .guard⟩], some (62, false)⟩ ?vam70 ?ram70
  (try simp only [Act.put, tC, tD, tE])
  refine tA 76 ⟨some 86, .load 22 (.tmp 85), 22, "help.go:113", #[⟨75, .data⟩, ⟨62, .guard⟩], some (62, false)⟩ ?vam71 ?ram71
  (try simp only [Act.put, tC, tD, tE])
  refine wpAnyH_ready (rs := [68]) (by kernel_rfl) (by simp) ?_
  refine AllReadyH.cons (o := ⟨some 78, .call ⟨.value (.func 66), #[.tmp 77], #[82]⟩, 22, "help.go:113", #[⟨67, .data⟩, ⟨62, .chain⟩, ⟨62, .guard⟩], some (62, false)⟩) rfl (fun Kq hKq => ?_) AllReadyH.nil
  go_simp
  (refine (HNW.out _ hHeld.1.1).mono ?_; rintro e w3 ⟨rfl, rfl⟩)
  refine hKq.out _ _ ?_ (fun hHeld => ?_)
  · exact hHeld
  clear hKq Kq
  (try simp only [Act.put, tC, tD, tE])
  refine tA 77 ⟨some 87, .binOp .neq 22 (.tmp 78) (.tmp 86) 22, 4, "help.go:113", #[⟨68, .data⟩, ⟨76, .data⟩, ⟨62, .guard⟩], some (62, false)⟩ ?vam72 ?ram72
  (try simp only [Act.put, tC, tD, tE])
  refine tA 78 ⟨some 88, .pick (.tmp 72) (.const (.bool true)) (.tmp 87), 4, "help.go:113", #[⟨62, .data⟩, ⟨77, .data⟩], none⟩ ?vam73 ?ram73
  (try simp only [Act.put, tC, tD, tE])
  refine wpAnyH_done (by kernel_rfl) ?_ _
  have HB3 := Lib.hid hHeld.1.1
  clear hHeld HSM HS2 HAL HNS HTS HNW HF HTX HTY hev
  have HAS := Lib.hid (fun (i : Nat) (hi : i < 128) (W : World) (q : Below w2.heap.size w2 W) => S4.asleep_yes (H2.out.new q).pr.pw.permits hi)
  have HGQ := Lib.hid (fun (i : Nat) (hi : i < 128) (now : Nat) (W : World) (q : Below w2.heap.size w2 W) => S4.pgoes_yes (H2.out.new q).pr.pw.permits hi now)
  have HRQ : Hid (∀ (i : Nat), i < 128 → ∀ (now : Nat) W, Below w2.heap.size w2 W → Calls Tryz.prog 68 #[Pw Y.pB, .int .i64 (i : Int), .int .u64 (now : Int)] W fun e w' => e = .returned (.bool (S4.goesB (X.pf i) now)) ∧ Below W.heap.size W w') := Lib.hid (fun i hi now W q => by
    have := S4.rgoes_yes (H2.out.new q).pr.rpermits hi now
    rw [← HE.out.1, S4.goes_both (H2.out.pok i) now] at this
    exact this)
  go_wp2_with fail
  go_loopg [3, 4] 128 (fun q s3 s4 wx => ∃ i : Nat, i ≤ 128 ∧ q = 128 - i ∧ s3 = .int .i64 (i : Int) ∧ Below w2.heap.size w2 wx)
  case atStart => exact ⟨0, by omega, rfl, rfl, HB3.out⟩
  case round =>
    obtain ⟨i, hi, rfl, rfl, hb⟩ := hrel
    have h3 := H2.out.new hb
    have e0 := (hb.block B0 (Array.getElem?_eq_some_iff.1 HQ0.out).1).trans HQ0.out
    have b0 := cell_row e0 0; have b1 := cell_row e0 1
    simp only [List.getElem?_toArray, List.getElem?_cons_zero, List.getElem?_cons_succ] at b0 b1
    by_cases hi8 : i < 128
    · have has := HAS.out i hi8
      have hg0 : ∀ W, Below w2.heap.size w2 W → Calls Tryz.prog 67 #[Pw X.pB, .int .i64 (i : Int), .int .u64 0] W fun e w' => e = .returned (.bool (S4.goesB (X.pf i) 0)) ∧ Below W.heap.size W w' := HGQ.out i hi8 0
      have hr0 : ∀ W, Below w2.heap.size w2 W → Calls Tryz.prog 68 #[Pw Y.pB, .int .i64 (i : Int), .int .u64 0] W fun e w' => e = .returned (.bool (S4.goesB (X.pf i) 0)) ∧ Below W.heap.size W w' := HRQ.out i hi8 0
      have hg1 : ∀ W, Below w2.heap.size w2 W → Calls Tryz.prog 67 #[Pw X.pB, .int .i64 (i : Int), .int .u64 18446744073709551615] W fun e w' => e = .returned (.bool (S4.goesB (X.pf i) 18446744073709551615)) ∧ Below W.heap.size W w' := HGQ.out i hi8 18446744073709551615
      have hr1 : ∀ W, Below w2.heap.size w2 W → Calls Tryz.prog 68 #[Pw Y.pB, .int .i64 (i : Int), .int .u64 18446744073709551615] W fun e w' => e = .returned (.bool (S4.goesB (X.pf i) 18446744073709551615)) ∧ Below W.heap.size W w' := HRQ.out i hi8 18446744073709551615
      generalize S4.goesB (X.pf i) 0 = g0 at *
      generalize S4.goesB (X.pf i) 18446744073709551615 = g1 at *
      have d1 : (i : Int) < 128 := by omega
      have k0 := h3.pr.rpermits.c0 i hi8; have k1 := h3.pr.rpermits.c1 i hi8; have k2 := h3.pr.rpermits.c2 i hi8; have k3 := h3.pr.rpermits.c3 i hi8
      rw [← HE.out.1] at k0 k1 k2 k3
      have r2 := h3.pr.r2
      rw [h3.rB] at r2
      have x2 := h3.pr.pw.c2
      rw [h3.wB] at x2
      generalize X.pf i = pk at *
      obtain ⟨pp, pa, po, pt⟩ := pk
      dsimp only at k0 k1 k2 k3 has
      obtain ⟨pB, hpB⟩ : ∃ x, x = X.pB := ⟨_, rfl⟩
      obtain ⟨rpB, hrpB⟩ : ∃ x, x = Y.pB := ⟨_, rfl⟩
      rw [← hpB] at has hg0 hg1 x2; rw [← hrpB] at hr0 hr1 r2 k0 k1 k2 k3
      have HASI := Lib.hid has; have HGO0 := Lib.hid hg0; have HGO1 := Lib.hid hg1; have HRG0 := Lib.hid hr0; have HRG1 := Lib.hid hr1
      have HBR := Lib.hid hb
      have HI := Lib.hid hi8
      clear has hg0 hg1 hr0 hr1 h3 hpB hrpB e0 hi8 hi
      go_upto_region 7 with (fail)
      have hnx := heap_alloc_new wr (.cells #[.bool pp, .bool pa, .bool po, .int .u64 (pt : Int)] 153)
      have hby := below1 wr (.cells #[.bool pp, .bool pa, .bool po, .int .u64 (pt : Int)] 153)
      have y0 := bcell hby b0; have y1 := bcell hby b1; have y2 := bcell hby x2; have y3 := bcell hby r2
      have y4 := cell_row hnx 1
      simp only [List.getElem?_toArray, List.getElem?_cons_zero, List.getElem?_cons_succ] at y4
      have HBY := Lib.hid (HBR.out.trans (hby.mono HBR.out.size))
      obtain ⟨Bx, hBx⟩ : ∃ x, x = wr.heap.size := ⟨_, rfl⟩
      rw [← hBx] at y4 ⊢
      clear hnx hby b0 b1 x2 r2 k0 k1 k2 k3 hb hBx
      generalize wr.alloc (.cells #[.bool pp, .bool pa, .bool po, .int .u64 (pt : Int)] 153) = w4 at *
      have HF7 : Hid (w4.drew.cell? ⟨B0, 0, none⟩ = some (Pw WB) ∧ w4.drew.cell? ⟨B0, 1, none⟩ = some (Pw RB) ∧ w4.drew.cell? ⟨WB, 2, none⟩ = some (Pw pB) ∧ w4.drew.cell? ⟨RB, 2, none⟩ = some (Pw rpB) ∧ w4.drew.cell? ⟨Bx, 1, none⟩ = some (.bool pa)) := Lib.hid ⟨y0, y1, y2, y3, y4⟩
      clear y0 y1 y2 y3 y4
      refine wp_region_held_drew (S := fun w' => Below w2.heap.size w2 w' ∧ w'.cell? ⟨B0, 0, none⟩ = some (Pw WB) ∧ w'.cell? ⟨B0, 1, none⟩ = some (Pw RB) ∧ w'.cell? ⟨WB, 2, none⟩ = some (Pw pB) ∧ w'.cell? ⟨RB, 2, none⟩ = some (Pw rpB) ∧ w'.cell? ⟨Bx, 1, none⟩ = some (.bool pa)) (by kernel_rfl) ?_ (fun hHeld => ?_)
      · exact ⟨HBY.out.drew, HF7.out⟩
      refine tA 0 ⟨some 103, .fieldAddr 36 (.tmp 1) 0, 0, "help.go:118", #[], none⟩ ?vbm1 ?rbm1
      (try simp only [Act.put, tC, tD, tE])
      refine tA 1 ⟨some 104, .load 33 (.tmp 103), 33, "help.go:118", #[⟨0, .data⟩], none⟩ ?vbm2 ?rbm2
      (try simp only [Act.put, tC, tD, tE])
      refine tA 2 ⟨some 105, .nilCheck (.tmp 104), 0, "help.go:118", #[⟨1, .data⟩], none⟩ ?vbm3 ?rbm3
      (try simp only [Act.put, tC, tD, tE])
      refine tA 3 ⟨some 106, .fieldAddr 89 (.tmp 105) 2, 0, "help.go:118", #[⟨2, .data⟩], none⟩ ?vbm4 ?rbm4
      (try simp only [Act.put, tC, tD, tE])
      refine tA 4 ⟨some 107, .load 83 (.tmp 106), 83, "help.go:118", #[⟨3, .data⟩], none⟩ ?vbm5 ?rbm5
      (try simp only [Act.put, tC, tD, tE])
      refine tA 5 ⟨some 108, .move (.tmp 3), 3, "help.go:118", #[], none⟩ ?vbm6 ?rbm6
      (try simp only [Act.put, tC, tD, tE])
      refine tA 7 ⟨some 110, .fieldAddr 153 (.tmp 4) 1, 0, "help.go:118", #[], none⟩ ?vbm7 ?rbm7
      (try simp only [Act.put, tC, tD, tE])
      refine tA 8 ⟨some 111, .load 4 (.tmp 110), 4, "help.go:118", #[⟨7, .data⟩], none⟩ ?vbm8 ?rbm8
      (try simp only [Act.put, tC, tD, tE])
      refine wpAnyH_ready (rs := [6]) (by kernel_rfl) (by simp) ?_
      refine AllReadyH.cons (o := ⟨some 109, .call ⟨.value (.func 27), #[.tmp 107, .tmp 108], #[83, 3]⟩, 4, "help.go:118", #[⟨4, .data⟩, ⟨5, .data⟩], none⟩) rfl (fun Kq hKq => ?_) AllReadyH.nil
      go_simp
      (refine (HASI.out _ hHeld.1).mono ?_; rintro e w3 ⟨rfl, rfl⟩)
      refine hKq.out _ _ ?_ (fun hHeld => ?_)
      · exact hHeld
      clear hKq Kq
      (try simp only [Act.put, tC, tD, tE])
      refine tA 9 ⟨some 112, .binOp .neq 4 (.tmp 109) (.tmp 111) 4, 4, "help.go:118", #[⟨6, .data⟩, ⟨8, .data⟩], none⟩ ?vbm9 ?rbm9
      (try simp only [Act.put, tC, tD, tE])
      refine tA 10 ⟨some 113, .move (.tmp 112), 4, "help.go:118", #[⟨9, .data⟩, ⟨6, .chain⟩], none⟩ ?vbm10 ?rbm10
      (try simp only [Act.put, tC, tD, tE])
      refine tA 11 ⟨some 114, .fieldAddr 36 (.tmp 1) 0, 0, "help.go:118", #[⟨10, .guard⟩], some (10, false)⟩ ?vbm11 ?rbm11
      (try simp only [Act.put, tC, tD, tE])
      refine tA 12 ⟨some 115, .load 33 (.tmp 114), 33, "help.go:118", #[⟨11, .data⟩, ⟨10, .guard⟩], some (10, false)⟩ ?vbm12 ?rbm12
      (try simp only [Act.put, tC, tD, tE])
      refine tA 13 ⟨some 116, .nilCheck (.tmp 115), 0, "help.go:118", #[⟨12, .data⟩, ⟨10, .guard⟩], some (10, false)⟩ ?vbm13 ?rbm13
      (try simp only [Act.put, tC, tD, tE])
      refine tA 14 ⟨some 117, .fieldAddr 89 (.tmp 116) 2, 0, "help.go:118", #[⟨13, .data⟩, ⟨10, .guard⟩], some (10, false)⟩ ?vbm14 ?rbm14
      (try simp only [Act.put, tC, tD, tE])
      refine tA 15 ⟨some 118, .load 83 (.tmp 117), 83, "help.go:118", #[⟨14, .data⟩, ⟨10, .guard⟩], some (10, false)⟩ ?vbm15 ?rbm15
      (try simp only [Act.put, tC, tD, tE])
      refine tA 16 ⟨some 119, .move (.tmp 3), 3, "help.go:118", #[⟨10, .guard⟩], some (10, false)⟩ ?vbm16 ?rbm16
      (try simp only [Act.put, tC, tD, tE])
      refine tA 18 ⟨some 121, .fieldAddr 36 (.tmp 1) 1, 0, "help.go:118", #[⟨10, .guard⟩], some (10, false)⟩ ?vbm17 ?rbm17
      (try simp only [Act.put, tC, tD, tE])
      refine tA 19 ⟨some 122, .load 34 (.tmp 121), 34, "help.go:118", #[⟨18, .data⟩, ⟨10, .guard⟩], some (10, false)⟩ ?vbm18 ?rbm18
      (try simp only [Act.put, tC, tD, tE])
      refine tA 20 ⟨some 123, .nilCheck (.tmp 122), 0, "help.go:118", #[⟨19, .data⟩, ⟨10, .guard⟩], some (10, false)⟩ ?vbm19 ?rbm19
      (try simp only [Act.put, tC, tD, tE])
      refine tA 21 ⟨some 124, .fieldAddr 107 (.tmp 123) 2, 0, "help.go:118", #[⟨20, .data⟩, ⟨10, .guard⟩], some (10, false)⟩ ?vbm20 ?rbm20
      (try simp only [Act.put, tC, tD, tE])
      refine tA 22 ⟨some 125, .load 102 (.tmp 124), 102, "help.go:118", #[⟨21, .data⟩, ⟨10, .guard⟩], some (10, false)⟩ ?vbm21 ?rbm21
      (try simp only [Act.put, tC, tD, tE])
      refine tA 23 ⟨some 126, .move (.tmp 3), 3, "help.go:118", #[⟨10, .guard⟩], some (10, false)⟩ ?vbm22 ?rbm22
      (try simp only [Act.put, tC, tD, tE])
      refine wpAnyH_ready (rs := [17]) (by kernel_rfl) (by simp) ?_
      refine AllReadyH.cons (o := ⟨some 120, .call ⟨.value (.func 67), #[.tmp 118, .tmp 119, .const (.int .u64 0)], #[83, 3, 22]⟩, 4, "help.go:118", #[⟨15, .data⟩, ⟨16, .data⟩, ⟨10, .chain⟩, ⟨10, .guard⟩], some (10, false)⟩) rfl (fun Kq hKq => ?_) AllReadyH.nil
      go_simp
      (refine (HGO0.out _ hHeld.1).mono ?_; rintro e w3 ⟨rfl, hb⟩)
      refine hKq.out _ _ ?_ (fun hHeld => ?_)
      · exact SbF.new hHeld hb
      clear hKq Kq
      (try simp only [Act.put, tC, tD, tE])
      refine wpAnyH_ready (rs := [24]) (by kernel_rfl) (by simp) ?_
      refine AllReadyH.cons (o := ⟨some 127, .call ⟨.value (.func 68), #[.tmp 125, .tmp 126, .const (.int .u64 0)], #[102, 3, 22]⟩, 4, "help.go:118", #[⟨22, .data⟩, ⟨23, .data⟩, ⟨17, .chain⟩, ⟨10, .guard⟩], some (10, false)⟩) rfl (fun Kq hKq => ?_) AllReadyH.nil
      go_simp
      (refine (HRG0.out _ hHeld.1).mono ?_; rintro e w3 ⟨rfl, hb⟩)
      refine hKq.out _ _ ?_ (fun hHeld => ?_)
      · exact SbF.new hHeld hb
      clear hKq Kq
      (try simp only [Act.put, tC, tD, tE])
      refine tA 25 ⟨some 128, .binOp .neq 4 (.tmp 120) (.tmp 127) 4, 4, "help.go:118", #[⟨17, .data⟩, ⟨24, .data⟩, ⟨10, .guard⟩], some (10, false)⟩ ?vbm23 ?rbm23
      (try simp only [Act.put, tC, tD, tE])
      refine tA 26 ⟨some 129, .pick (.tmp 113) (.const (.bool true)) (.tmp 128), 4, "help.go:118", #[⟨10, .data⟩, ⟨25, .data⟩], none⟩ ?vbm24 ?rbm24
      (try simp only [Act.put, tC, tD, tE])
      refine tA 27 ⟨some 130, .move (.tmp 129), 4, "help.go:118", #[⟨26, .data⟩, ⟨24, .chain⟩], none⟩ ?vbm25 ?rbm25
      (try simp only [Act.put, tC, tD, tE])
      refine tA 28 ⟨some 131, .fieldAddr 36 (.tmp 1) 0, 0, "help.go:118", #[⟨27, .guard⟩], some (27, false)⟩ ?vbm26 ?rbm26
      (try simp only [Act.put, tC, tD, tE])
      refine tA 29 ⟨some 132, .load 33 (.tmp 131), 33, "help.go:118", #[⟨28, .data⟩, ⟨27, .guard⟩], some (27, false)⟩ ?vbm27 ?rbm27
      (try simp only [Act.put, tC, tD, tE])
      refine tA 30 ⟨some 133, .nilCheck (.tmp 132), 0, "help.go:118", #[⟨29, .data⟩, ⟨27, .guard⟩], some (27, false)⟩ ?vbm28 ?rbm28
      (try simp only [Act.put, tC, tD, tE])
      refine tA 31 ⟨some 134, .fieldAddr 89 (.tmp 133) 2, 0, "help.go:118", #[⟨30, .data⟩, ⟨27, .guard⟩], some (27, false)⟩ ?vbm29 ?rbm29
      (try simp only [Act.put, tC, tD, tE])
      refine tA 32 ⟨some 135, .load 83 (.tmp 134), 83, "help.go:118", #[⟨31, .data⟩, ⟨27, .guard⟩], some (27, false)⟩ ?vbm30 ?rbm30
      (try simp only [Act.put, tC, tD, tE])
      refine tA 33 ⟨some 136, .move (.tmp 3), 3, "help.go:118", #[⟨27, .guard⟩], some (27, false)⟩ ?vbm31 ?rbm31
      (try simp only [Act.put, tC, tD, tE])
      refine tA 35 ⟨some 138, .fieldAddr 36 (.tmp 1) 1, 0, "help.go:118", #[⟨27, .guard⟩], some (27, false)⟩ ?vbm32 ?rbm32
      (try simp only [Act.put, tC, tD, tE])
      refine tA 36 ⟨some 139, .load 34 (.tmp 138), 34, "help.go:118", #[⟨35, .data⟩, ⟨27, .guard⟩], some (27, false)⟩ ?vbm33 ?rbm33
      (try simp only [Act.put, tC, tD, tE])
      refine tA 37 ⟨some 140, .nilCheck (.tmp 139), 0, "help.go:118", #[⟨36, .data⟩, ⟨27, .guard⟩], some (27, false)⟩ ?vbm34 ?rbm34
      (try simp only [Act.put, tC, tD, tE])
      refine tA 38 ⟨some 141, .fieldAddr 107 (.tmp 140) 2, 0, "help.go:118", #[⟨37, .data⟩, ⟨27, .guard⟩], some (27, false)⟩ ?vbm35 ?rbm35
      (try simp only [Act.put, tC, tD, tE])
      refine tA 39 ⟨some 142, .load 102 (.tmp 141), 102, "help.go:118", #[⟨38, .data⟩, ⟨27, .guard⟩], some (27, false)⟩ ?vbm36 ?rbm36
      (try simp only [Act.put, tC, tD, tE])
      refine tA 40 ⟨some 143, .move (.tmp 3), 3, "help.go:118", #[⟨27, .guard⟩], some (27, false)⟩ ?vbm37 ?rbm37
      (try simp only [Act.put, tC, tD, tE])
      refine wpAnyH_ready (rs := [34]) (by kernel_rfl) (by simp) ?_
      refine AllReadyH.cons (o := ⟨some 137, .call ⟨.value (.func 67), #[.tmp 135, .tmp 136, .const (.int .u64 18446744073709551615)], #[83, 3, 22]⟩, 4, "help.go:118", #[⟨32, .data⟩, ⟨33, .data⟩, ⟨27, .chain⟩, ⟨27, .guard⟩], some (27, false)⟩) rfl (fun Kq hKq => ?_) AllReadyH.nil
      go_simp
      (refine (HGO1.out _ hHeld.1).mono ?_; rintro e w3 ⟨rfl, hb⟩)
      refine hKq.out _ _ ?_ (fun hHeld => ?_)
      · exact SbF.new hHeld hb
      clear hKq Kq
      (try simp only [Act.put, tC, tD, tE])
      refine wpAnyH_ready (rs := [41]) (by kernel_rfl) (by simp) ?_
      refine AllReadyH.cons (o := ⟨some 144, .call ⟨.value (.func 68), #[.tmp 142, .tmp 143, .const (.int .u64 18446744073709551615)], #[102, 3, 22]⟩, 4, "help.go:118", #[⟨39, .data⟩, ⟨40, .data⟩, ⟨34, .chain⟩, ⟨27, .guard⟩], some (27, false)⟩) rfl (fun Kq hKq => ?_) AllReadyH.nil
      go_simp
      (refine (HRG1.out _ hHeld.1).mono ?_; rintro e w3 ⟨rfl, hb⟩)
      refine hKq.out _ _ ?_ (fun hHeld => ?_)
      · exact SbF.new hHeld hb
      clear hKq Kq
      (try simp only [Act.put, tC, tD, tE])
      refine tA 42 ⟨some 145, .binOp .neq 4 (.tmp 137) (.tmp 144) 4, 4, "help.go:118", #[⟨34, .data⟩, ⟨41, .data⟩, ⟨27, .guard⟩], some (27, false)⟩ ?vbm38 ?rbm38
      (try simp only [Act.put, tC, tD, tE])
      refine tA 43 ⟨some 146, .pick (.tmp 130) (.const (.bool true)) (.tmp 145), 4, "help.go:118", #[⟨27, .data⟩, ⟨42, .data⟩], none⟩ ?vbm39 ?rbm39
      (try simp only [Act.put, tC, tD, tE])
      refine wpAnyH_done (by kernel_rfl) ?_ _
      have HB9 := Lib.hid hHeld.1
      clear hHeld HASI HGO0 HGO1 HRG0 HRG1 HF7 HBY HBR
      go_wp2_with fail
      go_roundg (128 - (i + 1))
      case measure => have := HI.out; omega
      case rel => exact ⟨i + 1, by have := HI.out; omega, rfl, by go_num, HB9.out⟩
    · obtain rfl : i = 128 := by omega
      have HB4 := Lib.hid hb
      clear hb h3 e0 b0 b1 hi hi8
      go_wp2_with fail
      go_loopg [5, 6, 7, 8, 9] 64 (fun q s5 s6 s7 s8 s9 wx => ∃ i : Nat, i ≤ 64 ∧ q = 64 - i ∧ s5 = .int .i64 (i : Int) ∧ Below w2.heap.size w2 wx)
      case atStart => exact ⟨0, by omega, rfl, rfl, HB4.out⟩
      case round =>
        obtain ⟨i, hi, rfl, rfl, hb⟩ := hrel
        have h3 := H2.out.new hb
        have e0 := (hb.block B0 (Array.getElem?_eq_some_iff.1 HQ0.out).1).trans HQ0.out
        have b0 := cell_row e0 0; have b1 := cell_row e0 1
        simp only [List.getElem?_toArray, List.getElem?_cons_zero, List.getElem?_cons_succ] at b0 b1
        by_cases hi6 : i < 64
        · have hra : ∀ W, Below w2.heap.size w2 W → Calls Tryz.prog 69 #[Pw Y.lB, .int .i64 (i : Int)] W fun e w' => e = .returned (S5.lnk3 X.lk i) ∧ Below W.heap.size W w' := fun W q => by
            have := S5.rat_yes (H2.out.new q).pr.rlinks i hi6
            rwa [← HE.out.2] at this
          have hat := fun (W : World) (q : Below w2.heap.size w2 W) => S5.at_yes (H2.out.new q).pr.pw.links i hi6
          unfold S5.lnk3 at hra
          unfold S5.lnk at hat
          generalize (X.lk (i * 3) : Int) - 1 = v0 at *
          generalize (X.lk (i * 3 + 1) : Int) - 1 = v1 at *
          generalize (X.lk (i * 3 + 2) : Int) - 1 = v2 at *
          have r3 := h3.pr.r3
          rw [h3.rB] at r3
          obtain ⟨lB, hlB⟩ : ∃ x, x = X.lB := ⟨_, rfl⟩
          obtain ⟨rlB, hrlB⟩ : ∃ x, x = Y.lB := ⟨_, rfl⟩
          rw [← hrlB] at hra r3; rw [← hlB] at hat
          have d1 : (i : Int) < 64 := by omega
          have HRA := Lib.hid hra; have HAT := Lib.hid hat
          have HB5 := Lib.hid hb; have HI := Lib.hid hi6
          have HX3 : Hid (∀ W, Below w2.heap.size w2 W → W.cell? ⟨WB, 3, none⟩ = some (Pw lB) ∧ W.cell? ⟨B0, 0, none⟩ = some (Pw WB)) := Lib.hid (fun W q => by
            have g := H2.out.new q
            have x := g.pr.pw.c3
            rw [g.wB, ← hlB] at x
            have e := (q.block B0 (Array.getElem?_eq_some_iff.1 HQ0.out).1).trans HQ0.out
            exact ⟨x, cell_row e 0⟩)
          clear hra hat h3 e0 hb hi6 hi hlB hrlB
          go_upto_region 13 with (go_at_call 69; refine (HRA.out _ HB5.out).mono ?_; rintro e w5 ⟨rfl, hb5⟩)
          have HB6 := Lib.hid (HB5.out.trans (hb5.mono HB5.out.size))
          obtain ⟨x3, x0⟩ := HX3.out _ HB6.out
          clear hb5 b0 b1 r3
          go_upto_region 14 with (go_at_call 70; refine (HAT.out _ HB6.out).mono ?_; rintro e w6 ⟨rfl, hb6⟩)
          have hnx := heap_alloc_new w6 (.cells #[.int .i64 v0, .int .i64 v1, .int .i64 v2] 172)
          have hby := below1 w6 (.cells #[.int .i64 v0, .int .i64 v1, .int .i64 v2] 172)
          have HB7 := Lib.hid (HB6.out.trans ((hb6.mono HB6.out.size).trans (hby.mono (Nat.le_trans HB6.out.size hb6.size))))
          have y0 := cell_row hnx 0; have y1 := cell_row hnx 1; have y2 := cell_row hnx 2
          simp only [List.getElem?_toArray, List.getElem?_cons_zero, List.getElem?_cons_succ] at y0 y1 y2
          clear hnx hby hb6 x3 x0
          generalize w6.alloc (.cells #[.int .i64 v0, .int .i64 v1, .int .i64 v2] 172) = w7 at *
          generalize w6.heap.size = Bl at *
          go_wp2_with fail
          go_roundg (64 - (i + 1))
          case measure => have := HI.out; omega
          case rel => exact ⟨i + 1, by have := HI.out; omega, rfl, by go_num, HB7.out⟩
        · obtain rfl : i = 64 := by omega
          go_wp2_with fail
          go_ret
          exact ⟨rfl, HB1.out.trans (hb.mono HB1.out.size)⟩
end Go.Proofs.YtlflagjnlclffaaGreat.S12
namespace Go.Proofs.YtlflagjnlclffaaGreat.S13
open Go.Proofs.YtlflagjnlclffaaGreat Go.Proofs.YtlflagjnlclffaaGreat.S11 Go.Proofs.YtlflagjnlclffaaGreat.S12
open Go.RowKit
structure Ap where
  k : Nat
  i : Nat
  t : Int
  a : Nat
  sa : Nat
  sv : Nat
  p : Int
def Ap.cs (y : Ap) : Array Value := #[.int .u8 (y.k : Int), .int .u8 (y.i : Int), .int .i64 y.t, .int .u32 (y.a : Int), .int .u32 (y.sa : Int), .int .u64 (y.sv : Int), .int .i64 y.p]
structure ApOk (y : Ap) : Prop where
  k : y.k < 256
  i : y.i < 256
  a : y.a < 4294967296
  sa : y.sa < 4294967296
  sv : y.sv < 18446744073709551616
def ApIn (w : World) (base : Nat) (A : Option Addr) (n : Nat) (F : Nat → Ap) : Prop := 0 < n → ∃ g o, A = some ⟨g, o, none⟩ ∧ g < base ∧ ∀ i, i < n → ApOk (F i) ∧ ∀ j u, (F i).cs[j]? = some u → w.cell? ⟨g, o + i * 7 + j, none⟩ = some u
def pre (PB WB RB base : Nat) (v : Value) (L : List O3) : List Part := [blockP PB (.cells #[Pw WB, Pw RB] 36), rowP base 2 v L.length (lcs L)]
structure PI (w0 wx : World) (base PB WB RB N c0 i : Nat) (v : Value) (L : List O3) : Prop where
  bg : ∃ tn M X Y, Bg w0 wx base WB RB N (c0 + 2 * i) tn M M (pre PB WB RB base v L ++ lparts L) X Y
  ok : ∀ o ∈ L, KOk o.2.2
  le : L.length ≤ i
section
variable {w0 w w' : World} {base PB WB RB N cn tn : Nat} {M : Sd} {X : Wm} {Y : Rm} {v : Value} {L : List O3} {R : List Part}
theorem Bg.row (h : Bg w0 w base WB RB N cn tn M M (pre PB WB RB base v L ++ R) X Y) : S10.Row w base 2 v L.length (lcs L) :=
  h.pr.ok 15 (rowP base 2 v L.length (lcs L)) rfl
theorem pre_set (P : List Part) (T : List Part) {i : Nat} {o : O3} {K : Lk} (h : L[i]? = some o) (hK : K = K) :
    ((P ++ (lparts L ++ T)).set (P.length + (2 * i + 1)) (lockRP o.2.1 K)).set (P.length + 2 * i) (lockP o.1 K) = P ++ (lparts (L.set i (o.1, o.2.1, K)) ++ T) := by
  obtain ⟨g1, g2, _, _⟩ := lparts_get L i o h
  have l1 := (List.getElem?_eq_some_iff.1 g1).1
  have l2 := (List.getElem?_eq_some_iff.1 g2).1
  rw [set_mid, set_mid, List.set_append_left _ _ l2, List.set_append_left _ _ (by rw [List.length_set]; exact l1), (lparts_set L i o K h).1]
end
end Go.Proofs.YtlflagjnlclffaaGreat.S13
namespace Go.Proofs.YtlflagjnlclffaaGreat.S12
set_option maxRecDepth 100000
set_option maxHeartbeats 16000000
open Go.Proofs.YtlflagjnlclffaaGreat Go.Proofs.YtlflagjnlclffaaGreat.S11
open Go.RowKit
def GIn (w : World) (base : Nat) (p : Option Addr) (n : Nat) (G : Nat → Int) : Prop := 0 < n → ∃ lb lo, p = some ⟨lb, lo, none⟩ ∧ lb < base ∧ ∀ i, i < n → w.cell? ⟨lb, lo + i, none⟩ = some (.int .i64 (G i))
structure Qu where
  b : Int
  i : Int
  A : Option Addr
  c : Nat
  D : List S10.Ent
  ta : Int
  tf : Int
instance : Inhabited Qu := ⟨⟨0, 0, none, 0, [], 0, 0⟩⟩
def QIn (w : World) (base : Nat) (p : Option Addr) (n : Nat) (Q : Nat → Qu) : Prop := 0 < n → ∃ lb lo, p = some ⟨lb, lo, none⟩ ∧ lb < base ∧ ∀ i, i < n → w.cell? ⟨lb, lo + i * 5, none⟩ = some (.int .i64 (Q i).b) ∧ w.cell? ⟨lb, lo + i * 5 + 1, none⟩ = some (.int .i64 (Q i).i) ∧ w.cell? ⟨lb, lo + i * 5 + 2, none⟩ = some (.slice (Q i).A (Q i).D.length (Q i).c) ∧ w.cell? ⟨lb, lo + i * 5 + 3, none⟩ = some (.int .u64 (Q i).ta) ∧ w.cell? ⟨lb, lo + i * 5 + 4, none⟩ = some (.int .u64 (Q i).tf)
structure QOk (w : World) (base : Nat) (q : Qu) : Prop where
  b : S10.InI q.b
  le : q.D.length ≤ q.c
  c : q.c ≤ 9223372036854775807
  rd : S10.Rd w base q.A (S10.flat q.D)
  keys : S10.Keys q.D
theorem GIn.below {w w' : World} {base b : Nat} {p : Option Addr} {n : Nat} {G : Nat → Int} (h : GIn w base p n G) (hb : Below b w w') (hbb : base ≤ b) : GIn w' base p n G := fun h0 => by
  obtain ⟨lb, lo, e, hl, hc⟩ := h h0
  exact ⟨lb, lo, e, hl, fun i hi => (hb.cell (p := ⟨lb, lo + i, none⟩) (Nat.lt_of_lt_of_le hl hbb)).trans (hc i hi)⟩
theorem QIn.below {w w' : World} {base b : Nat} {p : Option Addr} {n : Nat} {Q : Nat → Qu} (h : QIn w base p n Q) (hb : Below b w w') (hbb : base ≤ b) : QIn w' base p n Q := fun h0 => by
  obtain ⟨lb, lo, e, hl, hc⟩ := h h0
  have k : ∀ j, w'.cell? ⟨lb, j, none⟩ = w.cell? ⟨lb, j, none⟩ := fun j => hb.cell (p := ⟨lb, j, none⟩) (Nat.lt_of_lt_of_le hl hbb)
  refine ⟨lb, lo, e, hl, fun i hi => ?_⟩
  obtain ⟨h1, h2, h3, h4, h5⟩ := hc i hi
  exact ⟨(k _).trans h1, (k _).trans h2, (k _).trans h3, (k _).trans h4, (k _).trans h5⟩
theorem QOk.below {w w' : World} {base b : Nat} {q : Qu} (h : QOk w base q) (hb : Below b w w') (hbb : base ≤ b) : QOk w' base q := ⟨h.b, h.le, h.c, h.rd.below hb hbb, h.keys⟩
section
variable {w0 w w' : World} {base WB RB N cn tn : Nat} {M RM : Sd} {E : List Part} {X : Wm} {Y : Rm}
theorem Bg.outside (h : Bg w0 w base WB RB N cn tn M RM E X Y) {S : Nat → Prop} (t : Turns S w w') (hs : ∀ k, S k → k < base) : Bg w' w' base WB RB N cn tn M RM E X Y :=
  { h with pr := Parts.kept h.pr t (fun i p hp k hk e => by have := h.pr.low i p hp k hk; have := hs k e; omega), rb := Nat.le_trans h.rb t.size, bl := Below.refl _ _ }
end
theorem Parts.rebase {w : World} {b b' : Nat} {l : List Part} (h : Parts w b l) (hb : b' ≤ b) : Parts w b' l :=
  ⟨Nat.le_trans hb h.size, h.ok, h.apart, fun i p hp k hk => Nat.le_trans hb (h.low i p hp k hk)⟩
structure BCut (w wx : World) (B0 B1 B2 B3 b1 : Nat) (fb : Array Value) (Y : Rm) (sp : Int) (mo : Nat) (D : List Nat) (A : Option Addr) (c : Nat) : Prop where
  p0 : wx.heap[B0]? = some (.cells fb 30 (0, 0))
  p1 : wx.heap[B1]? = some (.cells #[.pointer none, .pointer none] 36 (0, 0))
  p2 : wx.heap[B2]? = some (.cells #[.pointer none, Pw Y.wB] 36 (0, 0))
  p3 : wx.heap[B3]? = some (.cells #[.int .i64 sp, .int .u64 (mo : Int), .slice A D.length c] 25 (0, 0))
  py : Parts wx b1 Y.parts
  r0 : RAt0 Y sp mo D
  rb : Y.rb ≤ wx.heap.size
  ok : okC sp D.length = true
  dl : D.length ≤ c
  dc : c ≤ 9223372036854775807
  mm : mo ≤ 18446744073709551615
  rd : S3.Rd wx w.heap.size A D
  dd : ∀ d ∈ D, d ≤ 18446744073709551615
  bl : Below w.heap.size w wx
  sz : b1 ≤ wx.heap.size
theorem begin_any {w : World} {sp : Int} {mo dc sn sc gn gc qn qc tk : Nat} {dA sA gA qA : Option Addr} {D : List Nat} {SA SV : Nat → Nat} {G : Nat → Int} {Q : Nat → Qu}
    (hd : D.length ≤ 1048576) (hdl : D.length ≤ dc) (hdc : dc ≤ 9223372036854775807) (hmo : mo ≤ 18446744073709551615) (hrd : S3.Rd w w.heap.size dA D) (hdd : ∀ d ∈ D, d ≤ 18446744073709551615)
    (hsn : sn ≤ 1048576) (hsi : S2.WIn w w.heap.size sA sn SA SV) (hso : S2.WOk sn SA SV) (hgi : GIn w w.heap.size gA gn G) (hgo : ∀ i, i < gn → S10.InI (G i)) (hgn : gn ≤ 9223372036854775807) (hqi : QIn w w.heap.size qA qn Q) (hqo : ∀ i, i < qn → QOk w w.heap.size (Q i)) (hqn : qn ≤ 9223372036854775807) (htk : tk ≤ 18446744073709551615) :
    Calls Tryz.prog 7 #[.agg #[.int .i64 sp, .int .u64 (mo : Int), .slice dA D.length dc, .slice sA sn sc, .slice gA gn gc, .slice qA qn qc, .int .u64 (tk : Int)]] w fun e w' => ∃ M X Y, e = .returned (.agg #[Pw X.wB, Pw Y.wB]) ∧ Bg w w' w.heap.size X.wB Y.wB 1200 2097164 7 M M [] X Y := by
  have hbw : Below w.heap.size w ((((w.alloc (.cells #[.int .i64 sp, .int .u64 (mo : Int), .slice dA D.length dc, .slice sA sn sc, .slice gA gn gc, .slice qA qn qc, .int .u64 (tk : Int)] 30)).alloc (.cells #[.pointer none, .pointer none] 36)).alloc (.cells #[.pointer none, .pointer none] 36)).alloc (.cells #[.int .i64 sp, .int .u64 (mo : Int), .slice dA D.length dc] 25)) := ((((Below.refl _ _).alloc (Nat.le_refl _) _).alloc (by simp) _).alloc (by simp; omega) _).alloc (by simp; omega) _
  have h0 := heap_alloc_new w (.cells #[.int .i64 sp, .int .u64 (mo : Int), .slice dA D.length dc, .slice sA sn sc, .slice gA gn gc, .slice qA qn qc, .int .u64 (tk : Int)] 30)
  have h1 := heap_alloc_new (w.alloc (.cells #[.int .i64 sp, .int .u64 (mo : Int), .slice dA D.length dc, .slice sA sn sc, .slice gA gn gc, .slice qA qn qc, .int .u64 (tk : Int)] 30)) (.cells #[.pointer none, .pointer none] 36)
  have h2 := heap_alloc_new ((w.alloc (.cells #[.int .i64 sp, .int .u64 (mo : Int), .slice dA D.length dc, .slice sA sn sc, .slice gA gn gc, .slice qA qn qc, .int .u64 (tk : Int)] 30)).alloc (.cells #[.pointer none, .pointer none] 36)) (.cells #[.pointer none, .pointer none] 36)
  have h3 := heap_alloc_new (((w.alloc (.cells #[.int .i64 sp, .int .u64 (mo : Int), .slice dA D.length dc, .slice sA sn sc, .slice gA gn gc, .slice qA qn qc, .int .u64 (tk : Int)] 30)).alloc (.cells #[.pointer none, .pointer none] 36)).alloc (.cells #[.pointer none, .pointer none] 36)) (.cells #[.int .i64 sp, .int .u64 (mo : Int), .slice dA D.length dc] 25)
  have s1 : (w.alloc (.cells #[.int .i64 sp, .int .u64 (mo : Int), .slice dA D.length dc, .slice sA sn sc, .slice gA gn gc, .slice qA qn qc, .int .u64 (tk : Int)] 30)).heap.size = w.heap.size + 1 := by simp
  have s2 : ((w.alloc (.cells #[.int .i64 sp, .int .u64 (mo : Int), .slice dA D.length dc, .slice sA sn sc, .slice gA gn gc, .slice qA qn qc, .int .u64 (tk : Int)] 30)).alloc (.cells #[.pointer none, .pointer none] 36)).heap.size = w.heap.size + 2 := by simp
  have s3 : (((w.alloc (.cells #[.int .i64 sp, .int .u64 (mo : Int), .slice dA D.length dc, .slice sA sn sc, .slice gA gn gc, .slice qA qn qc, .int .u64 (tk : Int)] 30)).alloc (.cells #[.pointer none, .pointer none] 36)).alloc (.cells #[.pointer none, .pointer none] 36)).heap.size = w.heap.size + 3 := by simp
  have s4 : ((((w.alloc (.cells #[.int .i64 sp, .int .u64 (mo : Int), .slice dA D.length dc, .slice sA sn sc, .slice gA gn gc, .slice qA qn qc, .int .u64 (tk : Int)] 30)).alloc (.cells #[.pointer none, .pointer none] 36)).alloc (.cells #[.pointer none, .pointer none] 36)).alloc (.cells #[.int .i64 sp, .int .u64 (mo : Int), .slice dA D.length dc] 25)).heap.size = w.heap.size + 4 := by simp
  have u2 := fun (k : Nat) (hk : k < w.heap.size + 3) => (below1 (((w.alloc (.cells #[.int .i64 sp, .int .u64 (mo : Int), .slice dA D.length dc, .slice sA sn sc, .slice gA gn gc, .slice qA qn qc, .int .u64 (tk : Int)] 30)).alloc (.cells #[.pointer none, .pointer none] 36)).alloc (.cells #[.pointer none, .pointer none] 36)) (.cells #[.int .i64 sp, .int .u64 (mo : Int), .slice dA D.length dc] 25)).block k (by rw [s3]; exact hk)
  have u1 := fun (k : Nat) (hk : k < w.heap.size + 2) => (below1 ((w.alloc (.cells #[.int .i64 sp, .int .u64 (mo : Int), .slice dA D.length dc, .slice sA sn sc, .slice gA gn gc, .slice qA qn qc, .int .u64 (tk : Int)] 30)).alloc (.cells #[.pointer none, .pointer none] 36)) (.cells #[.pointer none, .pointer none] 36)).block k (by rw [s2]; exact hk)
  have u0 := fun (k : Nat) (hk : k < w.heap.size + 1) => (below1 (w.alloc (.cells #[.int .i64 sp, .int .u64 (mo : Int), .slice dA D.length dc, .slice sA sn sc, .slice gA gn gc, .slice qA qn qc, .int .u64 (tk : Int)] 30)) (.cells #[.pointer none, .pointer none] 36)).block k (by rw [s1]; exact hk)
  rw [s1] at h1
  rw [s2] at h2
  rw [s3] at h3
  have h2' := (u2 (w.heap.size + 2) (by omega)).trans h2
  have h1' := (u2 (w.heap.size + 1) (by omega)).trans ((u1 (w.heap.size + 1) (by omega)).trans h1)
  have h0' := (u2 w.heap.size (by omega)).trans ((u1 w.heap.size (by omega)).trans ((u0 w.heap.size (by omega)).trans h0))
  obtain ⟨B0, hB0⟩ : ∃ B0, B0 = w.heap.size := ⟨_, rfl⟩
  obtain ⟨B1, hB1⟩ : ∃ B1, B1 = w.heap.size + 1 := ⟨_, rfl⟩
  obtain ⟨B2, hB2⟩ : ∃ B2, B2 = w.heap.size + 2 := ⟨_, rfl⟩
  obtain ⟨B3, hB3⟩ : ∃ B3, B3 = w.heap.size + 3 := ⟨_, rfl⟩
  obtain ⟨b1, hb1⟩ : ∃ b1, b1 = w.heap.size + 4 := ⟨_, rfl⟩
  rw [← hB0] at h0'
  rw [← hB1] at h1'
  rw [← hB2] at h2'
  rw [← hB3] at h3
  rw [← hb1] at s4
  have HB := Lib.hid (And.intro hB0 (And.intro hB1 (And.intro hB2 (And.intro hB3 hb1))))
  have H0 := Lib.hid h0'; have H1 := Lib.hid h1'; have H2 := Lib.hid h2'; have H3 := Lib.hid h3; have HBW := Lib.hid hbw; have HS4 := Lib.hid s4
  have HDD := Lib.hid (And.intro hd (And.intro hdl (And.intro hdc (And.intro hmo (And.intro hrd hdd)))))
  have HSI := Lib.hid (And.intro hsn (And.intro hsi hso)); have HGI := Lib.hid (And.intro hgi (And.intro hgo hgn)); have HQI := Lib.hid (And.intro hqi (And.intro hqo hqn)); have HTK := Lib.hid htk
  clear h0 h1 h2 h3 h0' h1' h2' s1 s2 s3 s4 u0 u1 u2 hd hdl hdc hmo hrd hdd hsn hsi hso hgi hgo hgn hqi hqo hqn htk hbw
  go_enter Tryz.func7, Tryz.ntmps7
  go_upto_region 3 with (fail)
  rw [← hB0, show B0 + 1 = B1 by omega, show B1 + 1 = B2 by omega, show B2 + 1 = B3 by omega]
  generalize ((((w.alloc (.cells #[.int .i64 sp, .int .u64 (mo : Int), .slice dA D.length dc, .slice sA sn sc, .slice gA gn gc, .slice qA qn qc, .int .u64 (tk : Int)] 30)).alloc (.cells #[.pointer none, .pointer none] 36)).alloc (.cells #[.pointer none, .pointer none] 36)).alloc (.cells #[.int .i64 sp, .int .u64 (mo : Int), .slice dA D.length dc] 25)) = w1 at *
  have HLT : Hid (B0 < b1 ∧ B1 < b1 ∧ B2 < b1 ∧ B3 < b1 ∧ w.heap.size ≤ B0 ∧ w.heap.size ≤ B1 ∧ w.heap.size ≤ B2 ∧ w.heap.size ≤ B3 ∧ B0 ≠ B2 ∧ B1 ≠ B2 ∧ B3 ≠ B2 ∧ B0 ≠ B3 ∧ B1 ≠ B3) := Lib.hid (by omega)
  clear hB0 hB1 hB2 hB3 hb1 HB
  have c0 := cell_row H3.out 0; have c1 := cell_row H3.out 1; have c2 := cell_row H3.out 2
  have y1 := cell_row H2.out 1; have z1 := froz_row H2.out 1
  simp only [List.getElem?_toArray, List.getElem?_cons_zero, List.getElem?_cons_succ] at c0 c1 c2 y1
  have hrd1 := HDD.out.2.2.2.2.1.below HBW.out (Nat.le_refl _)
  have HRD1 := Lib.hid hrd1
  clear hrd1
  go_upto_region 4 with (first
    | (go_at_call 30; refine (S3.otherC_any sp (mo : Int) dc HRD1.out HBW.out.size (by have := HDD.out.1; omega)).mono ?_; rintro e wo ⟨Ao, co, rfl, hlo, hco, hro, hbo⟩;
       have HRN := Lib.hid (rnew_any (w := wo) sp mo co hlo hco HDD.out.2.2.2.1 hro.rd (Nat.le_refl _) HDD.out.2.2.2.2.2);
       have y1' := bcell hbo y1;
       have HBO := Lib.hid hbo; clear hro hbo)
    | (go_at_call 29; refine HRN.out.mono ?_; rintro e wr ⟨v, er, rfl, hre, hbr⟩;
       have HRE := Lib.hid hre; have HBR := Lib.hid (HBO.out.trans (hbr.mono HBO.out.size));
       have hq2 : wr.heap[B2]? = _ := (HBR.out.block B2 (by rw [HS4.out]; exact HLT.out.2.2.1)).trans H2.out;
       have y2 := cell_row hq2 1; have z2 := froz_row hq2 1; have HQ2 := Lib.hid hq2; clear hre hbr hq2))
  have hq2s : (wr.setCell ⟨B2, 1, none⟩ (.pointer v)).heap[B2]? = some (.cells #[.pointer none, .pointer v] 36 (0, 0)) := by
    have h' := HQ2.out
    simp [World.setCell, Array.getElem?_modify, h']
  have hts : Turns (fun k => k = B2) wr (wr.setCell ⟨B2, 1, none⟩ (.pointer v)) := (Turns.refl (fun k => k = B2) wr).setCell ⟨B2, 1, none⟩ _ rfl
  have hblk : ∀ k o, k < b1 → k ≠ B2 → w1.heap[k]? = some o → (wr.setCell ⟨B2, 1, none⟩ (.pointer v)).heap[k]? = some o := fun k o hk hne e =>
    (hts.block k (by have := HBR.out.size; have := HS4.out; omega) hne).trans ((HBR.out.block k (by rw [HS4.out]; exact hk)).trans e)
  have hq0s := hblk B0 _ HLT.out.1 HLT.out.2.2.2.2.2.2.2.2.1 H0.out
  have hq1s := hblk B1 _ HLT.out.2.1 HLT.out.2.2.2.2.2.2.2.2.2.1 H1.out
  have hq3s := hblk B3 _ HLT.out.2.2.2.1 HLT.out.2.2.2.2.2.2.2.2.2.2.1 H3.out
  have hbs : Below w.heap.size w (wr.setCell ⟨B2, 1, none⟩ (.pointer v)) := (HBW.out.trans (HBR.out.mono HBW.out.size)).setCell (p := ⟨B2, 1, none⟩) HLT.out.2.2.2.2.2.2.1 _
  have hszs : b1 ≤ (wr.setCell ⟨B2, 1, none⟩ (.pointer v)).heap.size := by have := hts.size; have := HBR.out.size; have := HS4.out; omega
  have hkeep : ∀ l, Parts wr wo.heap.size l → Parts (wr.setCell ⟨B2, 1, none⟩ (.pointer v)) b1 l := fun l hl => (hl.kept hts (fun i p hp k hk e => by have := hl.low i p hp k hk; have := HBO.out.size; have := HS4.out; have := HLT.out; omega)).rebase (by have := HBO.out.size; have := HS4.out; omega)
  have hsz2 := hts.size
  have HQ2S := Lib.hid hq2s; have HQ0S := Lib.hid hq0s; have HQ1S := Lib.hid hq1s; have HQ3S := Lib.hid hq3s; have HBS := Lib.hid hbs; have HSZS := Lib.hid hszs; have HKEEP := Lib.hid hkeep; have HSZ2 := Lib.hid hsz2
  clear hq2s hts hblk hq0s hq1s hq3s hbs hszs hkeep hsz2 c0 c1 c2 y1 z1 y1' y2 z2 HQ2
  generalize wr.setCell ⟨B2, 1, none⟩ (.pointer v) = ws at *
  have y1 := cell_row HQ2S.out 1
  simp only [List.getElem?_toArray, List.getElem?_cons_zero, List.getElem?_cons_succ] at y1
  go_upto_if 23 with (fail)
  clear y1
  go_cut [] (fun wx => ∃ Y sp' mo' D' A' c', BCut w wx B0 B1 B2 B3 b1 #[.int .i64 sp, .int .u64 (mo : Int), .slice dA D.length dc, .slice sA sn sc, .slice gA gn gc, .slice qA qn qc, .int .u64 (tk : Int)] Y sp' mo' D' A' c')
  case first =>
    rcases HRE.out with ⟨hok, rfl, Y, hv, py, r0, rb⟩ | ⟨hok, hv, rfl⟩
    · injection hv with hv
      subst hv
      have HPY := Lib.hid py; have HR0 := Lib.hid r0; have HRB := Lib.hid rb; have HOK := Lib.hid hok
      clear py r0 rb hok
      go_wp2_with fail
      go_meet
      exact ⟨Y, sp, mo, D, dA, dc, HQ0S.out, HQ1S.out, HQ2S.out, HQ3S.out, HKEEP.out _ HPY.out, HR0.out, Nat.le_trans HRB.out HSZ2.out, HOK.out, HDD.out.2.1, HDD.out.2.2.1, HDD.out.2.2.2.1, HDD.out.2.2.2.2.1.below HBS.out (Nat.le_refl _), HDD.out.2.2.2.2.2, HBS.out, HSZS.out⟩
    · injection hv with hv
      subst hv
      have x0 := cell_row HQ3S.out 0; have x1 := cell_row HQ3S.out 1; have x2 := cell_row HQ3S.out 2
      have f0 := froz_row HQ3S.out 0; have f1 := froz_row HQ3S.out 1; have f2 := froz_row HQ3S.out 2
      simp only [List.getElem?_toArray, List.getElem?_cons_zero, List.getElem?_cons_succ] at x0 x1 x2
      clear hok
      go_upto_region 6 with (fail)
      have e3 : (((ws.setCell ⟨B3, 0, none⟩ (.int .i64 0)).setCell ⟨B3, 1, none⟩ (.int .u64 0)).setCell ⟨B3, 2, none⟩ (.slice none 0 0)).heap[B3]? = some (.cells #[.int .i64 0, .int .u64 0, .slice none 0 0] 25 (0, 0)) := by
        have h' := HQ3S.out
        simp [World.setCell, Array.getElem?_modify, h']
      have tt : Turns (fun k => k = B3) ws (((ws.setCell ⟨B3, 0, none⟩ (.int .i64 0)).setCell ⟨B3, 1, none⟩ (.int .u64 0)).setCell ⟨B3, 2, none⟩ (.slice none 0 0)) := (((Turns.refl (fun k => k = B3) ws).setCell ⟨B3, 0, none⟩ _ rfl).setCell ⟨B3, 1, none⟩ _ rfl).setCell ⟨B3, 2, none⟩ _ rfl
      have hbe : Below w.heap.size w (((ws.setCell ⟨B3, 0, none⟩ (.int .i64 0)).setCell ⟨B3, 1, none⟩ (.int .u64 0)).setCell ⟨B3, 2, none⟩ (.slice none 0 0)) := (((HBS.out.setCell (p := ⟨B3, 0, none⟩) HLT.out.2.2.2.2.2.2.2.1 _).setCell (p := ⟨B3, 1, none⟩) HLT.out.2.2.2.2.2.2.2.1 _).setCell (p := ⟨B3, 2, none⟩) HLT.out.2.2.2.2.2.2.2.1 _)
      have hb_ : ∀ k o, k < b1 → k ≠ B3 → ws.heap[k]? = some o → (((ws.setCell ⟨B3, 0, none⟩ (.int .i64 0)).setCell ⟨B3, 1, none⟩ (.int .u64 0)).setCell ⟨B3, 2, none⟩ (.slice none 0 0)).heap[k]? = some o := fun k o hk hne e => (tt.block k (by have := HSZS.out; omega) hne).trans e
      have e0 := hb_ B0 _ HLT.out.1 HLT.out.2.2.2.2.2.2.2.2.2.2.2.1 HQ0S.out
      have e1 := hb_ B1 _ HLT.out.2.1 HLT.out.2.2.2.2.2.2.2.2.2.2.2.2 HQ1S.out
      have e2 := hb_ B2 _ HLT.out.2.2.1 (fun e => HLT.out.2.2.2.2.2.2.2.2.2.2.1 e.symm) HQ2S.out
      have HE0 := Lib.hid e0; have HE1 := Lib.hid e1; have HE2 := Lib.hid e2; have HE3 := Lib.hid e3; have HBE := Lib.hid hbe
      have HSE : Hid (b1 ≤ (((ws.setCell ⟨B3, 0, none⟩ (.int .i64 0)).setCell ⟨B3, 1, none⟩ (.int .u64 0)).setCell ⟨B3, 2, none⟩ (.slice none 0 0)).heap.size) := Lib.hid (Nat.le_trans HSZS.out tt.size)
      clear e0 e1 e2 e3 tt hbe hb_ x0 x1 x2 f0 f1 f2
      generalize (((ws.setCell ⟨B3, 0, none⟩ (.int .i64 0)).setCell ⟨B3, 1, none⟩ (.int .u64 0)).setCell ⟨B3, 2, none⟩ (.slice none 0 0)) = we at *
      have x0 := cell_row HE3.out 0; have x1 := cell_row HE3.out 1; have x2 := cell_row HE3.out 2
      have y1 := cell_row HE2.out 1; have z1 := froz_row HE2.out 1
      simp only [List.getElem?_toArray, List.getElem?_cons_zero, List.getElem?_cons_succ] at x0 x1 x2 y1
      have hoc : Calls Tryz.prog 30 #[.agg #[.int .i64 0, .int .u64 0, .slice none 0 0]] we fun e w' => S3.OthC we w' 0 0 [] e := S3.otherC_any (D := []) (b2 := 0) 0 0 0 S3.Rd.nil (Nat.zero_le _) (by simp)
      have HOC := Lib.hid hoc
      clear hoc
      go_wp2_with (first
        | (go_at_call 30; refine HOC.out.mono ?_; rintro e wo2 ⟨Ao2, co2, rfl, hlo2, hco2, hro2, hbo2⟩;
           have HRN2 := Lib.hid (show Calls Tryz.prog 29 #[.agg #[.int .i64 0, .int .u64 0, .slice Ao2 0 co2]] wo2 fun e w' => ∃ v er, e = .returned (.tuple #[.pointer v, .int .i64 er]) ∧ RNewE wo2 w' 0 0 [] (.pointer v) er ∧ Below wo2.heap.size wo2 w' from rnew_any (w := wo2) (D := []) 0 0 co2 hlo2 hco2 (by omega) hro2.rd (Nat.le_refl _) (fun d hd => by cases hd));
           have y1' := bcell hbo2 y1;
           have HBO2 := Lib.hid hbo2; clear hro2 hbo2)
        | (go_at_call 29; refine HRN2.out.mono ?_; rintro e wr2 ⟨v2, er2, rfl, hre2, hbr2⟩;
           have HRE2 := Lib.hid hre2; have HBR2 := Lib.hid (HBO2.out.trans (hbr2.mono HBO2.out.size));
           have hq2 : wr2.heap[B2]? = _ := (HBR2.out.block B2 (by have := HSE.out; have := HLT.out; omega)).trans HE2.out;
           have y2 := cell_row hq2 1; have z2 := froz_row hq2 1; have HQ22 := Lib.hid hq2; clear hre2 hbr2 hq2))
      rcases HRE2.out with ⟨hok2, rfl, Y, hv2, py, r0, rb⟩ | ⟨hok2, _, _⟩
      · injection hv2 with hv2
        subst hv2
        have hq2s : (wr2.setCell ⟨B2, 1, none⟩ (Pw Y.wB)).heap[B2]? = some (.cells #[.pointer none, Pw Y.wB] 36 (0, 0)) := by
          have h' := HQ22.out
          simp [World.setCell, Array.getElem?_modify, h']
        have hts : Turns (fun k => k = B2) wr2 (wr2.setCell ⟨B2, 1, none⟩ (Pw Y.wB)) := (Turns.refl (fun k => k = B2) wr2).setCell ⟨B2, 1, none⟩ _ rfl
        have hblk : ∀ k o, k < b1 → k ≠ B2 → we.heap[k]? = some o → (wr2.setCell ⟨B2, 1, none⟩ (Pw Y.wB)).heap[k]? = some o := fun k o hk hne e =>
          (hts.block k (by have := HBR2.out.size; have := HSE.out; omega) hne).trans ((HBR2.out.block k (by have := HSE.out; omega)).trans e)
        have hbs2 : Below w.heap.size w (wr2.setCell ⟨B2, 1, none⟩ (Pw Y.wB)) := (HBE.out.trans (HBR2.out.mono HBE.out.size)).setCell (p := ⟨B2, 1, none⟩) HLT.out.2.2.2.2.2.2.1 _
        go_meet
        exact ⟨Y, 0, 0, [], none, 0, hblk B0 _ HLT.out.1 HLT.out.2.2.2.2.2.2.2.2.1 HE0.out, hblk B1 _ HLT.out.2.1 HLT.out.2.2.2.2.2.2.2.2.2.1 HE1.out, hq2s, hblk B3 _ HLT.out.2.2.2.1 HLT.out.2.2.2.2.2.2.2.2.2.2.1 HE3.out,
          (py.kept hts (fun i p hp k hk e => by have := py.low i p hp k hk; have := HBO2.out.size; have := HSE.out; have := HLT.out; omega)).rebase (by have := HBO2.out.size; have := HSE.out; omega),
          r0, Nat.le_trans rb hts.size, hok2, by simp, by omega, by omega, S3.Rd.nil, (fun d hd => by cases hd), hbs2, Nat.le_trans (Nat.le_trans HSE.out HBR2.out.size) hts.size⟩
      · exact absurd hok2 (by decide)
  case rest =>
    obtain ⟨Y, sp', mo', D', A', c', hc⟩ := hcut
    have x0 := cell_row hc.p3 0; have x1 := cell_row hc.p3 1; have x2 := cell_row hc.p3 2
    simp only [List.getElem?_toArray, List.getElem?_cons_zero, List.getElem?_cons_succ] at x0 x1 x2
    have HNW := Lib.hid (wnew_any sp' mo' c' hc.dl hc.dc hc.mm hc.rd hc.bl.size hc.dd)
    have HC := Lib.hid hc
    clear hc HRE HBR HQ0S HQ1S HQ2S HQ3S HBS HSZS HKEEP HSZ2 HBO HRD1 HBW HS4 H0 H1 H2 H3 HRN hlo hco
    go_upto_region 8 with (first
      | (go_at_call 31; refine HNW.out.mono ?_; rintro e wn ⟨v, er, rfl, hwe, hbn⟩;
         have hq2 : wn.heap[B2]? = _ := (hbn.block B2 (by have := HC.out.sz; have := HLT.out; omega)).trans HC.out.p2;
         have y2 := cell_row hq2 0; have z2 := froz_row hq2 0; have HQ2 := Lib.hid hq2; have HWE := Lib.hid hwe; have HBN := Lib.hid hbn; clear hq2 hwe hbn))
    rcases HWE.out with ⟨_, rfl, X, hv, pw, a0⟩ | ⟨hok, _, _⟩
    · injection hv with hv
      subst hv
      have hbg := bg_first (base := b1) (w0 := wn) HC.out.py HC.out.r0 HC.out.rb pw a0 HBN.out (Below.refl _ _) (by have := HC.out.ok; simp [okC] at this; omega)
      have hts : Turns (fun k => k = B2) wn (wn.setCell ⟨B2, 0, none⟩ (Pw X.wB)) := (Turns.refl (fun k => k = B2) wn).setCell ⟨B2, 0, none⟩ _ rfl
      have hbg2 := hbg.outside hts (fun k e => by have := HLT.out; omega)
      have hq2s : (wn.setCell ⟨B2, 0, none⟩ (Pw X.wB)).heap[B2]? = some (.cells #[Pw X.wB, Pw Y.wB] 36 (0, 0)) := by
        have h' := HQ2.out
        simp [World.setCell, Array.getElem?_modify, h']
      have g0 := (hts.block B0 (by have := HBN.out.size; have := HC.out.sz; have := HLT.out; omega) HLT.out.2.2.2.2.2.2.2.2.1).trans ((HBN.out.block B0 (by have := HC.out.sz; have := HLT.out; omega)).trans HC.out.p0)
      have g1 := (hts.block B1 (by have := HBN.out.size; have := HC.out.sz; have := HLT.out; omega) HLT.out.2.2.2.2.2.2.2.2.2.1).trans ((HBN.out.block B1 (by have := HC.out.sz; have := HLT.out; omega)).trans HC.out.p1)
      have hbs : Below w.heap.size w (wn.setCell ⟨B2, 0, none⟩ (Pw X.wB)) := (HC.out.bl.trans (HBN.out.mono HC.out.bl.size)).setCell (p := ⟨B2, 0, none⟩) HLT.out.2.2.2.2.2.2.1 _
      have hsz : b1 ≤ (wn.setCell ⟨B2, 0, none⟩ (Pw X.wB)).heap.size := hbg2.pr.size
      have HBG := Lib.hid hbg2; have HG0 := Lib.hid g0; have HG1 := Lib.hid g1; have HG2 := Lib.hid hq2s; have HBS := Lib.hid hbs; have HSZ := Lib.hid hsz
      obtain ⟨WB, hWB⟩ : ∃ WB, WB = X.wB := ⟨_, rfl⟩
      obtain ⟨RB, hRB⟩ : ∃ RB, RB = Y.wB := ⟨_, rfl⟩
      rw [← hWB, ← hRB] at HG2
      rw [← hWB] at HBG HG0 HG1 HBS HSZ ⊢
      rw [← hRB] at HBG
      have HBE : Hid (BgE (wn.setCell ⟨B2, 0, none⟩ (Pw WB)) (wn.setCell ⟨B2, 0, none⟩ (Pw WB)) b1 WB RB 0 0 1 []) := Lib.hid ⟨_, X, Y, HBG.out⟩
      clear hbg hts hbg2 hq2s g0 g1 hbs hsz HC HNW HWE HBN HQ2 HBG pw a0 x0 x1 x2 y2 z2 hWB hRB
      generalize wn.setCell ⟨B2, 0, none⟩ (Pw WB) = wS at *
      have y0 := cell_row HG2.out 0
      simp only [List.getElem?_toArray, List.getElem?_cons_zero, List.getElem?_cons_succ] at y0
      go_upto_region 11 with (fail)
      clear y0
      have HWB1 : Hid (w.heap.size ≤ b1) := Lib.hid (by have := HLT.out; omega)
      have HCELL : Hid (∀ W, Below b1 wS W → W.cell? ⟨B2, 0, none⟩ = some (Pw WB) ∧ W.cell? ⟨B2, 1, none⟩ = some (Pw RB) ∧ W.cell? ⟨B1, 0, none⟩ = some (.pointer none) ∧ W.cell? ⟨B0, 3, none⟩ = some (.slice sA sn sc) ∧ W.cell? ⟨B0, 4, none⟩ = some (.slice gA gn gc) ∧ W.cell? ⟨B0, 5, none⟩ = some (.slice qA qn qc) ∧ W.cell? ⟨B0, 6, none⟩ = some (.int .u64 (tk : Int))) := Lib.hid (fun W q => by
        have k2 := (q.block B2 HLT.out.2.2.1).trans HG2.out
        have k1 := (q.block B1 HLT.out.2.1).trans HG1.out
        have k0 := (q.block B0 HLT.out.1).trans HG0.out
        exact ⟨cell_row k2 0, cell_row k2 1, cell_row k1 0, cell_row k0 3, cell_row k0 4, cell_row k0 5, cell_row k0 6⟩)
      have HIN : Hid (∀ W, Below b1 wS W → Below w.heap.size w W) := Lib.hid (fun W q => HBS.out.trans (q.mono HWB1.out))
      clear HBS
      go_upto_block 0 with fail
      go_cut [] (fun wx => BgE wS wx b1 WB RB 0 12 7 [])
      case first =>
        go_wp2_with fail
        go_loopg [5, 6] 6 (fun q s5 s6 wx => ∃ (i : Nat) (bits : Int), i ≤ gn ∧ i ≤ 6 ∧ q = 6 - i ∧ s6 = .int .i64 (i : Int) ∧ s5 = .int .i64 bits ∧ (0 ≤ bits ∧ bits ≤ 8) ∧ BgE wS wx b1 WB RB 0 (2 * i) (1 + i) [])
        case atStart => exact ⟨0, 2, by omega, by omega, rfl, rfl, rfl, by omega, HBE.out⟩
        case round =>
          obtain ⟨i, bits, hi1, hi2, rfl, rfl, rfl, hbits, M, X, Y, hbg⟩ := hrel
          obtain ⟨k0, k1, k2, k3, k4, k5, k6⟩ := HCELL.out _ hbg.bl
          by_cases hin : i < gn ∧ i < 6
          · obtain ⟨hi3, hi4⟩ := hin
            obtain ⟨lb, lo, hga, hlb, hgc⟩ := HGI.out.1 (by omega)
            have HGC : Hid (∀ W, Below b1 wS W → W.cell? ⟨lb, lo + i, none⟩ = some (.int .i64 (G i))) := Lib.hid (fun W q => ((HIN.out W q).cell (p := ⟨lb, lo + i, none⟩) hlb).trans (hgc i hi3))
            subst hga
            obtain ⟨a, M', h1, h2, h5, h6⟩ := bg_grow (E := []) hbg.gd (by omega) (fr := bits) (tg := G i) (by unfold S10.InI; omega) (HGI.out.2.1 i hi3)
            have HGR := Lib.hid h5; have HGW := Lib.hid h6; have HAF := Lib.hid (And.intro h1 h2)
            have d1 : decide ((i : Int) < (gn : Int)) = true := by simp; omega
            have d2 : decide ((i : Int) < 6) = true := by simp; omega
            have hi5 : (i : Int) < (gn : Int) := by omega
            have k8 := HGC.out _ hbg.bl
            have k7 := hbg.c.2.2.2.2.2
            have HB0 := Lib.hid hbg; have HBI := Lib.hid hbits
            clear hbg h1 h2 h5 h6 hgc hlb hbits k0 k2 k3 k5 k6
            go_upto_region 14 with (fail)
            go_still_tail 11, (by kernel_rfl)
            change wpList _ _ _ _ _ wr.drew
            go_upto_if 66 with (go_at_call 32; refine (HGR.out _ _ _ _ _ _ _ _ _ (HB0.out.new ((Below.refl _ _).drew))).mono ?_; rintro e w3 ⟨rfl, Y3, h3, ht3⟩)
            have H3B := Lib.hid h3
            clear h3 ht3 HB0 HGR
            cases a
            · obtain rfl := HAF.out.1 rfl
              clear k1 k4 k7 k8
              go_wp2_with fail
              go_roundg (6 - (i + 1))
              case measure => omega
              case rel => exact ⟨i + 1, bits, by omega, by omega, rfl, by go_num, rfl, HBI.out, _, X, Y3, H3B.out.mono (Nat.le_refl _) (by omega) (by omega)⟩
            · have hg28 := HAF.out.2 rfl
              have HG28 := Lib.hid hg28
              have k7 := H3B.out.c.2.2.1
              clear hg28 HAF
              go_upto_region 15 with (fail)
              obtain ⟨j0, j1, j2, j3, j4, j5, j6⟩ := HCELL.out _ H3B.out.bl
              have j8 := HGC.out _ H3B.out.bl
              go_still_tail 11, (by kernel_rfl)
              change wpList _ _ _ _ _ w3.drew
              go_upto_region 16 with (go_at_call 33; refine (HGW.out _ _ _ _ _ _ _ _ _ (by omega) (H3B.out.new ((Below.refl _ _).drew))).mono ?_; rintro e w4 ⟨rfl, X4, h4, ht4⟩)
              obtain ⟨l0, l1, l2, l3, l4, l5, l6⟩ := HCELL.out _ h4.bl
              have l8 := HGC.out _ h4.bl
              obtain ⟨gv, hgv⟩ : ∃ gv : Nat, G i = (gv : Int) := Int.eq_ofNat_of_zero_le (by have := HG28.out; omega)
              have hwu : IntKind.u64.wrap (G i) = (gv : Int) := by
                rw [IntKind.wrap_u64]
                have := HG28.out
                omega
              have hps : Calls Tryz.prog 11 #[.agg #[Pw WB, Pw RB], .agg #[.int .u32 0, .int .u64 (gv : Int)]] w4 fun e w' => e = .returned (.tuple #[]) ∧ BgE wS w' b1 WB RB 0 (2 * i + 2) (1 + i + 1) [] := pair_store h4 (a := 0) (v := gv) (by omega) (by have := HG28.out; omega) (by omega)
              have HPS := Lib.hid hps; have HWU := Lib.hid hwu
              clear hgv h4 ht4 hps HGW H3B j0 j1 j2 j3 j4 j5 j6 j8 k7 hwu
              go_upto_region 17 with (fail)
              have hwu := HWU.out
              clear l8
              go_wp2_with (go_at_call 11; refine HPS.out.mono ?_; rintro e w5 ⟨rfl, M5, X5, Y5, h5⟩)
              go_roundg (6 - (i + 1))
              case measure => omega
              case rel => exact ⟨i + 1, G i, by omega, by omega, rfl, by go_num, rfl, by have := HG28.out; omega, M5, X5, Y5, h5.mono (Nat.le_refl _) (by omega) (by omega)⟩
          · have HBX := Lib.hid (show BgE wS wr b1 WB RB 0 12 7 [] from ⟨M, X, Y, hbg.mono (Nat.le_refl _) (by omega) (by omega)⟩)
            clear hbg hbits HBE
            by_cases hi5 : i < gn
            · have d1 : decide ((i : Int) < (gn : Int)) = true := by simp; omega
              have d2 : decide ((i : Int) < 6) = false := by simp; omega
              go_wp2_with fail
              go_meet
              exact HBX.out
            · have d1 : decide ((i : Int) < (gn : Int)) = false := by simp; omega
              go_wp2_with fail
              go_meet
              exact HBX.out
      case rest =>
        have HB1 := Lib.hid hcut
        clear hcut HBE
        go_upto_region 18 with (fail)
        go_upto_block 2 with fail
        go_cut [] (fun wx => BgE wS wx b1 WB RB 1200 12 7 [])
        case first =>
          go_wp2_with fail
          go_loopg [7, 8, 9] 20 (fun q s7 s8 s9 wx => ∃ i : Nat, i ≤ qn ∧ i ≤ 20 ∧ q = 20 - i ∧ s7 = .int .i64 (i : Int) ∧ BgE wS wx b1 WB RB (60 * i) 12 7 [])
          case atStart => exact ⟨0, by omega, by omega, rfl, rfl, HB1.out⟩
          case round =>
            obtain ⟨i, hi1, hi2, rfl, rfl, M, X, Y, hbg⟩ := hrel
            obtain ⟨k0, k1, k2, k3, k4, k5, k6⟩ := HCELL.out _ hbg.bl
            by_cases hin : i < qn ∧ i < 20
            · obtain ⟨hi3, hi4⟩ := hin
              obtain ⟨lb, lo, hqa, hlb, hqc⟩ := HQI.out.1 (by omega)
              have HQC : Hid (∀ W, Below b1 wS W → W.cell? ⟨lb, lo + i * 5, none⟩ = some (.int .i64 (Q i).b) ∧ W.cell? ⟨lb, lo + i * 5 + 1, none⟩ = some (.int .i64 (Q i).i) ∧ W.cell? ⟨lb, lo + i * 5 + 2, none⟩ = some (.slice (Q i).A (Q i).D.length (Q i).c) ∧ W.cell? ⟨lb, lo + i * 5 + 3, none⟩ = some (.int .u64 (Q i).ta) ∧ W.cell? ⟨lb, lo + i * 5 + 4, none⟩ = some (.int .u64 (Q i).tf)) := Lib.hid (fun W q => by
                have kk : ∀ j, W.cell? ⟨lb, j, none⟩ = w.cell? ⟨lb, j, none⟩ := fun j => (HIN.out W q).cell (p := ⟨lb, j, none⟩) hlb
                obtain ⟨q1, q2, q3, q4, q5⟩ := hqc i hi3
                exact ⟨(kk _).trans q1, (kk _).trans q2, (kk _).trans q3, (kk _).trans q4, (kk _).trans q5⟩)
              have hok := HQI.out.2.1 i hi3
              have HOK := Lib.hid hok
              clear hqc hok
              subst hqa
              generalize Q i = qq at *
              obtain ⟨b, i2, A, c, D, ta, tf⟩ := qq
              dsimp only at *
              obtain ⟨q1, q2, q3, q4, q5⟩ := HQC.out _ hbg.bl
              have d1 : decide ((i : Int) < (qn : Int)) = true := by simp; omega
              have d2 : decide ((i : Int) < 20) = true := by simp; omega
              have hi5 : (i : Int) < (qn : Int) := by omega
              have HB0 := Lib.hid hbg
              have HO2 : Hid (S10.InI b ∧ S10.Rd w w.heap.size A (S10.flat D) ∧ S10.Keys D) := Lib.hid ⟨HOK.out.b, HOK.out.rd, HOK.out.keys⟩
              clear hbg k0 k1 k2 k3 k4 k6 hlb HOK
              go_upto_region 22 with (fail)
              have h8 := HB0.out.push (blockP wr.heap.size (.cells #[.int .i64 b, .int .i64 i2, .slice A D.length c, .int .u64 ta, .int .u64 tf] 115)) (below1 _ _) (heap_alloc_new _ _) (fun k e => Nat.le_of_eq (show k = wr.heap.size from e).symm)
              have H8 := Lib.hid h8
              clear h8 HB0 q1 q2 q3 q4 q5
              generalize wr.alloc (.cells #[.int .i64 b, .int .i64 i2, .slice A D.length c, .int .u64 ta, .int .u64 tf] 115) = w8 at *
              generalize wr.heap.size = B8 at *
              have hq8 : w8.heap[B8]? = some (.cells #[.int .i64 b, .int .i64 i2, .slice A D.length c, .int .u64 ta, .int .u64 tf] 115) := H8.out.pr.ok 14 _ rfl
              have e2 := cell_row hq8 2
              simp only [List.getElem?_toArray, List.getElem?_cons_zero, List.getElem?_cons_succ] at e2
              by_cases hlen : D.length ≤ 20
              · have d3 : decide ((20 : Int) < (D.length : Int)) = false := by simp; omega
                have e0 := cell_row hq8 0; have e1 := cell_row hq8 1
                simp only [List.getElem?_toArray, List.getElem?_cons_zero, List.getElem?_cons_succ] at e0 e1
                have HL := Lib.hid hlen
                clear hq8 hlen
                go_upto_region 24 with (go_at_call 34; refine (S10.otherP_any b i2 _).mono ?_; rintro e w5 ⟨rfl, hb5⟩)
                have h9 := (H8.out.new hb5).push (blockP w5.heap.size (.cells #[.int .i64 b, .int .i64 i2] 116)) (below1 _ _) (heap_alloc_new _ _) (fun k e => Nat.le_of_eq (show k = w5.heap.size from e).symm)
                obtain ⟨B9, hB9⟩ : ∃ B9, B9 = w5.heap.size := ⟨_, rfl⟩
                obtain ⟨E, hE⟩ : ∃ E, E = ([] ++ [blockP B8 (.cells #[.int .i64 b, .int .i64 i2, .slice A D.length c, .int .u64 ta, .int .u64 tf] 115)]) ++ [blockP B9 (.cells #[.int .i64 b, .int .i64 i2] 116)] := ⟨_, rfl⟩
                rw [← hB9] at h9 ⊢
                rw [← hE] at h9
                have HEC : Hid (∀ W X Y M RM N cn tn, Bg wS W b1 WB RB N cn tn M RM E X Y → W.heap[B8]? = some (.cells #[.int .i64 b, .int .i64 i2, .slice A D.length c, .int .u64 ta, .int .u64 tf] 115) ∧ W.heap[B9]? = some (.cells #[.int .i64 b, .int .i64 i2] 116)) := Lib.hid (fun W X Y M RM N cn tn h => by
                  subst hE
                  exact ⟨h.pr.ok 14 _ rfl, h.pr.ok 15 _ rfl⟩)
                have H9 := Lib.hid h9
                clear h9 H8 hb5 e0 e1 e2 hE hB9
                generalize w5.alloc (.cells #[.int .i64 b, .int .i64 i2] 116) = w9 at *
                obtain ⟨a1, M1, hp1, hp2⟩ := bg_put (E := E) H9.out.gd HO2.out.1 i2 HO2.out.2.2 (by have := HL.out; omega)
                have HP1 := Lib.hid hp1; have HP2 := Lib.hid hp2
                clear hp1 hp2
                obtain ⟨k0, k1, k2, k3, k4, k5, k6⟩ := HCELL.out _ H9.out.bl
                obtain ⟨g8, g9⟩ := HEC.out _ _ _ _ _ _ _ _ H9.out
                have e0 := cell_row g8 0; have e1 := cell_row g8 1; have e2 := cell_row g8 2
                simp only [List.getElem?_toArray, List.getElem?_cons_zero, List.getElem?_cons_succ] at e0 e1 e2
                have m4 := H9.out.c.2.2.1
                clear k1 k2 k3 k4 k5 k6 g8 g9
                have HRQ : Hid (∀ W, Below b1 wS W → S10.Rd W w.heap.size A (S10.flat D) ∧ w.heap.size ≤ W.heap.size) := Lib.hid (fun W q => ⟨HO2.out.2.1.below (HIN.out W q) (Nat.le_refl _), (HIN.out W q).size⟩)
                go_still_tail 9, (by kernel_rfl)
                change wpList _ _ _ _ _ w9.drew
                go_upto_region 25 with (go_at_call 35; refine (HP1.out _ _ _ _ _ _ _ _ _ _ _ _ (H9.out.new ((Below.refl _ _).drew)) (HRQ.out _ H9.out.bl).1 (HRQ.out _ H9.out.bl).2).mono ?_; rintro e w10 ⟨rfl, X10, h10, ht10⟩)
                have H10 := Lib.hid h10
                clear h10 ht10 k0 e0 e1 e2 m4 HP1 H9
                obtain ⟨k0, k1, k2, k3, k4, k5, k6⟩ := HCELL.out _ H10.out.bl
                obtain ⟨g8, g9⟩ := HEC.out _ _ _ _ _ _ _ _ H10.out
                have e2 := cell_row g8 2; have f0 := cell_row g9 0; have f1 := cell_row g9 1
                simp only [List.getElem?_toArray, List.getElem?_cons_zero, List.getElem?_cons_succ] at e2 f0 f1
                have m4 := H10.out.c.2.2.2.2.2
                clear k0 k2 k3 k4 k5 k6 g8 g9
                have HOT := Lib.hid (fun (W : World) (q : Below w10.heap.size w10 W) => S10.others_any (w := W) (A := A) (D := D) c (HRQ.out W (H10.out.bl.trans (q.mono H10.out.pr.size))).1 (HRQ.out W (H10.out.bl.trans (q.mono H10.out.pr.size))).2 (by have := HL.out; omega))
                have HKP : Hid (∀ W, Below w10.heap.size w10 W → W.cell? ⟨B2, 1, none⟩ = some (Pw RB) ∧ W.cell? ⟨RB, 4, none⟩ = some Y.ts ∧ W.cell? ⟨B9, 0, none⟩ = some (.int .i64 b) ∧ W.cell? ⟨B9, 1, none⟩ = some (.int .i64 i2) ∧ W.cell? ⟨B8, 2, none⟩ = some (.slice A D.length c)) := Lib.hid (fun W q => ⟨bcell q k1, bcell q m4, bcell q f0, bcell q f1, bcell q e2⟩)
                have HKQ : Hid (∀ W Y', Bg wS W b1 WB RB (60 * i + 60) 12 7 M1 M1 E X10 Y' → Y'.ts = Y.ts → W.cell? ⟨B2, 1, none⟩ = some (Pw RB) ∧ W.cell? ⟨RB, 4, none⟩ = some Y.ts ∧ W.cell? ⟨B9, 0, none⟩ = some (.int .i64 b) ∧ W.cell? ⟨B9, 1, none⟩ = some (.int .i64 i2) ∧ W.cell? ⟨B8, 2, none⟩ = some (.slice A D.length c)) := Lib.hid (fun W Y' h ht => by
                  obtain ⟨g8, g9⟩ := HEC.out _ _ _ _ _ _ _ _ h
                  have hr := h.c.2.2.2.2.2
                  rw [ht] at hr
                  exact ⟨(HCELL.out _ h.bl).2.1, hr, cell_row g9 0, cell_row g9 1, cell_row g8 2⟩)
                go_region_held3 (fun w' => w'.cell? ⟨B2, 1, none⟩ = some (Pw RB) ∧ w'.cell? ⟨RB, 4, none⟩ = some Y.ts ∧ w'.cell? ⟨B9, 0, none⟩ = some (.int .i64 b) ∧ w'.cell? ⟨B9, 1, none⟩ = some (.int .i64 i2) ∧ w'.cell? ⟨B8, 2, none⟩ = some (.slice A D.length c))
                  (first
                    | exact ⟨k1, m4, f0, f1, e2⟩
                    | exact HKP.out _ HB11.out
                    | exact HKQ.out _ _ H12.out HT12.out)
                  (first
                    | (go_at_call 37; refine (HOT.out _ ((Below.refl _ _).drew)).mono ?_; rintro e w11 ⟨so, rfl, hro, _, hb11⟩; obtain ⟨A11, c11, hs11, _, _⟩ := S10.Row.shape hro; subst hs11; have HB11 : Hid (Below w10.heap.size w10 w11) := Lib.hid (((Below.refl _ w10).drew).trans hb11); have HRO := Lib.hid (S10.Row.rd hro); clear hro hb11)
                    | (go_at_call 36; refine (HP2.out _ _ _ _ _ _ _ _ _ _ _ _ (H10.out.new HB11.out) HRO.out (Nat.le_refl _)).mono ?_; rintro e w12 ⟨rfl, Y12, h12, ht12⟩; have H12 := Lib.hid h12; have HT12 := Lib.hid ht12; clear h12 ht12))
                clear k1 e2 f0 f1 m4 HKP HKQ HOT HP2 H10
                all_goals
                  obtain ⟨a2, M2, hp3, hp4⟩ := bg_putT (E := E) H12.out.gd HO2.out.1 i2 ta tf
                  have HP3 := Lib.hid hp3; have HP4 := Lib.hid hp4
                  clear hp3 hp4
                  obtain ⟨k0, k1, k2, k3, k4, k5, k6⟩ := HCELL.out _ H12.out.bl
                  obtain ⟨g8, g9⟩ := HEC.out _ _ _ _ _ _ _ _ H12.out
                  have e0 := cell_row g8 0; have e1 := cell_row g8 1; have e3 := cell_row g8 3; have e4 := cell_row g8 4
                  simp only [List.getElem?_toArray, List.getElem?_cons_zero, List.getElem?_cons_succ] at e0 e1 e3 e4
                  have m4 := H12.out.c.2.2.1
                  clear k1 k2 k3 k4 k5 k6 g8 g9
                  go_upto_region 26 with (fail)
                  go_still_tail 9, (by kernel_rfl)
                  change wpList _ _ _ _ _ w12.drew
                  go_upto_region 27 with (go_at_call 38; refine (HP3.out _ _ _ _ _ _ _ _ _ (H12.out.new ((Below.refl _ _).drew))).mono ?_; rintro e w13 ⟨rfl, X13, h13, ht13⟩)
                  have H13 := Lib.hid h13
                  clear h13 ht13 k0 e0 e1 e3 e4 m4 HP3 H12 HT12
                  obtain ⟨k0, k1, k2, k3, k4, k5, k6⟩ := HCELL.out _ H13.out.bl
                  obtain ⟨g8, g9⟩ := HEC.out _ _ _ _ _ _ _ _ H13.out
                  have e3 := cell_row g8 3; have e4 := cell_row g8 4; have f0 := cell_row g9 0; have f1 := cell_row g9 1
                  simp only [List.getElem?_toArray, List.getElem?_cons_zero, List.getElem?_cons_succ] at e3 e4 f0 f1
                  have m4 := H13.out.c.2.2.2.2.2
                  clear k0 k2 k3 k4 k5 k6 g8 g9
                  go_still_tail 13, (by kernel_rfl)
                  change wpList _ _ _ _ _ w13.drew
                  go_wp2_with (go_at_call 39; refine (HP4.out _ _ _ _ _ _ _ _ _ (H13.out.new ((Below.refl _ _).drew))).mono ?_; rintro e w14 ⟨rfl, Y14, h14, ht14⟩)
                  go_roundg (20 - (i + 1))
                  case measure => omega
                  case rel => exact ⟨i + 1, by omega, by omega, rfl, by go_num, _, _, _, h14.drop.mono (by omega) (Nat.le_refl _) (Nat.le_refl _)⟩
              · have d3 : decide ((20 : Int) < (D.length : Int)) = true := by simp; omega
                clear hq8 hlen
                go_wp2_with fail
                go_roundg (20 - (i + 1))
                case measure => omega
                case rel => exact ⟨i + 1, by omega, by omega, rfl, by go_num, M, X, Y, H8.out.drop.mono (by omega) (Nat.le_refl _) (Nat.le_refl _)⟩
            · have HBX := Lib.hid (show BgE wS wr b1 WB RB 1200 12 7 [] from ⟨M, X, Y, hbg.mono (by omega) (Nat.le_refl _) (Nat.le_refl _)⟩)
              clear hbg
              by_cases hi5 : i < qn
              · have d1 : decide ((i : Int) < (qn : Int)) = true := by simp; omega
                have d2 : decide ((i : Int) < 20) = false := by simp; omega
                go_wp2_with fail
                go_meet
                exact HBX.out
              · have d1 : decide ((i : Int) < (qn : Int)) = false := by simp; omega
                go_wp2_with fail
                go_meet
                exact HBX.out
        case rest =>
          obtain ⟨M, X, Y, hbg⟩ := hcut
          obtain ⟨k0, k1, k2, k3, k4, k5, k6⟩ := HCELL.out _ hbg.bl
          have HPT := Lib.hid (pair_tick hbg HTK.out)
          clear hbg HB1 HGI HQI HTK k2 k3 k4 k5
          go_upto_region 29 with (go_at_call 40; refine HPT.out.mono ?_; rintro e w20 ⟨rfl, hbt⟩)
          have HBT := Lib.hid hbt
          clear hbt k0 k1 k6 HPT
          go_wp2_with fail
          go_loopg [10] sn (fun q s10 wx => ∃ i : Nat, i ≤ sn ∧ q = sn - i ∧ s10 = .int .i64 (i : Int) ∧ BgE wS wx b1 WB RB 1200 (12 + 2 * i) 7 [])
          case atStart => exact ⟨0, by omega, rfl, rfl, HBT.out⟩
          case round =>
            obtain ⟨i, hi1, rfl, rfl, M, X, Y, hbg⟩ := hrel
            obtain ⟨k0, k1, k2, k3, k4, k5, k6⟩ := HCELL.out _ hbg.bl
            by_cases hin : i < sn
            · obtain ⟨lb, lo, hsa, hlb, hsc⟩ := HSI.out.2.1 (by omega)
              obtain ⟨q1, q2⟩ := hsc i hin
              have r1 := ((HIN.out _ hbg.bl).cell (p := ⟨lb, lo + i * 2, none⟩) hlb).trans q1
              have r2 := ((HIN.out _ hbg.bl).cell (p := ⟨lb, lo + i * 2 + 1, none⟩) hlb).trans q2
              obtain ⟨ha, hv⟩ := HSI.out.2.2 i hin
              subst hsa
              generalize SA i = aa at *
              generalize SV i = vv at *
              have HPS := Lib.hid (fun (W : World) (q : Below wr.heap.size wr W) => pair_store (hbg.new q) ha hv (by have := HSI.out.1; omega))
              have hi5 : (i : Int) < (sn : Int) := by omega
              have hsn9 := HSI.out.1
              have d1 : decide ((i : Int) < (sn : Int)) = true := by simp; omega
              clear hbg hsc q1 q2 ha hv hlb k2 k4 k5 k6
              go_upto_region 32 with (fail)
              go_still_tail 6, (by kernel_rfl)
              change wpList _ _ _ _ _ wr.drew
              go_wp2_with (go_at_call 11; refine (HPS.out _ ((Below.refl _ _).drew)).mono ?_; rintro e w21 ⟨rfl, hb21⟩)
              go_roundg (sn - (i + 1))
              case measure => omega
              case rel => exact ⟨i + 1, by omega, rfl, by go_num, (by
                obtain ⟨M2, X2, Y2, h2⟩ := hb21
                exact ⟨M2, X2, Y2, h2.mono (Nat.le_refl _) (by omega) (Nat.le_refl _)⟩)⟩
            · obtain rfl : i = sn := by omega
              have d1 : decide ((i : Int) < (i : Int)) = false := by simp
              have hq1 : wr.heap[B1]? = some (.cells #[.pointer none, .pointer none] 36 (0, 0)) := (hbg.bl.block B1 HLT.out.2.1).trans HG1.out
              have z0 := cell_row hq1 0; have z1 := cell_row hq1 1; have f0 := froz_row hq1 0; have f1 := froz_row hq1 1
              simp only [List.getElem?_toArray, List.getElem?_cons_zero, List.getElem?_cons_succ] at z0 z1
              have hts : Turns (fun k => k = B1) wr ((wr.setCell ⟨B1, 0, none⟩ (Pw WB)).setCell ⟨B1, 1, none⟩ (Pw RB)) := ((Turns.refl (fun k => k = B1) wr).setCell ⟨B1, 0, none⟩ _ rfl).setCell ⟨B1, 1, none⟩ _ rfl
              have hbo := hbg.outside hts (fun k e => by have := HLT.out; omega)
              have hfb : ((wr.setCell ⟨B1, 0, none⟩ (Pw WB)).setCell ⟨B1, 1, none⟩ (Pw RB)).heap[B1]? = some (.cells #[Pw WB, Pw RB] 36 (0, 0)) := by simp [World.setCell, Array.getElem?_modify, hq1]
              have d4 := cell_row hfb 0; have d5 := cell_row hfb 1
              simp only [List.getElem?_toArray, List.getElem?_cons_zero, List.getElem?_cons_succ] at d4 d5
              have hbl : Below w.heap.size w ((wr.setCell ⟨B1, 0, none⟩ (Pw WB)).setCell ⟨B1, 1, none⟩ (Pw RB)) := ((HIN.out _ hbg.bl).setCell (p := ⟨B1, 0, none⟩) HLT.out.2.2.2.2.2.1 _).setCell (p := ⟨B1, 1, none⟩) HLT.out.2.2.2.2.2.1 _
              obtain ⟨we, hwe⟩ : ∃ we, we = (wr.setCell ⟨B1, 0, none⟩ (Pw WB)).setCell ⟨B1, 1, none⟩ (Pw RB) := ⟨_, rfl⟩
              have hfin : ∃ M X Y, X.wB = WB ∧ Y.wB = RB ∧ Bg w we w.heap.size X.wB Y.wB 1200 2097164 7 M M [] X Y := by
                rw [← hwe] at hbo hbl
                refine ⟨M, X, Y, hbg.wB, hbg.rB, ?_⟩
                rw [hbg.wB, hbg.rB]
                have hbm := hbo.mono (Nat.le_refl 1200) (show 12 + 2 * i ≤ 2097164 by have := HSI.out.1; omega) (Nat.le_refl 7)
                exact { hbm with pr := Parts.rebase hbo.pr HWB1.out, bl := hbl }
              rw [hwe] at hfin
              clear hwe
              have HFIN := Lib.hid hfin
              clear hbg hq1 hts hbo hfb hbl hfin k2 k4 k5 k6
              go_upto_region 33 with (fail)
              go_wp2_with fail
              exact bodyPost_ret (v := .agg #[Pw WB, Pw RB]) (by simp [results, Tryz.results7, go_sem, d4, d5]) rfl (by
                obtain ⟨M', X', Y', e1, e2, h'⟩ := HFIN.out
                exact ⟨M', X', Y', by rw [e1, e2], h'⟩)
    · exact absurd hok (by rw [HC.out.ok]; decide)
end Go.Proofs.YtlflagjnlclffaaGreat.S12
namespace Go.Proofs.YtlflagjnlclffaaGreat.S13
open Go.Proofs.YtlflagjnlclffaaGreat Go.Proofs.YtlflagjnlclffaaGreat.S11 Go.Proofs.YtlflagjnlclffaaGreat.S12
open Go.RowKit
theorem PI.new {w0 w w' : World} {base PB WB RB N c0 i : Nat} {v : Value} {L : List O3} (h : PI w0 w base PB WB RB N c0 i v L) (b : Below w.heap.size w w') : PI w0 w' base PB WB RB N c0 i v L := by
  obtain ⟨⟨tn, M, X, Y, hb⟩, h2, h3⟩ := h
  exact ⟨⟨tn, M, X, Y, hb.new b⟩, h2, h3⟩
theorem PI.bl {w0 w : World} {base PB WB RB N c0 i : Nat} {v : Value} {L : List O3} (h : PI w0 w base PB WB RB N c0 i v L) : Below base w0 w := by
  obtain ⟨⟨tn, M, X, Y, hb⟩, h2, h3⟩ := h
  exact hb.bl
theorem PI.row {w0 w : World} {base PB WB RB N c0 i : Nat} {v : Value} {L : List O3} (h : PI w0 w base PB WB RB N c0 i v L) : S10.Row w base 2 v L.length (lcs L) := by
  obtain ⟨⟨tn, M, X, Y, hb⟩, h2, h3⟩ := h
  exact Bg.row hb
theorem PI.next {w0 w : World} {base PB WB RB N c0 i : Nat} {v : Value} {L : List O3} (h : PI w0 w base PB WB RB N c0 i v L) : PI w0 w base PB WB RB N c0 (i + 1) v L := by
  obtain ⟨⟨tn, M, X, Y, hb⟩, h2, h3⟩ := h
  exact ⟨⟨tn, M, X, Y, hb.mono (Nat.le_refl _) (by omega) (Nat.le_refl _)⟩, h2, by omega⟩
theorem PI.unpark {w0 w : World} {base PB WB RB N c0 i : Nat} {v : Value} {L : List O3} (h : PI w0 w base PB WB RB N c0 i v L) (hc : c0 + 2 * i ≤ 2099999) (n : Int) :
    Calls Tryz.prog 12 #[.agg #[Pw WB, Pw RB], .int .i64 n] w fun e w' => e = .returned (.tuple #[]) ∧ PI w0 w' base PB WB RB N c0 (i + 1) v L := by
  obtain ⟨⟨tn, M, X, Y, hb⟩, h2, h3⟩ := h
  refine (pair_unpark hb (by omega) n).mono ?_
  rintro e w' ⟨rfl, tn', M', X', Y', h'⟩
  exact ⟨rfl, ⟨tn', M', X', Y', h'.mono (Nat.le_refl _) (by omega) (Nat.le_refl _)⟩, h2, by omega⟩
def CF (PB WB RB Q B C : Nat) (K : Lk) (w : World) : Prop :=
  w.heap[Q]? = some (.cells #[Pw B, Pw C] 50 (0, 0)) ∧ w.heap[PB]? = some (.cells #[Pw WB, Pw RB] 36 (0, 0)) ∧ w.heap[C]? = some (.cells K.rs 58 (0, 0))
theorem Mid.new {w0 w w' : World} {base WB RB : Nat} {M : Sd} {K : Lk} {E : List Part} {X : Wm} {Y : Rm} (h : Mid w0 w base WB RB M K E X Y) (b : Below w.heap.size w w') : Mid w0 w' base WB RB M K E X Y := ⟨h.rg.new b, h.wB, h.xm⟩
theorem Mid.blk {w0 w : World} {base WB RB : Nat} {M : Sd} {K : Lk} {E : List Part} {X : Wm} {Y : Rm} (h : Mid w0 w base WB RB M K E X Y) {j q : Nat} {ob : Obj} (hj : E[j]? = some (blockP q ob)) : w.heap[q]? = some ob := h.rg.ps.ok _ (blockP q ob) (h.rg.part hj)
theorem Bg.blk {w0 w : World} {base WB RB N cn tn : Nat} {M : Sd} {E : List Part} {X : Wm} {Y : Rm} (h : Bg w0 w base WB RB N cn tn M M E X Y) {j q : Nat} {ob : Obj} (hj : E[j]? = some (blockP q ob)) : w.heap[q]? = some ob := (bg_rg h).ps.ok _ (blockP q ob) ((bg_rg h).part hj)
theorem set_len {α : Type} (l : List α) (i j : Nat) (q : α) (h : i ≠ j) : (l.set i q)[j]? = l[j]? := List.getElem?_set_ne h
theorem PI.step {w0 w : World} {base PB WB RB N c0 i : Nat} {v : Value} {L : List O3} (h : PI w0 w base PB WB RB N c0 i v L) (hc : c0 + 2 * i ≤ 2099999) {j B C : Nat} {K : Lk} (hj : L[j]? = some (B, C, K)) :
    Calls Tryz.prog 13 #[Pw C, Pw RB] (w.alloc (.cells #[Pw B, Pw C] 50)) fun e w6 => e = .returned (.tuple #[]) ∧ ∃ K', CF PB WB RB w.heap.size B C K' w6 ∧
      (Calls Tryz.prog 14 #[Pw B, Pw WB] w6.drew fun e w7 => e = .returned (.bool (decide (K'.ln = 0))) ∧ CF PB WB RB w.heap.size B C K' w7 ∧
        (Calls Tryz.prog 10 #[.agg #[Pw B, Pw C]] w7 fun e w8 => e = .returned (.bool true) ∧ Below w7.heap.size w7 w8 ∧ ∃ L', PI w0 w8 base PB WB RB N c0 (i + 1) v L')) := by
  obtain ⟨⟨tn, M, X, Y, hb⟩, h2, h3⟩ := h
  have hk : KOk K := h2 _ (List.mem_of_getElem? hj)
  have o := bg_ok hb
  obtain ⟨g1, g2, _, _⟩ := lparts_get L j _ hj
  have l1 := (List.getElem?_eq_some_iff.1 g1).1
  have l2 := (List.getElem?_eq_some_iff.1 g2).1
  have hp2 : (pre PB WB RB base v L).length = 2 := rfl
  have hb5 := hb.push (blockP w.heap.size (.cells #[Pw B, Pw C] 50)) (below1 w _) (heap_alloc_new w _) (fun k e => Nat.le_of_eq (show k = w.heap.size from e).symm)
  rw [List.append_assoc] at hb5
  generalize w.heap.size = Q at *
  have e1 : (pre PB WB RB base v L ++ (lparts L ++ [blockP Q (.cells #[Pw B, Pw C] 50)]))[(pre PB WB RB base v L).length + (2 * j + 1)]? = some (lockRP C K) := by rw [get_mid, List.getElem?_append_left l2]; exact g2
  have e0 : (pre PB WB RB base v L ++ (lparts L ++ [blockP Q (.cells #[Pw B, Pw C] 50)]))[(pre PB WB RB base v L).length + 2 * j]? = some (lockP B K) := by rw [get_mid, List.getElem?_append_left l1]; exact g1
  have eQ : (pre PB WB RB base v L ++ (lparts L ++ [blockP Q (.cells #[Pw B, Pw C] 50)]))[(pre PB WB RB base v L).length + (lparts L).length]? = some (blockP Q (.cells #[Pw B, Pw C] 50)) := by rw [get_mid, List.getElem?_append_right (Nat.le_refl _), Nat.sub_self]; rfl
  have eP : (pre PB WB RB base v L ++ (lparts L ++ [blockP Q (.cells #[Pw B, Pw C] 50)]))[0]? = some (blockP PB (.cells #[Pw WB, Pw RB] 36)) := rfl
  have hset := pre_set (K := stepK M K) (pre PB WB RB base v L) [blockP Q (.cells #[Pw B, Pw C] 50)] hj rfl
  have hlk := bg_look hb
  rw [hp2] at e1 e0 eQ hset
  generalize hE : pre PB WB RB base v L ++ (lparts L ++ [blockP Q (.cells #[Pw B, Pw C] 50)]) = E at *
  have hc2 : c0 + 2 * i ≤ 100000000 := by omega
  have okk := hk.ok o hc2
  refine (bg_rstep hb5 e1 okk hk.ln).mono ?_
  rintro e w6 ⟨rfl, Y', hm⟩
  have f1 : (E.set (2 + (2 * j + 1)) (lockRP C (stepK M K)))[2 + (2 * j + 1)]? = some (lockRP C (stepK M K)) := List.getElem?_set_self (List.getElem?_eq_some_iff.1 e1).1
  have f0 : (E.set (2 + (2 * j + 1)) (lockRP C (stepK M K)))[2 + 2 * j]? = some (lockP B K) := (set_len _ _ _ _ (by omega)).trans e0
  have fQ : (E.set (2 + (2 * j + 1)) (lockRP C (stepK M K)))[2 + (lparts L).length]? = some (blockP Q (.cells #[Pw B, Pw C] 50)) := (set_len _ _ _ _ (by omega)).trans eQ
  have fP : (E.set (2 + (2 * j + 1)) (lockRP C (stepK M K)))[0]? = some (blockP PB (.cells #[Pw WB, Pw RB] 36)) := (set_len _ _ _ _ (by omega)).trans eP
  refine ⟨rfl, stepK M K, ⟨hm.blk fQ, hm.blk fP, hm.blk f1⟩, ?_⟩
  refine (mid_step (hm.new (Below.refl _ _).drew) o f0 okk hk.ln).mono ?_
  rintro e w7 ⟨rfl, tn', X', hbg⟩
  have k1 := Bg.blk hbg (j := 2 + (2 * j + 1)) ((set_len _ _ _ _ (by omega)).trans f1)
  have k0 := Bg.blk hbg (j := 2 + 2 * j) (List.getElem?_set_self (List.getElem?_eq_some_iff.1 f0).1)
  have kQ := Bg.blk hbg (j := 2 + (lparts L).length) ((set_len _ _ _ _ (by omega)).trans fQ)
  have kP := Bg.blk hbg (j := 0) ((set_len _ _ _ _ (by omega)).trans fP)
  have hk' := hk.step o hc2 hlk
  refine ⟨rfl, ⟨kQ, kP, k1⟩, ?_⟩
  refine (op_same k0 k1 hk'.ln).mono ?_
  rintro e w8 ⟨rfl, b8⟩
  rw [hset] at hbg
  have hls := (lparts_set L j _ (stepK M K) hj).2
  have hll : (L.set j (B, C, stepK M K)).length = L.length := List.length_set
  have hpre : pre PB WB RB base v (L.set j (B, C, stepK M K)) = pre PB WB RB base v L := by unfold pre; rw [hll, hls]
  rw [← List.append_assoc] at hbg
  refine ⟨rfl, b8, L.set j (B, C, stepK M K), ⟨⟨tn', stepM M K, X', Y', ?_⟩, fun q hq => ?_, by rw [hll]; omega⟩⟩
  · rw [hpre]
    exact ((bg_drop1 hbg).new b8).mono (Nat.le_refl _) (by omega) (Nat.le_refl _)
  · rcases List.mem_or_eq_of_mem_set hq with h | h
    · exact h2 _ h
    · rw [h]; exact hk'
theorem CF.c {PB WB RB Q B C : Nat} {K : Lk} {w : World} (h : CF PB WB RB Q B C K w) : w.cell? ⟨Q, 0, none⟩ = some (Pw B) ∧ w.cell? ⟨Q, 1, none⟩ = some (Pw C) ∧ w.cell? ⟨PB, 0, none⟩ = some (Pw WB) ∧ w.cell? ⟨C, 0, none⟩ = some (.int .i64 (K.ln : Int)) :=
  ⟨cell_row h.1 0, cell_row h.1 1, cell_row h.2.1 0, cell_row h.2.2 0⟩
theorem PI.at {w0 w : World} {base PB WB RB N c0 i n : Nat} {A : Option Addr} {cap : Nat} {L : List O3} (h : PI w0 w base PB WB RB N c0 i (.slice A n cap) L) (hn : n = L.length) {j : Nat} (hj : j < L.length) : ∃ g o B C K, A = some ⟨g, o, none⟩ ∧ L[j]? = some (B, C, K) ∧ w.cell? ⟨g, o + j * 2, none⟩ = some (Pw B) ∧ w.cell? ⟨g, o + j * 2 + 1, none⟩ = some (Pw C) := by
  subst hn
  obtain ⟨A', cap', e, h0, h1, h2, h3, h4⟩ := h.row
  cases e
  cases A with
  | none => have := h3 rfl; omega
  | some ad =>
    obtain ⟨g, o, rfl, _, _, hl, _⟩ := h4 _ rfl
    have hg := List.getElem?_eq_getElem hj
    obtain ⟨_, _, p3, p4⟩ := lparts_get L j _ hg
    refine ⟨g, o, L[j].1, L[j].2.1, L[j].2.2, rfl, hg, hl _ _ p3, ?_⟩
    have := hl _ _ p4
    rwa [← Nat.add_assoc] at this
theorem idx_facts (i2 n : Nat) (hi : i2 < 256) (hn : ¬ n = 0) : ∃ j : Nat, j < n ∧ ((n : Int) == 0) = false ∧ (n : Int) ≠ 0 ∧ ((i2 : Int) % (n : Int)) = (j : Int) ∧ (i2 : Int).tmod (n : Int) = (j : Int) ∧ wrap64 (i2 : Int) = (i2 : Int) ∧ IntKind.i64.wrap (i2 : Int) = (i2 : Int) ∧ wrap64 (j : Int) = (j : Int) ∧ (j : Int) < (n : Int) := by
  have hj : i2 % n < n := Nat.mod_lt _ (by omega)
  have hj2 : i2 % n ≤ i2 := Nat.mod_le _ _
  have e1 : ((i2 : Int) % (n : Int)) = ((i2 % n : Nat) : Int) := (Int.natCast_emod i2 n).symm
  have e2 : (i2 : Int).tmod (n : Int) = ((i2 % n : Nat) : Int) := by rw [Int.tmod_eq_emod_of_nonneg (by omega)]; exact e1
  generalize i2 % n = j at *
  refine ⟨j, hj, by rw [beq_eq_false_iff_ne]; omega, by omega, e1, e2, by clear e1 e2; unfold wrap64; omega, by clear e1 e2; rw [IntKind.wrap_i64]; omega, by clear e1 e2; unfold wrap64; omega, by clear e1 e2; omega⟩
end Go.Proofs.YtlflagjnlclffaaGreat.S13
namespace Go.Proofs.YtlflagjnlclffaaGreat.S13
open Go.Proofs.YtlflagjnlclffaaGreat Go.Proofs.YtlflagjnlclffaaGreat.S11 Go.Proofs.YtlflagjnlclffaaGreat.S12
open Go.RowKit
def NB (w0 w4 : World) (base WB RB N cn : Nat) (E made : List Part) (W : World) : Prop := (∃ tn M X Y, Bg w0 W base WB RB N cn tn M M (E ++ made) X Y) ∧ Below w4.heap.size w4 W
section
variable {w0 w4 W W' : World} {base WB RB N cn : Nat} {E made : List Part}
theorem NB.new (h : NB w0 w4 base WB RB N cn E made W) (b : Below W.heap.size W W') : NB w0 w4 base WB RB N cn E made W' := by
  obtain ⟨⟨tn, M, X, Y, hb⟩, h2⟩ := h
  exact ⟨⟨tn, M, X, Y, hb.new b⟩, h2.trans (b.mono h2.size)⟩
theorem NB.drew (h : NB w0 w4 base WB RB N cn E made W) : NB w0 w4 base WB RB N cn E made W.drew := h.new (Below.refl _ _).drew
theorem NB.push (h : NB w0 w4 base WB RB N cn E made W) (ob : Obj) : NB w0 w4 base WB RB N cn E (made ++ [blockP W.heap.size ob]) (W.alloc ob) := by
  obtain ⟨⟨tn, M, X, Y, hb⟩, h2⟩ := h
  have := hb.push (blockP W.heap.size ob) (below1 W _) (heap_alloc_new W _) (fun k e => Nat.le_of_eq (show k = W.heap.size from e).symm)
  rw [List.append_assoc] at this
  exact ⟨⟨tn, M, X, Y, this⟩, h2.alloc h2.size _⟩
theorem NB.blk (h : NB w0 w4 base WB RB N cn E made W) {k q : Nat} {ob : Obj} (hk : made[k]? = some (blockP q ob)) : W.heap[q]? = some ob := by
  obtain ⟨⟨tn, M, X, Y, hb⟩, _⟩ := h
  exact Bg.blk hb (j := E.length + k) (by rw [get_mid]; exact hk)
theorem NB.turn (h : NB w0 w4 base WB RB N cn E made W) {k q : Nat} {ob : Obj} (hk : made[k]? = some (blockP q ob)) (ob' : Obj) (hq : W'.heap[q]? = some ob') (t : Turns (fun k => k = q) W W') (hle : w4.heap.size ≤ q) : NB w0 w4 base WB RB N cn E (made.set k (blockP q ob')) W' := by
  obtain ⟨⟨tn, M, X, Y, hb⟩, h2⟩ := h
  have hi : (X.parts ++ (Y.parts ++ (E ++ made)))[X.parts.length + (Y.parts.length + (E.length + k))]? = some (blockP q ob) := by rw [get_mid, get_mid, get_mid]; exact hk
  obtain ⟨hp, hbl⟩ := Parts.turn hb.pr hi (blockP q ob') hq t (fun k e => .inl e)
  rw [set_mid, set_mid, set_mid] at hp
  exact ⟨⟨tn, M, X, Y, { hb with pr := hp, rb := Nat.le_trans hb.rb t.size, bl := hb.bl.trans hbl }⟩, ⟨t.os.trans h2.os, t.tape.trans h2.tape, t.output.trans h2.output, Nat.le_trans h2.size t.size, fun k hk => (t.block k (by have := h2.size; omega) (by omega)).trans (h2.block k hk)⟩⟩
theorem NB.newB (h : NB w0 w4 base WB RB N cn E made W) (t : Int) (a : Nat) : Calls Tryz.prog 8 #[.int .i64 t, .int .u32 (a : Int)] W fun e w' => ∃ B, e = .returned (Pw B) ∧ NB w0 w4 base WB RB N cn E (made ++ [lockP B (newK t a)]) w' := by
  refine (new_lock t a W).mono ?_
  rintro e w' ⟨rfl, rfl⟩
  exact ⟨_, rfl, h.push _⟩
theorem NB.newC (h : NB w0 w4 base WB RB N cn E made W) (t : Int) (a : Nat) : Calls Tryz.prog 9 #[.int .i64 t, .int .u32 (a : Int)] W fun e w' => ∃ C, e = .returned (Pw C) ∧ NB w0 w4 base WB RB N cn E (made ++ [lockRP C (newK t a)]) w' := by
  refine (rnew_lock t a W).mono ?_
  rintro e w' ⟨rfl, rfl⟩
  exact ⟨_, rfl, h.push _⟩
end
end Go.Proofs.YtlflagjnlclffaaGreat.S13
