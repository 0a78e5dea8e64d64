/- Texts of this seat, one behind the other. -/
import Derived.Test.YtpmafdggbeppcaaGreatDoorMLawVoid1816
import Derived.Test.YtpmafdggbeppcaaGreatDoorMLawVoid1840
set_option linter.unusedVariables false
set_option linter.unusedSimpArgs false
namespace Go.Proofs.YtpmafdggbeppcaaGreatDoor.S4
set_option maxRecDepth 100000
set_option maxHeartbeats 16000000
open Go.Proofs.YtpmafdggbeppcaaGreatDoor Go.Proofs.YtpmafdggbeppcaaGreatDoor.S11
open Go.RowKit
def rgoesB (x : Pk) (now : Nat) : Bool := !x.a || x.p || (x.o && decide (x.t ≤ now))
theorem rgoes_yes {w : World} {B : Nat} {f : Nat → Pk} {n kd pk : Int} (h : RPkAt w B f n kd pk) {i : Nat} (hi : i < 128) (now : Nat) :
    Calls Tryz.prog 61 #[Pt B, .int .i64 (i : Int), .int .u64 (now : Int)] w fun e w' => e = .returned (.bool (rgoesB (f i) now)) ∧ Below w.heap.size w w' := by
  have h1 : decide ((i : Int) < 0) = false := by simp
  have h2 : decide ((127 : Int) < (i : Int)) = false := by simp; omega
  have h3 : (i : Int) < 128 := by omega
  have c0 := h.c0 i hi; have c1 := h.c1 i hi; have c2 := h.c2 i hi; have c3 := h.c3 i hi
  have HB : ∀ a : Array Value, Below w.heap.size w (w.alloc (.cells a 162)) := fun a => (Below.refl _ _).alloc (Nat.le_refl _) _
  have HBB := Lib.hid HB
  clear h hi HB
  generalize f i = x at *
  obtain ⟨p, a, o, t⟩ := x
  dsimp only at c0 c1 c2 c3
  unfold rgoesB
  dsimp only
  cases a
  · go_enter Tryz.func61, Tryz.ntmps61
    go_wp2_with fail
    go_ret
    exact ⟨rfl, HBB.out _⟩
  · cases p
    · cases o
      · go_enter Tryz.func61, Tryz.ntmps61
        go_wp2_with fail
        go_ret
        exact ⟨rfl, HBB.out _⟩
      · by_cases ht : t ≤ now
        · rw [decide_eq_true ht]
          go_enter Tryz.func61, Tryz.ntmps61
          go_wp2_with fail
          go_ret
          exact ⟨by simp [ht], HBB.out _⟩
        · rw [decide_eq_false ht]
          go_enter Tryz.func61, Tryz.ntmps61
          go_wp2_with fail
          go_ret
          exact ⟨by simp [ht], HBB.out _⟩
    · go_enter Tryz.func61, Tryz.ntmps61
      go_wp2_with fail
      go_ret
      exact ⟨rfl, HBB.out _⟩
def PkOk (f : Nat → Pk) : Prop := ∀ i, (f i).a = false → (f i).o = false ∧ (f i).t = 0
theorem goes_both {x : Pk} (h : x.a = false → x.o = false ∧ x.t = 0) (now : Nat) : rgoesB x now = goesB x now := by
  obtain ⟨p, a, o, t⟩ := x
  unfold rgoesB goesB pk0
  dsimp only at h ⊢
  cases a
  · obtain ⟨rfl, rfl⟩ := h rfl
    cases p <;> simp
  · cases p <;> simp
theorem pkok0 : PkOk (fun _ => pk0) := fun _ _ => ⟨rfl, rfl⟩
end Go.Proofs.YtpmafdggbeppcaaGreatDoor.S4
namespace Go.Proofs.YtpmafdggbeppcaaGreatDoor.S10
set_option maxRecDepth 100000
set_option maxHeartbeats 16000000
open Go.Proofs.YtpmafdggbeppcaaGreatDoor
open Go.RowKit
structure Se (W : World) (base baseR : Nat) (own ownR : Nat → Option Role) (s r : Value) (n : Nat) (M R : Int → List Bk) (Z : Nat → Prop) : Prop where
  st : St W base own s n M
  rt : Rt W baseR ownR r R
  dj : ∀ g, Mine own g → ¬ Mine ownR g
  cl : ∀ g, Z g → g < W.heap.size ∧ ¬ Mine own g ∧ ¬ Mine ownR g
section
variable {W w' : World} {base baseR : Nat} {own ownR own' : Nat → Option Role} {s r : Value} {n n' : Nat} {M M' R R' : Int → List Bk} {Z : Nat → Prop}
theorem Se.turn (h : Se W base baseR own ownR s r n M R Z) {S : Nat → Prop} (t : Turns S W w') (h1 : ∀ g, Mine own g → ¬ S g) (h2 : ∀ g, Mine ownR g → ¬ S g) : Se w' base baseR own ownR s r n M R Z :=
  ⟨h.st.keep t h1, h.rt.keep t h2, h.dj, fun g hz => ⟨Nat.lt_of_lt_of_le (h.cl g hz).1 t.size, (h.cl g hz).2⟩⟩
theorem Se.new (h : Se W base baseR own ownR s r n M R Z) (hb : Below W.heap.size W w') : Se w' base baseR own ownR s r n M R Z :=
  h.turn (Turns.of_below (S := fun _ => False) hb) (fun _ _ e => e) (fun _ _ e => e)
theorem Se.drew (h : Se W base baseR own ownR s r n M R Z) : Se W.drew base baseR own ownR s r n M R Z := h.turn (Turns.refl (fun _ => False) W).drew (fun _ _ e => e) (fun _ _ e => e)
theorem Se.add (h : Se W base baseR own ownR s r n M R Z) (hb : Below W.heap.size W w') {Y : Nat → Prop} (hy : ∀ g, Y g → W.heap.size ≤ g ∧ g < w'.heap.size) : Se w' base baseR own ownR s r n M R (fun g => Z g ∨ Y g) := by
  have h1 := h.new hb
  refine ⟨h1.st, h1.rt, h.dj, fun g hg => ?_⟩
  rcases hg with hz | hy'
  · exact h1.cl g hz
  · have := hy g hy'
    refine ⟨this.2, fun hm => ?_, fun hm => ?_⟩
    · have := (h.st.fp hm).2; omega
    · have := (h.rt.fp hm).2; omega
theorem Se.sub (h : Se W base baseR own ownR s r n M R Z) {Y : Nat → Prop} (hy : ∀ g, Y g → Z g) : Se W base baseR own ownR s r n M R Y := ⟨h.st, h.rt, h.dj, fun g hg => h.cl g (hy g hg)⟩
end
theorem same_sets {w : World} {base baseR : Nat} {own ownR : Nat → Option Role} {s r : Value} {n N : Nat} {M : Int → List Bk} {Z : Nat → Prop} (B : Se w base baseR own ownR s r n M M Z) (hg : Good M N) (hN : N ≤ 100000) :
    Calls Tryz.prog 16 #[s, r] w fun e w' => e = .returned (.bool true) ∧ Below w.heap.size w w' := by
  have HSC := Lib.hid (B.sub (Y := fun _ => False) (fun g h => h.elim)); have HG := Lib.hid hg
  clear B hg
  go_enter Tryz.func16, Tryz.ntmps16
  go_wp2_with fail
  go_loopg [5] 9 (fun q s5 wx => ∃ k : Nat, k ≤ 9 ∧ q = 9 - k ∧ s5 = .int .i64 ((k + 1 : Nat) : Int) ∧ Below w.heap.size w wx)
  case atStart => exact ⟨0, by omega, rfl, rfl, Below.refl _ _⟩
  case round =>
    obtain ⟨k, hk, rfl, rfl, hb⟩ := hrel
    have HB := Lib.hid hb
    clear hb
    obtain ⟨wo, rfl⟩ : ∃ wo : World, wo = wr := ⟨_, rfl⟩
    by_cases hk9 : k < 9
    · obtain ⟨b, hbk⟩ : ∃ b : Int, b = ((k + 1 : Nat) : Int) := ⟨_, rfl⟩
      have HBK := Lib.hid hbk
      have hb9 : b ≤ 9 := by omega
      have hb1 : 1 ≤ b := by omega
      have hbI : InI b := by unfold InI; omega
      rw [← hbk]
      have hsc1 := HSC.out.new HB.out
      have hhs : ∀ W, Below w.heap.size w W → Calls Tryz.prog 49 #[s, .int .i64 b] W fun e w' => e = .returned (.bool (decide (0 < (M b).length))) ∧ W = w' := fun W hW => by
        obtain ⟨F, hr⟩ := (HSC.out.new hW).st.rs
        obtain ⟨A, c, V, e, _⟩ := hr.rd b
        exact has_any hr.sv hbI e
      have hrhs : ∀ W, Below w.heap.size w W → Calls Tryz.prog 50 #[r, .int .i64 b] W fun e w' => e = .returned (.bool (decide (0 < (M b).length))) ∧ W = w' := fun W hW => rhas_any (HSC.out.new hW).rt b
      have htc : 0 < (M b).length → ∃ rb k A c, r = .pointer (some ⟨rb, 0, none⟩) ∧ b = (k : Nat) ∧ k < 9 ∧ ∀ W, Below w.heap.size w W → W.cell? ⟨rb, 9 + k, none⟩ = some (.slice A (M b).length c) := fun hp => by
        obtain ⟨rb, Q, T, V, hf⟩ := HSC.out.rt
        obtain ⟨k, hbk, hk2, hk9⟩ := hf.nat (b := b) (fun e => by rw [e] at hp; simp at hp)
        subst hbk
        obtain ⟨A, c, e, _⟩ := (hf.ht k hk9).shape
        refine ⟨rb, k, A, c, hf.hs, rfl, hk9, fun W hW => ?_⟩
        rw [← e]
        exact (hW.cell (p := ⟨rb, 9 + k, none⟩) (hf.fp rb _ hf.os).2).trans (hf.hT k hk9).1
      have hml := HG.out.len b
      obtain ⟨m, hm⟩ : ∃ m, m = (M b).length := ⟨_, rfl⟩
      rw [← hm] at hhs hrhs htc hml
      have HHS := Lib.hid hhs; have HRHS := Lib.hid hrhs; have HTC := Lib.hid htc; have HM := Lib.hid hm
      clear hhs hrhs htc hm hsc1 hbk
      by_cases hm0 : m = 0
      · subst hm0
        have hd : decide (0 < 0) = false := by decide
        rw [hd] at HHS HRHS
        clear hd
        have e12 : IntKind.i64.wrap (b + 1) = b + 1 := by rw [IntKind.wrap_i64]; omega
        go_wp2_with (first
          | (go_at_call 49; refine (HHS.out _ HB.out).mono ?_; rintro e w' ⟨rfl, rfl⟩)
          | (go_at_call 50; refine (HRHS.out _ HB.out).mono ?_; rintro e w' ⟨rfl, rfl⟩))
        refine wp_loop_rounds 1 ?_
        rw [rounds_succ]
        go_wp2_with (go_at_call 50; refine (HRHS.out _ HB.out).mono ?_; rintro e w' ⟨rfl, rfl⟩)
        go_roundg (9 - (k + 1))
        case measure => omega
        case rel => exact ⟨k + 1, by omega, rfl, by rw [HBK.out]; go_num, HB.out⟩
      · obtain ⟨rb, kb, Ar, cr, rfl, hbkb, hkb9, hcell⟩ := HTC.out (by omega)
        have hd : decide (0 < m) = true := by simpa using Nat.pos_of_ne_zero hm0
        rw [hd] at HHS HRHS
        subst hbkb
        have HCELL := Lib.hid hcell
        clear hd hcell HTC
        have e12 : IntKind.i64.wrap ((kb : Int) + 1) = (kb : Int) + 1 := by rw [IntKind.wrap_i64]; omega
        go_wp2_with (first
          | (go_at_call 49; refine (HHS.out _ HB.out).mono ?_; rintro e w' ⟨rfl, rfl⟩)
          | (go_at_call 50; refine (HRHS.out _ HB.out).mono ?_; rintro e w' ⟨rfl, rfl⟩))
        go_loopg [6] m (fun q s6 wx => ∃ i : Nat, i ≤ m ∧ q = m - i ∧ s6 = .int .i64 (i : Int) ∧ Below w.heap.size w wx)
        case atStart => exact ⟨0, by omega, rfl, rfl, HB.out⟩
        case round =>
          obtain ⟨i, hi, rfl, rfl, hb2⟩ := hrel
          have HB2 := Lib.hid hb2
          have hcw := HCELL.out wr hb2
          clear hb2
          by_cases him : i < m
          · obtain ⟨xa, xf, htm, hrtm⟩ := timer_all M hbI (i : Int)
            obtain ⟨D, hD, hq, hrq⟩ := queue_all HG.out hN hbI (i : Int)
            obtain ⟨nd, hnd⟩ : ∃ nd, nd = D.length := ⟨_, rfl⟩
            rw [← hnd] at hq hrq
            have HTM := Lib.hid htm; have HRTM := Lib.hid hrtm; have HQ := Lib.hid hq; have HRQ := Lib.hid hrq; have HND := Lib.hid hnd; have HD9 := Lib.hid hD
            have hne := fun W => neqT xa xf xa xf W
            simp only [and_self, decide_true, Bool.not_true] at hne
            clear htm hrtm hq hrq hnd hD
            go_upto_region 10 with (go_at_call 50; refine (HRHS.out _ HB2.out).mono ?_; rintro e w' ⟨rfl, rfl⟩)
            have hnew := heap_alloc_new wr (.cells #[.int .i64 (kb : Int), .int .i64 (i : Int)] 45)
            have hbn := below1 wr (.cells #[.int .i64 (kb : Int), .int .i64 (i : Int)] 45)
            have hsz : (wr.alloc (.cells #[.int .i64 (kb : Int), .int .i64 (i : Int)] 45)).heap.size = wr.heap.size + 1 := by simp
            generalize hw3 : wr.alloc (.cells #[.int .i64 (kb : Int), .int .i64 (i : Int)] 45) = w3 at *
            clear hw3
            obtain ⟨X7, hX7⟩ : ∃ X, X = wr.heap.size := ⟨_, rfl⟩
            have hsc3 : Se w3.drew base baseR own ownR s (.pointer (some ⟨rb, 0, none⟩)) n M M (fun g => g = X7) := (((HSC.out.new HB2.out).add hbn (Y := fun g => g = X7) (fun g hg => by omega)).drew).sub (fun g hg => .inr hg)
            rw [← hX7] at hnew ⊢
            have x0 : w3.drew.cell? ⟨X7, 0, none⟩ = some (.int .i64 (kb : Int)) := cell_row hnew 0
            have x1 : w3.drew.cell? ⟨X7, 1, none⟩ = some (.int .i64 (i : Int)) := cell_row hnew 1
            have HSC3 := Lib.hid hsc3
            have HB3 : Hid (Below w.heap.size w w3.drew) := Lib.hid ((HB2.out.trans (hbn.mono HB2.out.size)).drew)
            clear hnew hbn hsz hX7 hsc3 hcw
            refine wp_region_held_drew (S := fun w' => w'.cell? ⟨X7, 0, none⟩ = some (.int .i64 (kb : Int)) ∧ w'.cell? ⟨X7, 1, none⟩ = some (.int .i64 (i : Int))) (by kernel_rfl) ?_ (fun hHeld => ?_)
            · exact ⟨x0, x1⟩
            refine tA 0 ⟨some 38, .move (.tmp 0), 70, "help.go:23", #[], none⟩ ?va0 ?ra0
            (try simp only [Act.put, tC, tD, tE])
            refine tA 1 ⟨some 39, .load 45 (.tmp 7), 45, "help.go:23", #[], none⟩ ?va1 ?ra1
            (try simp only [Act.put, tC, tD, tE])
            refine tA 4 ⟨some 42, .move (.tmp 1), 79, "help.go:23", #[], none⟩ ?va4 ?ra4
            (try simp only [Act.put, tC, tD, tE])
            refine tA 5 ⟨some 43, .load 45 (.tmp 7), 45, "help.go:23", #[], none⟩ ?va5 ?ra5
            (try simp only [Act.put, tC, tD, tE])
            refine wpAnyH_ready (rs := [2]) (by kernel_rfl) (by simp) ?_
            refine AllReadyH.cons (o := ⟨some 40, .call ⟨.value (.func 52), #[.tmp 38, .tmp 39], #[70, 45]⟩, 125, "help.go:23", #[⟨0, .data⟩, ⟨1, .data⟩], none⟩) rfl (fun Kq hKq => ?_) AllReadyH.nil
            go_simp
            (have l7 := (HSC3.out.cl X7 rfl).1; refine (HTM.out _ base own s n HSC3.out.st).mono ?_; rintro e w4 ⟨rfl, hb4⟩; have HSC4 := Lib.hid (HSC3.out.new hb4); have HB4 := Lib.hid hb4)
            refine hKq.out _ _ ?_ (fun hHeld => ?_)
            · exact ⟨(hb4.cell (p := ⟨X7, 0, none⟩) l7).trans hHeld.1, (hb4.cell (p := ⟨X7, 1, none⟩) l7).trans hHeld.2⟩
            clear hKq Kq
            (try simp only [Act.put, tC, tD, tE])
            refine wpAnyH_ready (rs := [3]) (by kernel_rfl) (by simp) ?_
            refine AllReadyH.cons (o := ⟨some 41, .call ⟨.value (.func 51), #[.tmp 40], #[125]⟩, 136, "help.go:23", #[⟨2, .data⟩, ⟨2, .chain⟩], none⟩) rfl (fun Kq hKq => ?_) AllReadyH.nil
            go_simp
            (have l7 := (HSC4.out.cl X7 rfl).1; refine (otherT_any xa xf _).mono ?_; rintro e w5 ⟨rfl, hb5⟩; have HSC5 := Lib.hid (HSC4.out.new hb5); have HB5 := Lib.hid hb5)
            refine hKq.out _ _ ?_ (fun hHeld => ?_)
            · exact ⟨(hb5.cell (p := ⟨X7, 0, none⟩) l7).trans hHeld.1, (hb5.cell (p := ⟨X7, 1, none⟩) l7).trans hHeld.2⟩
            clear hKq Kq
            (try simp only [Act.put, tC, tD, tE])
            refine wpAnyH_ready (rs := [6]) (by kernel_rfl) (by simp) ?_
            refine AllReadyH.cons (o := ⟨some 44, .call ⟨.value (.func 40), #[.tmp 43], #[45]⟩, 128, "help.go:23", #[⟨5, .data⟩, ⟨3, .chain⟩], none⟩) rfl (fun Kq hKq => ?_) AllReadyH.nil
            go_simp
            (have l7 := (HSC5.out.cl X7 rfl).1; refine (otherP_any (kb : Int) (i : Int) _).mono ?_; rintro e w6 ⟨rfl, hb6⟩; have HSC6 := Lib.hid (HSC5.out.new hb6); have HB6 := Lib.hid hb6)
            refine hKq.out _ _ ?_ (fun hHeld => ?_)
            · exact ⟨(hb6.cell (p := ⟨X7, 0, none⟩) l7).trans hHeld.1, (hb6.cell (p := ⟨X7, 1, none⟩) l7).trans hHeld.2⟩
            clear hKq Kq
            (try simp only [Act.put, tC, tD, tE])
            refine wpAnyH_ready (rs := [7]) (by kernel_rfl) (by simp) ?_
            refine AllReadyH.cons (o := ⟨some 45, .call ⟨.value (.func 53), #[.tmp 42, .tmp 44], #[79, 128]⟩, 136, "help.go:23", #[⟨4, .data⟩, ⟨6, .data⟩, ⟨6, .chain⟩], none⟩) rfl (fun Kq hKq => ?_) AllReadyH.nil
            go_simp
            (have l7 := (HSC6.out.cl X7 rfl).1; refine (HRTM.out _ baseR ownR _ HSC6.out.rt).mono ?_; rintro e w7 ⟨rfl, hb7⟩; have HSC7 := Lib.hid (HSC6.out.new hb7); have HB7 := Lib.hid hb7)
            refine hKq.out _ _ ?_ (fun hHeld => ?_)
            · exact ⟨(hb7.cell (p := ⟨X7, 0, none⟩) l7).trans hHeld.1, (hb7.cell (p := ⟨X7, 1, none⟩) l7).trans hHeld.2⟩
            clear hKq Kq
            (try simp only [Act.put, tC, tD, tE])
            refine tA 8 ⟨some 46, .binOp .neq 136 (.tmp 41) (.tmp 45) 136, 4, "help.go:23", #[⟨3, .data⟩, ⟨7, .data⟩], none⟩ ?va8 ?ra8
            (try simp only [Act.put, tC, tD, tE])
            refine tA 9 ⟨some 47, .move (.tmp 46), 4, "help.go:23", #[⟨8, .data⟩, ⟨7, .chain⟩], none⟩ ?va9 ?ra9
            (try simp only [Act.put, tC, tD, tE])
            refine tA 10 ⟨some 48, .move (.tmp 0), 70, "help.go:23", #[⟨9, .guard⟩], some (9, false)⟩ ?va10 ?ra10
            (try simp only [Act.put, tC, tD, tE])
            refine tA 11 ⟨some 49, .load 45 (.tmp 7), 45, "help.go:23", #[⟨9, .guard⟩], some (9, false)⟩ ?va11 ?ra11
            (try simp only [Act.put, tC, tD, tE])
            refine tA 13 ⟨some 51, .move (.tmp 1), 79, "help.go:23", #[⟨9, .guard⟩], some (9, false)⟩ ?va13 ?ra13
            (try simp only [Act.put, tC, tD, tE])
            refine tA 14 ⟨some 52, .load 45 (.tmp 7), 45, "help.go:23", #[⟨9, .guard⟩], some (9, false)⟩ ?va14 ?ra14
            (try simp only [Act.put, tC, tD, tE])
            refine wpAnyH_ready (rs := [12]) (by kernel_rfl) (by simp) ?_
            refine AllReadyH.cons (o := ⟨some 50, .call ⟨.value (.func 55), #[.tmp 48, .tmp 49], #[70, 45]⟩, 123, "help.go:23", #[⟨10, .data⟩, ⟨11, .data⟩, ⟨9, .chain⟩, ⟨9, .guard⟩], some (9, false)⟩) rfl (fun Kq hKq => ?_) AllReadyH.nil
            go_simp
            (have l7 := (HSC7.out.cl X7 rfl).1; refine (HQ.out _ base own s n HSC7.out.st).mono ?_; rintro e w8 ⟨A8, rfl, hr8, hb8⟩; have HR8 := Lib.hid hr8; clear hr8; have HSC8 := Lib.hid (HSC7.out.new hb8); have HB8 := Lib.hid hb8)
            refine hKq.out _ _ ?_ (fun hHeld => ?_)
            · exact ⟨(hb8.cell (p := ⟨X7, 0, none⟩) l7).trans hHeld.1, (hb8.cell (p := ⟨X7, 1, none⟩) l7).trans hHeld.2⟩
            clear hKq Kq
            (try simp only [Act.put, tC, tD, tE])
            refine wpAnyH_ready (rs := [15]) (by kernel_rfl) (by simp) ?_
            refine AllReadyH.cons (o := ⟨some 53, .call ⟨.value (.func 40), #[.tmp 52], #[45]⟩, 128, "help.go:23", #[⟨14, .data⟩, ⟨12, .chain⟩, ⟨9, .guard⟩], some (9, false)⟩) rfl (fun Kq hKq => ?_) AllReadyH.nil
            go_simp
            (have l7 := (HSC8.out.cl X7 rfl).1; refine (otherP_any (kb : Int) (i : Int) _).mono ?_; rintro e w9 ⟨rfl, hb9⟩; have HSC9 := Lib.hid (HSC8.out.new hb9); have HB9 := Lib.hid hb9)
            refine hKq.out _ _ ?_ (fun hHeld => ?_)
            · exact ⟨(hb9.cell (p := ⟨X7, 0, none⟩) l7).trans hHeld.1, (hb9.cell (p := ⟨X7, 1, none⟩) l7).trans hHeld.2⟩
            clear hKq Kq
            (try simp only [Act.put, tC, tD, tE])
            refine wpAnyH_ready (rs := [16]) (by kernel_rfl) (by simp) ?_
            refine AllReadyH.cons (o := ⟨some 54, .call ⟨.value (.func 56), #[.tmp 51, .tmp 53], #[79, 128]⟩, 132, "help.go:23", #[⟨13, .data⟩, ⟨15, .data⟩, ⟨15, .chain⟩, ⟨9, .guard⟩], some (9, false)⟩) rfl (fun Kq hKq => ?_) AllReadyH.nil
            go_simp
            (have l7 := (HSC9.out.cl X7 rfl).1; refine (HRQ.out _ baseR ownR _ HSC9.out.rt).mono ?_; rintro e w10 ⟨A10, c10, rfl, hc10, hc109, hr10, hb10⟩; have HR10 := Lib.hid hr10; clear hr10; have HSC10 := Lib.hid (HSC9.out.new hb10); have HB10 := Lib.hid hb10)
            refine hKq.out _ _ ?_ (fun hHeld => ?_)
            · exact ⟨(hb10.cell (p := ⟨X7, 0, none⟩) l7).trans hHeld.1, (hb10.cell (p := ⟨X7, 1, none⟩) l7).trans hHeld.2⟩
            clear hKq Kq
            (try simp only [Act.put, tC, tD, tE])
            refine wpAnyH_ready (rs := [17]) (by kernel_rfl) (by simp) ?_
            refine AllReadyH.cons (o := ⟨some 55, .call ⟨.value (.func 54), #[.tmp 50, .tmp 54], #[123, 132]⟩, 4, "help.go:23", #[⟨12, .data⟩, ⟨16, .data⟩, ⟨16, .chain⟩, ⟨9, .guard⟩], some (9, false)⟩) rfl (fun Kq hKq => ?_) AllReadyH.nil
            go_simp
            (have l7 := (HSC10.out.cl X7 rfl).1; have hq4 := (HR8.out.new HB9.out).new HB10.out; rw [HND.out] at hq4; have hsm := same_any D.length c10 hq4.rd ((HR10.out).more HB10.out.size) (Nat.le_refl _) (Nat.le_refl _) (by have := HD9.out; omega); rw [← HND.out] at hsm; refine hsm.mono ?_; rintro e w11 ⟨rfl, hb11⟩; have HSC11 := Lib.hid (HSC10.out.new hb11); have HB11 := Lib.hid hb11; clear hq4 hsm)
            refine hKq.out _ _ ?_ (fun hHeld => ?_)
            · exact ⟨(hb11.cell (p := ⟨X7, 0, none⟩) l7).trans hHeld.1, (hb11.cell (p := ⟨X7, 1, none⟩) l7).trans hHeld.2⟩
            clear hKq Kq
            (try simp only [Act.put, tC, tD, tE])
            refine tA 18 ⟨some 56, .unOp .not 4 (.tmp 55), 4, "help.go:23", #[⟨17, .data⟩, ⟨9, .guard⟩], some (9, false)⟩ ?va18 ?ra18
            (try simp only [Act.put, tC, tD, tE])
            refine tA 19 ⟨some 57, .pick (.tmp 47) (.const (.bool true)) (.tmp 56), 4, "help.go:23", #[⟨9, .data⟩, ⟨18, .data⟩], none⟩ ?va19 ?ra19
            (try simp only [Act.put, tC, tD, tE])
            refine wpAnyH_done (by kernel_rfl) ?_ _
            have b4 := HB3.out.trans (HB4.out.mono HB3.out.size)
            have b5 := b4.trans (HB5.out.mono b4.size)
            have b6 := b5.trans (HB6.out.mono b5.size)
            have b7 := b6.trans (HB7.out.mono b6.size)
            have b8 := b7.trans (HB8.out.mono b7.size)
            have b9 := b8.trans (HB9.out.mono b8.size)
            have b10 := b9.trans (HB10.out.mono b9.size)
            have HB12 := Lib.hid (b10.trans (HB11.out.mono b10.size))
            clear b4 b5 b6 b7 b8 b9 b10 hne
            go_wp2_with fail
            go_roundg (m - (i + 1))
            case measure => omega
            case rel => exact ⟨i + 1, by omega, rfl, by go_num, HB12.out⟩
          · obtain rfl : i = m := by omega
            go_wp2_with (go_at_call 50; refine (HRHS.out _ HB2.out).mono ?_; rintro e w' ⟨rfl, rfl⟩)
            go_roundg (9 - (k + 1))
            case measure => omega
            case rel => exact ⟨k + 1, by omega, rfl, by have := HBK.out; rw [this]; go_num, HB2.out⟩
    · obtain rfl : k = 9 := by omega
      go_wp2_with fail
      go_ret
      exact ⟨rfl, HB.out⟩
end Go.Proofs.YtpmafdggbeppcaaGreatDoor.S10
