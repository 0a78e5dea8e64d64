/- Texts of this seat, one behind the other. -/
import Derived.Test.YtieiiabbeglmfaaGreatDoorMLawFair201
import Derived.Test.YtieiiabbeglmfaaGreatDoorMLawFair2013
import Derived.Test.YtieiiabbeglmfaaGreatDoorMLawFair2016
import Derived.Test.YtieiiabbeglmfaaGreatDoorMLawFair2031
import Derived.Test.YtieiiabbeglmfaaGreatDoorMLawFair2033
set_option linter.unusedVariables false
set_option linter.unusedSimpArgs false
set_option linter.unusedVariables false
set_option linter.unusedSimpArgs false
set_option linter.unusedVariables false
set_option linter.unusedSimpArgs false
namespace Go.Proofs.YtieiiabbeglmfaaGreatDoor.S18
set_option maxRecDepth 100000
set_option maxHeartbeats 16000000
open Go.Proofs.YtieiiabbeglmfaaGreatDoor Go.Proofs.YtieiiabbeglmfaaGreatDoor.S11 Go.Proofs.YtieiiabbeglmfaaGreatDoor.S12 Go.Proofs.YtieiiabbeglmfaaGreatDoor.S13 Go.Proofs.YtieiiabbeglmfaaGreatDoor.S14 Go.Proofs.YtieiiabbeglmfaaGreatDoor.S15 Go.Proofs.YtieiiabbeglmfaaGreatDoor.S16
open Go.RowKit
def _root_.Go.Proofs.YtieiiabbeglmfaaGreatDoor.S12.Sd.note (M : Sd) (x : Nt) : Sd := { M with nD := addD M.nD x }
theorem _root_.Go.Proofs.YtieiiabbeglmfaaGreatDoor.S12.Pg.noteOf {w0 w : World} {base WB : Nat} {M : Sd} {r : List Part} {X : Wm} (hg : Pg w0 w base WB M r X) (h1' : M.n ≤ 1000000000) (h2' : M.pn ≤ 1000000000) (hl' : M.nD.length ≤ 100000) (hT : Tab w) (t a o b : Int) (k : Nat) (hk : k < 256) :
    Calls Tryz.prog 179 #[Pw WB, .int .i64 t, .int .u8 (k : Int), .int .u32 a, .int .i64 o, .int .u32 b] w fun e w' => e = .returned (.tuple #[]) ∧ ∃ X', Pg w0 w' base WB (M.note ⟨((M.n + M.pn : Nat) : Int), t, k, a, o, b, 0⟩) r X' := by
  have h := hg.pw
  have e1 : X.n = M.n := congrArg Sd.n hg.xm
  have e2 : X.pn = M.pn := congrArg Sd.pn hg.xm
  have e3 : X.nD = M.nD := congrArg Sd.nD hg.xm
  have h1 : X.n ≤ 1000000000 := by rw [e1]; exact h1'
  have h2 : X.pn ≤ 1000000000 := by rw [e2]; exact h2'
  have hl : X.nD.length ≤ 100000 := by rw [e3]; exact hl'
  rw [← e1, ← e2, ← hg.wB]
  clear h1' h2' hl'
  have hb : X.nb ≤ w.heap.size := Nat.le_of_lt (Nat.lt_of_le_of_lt h.notes.low h.notes.lt)
  have HST := Lib.hid (fun (W : World) (b : Below w.heap.size w W) => steps_any (h.new b) h1 h2)
  have HC5 := Lib.hid (fun (W : World) (b : Below w.heap.size w W) => (h.new b).c5)
  have HAD := Lib.hid (fun (W : World) (q : Below w.heap.size w W) => S11.add_any (h.new q).notes (Nat.le_trans hb q.size) (hT.below q hT.1) ⟨((X.n + X.pn : Nat) : Int), t, k, a, o, b, 0⟩ hk hl)
  have HTN := Lib.hid (fun (W W2 : World) (q : Below w.heap.size w W) (l : S11.Leaves 304 .u8 W W2 X.nb X.nB X.ns (addD X.nD ⟨((X.n + X.pn : Nat) : Int), t, k, a, o, b, 0⟩)) =>
    (show ∃ X', Pg w0 W2 base X.wB (M.note ⟨((X.n + X.pn : Nat) : Int), t, k, a, o, b, 0⟩) r X' from by
      obtain ⟨s', hp, hq⟩ := t_notes (i := 5) (hg.new q).ps rfl l
      exact ⟨{ X with ns := s', nD := addD X.nD ⟨((X.n + X.pn : Nat) : Int), t, k, a, o, b, 0⟩ }, hp, rfl, (by rw [← hg.xm]; rfl), (hg.new q).bl.trans hq⟩))
  have HK5 := Lib.hid (fun (W W2 : World) (q : Below w.heap.size w W) (l : S11.Leaves 304 .u8 W W2 X.nb X.nB X.ns (addD X.nD ⟨((X.n + X.pn : Nat) : Int), t, k, a, o, b, 0⟩)) =>
    (show W2.cell? ⟨X.wB, 5, none⟩ = some (Pw X.nB) from by
      obtain ⟨s', hp, hq⟩ := t_notes (i := 5) (h.new q) rfl l
      exact PW.c5 (X := { X with ns := s', nD := addD X.nD ⟨((X.n + X.pn : Nat) : Int), t, k, a, o, b, 0⟩ }) hp))
  have HB0 : Hid (Below w.heap.size w w.drew) := Lib.hid ((Below.refl _ _).drew)
  have c5 := h.c5
  clear h hg hT hl hb e1 e2 e3
  obtain ⟨cB, cM, L, n, kk, aa, was, is, kb, kB, T, most, ks, D, pB, pf, pn, pk, pp, lB, lk, tb, tO, ts, tn, tM, nb, nB, ns, nD, wB, sp⟩ := X
  dsimp only at *
  clear h1 h2 hk
  generalize ((n + pn : Nat) : Int) = tot at *
  go_enter Tryz.func179, Tryz.ntmps179
  go_upto_region 1 with (fail)
  refine wp_region_held_drew (S := fun w' => w'.cell? ⟨wB, 5, none⟩ = some (Pw nB)) (by kernel_rfl) ?_ (fun hHeld => ?_)
  · exact c5
  refine tA 0 ⟨some 14, .move (.tmp 0), 24, "worlds.go:77", #[], none⟩ ?v0 ?r0
  (try simp only [Act.put, tC, tD, tE])
  refine tA 1 ⟨some 15, .nilCheck (.tmp 14), 0, "worlds.go:77", #[⟨0, .data⟩], none⟩ ?v1 ?r1
  (try simp only [Act.put, tC, tD, tE])
  refine tA 2 ⟨some 16, .fieldAddr 47 (.tmp 15) 5, 0, "worlds.go:77", #[⟨1, .data⟩], none⟩ ?v2 ?r2
  (try simp only [Act.put, tC, tD, tE])
  refine tA 3 ⟨some 17, .load 44 (.tmp 16), 44, "worlds.go:77", #[⟨2, .data⟩], none⟩ ?v3 ?r3
  (try simp only [Act.put, tC, tD, tE])
  refine tA 4 ⟨some 18, .move (.tmp 0), 24, "worlds.go:77", #[], none⟩ ?v4 ?r4
  (try simp only [Act.put, tC, tD, tE])
  refine tA 6 ⟨some 20, .move (.tmp 1), 3, "worlds.go:77", #[], none⟩ ?v6 ?r6
  (try simp only [Act.put, tC, tD, tE])
  refine tA 7 ⟨some 21, .move (.tmp 2), 287, "worlds.go:77", #[], none⟩ ?v7 ?r7
  (try simp only [Act.put, tC, tD, tE])
  refine tA 8 ⟨some 22, .move (.tmp 3), 35, "worlds.go:77", #[], none⟩ ?v8 ?r8
  (try simp only [Act.put, tC, tD, tE])
  refine tA 9 ⟨some 23, .move (.tmp 4), 3, "worlds.go:77", #[], none⟩ ?v9 ?r9
  (try simp only [Act.put, tC, tD, tE])
  refine tA 10 ⟨some 24, .move (.tmp 5), 35, "worlds.go:77", #[], none⟩ ?v10 ?r10
  (try simp only [Act.put, tC, tD, tE])
  refine wpAnyH_ready (rs := [5]) (by kernel_rfl) (by simp) ?_
  refine AllReadyH.cons (o := ⟨some 19, .call ⟨.value (.func 125), #[.tmp 18], #[24]⟩, 3, "worlds.go:77", #[⟨4, .data⟩], none⟩) rfl (fun Kq hKq => ?_) AllReadyH.nil
  go_simp
  (refine (HST.out _ HB0.out).mono ?_; rintro e w1 ⟨rfl, hb1⟩)
  refine hKq.out _ _ ?_ (fun hHeld => ?_)
  · exact HC5.out _ (HB0.out.trans (hb1.mono HB0.out.size))
  clear hKq Kq
  (try simp only [Act.put, tC, tD, tE])
  refine tA 11 ⟨some 25, .build 289 #[(0, .tmp 19), (1, .tmp 20), (2, .tmp 21), (3, .tmp 22), (4, .tmp 23), (5, .tmp 24)], 289, "worlds.go:77", #[⟨5, .data⟩, ⟨6, .data⟩, ⟨7, .data⟩, ⟨8, .data⟩, ⟨9, .data⟩, ⟨10, .data⟩], none⟩ ?v11 ?r11
  (try simp only [Act.put, tC, tD, tE])
  refine wpAnyH_ready (rs := [12]) (by kernel_rfl) (by simp) ?_
  refine AllReadyH.cons (o := ⟨some 26, .call ⟨.value (.func 203), #[.tmp 17, .tmp 25], #[44, 289]⟩, 93, "worlds.go:77", #[⟨3, .data⟩, ⟨11, .data⟩, ⟨5, .chain⟩], none⟩) rfl (fun Kq hKq => ?_) AllReadyH.nil
  go_simp
  (refine (HAD.out _ (HB0.out.trans (hb1.mono HB0.out.size))).mono ?_; rintro e w2 ⟨rfl, hl⟩)
  refine hKq.out _ _ ?_ (fun hHeld => ?_)
  · exact HK5.out _ _ (HB0.out.trans (hb1.mono HB0.out.size)) hl
  clear hKq Kq
  (try simp only [Act.put, tC, tD, tE])
  refine wpAnyH_done (by kernel_rfl) ?_ _
  go_wp2_with fail
  go_end0
  exact ⟨rfl, HTN.out _ _ (HB0.out.trans (hb1.mono HB0.out.size)) hl⟩
abbrev Rows := S16.Rows
section
variable {w0 w w' : World} {base WB : Nat} {M : Sd} {r : List Part} {j e u B : Nat} {l l' : Rows} {X : Wm}
theorem _root_.Go.Proofs.YtieiiabbeglmfaaGreatDoor.S12.Pg.note (h : Pg w0 w base WB M r X) (h1 : M.n ≤ 1000000000) (h2 : M.pn ≤ 1000000000) (hl : M.nD.length ≤ 100000) (hT : Tab w) (t a : Int) (k : Nat) (hk : k < 256) :
    Calls Tryz.prog 218 #[Pw WB, .int .i64 t, .int .u8 (k : Int), .int .u32 a] w fun e w' => e = .returned (.tuple #[]) ∧ ∃ X', Pg w0 w' base WB (M.note ⟨((M.n + M.pn : Nat) : Int), t, k, a, -1, 0, 0⟩) r X' := by
  have HN := Lib.hid (h.noteOf h1 h2 hl hT t a (-1) 0 k hk)
  clear h h1 h2 hl hT hk
  go_enter Tryz.func218, Tryz.ntmps218
  go_wp2_with (go_at_call 179; refine HN.out.mono ?_; rintro e w1 ⟨rfl, hn⟩)
  go_end0
  exact ⟨rfl, hn⟩
theorem lot_any (t : Nat) (ht : t < 64) (w : World) : Calls Tryz.prog 29 #[.int .i64 (t : Int)] w fun e w' => e = .returned (.int .i64 ((2 * t : Nat) : Int)) ∧ w = w' := by
  have hof : ∀ W, Calls Tryz.prog 78 #[.int .i64 (t : Int), .int .i64 0] W fun e w' => e = .returned (.int .i64 ((2 * t : Nat) : Int)) ∧ W = w' := fun W => by
    have h1 : decide ((t : Int) < 0) = false := by simp
    have h2 : decide ((64 : Int) ≤ (t : Int)) = false := by simp; omega
    have h3 : wrap64 (wrap64 (2 * (t : Int)) + 0) = ((2 * t : Nat) : Int) := by unfold wrap64; omega
    have h4 : wrap64 (2 * (t : Int)) = 2 * (t : Int) := by unfold wrap64; omega
    have h5 : wrap64 (2 * (t : Int) + 0) = ((2 * t : Nat) : Int) := by unfold wrap64; omega
    go_enter Tryz.func78, Tryz.ntmps78
    go_wp2_with fail
    go_ret
    exact ⟨by simp [h4] , rfl⟩
  have HO := Lib.hid hof
  clear hof ht
  go_enter Tryz.func29, Tryz.ntmps29
  go_wp2_with (go_at_call 78; refine (HO.out _).mono ?_; rintro e w1 ⟨rfl, rfl⟩)
  go_ret
  exact ⟨rfl, rfl⟩
end
end Go.Proofs.YtieiiabbeglmfaaGreatDoor.S18
namespace Go.Proofs.YtieiiabbeglmfaaGreatDoor.S4
set_option maxRecDepth 100000
set_option maxHeartbeats 16000000
open Go.Proofs.YtieiiabbeglmfaaGreatDoor Go.Proofs.YtieiiabbeglmfaaGreatDoor.S11
open Go.RowKit
def untilK (x : Pk) (at_ now : Nat) : Pk := if x.p then pk0 else if at_ ≤ now then pk0 else ⟨false, true, true, at_⟩
def untilO (x : Pk) (at_ now : Nat) : Nat := if x.p then 1 else if at_ ≤ now then 2 else 0
theorem until_b {w : World} {B : Nat} {f : Nat → Pk} {n kd pk : Int} (h : PkAt w B f n kd pk) (hn : 0 ≤ n ∧ n ≤ 1000000000) {i : Nat} (hi : i < 128) (at_ now : Nat) (b c : Bool) (hb : (f i).p = b) (hc : decide (at_ ≤ now) = c) :
    Calls Tryz.prog 304 #[Pt B, .int .i64 (i : Int), .int .u64 (at_ : Int), .int .u64 (now : Int)] w fun e w' => e = .returned (.int .u8 (untilO (f i) at_ now : Nat)) ∧ PSets w w' B (updP f i (untilK (f i) at_ now)) (n + 1) 3 (i : Int) := by
  have hq := called_yes h hn 3 hi
  have HQ := Lib.hid hq
  have h1 : (i : Int) < 128 := by omega
  clear hq h hn
  go_enter Tryz.func304, Tryz.ntmps304
  go_upto_region 3 with (go_at_call 181; refine HQ.out.mono ?_; rintro e w1 ⟨rfl, hp, ht, hz⟩)
  have htk := take_any hp hi
  have HTK := Lib.hid htk; have HP := Lib.hid hp; have HT := Lib.hid ht; have HZ := Lib.hid hz
  clear htk hp ht hz
  cases b
  · have hp := hb
    clear hb
    rw [hp] at HTK
    cases c
    · have hk : untilK (f i) at_ now = ⟨false, true, true, at_⟩ := by unfold untilK; rw [hp, if_neg (by decide), if_neg (of_decide_eq_false hc)]
      have ho : untilO (f i) at_ now = 0 := by unfold untilO; rw [hp, if_neg (by decide), if_neg (of_decide_eq_false hc)]
      have d1 : decide ((at_ : Int) ≤ (now : Int)) = false := decide_eq_false (by have := of_decide_eq_false hc; omega)
      have HK := Lib.hid hk; have HO := Lib.hid ho
      clear hk hp ho
      go_upto_region 8 with (go_at_call 306; refine HTK.out.mono ?_; rintro e w2 ⟨rfl, hp2, ht2, hz2⟩)
      rw [if_neg (by decide)] at hp2
      have c0 := hp2.c0 i hi; have c1 := hp2.c1 i hi; have c2 := hp2.c2 i hi; have c3 := hp2.c3 i hi
      have z0 := hp2.fz (i * 4); have z1 := hp2.fz (i * 4 + 1); have z2 := hp2.fz (i * 4 + 2); have z3 := hp2.fz (i * 4 + 3)
      have HP2 := Lib.hid hp2; have HT2 := Lib.hid (HT.out.trans ht2 (fun _ _ e => e)); have HZ2 := Lib.hid (hz2.trans HZ.out)
      clear hp2 ht2 hz2 HP HT HZ HTK HQ
      go_wp2_with fail
      go_ret
      refine ⟨by rw [HO.out]; rfl, by rw [HK.out]; exact HP2.out.setAll hi ⟨false, true, true, at_⟩, ?_, by simpa [World.setCell] using HZ2.out⟩
      exact ((((HT2.out.setCell ⟨B, i * 4, none⟩ _ rfl).setCell ⟨B, i * 4 + 1, none⟩ _ rfl).setCell ⟨B, i * 4 + 2, none⟩ _ rfl).setCell ⟨B, i * 4 + 3, none⟩ _ rfl)
    · have hk : untilK (f i) at_ now = pk0 := by unfold untilK; rw [hp, if_neg (by decide), if_pos (of_decide_eq_true hc)]
      have ho : untilO (f i) at_ now = 2 := by unfold untilO; rw [hp, if_neg (by decide), if_pos (of_decide_eq_true hc)]
      have d1 : decide ((at_ : Int) ≤ (now : Int)) = true := decide_eq_true (by have := of_decide_eq_true hc; omega)
      have HK := Lib.hid hk; have HO := Lib.hid ho
      clear hk hp ho
      go_upto_region 6 with (go_at_call 306; refine HTK.out.mono ?_; rintro e w2 ⟨rfl, hp2, ht2, hz2⟩)
      rw [if_neg (by decide)] at hp2
      have c0 := hp2.c0 i hi; have c1 := hp2.c1 i hi; have c2 := hp2.c2 i hi; have c3 := hp2.c3 i hi
      have z0 := hp2.fz (i * 4); have z1 := hp2.fz (i * 4 + 1); have z2 := hp2.fz (i * 4 + 2); have z3 := hp2.fz (i * 4 + 3)
      have HP2 := Lib.hid hp2; have HT2 := Lib.hid (HT.out.trans ht2 (fun _ _ e => e)); have HZ2 := Lib.hid (hz2.trans HZ.out)
      clear hp2 ht2 hz2 HP HT HZ HTK HQ
      go_wp2_with fail
      go_ret
      refine ⟨by rw [HO.out]; rfl, by rw [HK.out]; exact HP2.out.setAll hi pk0, ?_, by simpa [World.setCell] using HZ2.out⟩
      exact ((((HT2.out.setCell ⟨B, i * 4, none⟩ _ rfl).setCell ⟨B, i * 4 + 1, none⟩ _ rfl).setCell ⟨B, i * 4 + 2, none⟩ _ rfl).setCell ⟨B, i * 4 + 3, none⟩ _ rfl)
  · have hp := hb
    clear hb
    rw [hp] at HTK
    have hk : untilK (f i) at_ now = pk0 := by unfold untilK; rw [hp]; rfl
    have ho : untilO (f i) at_ now = 1 := by unfold untilO; rw [hp]; rfl
    have HK := Lib.hid hk; have HO := Lib.hid ho
    clear hk hp ho hc
    go_wp2_with (go_at_call 306; refine HTK.out.mono ?_; rintro e w2 ⟨rfl, hp2, ht2, hz2⟩)
    go_ret
    exact ⟨by rw [HO.out]; rfl, by rw [HK.out]; exact hp2, HT.out.trans ht2 (fun _ _ e => e), hz2.trans HZ.out⟩
theorem late_yes {w : World} {B : Nat} {f : Nat → Pk} {n kd pk : Int} (h : PkAt w B f n kd pk) (hn : 0 ≤ n ∧ n ≤ 1000000000) {i : Nat} (hi : i < 128) :
    Calls Tryz.prog 268 #[Pt B, .int .i64 (i : Int)] w fun e w' => e = .returned (.bool (!(f i).p)) ∧ PSets w w' B f (n + 1) 5 (i : Int) := by
  have hq := called_yes h hn 5 hi
  have HQ := Lib.hid hq
  have h1 : (i : Int) < 128 := by omega
  obtain ⟨b, hb⟩ : ∃ b, b = (f i).p := ⟨_, rfl⟩
  rw [← hb]
  have HB := Lib.hid hb
  clear hq h hn hb
  go_enter Tryz.func268, Tryz.ntmps268
  go_wp2_with (go_at_call 181; refine HQ.out.mono ?_; rintro e w1 ⟨rfl, hp, ht, hz⟩; have c0 := hp.c0 i hi; rw [← HB.out] at c0; have HP := Lib.hid hp; have HT := Lib.hid ht; have HZ := Lib.hid hz; clear hp ht hz)
  go_ret
  exact ⟨rfl, HP.out, HT.out, HZ.out⟩
end Go.Proofs.YtieiiabbeglmfaaGreatDoor.S4
namespace Go.Proofs.YtieiiabbeglmfaaGreatDoor.S18
set_option maxRecDepth 100000
set_option maxHeartbeats 16000000
open Go.Proofs.YtieiiabbeglmfaaGreatDoor Go.Proofs.YtieiiabbeglmfaaGreatDoor.S11 Go.Proofs.YtieiiabbeglmfaaGreatDoor.S12 Go.Proofs.YtieiiabbeglmfaaGreatDoor.S13 Go.Proofs.YtieiiabbeglmfaaGreatDoor.S14 Go.Proofs.YtieiiabbeglmfaaGreatDoor.S15 Go.Proofs.YtieiiabbeglmfaaGreatDoor.S16
open Go.RowKit
def _root_.Go.Proofs.YtieiiabbeglmfaaGreatDoor.S12.Sd.until (M : Sd) (i at_ : Nat) : Sd := M.call 3 (i : Int) (S4.updP M.pf i (S4.untilK (M.pf i) at_ M.T))
def _root_.Go.Proofs.YtieiiabbeglmfaaGreatDoor.S12.Sd.late (M : Sd) (i : Nat) : Sd := M.call 5 (i : Int) M.pf
section
variable {w0 w w' : World} {base WB : Nat} {M : Sd} {r : List Part} {j e u B : Nat} {l l' : Rows} {X : Wm}
theorem _root_.Go.Proofs.YtieiiabbeglmfaaGreatDoor.S12.Pg.until (h : Pg w0 w base WB M r X) (hn : M.pn ≤ 1000000000) {i : Nat} (hi : i < 128) (at_ : Nat) :
    Calls Tryz.prog 304 #[Pw X.pB, .int .i64 (i : Int), .int .u64 (at_ : Int), .int .u64 (M.T : Int)] w fun e w' => e = .returned (.int .u8 (S4.untilO (M.pf i) at_ M.T : Nat)) ∧ ∃ X', Pg w0 w' base WB (M.until i at_) r X' ∧ X'.pB = X.pB := by
  have e2 : X.pn = M.pn := congrArg Sd.pn h.xm
  refine (S4.until_b h.pw.permits (by omega) hi at_ M.T _ _ rfl rfl).mono ?_
  rintro e w' ⟨rfl, hl⟩
  rw [show X.pf = M.pf from congrArg Sd.pf h.xm] at hl ⊢
  exact ⟨rfl, h.perm hl⟩
theorem _root_.Go.Proofs.YtieiiabbeglmfaaGreatDoor.S12.Pg.late (h : Pg w0 w base WB M r X) (hn : M.pn ≤ 1000000000) {i : Nat} (hi : i < 128) :
    Calls Tryz.prog 268 #[Pw X.pB, .int .i64 (i : Int)] w fun e w' => e = .returned (.bool (!(M.pf i).p)) ∧ ∃ X', Pg w0 w' base WB (M.late i) r X' ∧ X'.pB = X.pB := by
  have e2 : X.pn = M.pn := congrArg Sd.pn h.xm
  refine (S4.late_yes h.pw.permits (by omega) hi).mono ?_
  rintro e w' ⟨rfl, hl⟩
  rw [show X.pf = M.pf from congrArg Sd.pf h.xm] at hl ⊢
  exact ⟨rfl, h.perm hl⟩
def qAt (M : Sd) (b : Int) (i : Nat) : List S10.Ent := (M.m b)[i]!.q
def _root_.Go.Proofs.YtieiiabbeglmfaaGreatDoor.S12.Sd.putq (M : Sd) (b : Int) (i : Nat) (D : List S10.Ent) : Sd := M.tab (S10.upd M.m b ((M.m b).set i { (M.m b)[i]! with q := D }))
theorem _root_.Go.Proofs.YtieiiabbeglmfaaGreatDoor.S12.Pg.queue (h : Pg w0 w base WB M r X) {b : Int} (hb : S10.InI b) {i : Nat} (hi : i < (M.m b).length) (hlen : (qAt M b i).length ≤ 1000000) :
    Calls Tryz.prog 46 #[X.ts, .agg #[.int .i64 b, .int .i64 (i : Int)]] w fun e w' => ∃ A', e = .returned (.slice A' (qAt M b i).length (qAt M b i).length) ∧ S10.RowE w' w.heap.size (.slice A' (qAt M b i).length (qAt M b i).length) (qAt M b i) ∧ Below w.heap.size w w' := by
  obtain ⟨Fq, hr⟩ := h.pw.tables.rs
  rw [show X.tM = M.m from congrArg Sd.m h.xm] at hr
  exact S10.queue_yes hr hb hi hlen
theorem _root_.Go.Proofs.YtieiiabbeglmfaaGreatDoor.S12.Pg.put (h : Pg w0 w base WB M r X) {b : Int} (hb : S10.InI b) {i : Nat} (hi : i < (M.m b).length) {b0 c0 : Nat} {A0 : Option Addr} {D : List S10.Ent} (hr : S10.Rd w b0 A0 (S10.flat D)) (hb0 : b0 ≤ w.heap.size) (hlen : D.length ≤ 1000000) :
    Calls Tryz.prog 58 #[X.ts, .agg #[.int .i64 b, .int .i64 (i : Int)], .slice A0 D.length c0] w fun e w' => e = .returned (.bool true) ∧ ∃ X', Pg w0 w' base WB (M.putq b i D) r X' ∧ X'.ts = X.ts := by
  have hs := h.pw.tables
  rw [show X.tM = M.m from congrArg Sd.m h.xm] at hs
  have ee : X.parts[4]? = some (tablesP X.tb X.tO X.ts X.tn M.m) := by rw [← show X.tM = M.m from congrArg Sd.m h.xm]; rfl
  have ee2 : (X.parts ++ r)[4]? = some (tablesP X.tb X.tO X.ts X.tn M.m) := by rw [List.getElem?_append_left (by show 4 < 7; omega)]; exact ee
  refine (S10.put_yes hs hb hi hr hb0 hlen).mono ?_
  rintro e w' ⟨rfl, own', hst, ht, hf⟩
  obtain ⟨hp, hbl⟩ := t_tables (i := 4) h.ps ee2 hst ht hf
  refine ⟨rfl, { X with tO := own', tM := S10.upd M.m b ((M.m b).set i { (M.m b)[i]! with q := D }) }, ⟨hp, h.wB, ?_, h.bl.trans hbl⟩, rfl⟩
  rw [← h.xm]; rfl
theorem _root_.Go.Proofs.YtieiiabbeglmfaaGreatDoor.S12.Pg.k1 (h : Pg w0 w base WB M r X) : w.cell? ⟨WB, 1, none⟩ = some (Pw X.kB) := by rw [← h.wB]; exact h.pw.c1
theorem _root_.Go.Proofs.YtieiiabbeglmfaaGreatDoor.S12.Pg.k4 (h : Pg w0 w base WB M r X) : w.cell? ⟨WB, 4, none⟩ = some X.ts := by rw [← h.wB]; exact h.pw.c4
theorem _root_.Go.Proofs.YtieiiabbeglmfaaGreatDoor.S12.Pg.clk (h : Pg w0 w base WB M r X) : Calls Tryz.prog 72 #[Pw X.kB] w fun e w' => e = .returned (.int .u64 (M.T : Nat)) ∧ w = w' := by
  have := S3.now_any h.pw.clock
  rwa [show X.T = M.T from congrArg Sd.T h.xm] at this
end
end Go.Proofs.YtieiiabbeglmfaaGreatDoor.S18
set_option linter.unusedVariables false
set_option linter.unusedSimpArgs false
namespace Go.Proofs.YtieiiabbeglmfaaGreatDoor.S18
set_option maxRecDepth 100000
set_option maxHeartbeats 16000000
open Go.Proofs.YtieiiabbeglmfaaGreatDoor Go.Proofs.YtieiiabbeglmfaaGreatDoor.S11 Go.Proofs.YtieiiabbeglmfaaGreatDoor.S12 Go.Proofs.YtieiiabbeglmfaaGreatDoor.S13 Go.Proofs.YtieiiabbeglmfaaGreatDoor.S14 Go.Proofs.YtieiiabbeglmfaaGreatDoor.S15 Go.Proofs.YtieiiabbeglmfaaGreatDoor.S16
open Go.RowKit
structure Ck where
  a : Nat
  all : Nat
  any : Nat
  clr : Nat
def Ck.cs (c : Ck) : Array Value := #[.int .u32 (c.a : Int), .int .u64 (c.all : Int), .int .u64 (c.any : Int), .int .u64 (c.clr : Int)]
def hkV : Option Ck → Value
  | none => .iface 118 (.agg #[])
  | some c => .iface 439 (.agg c.cs)
structure Pd where
  t : Nat
  k : Nat
  z : Nat
  on : Bool
  at' : Nat
  hk : Option Ck
def pkC (D : Pd) (pb pi : Int) (p b : Value) (o : Nat) : Array Value :=
  #[.int .i64 (D.t : Int), .int .u32 (D.k : Int), .int .u64 (D.z : Int), .bool D.on, .int .u64 (D.at' : Int), hkV D.hk, .int .i64 pb, .int .i64 pi, p, b, .int .u8 (o : Int)]
abbrev pkO (D : Pd) (pb pi : Int) (p b : Value) (o : Nat) : Obj := .cells (pkC D pb pi p b o) 125 (0, 0)
abbrev xO (B : Nat) : Obj := .cells #[Pw B] 32 (0, 0)
abbrev oneO (f : Fn) (bs cs : Array Value) (b : Bool) : Obj := .cells #[.func f bs cs, .bool b] 374 (0, 0)
abbrev fnV (f : Nat) (bs cs : Array Value) : Value := .func (.func f) bs cs
theorem perm_ok {l l' : Rows} (p : l'.Perm l) (hn : (l.map Prod.fst).Nodup) : (l'.map Prod.fst).Nodup := (List.Perm.nodup_iff (p.map Prod.fst)).2 hn
theorem eqI (T : TypeId) (v : Value) (w : World) : (binOp .eql 72 (.iface T v) .nilIface).run Tryz.prog w = .ok (.bool false) w := by kernel_rfl
theorem eqI0 (w : World) : (binOp .eql 72 .nilIface .nilIface).run Tryz.prog w = .ok (.bool true) w := by kernel_rfl
section
variable {w0 w w' : World} {base WB : Nat} {M : Sd} {r : List Part} {j e u B : Nat} {l l' : Rows} {X : Wm} {D : Pd} {pb pi : Int} {p b : Value} {o : Nat}
theorem _root_.Go.Proofs.YtieiiabbeglmfaaGreatDoor.S16.Wq.perm (h : Wq w0 w base WB M r j l X) (p : l'.Perm l) : Wq w0 w base WB M r j l' X := h.only (fun x hx => p.subset hx) (perm_ok p h.at.2)
theorem do_ (h : Wq w0 w base WB M r j l X) (hb : l[0]? = some (B, pkO D pb pi p b o)) (T : TypeId) (v : Value) (f : Fn) (bs cs : Array Value) :
    Calls Tryz.prog 100 #[Pw B, .iface T v, .func f bs cs] w fun e w' => e = .returned (.tuple #[]) ∧ Wq w0 w' base WB M r j (l.set 0 (B, pkO D pb pi (.iface T v) (.func f bs cs) o)) X := by
  have c8 : w.cell? ⟨B, 8, none⟩ = some p := cell_row (h.blk 0 hb) 8
  have c9 : w.cell? ⟨B, 9, none⟩ = some b := cell_row (h.blk 0 hb) 9
  have f8 := froz_row (h.blk 0 hb) 8
  have f9 := froz_row (h.blk 0 hb) 9
  have h1 := h.put 0 hb 8 (.iface T v) (cs' := pkC D pb pi (.iface T v) b o) rfl
  have h2 := h1.put 0 (List.getElem?_set_self (List.getElem?_eq_some_iff.1 hb).1) 9 (.func f bs cs) (cs' := pkC D pb pi (.iface T v) (.func f bs cs) o) rfl
  rw [List.set_set] at h2
  have H2 := Lib.hid h2
  have e1 := eqI T v
  clear h h1 h2 hb
  go_enter Tryz.func100, Tryz.ntmps100
  go_wp2_with fail
  go_end0
  exact ⟨rfl, H2.out⟩
theorem once_ (h : Wq w0 w base WB M r j l X) (hb : l[0]? = some (B, pkO D pb pi p b o)) (g : Fn) (gs gc : Array Value) (f : Fn) (bs cs : Array Value) :
    Calls Tryz.prog 185 #[Pw B, .func g gs gc, .func f bs cs] w fun e w' => e = .returned (.tuple #[]) ∧ Wq w0 w' base WB M r j ((l ++ [(w.heap.size, oneO g gs gc false)]).set 0 (B, pkO D pb pi (.iface 372 (Pw w.heap.size)) (.func f bs cs) o)) X := by
  have h1 := h.push (oneO g gs gc false)
  have HD := Lib.hid (do_ h1 (app1 hb) 372 (Pw w.heap.size) f bs cs)
  clear h h1 hb
  go_enter Tryz.func185, Tryz.ntmps185
  go_wp2_with (go_at_call 100; refine HD.out.mono ?_; rintro e w1 ⟨rfl, h2⟩)
  go_end0
  exact ⟨rfl, h2⟩
theorem end_ (h : Wq w0 w base WB M r j l X) (hb : l[0]? = some (B, pkO D pb pi p b o)) (n : Nat) :
    Calls Tryz.prog 190 #[Pw B, .int .u8 (n : Int)] w fun e w' => e = .returned (.tuple #[]) ∧ Wq w0 w' base WB M r j (l.set 0 (B, pkO D pb pi .nilIface .nilFunc n)) X := by
  have c8 : w.cell? ⟨B, 8, none⟩ = some p := cell_row (h.blk 0 hb) 8
  have c9 : w.cell? ⟨B, 9, none⟩ = some b := cell_row (h.blk 0 hb) 9
  have c10 : w.cell? ⟨B, 10, none⟩ = some (.int .u8 (o : Int)) := cell_row (h.blk 0 hb) 10
  have f8 := froz_row (h.blk 0 hb) 8
  have f9 := froz_row (h.blk 0 hb) 9
  have f10 := froz_row (h.blk 0 hb) 10
  have hlt := (List.getElem?_eq_some_iff.1 hb).1
  have h1 := h.put 0 hb 8 .nilIface (cs' := pkC D pb pi .nilIface b o) rfl
  have h2 := h1.put 0 (List.getElem?_set_self hlt) 9 .nilFunc (cs' := pkC D pb pi .nilIface .nilFunc o) rfl
  rw [List.set_set] at h2
  have h3 := h2.put 0 (List.getElem?_set_self hlt) 10 (.int .u8 (n : Int)) (cs' := pkC D pb pi .nilIface .nilFunc n) rfl
  rw [List.set_set] at h3
  have H3 := Lib.hid h3
  clear h h1 h2 h3 hb hlt
  go_enter Tryz.func190, Tryz.ntmps190
  go_wp2_with fail
  go_end0
  exact ⟨rfl, H3.out⟩
theorem lock_ (h : Wq w0 w base WB M r j l X) (hb : l[0]? = some (B, pkO D pb pi p b o)) :
    Calls Tryz.prog 221 #[Pw B] w fun e w' => e = .returned (.int .u32 (S10.lockZ pb pi)) ∧ Below w.heap.size w w' := by
  have c6 : w.cell? ⟨B, 6, none⟩ = some (.int .i64 pb) := cell_row (h.blk 0 hb) 6
  have c7 : w.cell? ⟨B, 7, none⟩ = some (.int .i64 pi) := cell_row (h.blk 0 hb) 7
  have HL := Lib.hid (lockOf_any pb pi w)
  clear h hb
  generalize S10.lockZ pb pi = a at *
  go_enter Tryz.func221, Tryz.ntmps221
  go_wp2_with (go_at_call 148; refine HL.out.mono ?_; rintro e w1 ⟨rfl, hb1⟩)
  go_ret
  exact ⟨rfl, hb1⟩
theorem free_ (h : Wq w0 w base WB M r j l X) (hb : l[0]? = some (B, pkO D pb pi p b o)) (hju : j ≠ u) (hu : u < r.length) {a : Nat} (hz : S10.lockZ pb pi = (a : Int)) (f : Fn) (bs cs : Array Value) :
    Calls Tryz.prog 188 #[Pw B, .func f bs cs] w fun e w' => e = .returned (.tuple #[]) ∧ ∃ U, Wq w0 w' base WB M (r.set u (freeP U (fr0 a))) j (l.set 0 (B, pkO D pb pi (.iface 73 (Pw U)) (.func f bs cs) o)) X := by
  have hl := lock_ h hb
  rw [hz] at hl
  have HL := Lib.hid hl; have HN := Lib.hid (fun W => new_free a W)
  have HD := Lib.hid (fun (W : World) (r' : List Part) (hW : Wq w0 W base WB M r' j l X) (U : Nat) => do_ hW hb 73 (Pw U) f bs cs)
  have HF := Lib.hid (fun (W : World) (hb : Below w.heap.size w W) => (h.new hb).newU hju hu (.cells (fr0 a).cs 343))
  clear h hb hju hu hz hl
  go_enter Tryz.func188, Tryz.ntmps188
  go_wp2_with (first
    | (go_at_call 221; refine HL.out.mono ?_; rintro e w1 ⟨rfl, hb1⟩; have h1 := HF.out w1 hb1; have H1 := Lib.hid h1; clear h1 hb1)
    | (go_at_call 147; refine (HN.out _).mono ?_; rintro e w2 ⟨rfl, rfl⟩)
    | (go_at_call 100; refine (HD.out _ _ H1.out _).mono ?_; rintro e w3 ⟨rfl, h3⟩))
  go_end0
  exact ⟨rfl, _, h3⟩
theorem leave_ (h : Wq w0 w base WB M r j l X) (hb : l[0]? = some (B, pkO D pb pi p b o)) (hju : j ≠ u) (hu : u < r.length) {a : Nat} (hz : S10.lockZ pb pi = (a : Int)) (n : Nat) :
    Calls Tryz.prog 158 #[Pw B, .int .u8 (n : Int)] w fun e w' => e = .returned (.tuple #[]) ∧ ∃ U XB OB, Wq w0 w' base WB M (r.set u (freeP U (fr0 a))) j [(B, pkO D pb pi (.iface 73 (Pw U)) (fnV 189 #[] #[Pw XB, Pw OB]) o), (XB, xO B), (OB, .cells #[.int .u8 (n : Int)] 50 (0, 0))] X := by
  have h1 := h.push (xO B)
  have h2 := h1.push (.cells #[.int .u8 (n : Int)] 50)
  rw [alloc_size] at h2
  have y0 : ((w.alloc (xO B)).alloc (.cells #[.int .u8 (n : Int)] 50)).cell? ⟨w.heap.size, 0, none⟩ = some (Pw B) := cell_row (h2.blk l.length (app1 (at_end _ _))) 0
  obtain ⟨XB, hX⟩ : ∃ XB, XB = w.heap.size := ⟨_, rfl⟩
  have hlt := (List.getElem?_eq_some_iff.1 hb).1
  have HF := Lib.hid (free_ h2 (app2 hb) hju hu hz (.func 189) #[] #[Pw w.heap.size, Pw (w.heap.size + 1)])
  rw [← hX] at y0 HF
  have HX := Lib.hid hX; have HLT := Lib.hid hlt
  clear h h1 h2 hb hju hu hz hX hlt
  go_enter Tryz.func158, Tryz.ntmps158
  go_upto_region 1 with fail
  rw [← HX.out]
  generalize (w.alloc (xO B)).alloc (.cells #[.int .u8 (n : Int)] 50) = w2 at *
  go_wp2_with (go_at_call 188; refine HF.out.mono ?_; rintro e w3 ⟨rfl, U, h3⟩)
  go_end0
  rw [List.append_assoc] at h3
  exact ⟨rfl, U, XB, XB + 1, h3.keep HLT.out⟩
theorem store_ (h : Wq w0 w base WB M r j l X) (hb : l[0]? = some (B, pkO D pb pi p b o)) :
    Calls Tryz.prog 156 #[Pw B] w fun e w' => e = .returned (.tuple #[]) ∧ ∃ XB NB, Wq w0 w' base WB M r j [(B, pkO D pb pi (.iface 372 (Pw NB)) (fnV 187 #[Pw B] #[]) o), (XB, xO B), (NB, oneO (.func 186) #[] #[Pw XB] false)] X := by
  have h1 := h.push (xO B)
  have y0 : (w.alloc (xO B)).cell? ⟨w.heap.size, 0, none⟩ = some (Pw B) := cell_row (h1.blk l.length (at_end _ _)) 0
  obtain ⟨XB, hX⟩ : ∃ XB, XB = w.heap.size := ⟨_, rfl⟩
  have hlt := (List.getElem?_eq_some_iff.1 hb).1
  have HF := Lib.hid (once_ h1 (app1 hb) (.func 186) #[] #[Pw w.heap.size] (.func 187) #[Pw B] #[])
  rw [← hX] at y0 HF
  have HX := Lib.hid hX; have HLT := Lib.hid hlt
  clear h h1 hb hX hlt
  go_enter Tryz.func156, Tryz.ntmps156
  go_upto_region 1 with fail
  rw [← HX.out]
  generalize w.alloc (xO B) = w2 at *
  go_wp2_with (go_at_call 185; refine HF.out.mono ?_; rintro e w3 ⟨rfl, h3⟩)
  go_end0
  rw [List.append_assoc] at h3
  exact ⟨rfl, XB, _, h3.keep HLT.out⟩
theorem queue_ (h : Wq w0 w base WB M r j l X) (hb : l[0]? = some (B, pkO D pb pi p b o)) :
    Calls Tryz.prog 187 #[Pw B] w fun e w' => e = .returned (.tuple #[]) ∧ ∃ XB NB, Wq w0 w' base WB M r j [(B, pkO D pb pi (.iface 372 (Pw NB)) (fnV 219 #[] #[Pw XB]) o), (XB, xO B), (NB, oneO (.func 214) #[] #[Pw XB] false)] X := by
  have h1 := h.push (xO B)
  have y0 : (w.alloc (xO B)).cell? ⟨w.heap.size, 0, none⟩ = some (Pw B) := cell_row (h1.blk l.length (at_end _ _)) 0
  obtain ⟨XB, hX⟩ : ∃ XB, XB = w.heap.size := ⟨_, rfl⟩
  have hlt := (List.getElem?_eq_some_iff.1 hb).1
  have HF := Lib.hid (once_ h1 (app1 hb) (.func 214) #[] #[Pw w.heap.size] (.func 219) #[] #[Pw w.heap.size])
  rw [← hX] at y0 HF
  have HX := Lib.hid hX; have HLT := Lib.hid hlt
  clear h h1 hb hX hlt
  go_enter Tryz.func187, Tryz.ntmps187
  go_upto_region 1 with fail
  rw [← HX.out]
  generalize w.alloc (xO B) = w2 at *
  go_wp2_with (go_at_call 185; refine HF.out.mono ?_; rintro e w3 ⟨rfl, h3⟩)
  go_end0
  rw [List.append_assoc] at h3
  exact ⟨rfl, XB, _, h3.keep HLT.out⟩
theorem queue2_ {XB : Nat} {k : Nat} (h : Wq w0 w base WB M r j l X) (hb : l[0]? = some (B, pkO D pb pi p b o)) (hx : l[k]? = some (XB, xO B)) (hju : j ≠ u) (hu : u < r.length) {a : Nat} (hz : S10.lockZ pb pi = (a : Int)) :
    Calls Tryz.prog 219 #[Pw XB] w fun e w' => e = .returned (.tuple #[]) ∧ ∃ U, Wq w0 w' base WB M (r.set u (freeP U (fr0 a))) j [(B, pkO D pb pi (.iface 73 (Pw U)) (fnV 220 #[Pw B] #[]) o)] X := by
  have y0 : w.cell? ⟨XB, 0, none⟩ = some (Pw B) := cell_row (h.blk k hx) 0
  have hlt := (List.getElem?_eq_some_iff.1 hb).1
  have HF := Lib.hid (free_ h hb hju hu hz (.func 220) #[Pw B] #[])
  have HLT := Lib.hid hlt
  clear h hb hx hju hu hz hlt
  go_enter Tryz.func219, Tryz.ntmps219
  go_wp2_with (go_at_call 188; refine HF.out.mono ?_; rintro e w3 ⟨rfl, U, h3⟩)
  go_end0
  have h4 := (show Wq w0 w3 base WB M (r.set u (freeP U (fr0 a))) j ((l ++ []).set 0 (B, pkO D pb pi (.iface 73 (Pw U)) (fnV 220 #[Pw B] #[]) o)) X by rw [List.append_nil]; exact h3).keep HLT.out
  exact ⟨rfl, U, h4⟩
end
end Go.Proofs.YtieiiabbeglmfaaGreatDoor.S18
