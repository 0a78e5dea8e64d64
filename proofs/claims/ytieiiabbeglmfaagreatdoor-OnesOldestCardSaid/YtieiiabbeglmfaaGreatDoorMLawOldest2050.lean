/- Texts of this seat, one behind the other. -/
import Derived.Test.YtieiiabbeglmfaaGreatDoorMLawOldest201
import Derived.Test.YtieiiabbeglmfaaGreatDoorMLawOldest2048
import Derived.Test.YtieiiabbeglmfaaGreatDoorMLawOldest2049
import Derived.LoopTactic
import Derived.Deep.LoopGhost
import Derived.Laws.MakeOwn
import Derived.BigQuiet
import Derived.Deep.QuietTactic
import Derived.Deep.RegionHeld
set_option linter.unusedVariables false
set_option linter.unusedSimpArgs false
set_option linter.unusedVariables false
set_option linter.unusedSimpArgs false
namespace Go.Proofs.YtieiiabbeglmfaaGreatDoor.S19
set_option maxRecDepth 100000
set_option maxHeartbeats 16000000
open Go.Proofs.YtieiiabbeglmfaaGreatDoor Go.Proofs.YtieiiabbeglmfaaGreatDoor.S11 Go.Proofs.YtieiiabbeglmfaaGreatDoor.S12 Go.Proofs.YtieiiabbeglmfaaGreatDoor.S13 Go.Proofs.YtieiiabbeglmfaaGreatDoor.S14 Go.Proofs.YtieiiabbeglmfaaGreatDoor.S15 Go.Proofs.YtieiiabbeglmfaaGreatDoor.S16 Go.Proofs.YtieiiabbeglmfaaGreatDoor.S18
open Go.RowKit
theorem infoB : ∃ i, Tryz.prog.info? 4 = some i ∧ i.zero = some (.bool false) ∧ i.size = 1 ∧ i.bytes = 1 := S10.info_of (by kernel_rfl)
theorem makeG (n : Nat) (hn : n ≤ 65536) (w : World) : (Instr.makeSlice 86 (.int .i64 (n : Int)) (.int .i64 (n : Int))).run Tryz.prog w = .ok (.slice (some ⟨w.heap.size, 0, none⟩) n n) (w.alloc (.cells (gV n (fun _ => false)) 4)) := by
  obtain ⟨i, hi, hz, hsz, hby⟩ := infoB
  have hr := run_make (P := Tryz.prog) w 86 4 i (.bool false) Tryz.underlying86 hi hz .i64 .i64 n n (by omega) (Int.le_refl _) (by rw [hby]; omega) (by omega)
  simp only [Int.toNat_natCast, hsz] at hr
  rw [hr, gV_0]
  have hm : madeCells (Value.bool false).cells (n * 1) = (List.replicate n (Value.bool false)).toArray := by
    apply Array.ext
    · simp [madeCells]
    · intro j h1 h2
      simp [madeCells, Value.cells, Nat.mod_one]
  rw [hm]
abbrev hO (s6 : Value) (n : Nat) (Bs : List Nat) (GB : Nat) (G : Nat → Bool) (up : Part) : List Part := [intsP s6 n (ptrs Bs), rowsP [(GB, .cells (gV n G) 4 (0, 0))], up]
section
variable {w0 w w' : World} {base WB : Nat} {M : Sd} {L : List Rows} {H : List Part} {GB n : Nat} {G : Nat → Bool} {s6 : Value} {Bs : List Nat} {up : Part}
theorem hO_blk (h : AllS w0 w base WB M (hO s6 n Bs GB G up) L) : w.heap[GB]? = some (.cells (gV n G) 4 (0, 0)) := by
  have hp := h.partH (a := 1) rfl
  exact hp.1 (GB, _) List.mem_cons_self
theorem hO_mark (h : AllS w0 w base WB M (hO s6 n Bs GB G up) L) (x : Nat) : AllS w0 (w.setCell ⟨GB, x, none⟩ (.bool true)) base WB M (hO s6 n Bs GB (gset G x) up) L := by
  have hb := hO_blk h
  have hb' := row_set hb x (.bool true)
  rw [gV_set] at hb'
  exact h.turnH (a := 1) rfl (rowsP [(GB, .cells (gV n (gset G x)) 4 (0, 0))]) ⟨fun y hy => by rw [List.mem_singleton] at hy; rw [hy]; exact hb', by simp⟩ ((Turns.refl (fun k => k = GB) w).setCell ⟨GB, x, none⟩ _ rfl |>.mono (fun k _ e => by subst e; simp [rowsP])) (fun k e => .inl (by simpa [rowsP] using e))
end
theorem sdx (b : Int) (hb : b ≠ 2) : (sdN 0 5).m b = [] := by
  show S10.upd (fun _ => ([] : List S10.Bk)) 2 (S10.fresh 0 (List.replicate 4 [])) b = []
  exact S10.upd_ne _ _ hb
theorem law_oldest {A Aq : Option Addr} {c cq : Nat} {ks qs : List Nat} (w : World) (hT : Tab w) (hb0 : 0 < w.heap.size) (hin : ∀ i, i < ks.length → ∃ g o, A = some ⟨g, o, none⟩ ∧ g < w.heap.size ∧ w.cell? ⟨g, o + i, none⟩ = some (.int .u8 (ks[i]! : Int))) (h256 : ∀ i, i < ks.length → ks[i]! < 256)
    (hinq : ∀ i, i < qs.length → ∃ g o, Aq = some ⟨g, o, none⟩ ∧ g < w.heap.size ∧ w.cell? ⟨g, o + i, none⟩ = some (.int .u8 (qs[i]! : Int))) (h256q : ∀ i, i < qs.length → qs[i]! < 256) :
    Calls Tryz.prog 5 #[.slice A ks.length c, .slice Aq qs.length cq] w fun e w' => e = .returned (.bool true) ∧ Below w.heap.size w w' := by
  have HW := Lib.hid (fun W => world_any 0 (by omega) W)
  have HLV : Hid (∀ W, Below w.heap.size w W → Calls Tryz.prog 26 #[] W fun e w' => e = .returned (.bool true) ∧ Below W.heap.size W w') := Lib.hid (fun W hW => lives19 W (hT.below hW hb0) (Nat.lt_of_lt_of_le hb0 hW.size))
  have HT := Lib.hid (And.intro hT hb0); have HIN := Lib.hid hin; have H256 := Lib.hid h256; have HINQ := Lib.hid hinq; have H256Q := Lib.hid h256q
  obtain ⟨n, hnn⟩ : ∃ n, n = ks.length := ⟨_, rfl⟩
  obtain ⟨m, hmm⟩ : ∃ m, m = qs.length := ⟨_, rfl⟩
  rw [← hnn] at HIN H256 ⊢
  rw [← hmm] at HINQ H256Q ⊢
  have HN := Lib.hid hnn; have HM := Lib.hid hmm
  clear hT hb0 hin h256 hinq h256q hnn hmm
  go_enter Tryz.func5, Tryz.ntmps5
  go_upto_region 2 with (go_at_call 9; refine (HW.out _).mono ?_; rintro e w1 ⟨X, rfl, hp, h0, hb1⟩; have HX := Lib.hid (And.intro hp (And.intro h0 hb1)); clear hp h0 hb1)
  by_cases h20 : 20 < n
  · have d1 : decide ((20 : Int) < (n : Int)) = true := decide_eq_true (by omega)
    have d2 : decide (20 < n) = true := decide_eq_true h20
    go_wp2_with (go_at_call 26; refine (HLV.out _ HX.out.2.2).mono ?_; rintro e w2 ⟨rfl, hb2⟩; have HB2 := Lib.hid (HX.out.2.2.trans (hb2.mono HX.out.2.2.size)); clear hb2)
    go_ret
    exact ⟨rfl, HB2.out⟩
  have d1 : decide ((20 : Int) < (n : Int)) = false := decide_eq_false (by omega)
  have d2 : decide (20 < n) = false := decide_eq_false h20
  by_cases h30 : 30 < m
  · have d3 : decide ((30 : Int) < (m : Int)) = true := decide_eq_true (by omega)
    have d4 : decide (30 < m) = true := decide_eq_true h30
    go_wp2_with (go_at_call 26; refine (HLV.out _ HX.out.2.2).mono ?_; rintro e w2 ⟨rfl, hb2⟩; have HB2 := Lib.hid (HX.out.2.2.trans (hb2.mono HX.out.2.2.size)); clear hb2)
    go_ret
    exact ⟨rfl, HB2.out⟩
  have d3 : decide ((30 : Int) < (m : Int)) = false := decide_eq_false (by omega)
  have d4 : decide (30 < m) = false := decide_eq_false h30
  have hpg := pg_of HX.out.1 HX.out.2.2
  rw [at0_sd HX.out.2.1] at hpg
  obtain ⟨WB, hWB⟩ : ∃ WB, WB = X.wB := ⟨_, rfl⟩
  rw [← hWB] at hpg
  rw [← hWB]
  have h1 := (((AllS.first hpg).addH noP (Below.refl _ _) trivial (fun k e => e.elim)).addH noP (Below.refl _ _) trivial (fun k e => e.elim)).addH noP (Below.refl _ _) trivial (fun k e => e.elim)
  have H1 : Hid (AllS w w1 w.heap.size WB (sdN 0 5) [noP, noP, noP] []) := Lib.hid h1
  have HLE := Lib.hid (And.intro h20 h30)
  have hsl := sleeping_any (A := A) (c := c) (ks := ks) HT.out.1 HT.out.2 H1.out wn0 (by omega) (by have := HN.out; omega) (by rw [← HN.out]; exact H256.out) (fun W M' p L' h i hi => by
    obtain ⟨g, o, e, hg, hc⟩ := HIN.out i (by rw [HN.out]; exact hi)
    exact ⟨g, o, e, (h.bl.cell (p := ⟨g, o + i, none⟩) hg).trans hc⟩)
  rw [← HN.out] at hsl
  have HSLP : Hid (Calls Tryz.prog 27 #[Pw WB, .slice A n c] w1 _) := Lib.hid hsl
  clear h1 hpg hWB HX HW h20 h30 hsl
  go_upto_region 5 with (go_at_call 27; refine HSLP.out.mono ?_; rintro e w2 ⟨v, M, L, Bs, rfl, h2, hs2, hw2, hpf2, htk2, hmx2, -, -⟩; have H2 := Lib.hid h2; have HS2 := Lib.hid hs2; have HW2 := Lib.hid (And.intro hw2 (And.intro hpf2 hmx2)); clear h2 hs2 hw2 hpf2 htk2 hmx2)
  clear HSLP d1 d2 d3 d4
  have hr0 : S10.Row w2 0 1 v n (ptrs Bs) := H2.out.partH (a := 0) rfl
  obtain ⟨A6, c6, hs6, h6c, h6m⟩ := hr0.shape
  subst hs6
  clear hr0
  have hmk := makeG n (by have := HLE.out; omega)
  have HOK : Hid (OkO ks (fun _ => false) M (10 * n)) := Lib.hid ⟨by have h := HW2.out.1; rw [show sQ ks n = sQg ks (fun _ => false) from by rw [HN.out]; exact sQ_sQg ks] at h; exact h.mono (by omega), fun b hb => (HW2.out.2.2 b hb).trans (sdx b hb), fun i hi => (HW2.out.2.1 i (by rw [HN.out]; exact hi)).trans rfl⟩
  have HSG : Hid (SlG ks (fun _ => false) L Bs) := Lib.hid ⟨HS2.out.2.1.trans HN.out, fun i hi _ => HS2.out.2.2 i (by rw [HN.out]; exact hi)⟩
  go_upto_region 8 with fail
  have h3 := H2.out.setB (a := 1) rfl (.cells (gV n (fun _ => false)) 4)
  obtain ⟨GB, hGB⟩ : ∃ GB, GB = w2.heap.size := ⟨_, rfl⟩
  rw [← hGB] at h3 ⊢
  have H3 : Hid (AllS w _ w.heap.size WB M (hO (.slice A6 n c6) n Bs GB (fun _ => false) noP) L) := Lib.hid h3
  clear h3 hGB hmk
  generalize w2.alloc (.cells (gV n (fun _ => false)) 4) = w3 at *
  clear HS2 HW2 H2
  go_wp2_with fail
  go_loopg [8, 9, 10, 11, 12, 13, 14, 15, 16, 17] m (fun q s8 s9 s10 s11 s12 s13 s14 s15 s16 s17 wx => ∃ (i : Nat) (M : Sd) (G : Nat → Bool) (L : List Rows) (up : Part), i ≤ m ∧ q = m - i ∧ s8 = .int .i64 (i : Int) ∧ AllS w wx w.heap.size WB M (hO (.slice A6 n c6) n Bs GB G up) L ∧ SlG ks G L Bs ∧ OkO ks G M (10 * n + 30 * i))
  case atStart => exact ⟨0, M, _, L, noP, by omega, by omega, rfl, H3.out, HSG.out, HOK.out⟩
  case round =>
    obtain ⟨i, M, G, L, up, hi, rfl, rfl, ha, hs, hok⟩ := hrel
    have HA := Lib.hid ha; have HS := Lib.hid hs; have HOK := Lib.hid hok; have HI0 := Lib.hid hi
    clear ha hs hok
    by_cases hin : i < m
    · have d1 : decide ((i : Int) < (m : Int)) = true := decide_eq_true (by omega)
      have d2 : decide (i < m) = true := decide_eq_true hin
      have HI := Lib.hid hin
      obtain ⟨gq, oq, rfl, hgq, hcq0⟩ := HINQ.out i hin
      obtain ⟨a, haa⟩ : ∃ a, a = qs[i]! := ⟨_, rfl⟩
      have ha256 := H256Q.out i hin
      rw [← haa] at hcq0 ha256
      have HCQ : Hid (∀ W, Below w.heap.size w W → W.cell? ⟨gq, oq + i, none⟩ = some (.int .u8 (a : Int))) := Lib.hid (fun W hW => (hW.cell (p := ⟨gq, oq + i, none⟩) hgq).trans hcq0)
      have hcq := HCQ.out _ HA.out.bl
      obtain ⟨am, ham⟩ : ∃ am, am = a % 4 := ⟨_, rfl⟩
      obtain ⟨k4, hk4⟩ : ∃ k4, k4 = 4 * am := ⟨_, rfl⟩
      have HY : Hid (((a : Int).tmod 4 = (am : Int) ∧ (a : Int) % 4 = (am : Int) ∧ IntKind.u8.wrap (am : Int) = (am : Int)) ∧ IntKind.u32.wrap (am : Int) = (am : Int) ∧ IntKind.u32.wrap (4 * (am : Int)) = (k4 : Int) ∧ IntKind.u32.wrap (1152 + (k4 : Int)) = ((kyN a : Nat) : Int)) := Lib.hid ⟨⟨by rw [Int.tmod_eq_emod_of_nonneg (by omega)]; omega, by omega, by rw [IntKind.wrap_u8]; omega⟩, by rw [IntKind.wrap_u32]; omega, by rw [IntKind.wrap_u32]; omega, by rw [IntKind.wrap_u32]; unfold kyN; omega⟩
      have HAM := Lib.hid ham
      clear hk4 ham
      clear hgq hcq0 haa ha256 hi
      have e0 : wrap64 ((n : Int) - 1) = (n : Int) - 1 := by unfold wrap64; have := HLE.out; omega
      have e0' : IntKind.i64.wrap ((n : Int) - 1) = (n : Int) - 1 := by rw [IntKind.wrap_i64]; have := HLE.out; omega
      go_wp2_with fail
      clear d1 d2 hin
      obtain ⟨wo, rfl⟩ : ∃ wo : World, wo = wr := ⟨_, rfl⟩
      go_loopg [9, 10, 11] n (fun q s9 s10 s11 wy => ∃ j : Nat, j ≤ n ∧ q = j ∧ s11 = .int .i64 ((j : Int) - 1) ∧ s9 = .int .i64 (hdZ (wS ks G a j)) ∧ s10 = .bool (decide (2 ≤ (wS ks G a j).length)) ∧ Below wo.heap.size wo wy)
      case atStart => exact ⟨n, Nat.le_refl _, rfl, by first | rfl | (rw [e0]), by rw [HN.out, wS_end]; rfl, by rw [HN.out, wS_end]; rfl, Below.refl _ _⟩
      case round =>
        obtain ⟨j, hj, hqj, hs11, rfl, rfl, hby⟩ := hrel
        have hqj' := hqj.symm
        subst hqj'
        have HBY := Lib.hid hby
        clear hby
        rcases j with _ | j
        · subst hs11
          have d1 : decide ((0 : Int) ≤ ((0 : Nat) : Int) - 1) = false := decide_eq_false (by omega)
          have d1' : decide ((0 : Int) ≤ 0 - 1) = false := decide_eq_false (by omega)
          have HA1 := Lib.hid (HA.out.new HBY.out)
          have hcq := HCQ.out _ HA1.out.bl
          obtain ⟨⟨y1, y1', y2⟩, y3, y4, y5⟩ := HY.out
          have y6 : IntKind.u64.wrap (i : Int) = (i : Int) := by rw [IntKind.wrap_u64]; have := HI.out; have := HLE.out; omega
          have y7 : IntKind.u64.wrap ((i : Int) + 50) = ((i + 50 : Nat) : Int) := by rw [IntKind.wrap_u64]; have := HI.out; have := HLE.out; omega
          have hk50 : 10 * n + 30 * i ≤ 50000 := by have := HI.out; have := HLE.out; omega
          have hn60 : ks.length ≤ 60 := by have := HN.out; have := HLE.out; omega
          have HN64 : Hid (n ≤ 64) := Lib.hid (by have := HLE.out; omega)
          have hone := HA1.out.one (v := .iface 81 (.int .u64 ((i + 50 : Nat) : Int))) (D := ⟨63, kyN a, i + 50⟩) (.inl rfl) (by show 63 < 64; omega) (kyN_lt a) (by show i + 50 < 18446744073709551616; have := HI.out; have := HLE.out; omega)
          have HONE : Hid (Calls Tryz.prog 19 #[.int .i64 63, .int .u32 ((kyN a : Nat) : Int), .iface 81 (.int .u64 ((i + 50 : Nat) : Int))] wr _) := Lib.hid hone
          have HRN := Lib.hid (fun (hW : wS ks G a 0 = []) (W : World) (B : Nat) (h : OnR w W w.heap.size WB M (rs (hO (.slice A6 n c6) n Bs GB G up) (L ++ [[]])) (2 + (hO (.slice A6 n c6) n Bs GB G up).length + L.length) 0 1 (on0 ⟨63, kyN a, i + 50⟩) B) => ask_no_ (most := 40) (a := a) HT.out.1 HT.out.2 HOK.out hk50 hn60 rfl hW (by omega) h)
          have HRY := Lib.hid (fun (x : Nat) (l : List Nat) (hW : wS ks G a 0 = x :: l) (W : World) (B : Nat) (h : OnR w W w.heap.size WB M (rs (hO (.slice A6 n c6) n Bs GB G up) (L ++ [[]])) (2 + (hO (.slice A6 n c6) n Bs GB G up).length + L.length) 0 1 (on0 ⟨63, kyN a, i + 50⟩) B) => ask_yes_ (most := 40) (a := a) HT.out.1 HT.out.2 HOK.out hk50 hn60 rfl hW (by omega) h)
          clear hone hk50 hn60 hj
          generalize kyN a = ky at y5 HONE HRN HRY
          go_upto_region 20 with (go_at_call 19; refine HONE.out.mono ?_; rintro e w4 ⟨B1, rfl, h4⟩; have H4 := Lib.hid h4; clear h4)
          clear HONE y1 y1' y2 y3 y4 y5 y6 y7 d1 d1' hcq
          obtain ⟨W0, hW0⟩ : ∃ W0, W0 = wS ks G a 0 := ⟨_, rfl⟩
          rw [← hW0]
          cases W0 with
          | nil =>
            have HWW := Lib.hid hW0.symm
            clear hW0
            have hrun := HRN.out HWW.out _ _ H4.out
            rw [show hdZ [] = -1 from rfl, show decide (2 ≤ ([] : List Nat).length) = false from rfl]
            have HRUN : Hid (Calls Tryz.prog 16 #[Pw WB, .iface 76 (Pw B1), .int .i64 40] w4 _) := Lib.hid hrun
            clear hrun HRN HRY
            go_upto_region 23 with (first
              | (go_at_call 16; refine HRUN.out.mono ?_; rintro e w5 ⟨rfl, M5, P5, h5, p1, p2, ok5⟩; have hg := h5.got p2; rw [p1] at hg; have HG : Hid (Calls Tryz.prog 22 #[Pw B1] w5 fun e w' => e = .returned (.agg #[.int .i64 0, .int .i64 0, .bool false, .bool false, .int .i64 (-1)]) ∧ Below w5.heap.size w5 w') := Lib.hid hg; have H5 := Lib.hid h5; have HK5 := Lib.hid ok5; clear hg h5 p1 p2 ok5)
              | (go_at_call 22; refine HG.out.mono ?_; rintro e w6 ⟨rfl, hb6⟩; have H6 := Lib.hid (AllS.done (H5.out.new hb6)); clear hb6))
            have h7 := H6.out.setB (a := 2) rfl (.cells #[.int .i64 0, .int .i64 0, .bool false, .bool false, .int .i64 (-1)] 69)
            obtain ⟨RB, hRB⟩ : ∃ RB, RB = w6.heap.size := ⟨_, rfl⟩
            rw [← hRB] at h7 ⊢
            have H7 : Hid (AllS w _ w.heap.size WB M5 (hO (.slice A6 n c6) n Bs GB G (rowsP [(RB, .cells #[.int .i64 0, .int .i64 0, .bool false, .bool false, .int .i64 (-1)] 69)])) L) := Lib.hid h7
            clear h7 hRB HG HRUN
            generalize w6.alloc (.cells #[.int .i64 0, .int .i64 0, .bool false, .bool false, .int .i64 (-1)] 69) = wB at *
            have hbk : wB.heap[RB]? = some (.cells #[.int .i64 0, .int .i64 0, .bool false, .bool false, .int .i64 (-1)] 69) := by
              have hp := H7.out.partH (a := 2) rfl
              exact hp.1 (RB, _) List.mem_cons_self
            have r0 := cell_row hbk 0; have r2 := cell_row hbk 2; have r4 := cell_row hbk 4
            clear hbk
            have hn100 : ∀ b, (sQg ks G b).length ≤ 100 := fun b => Nat.le_trans (sQg_len ks _ b) (by have := HN.out; have := HLE.out; omega)
            obtain ⟨ps, hps⟩ := H7.out.goes
            obtain ⟨ts, hts⟩ := H7.out.places HK5.out.wn hn100 HK5.out.mx
            have HF : Hid (∀ W, Below wB.heap.size wB W → (∀ k, k < n → W.cell? ⟨WB, 2, none⟩ = some ps ∧ W.cell? ⟨WB, 4, none⟩ = some ts ∧ W.cell? ⟨GB, k, none⟩ = some (.bool (G k))) ∧ (∀ (t : Nat) (x : S4.Pk) (b : Bool), t < 64 → M5.pf (2 * t) = x → Gos x b → Calls Tryz.prog 28 #[ps, .int .i64 ((2 * t : Nat) : Int), .int .u64 0] W fun e w' => e = .returned (.bool b) ∧ Below W.heap.size W w') ∧ ∀ t : Int, Calls Tryz.prog 30 #[ts, .int .i64 t] W fun e w' => ∃ A, e = .returned (.slice A (cnt4 (sQg ks G) t) (cnt4 (sQg ks G) t)) ∧ Below W.heap.size W w') := Lib.hid (fun W hb => ⟨fun k hk => ⟨(hps W hb).1, (hts W hb).1, (cell_row (hO_blk (H7.out.new hb)) k).trans (gV_at hk)⟩, (hps W hb).2, (hts W hb).2⟩)
            clear hps hts hn100
            have HGOS : Hid (∀ k, k < n → ∃ xk, M5.pf (2 * k) = xk ∧ Gos xk (decide ((k : Int) = -1) || G k)) := Lib.hid (fun k hk => ⟨_, HK5.out.pf k (by rw [← HN.out]; exact hk), by
              rw [decide_eq_false (by omega), Bool.false_or]
              cases G k
              · exact .inr (.inl ⟨if_neg (by decide), rfl⟩)
              · exact .inl ⟨if_pos rfl, rfl⟩⟩)
            have HCN : Hid (∀ k, k < n → G k = false → ¬ (k : Int) = -1 → cnt4 (sQg ks G) (k : Int) = 1) := Lib.hid (fun k hk hg _ => (sQg_pos ks G k).trans (if_pos ⟨by rw [← HN.out]; exact hk, hg⟩))
            have HGZ : Hid (∀ k, k < n → (k : Int) = -1 → G k = false) := Lib.hid (fun k hk e => by omega)
            have HLOT := Lib.hid (fun (k : Nat) (hk : k < n) W => lot_any k (Nat.lt_of_lt_of_le hk HN64.out) W)
            go_wp2_with fail
            go_loopg [14] n (fun q s14 wy => ∃ k : Nat, k ≤ n ∧ q = n - k ∧ s14 = .int .i64 (k : Int) ∧ Below wB.heap.size wB wy)
            case atStart => exact ⟨0, by omega, by omega, rfl, Below.refl _ _⟩
            case round =>
              obtain ⟨k, hk, rfl, rfl, hb⟩ := hrel
              have HB := Lib.hid hb
              clear hb
              by_cases hkn : k < n
              · have d1 : decide ((k : Int) < (n : Int)) = true := decide_eq_true (by omega)
                have d2 : decide (k < n) = true := decide_eq_true hkn
                have HKN := Lib.hid hkn
                obtain ⟨xk, hxk, hgk⟩ := HGOS.out k hkn
                have HXK := Lib.hid hxk
                clear hxk hk
                have hkI : (k : Int) < (n : Int) := by omega
                go_wp2_with fail
                clear d1 d2
                by_cases hz : (k : Int) = (-1)
                · exact absurd hz (by omega)
                · have e1 : decide ((k : Int) = (-1)) = false := decide_eq_false hz
                  have e2 : ((k : Int) == (-1)) = false := beq_false_of_ne hz
                  rw [e1, Bool.false_or] at hgk
                  have HZ := Lib.hid hz
                  clear hz
                  by_cases hGk : G k = true
                  · have HGK : Hid (Gos xk true) := Lib.hid (by rw [hGk] at hgk; exact hgk)
                    clear hgk
                    refine wp_region_held_drew (S := fun w' => w'.cell? ⟨WB, 2, none⟩ = some ps ∧ w'.cell? ⟨WB, 4, none⟩ = some ts ∧ w'.cell? ⟨GB, k, none⟩ = some (.bool (G k))) (by kernel_rfl) ?_ (fun hHeld => ?_)
                    · exact (HF.out _ (HB.out.trans ((Below.refl _ _).drew.mono HB.out.size))).1 k HKN.out
                    refine tA 0 ⟨some 130, .move (.tmp 5), 24, "outright.go:78", #[], none⟩ ?vqabm1 ?rqabm1
                    (try simp only [Act.put, tC, tD, tE])
                    refine tA 1 ⟨some 131, .nilCheck (.tmp 130), 0, "outright.go:78", #[⟨0, .data⟩], none⟩ ?vqabm2 ?rqabm2
                    (try simp only [Act.put, tC, tD, tE])
                    refine tA 2 ⟨some 132, .fieldAddr 47 (.tmp 131) 2, 0, "outright.go:78", #[⟨1, .data⟩], none⟩ ?vqabm3 ?rqabm3
                    (try simp only [Act.put, tC, tD, tE])
                    refine tA 3 ⟨some 133, .load 41 (.tmp 132), 41, "outright.go:78", #[⟨2, .data⟩], none⟩ ?vqabm4 ?rqabm4
                    (try simp only [Act.put, tC, tD, tE])
                    refine tA 4 ⟨some 134, .move (.tmp 14), 3, "outright.go:78", #[], none⟩ ?vqabm5 ?rqabm5
                    (try simp only [Act.put, tC, tD, tE])
                    refine tA 7 ⟨some 137, .move (.tmp 14), 3, "outright.go:78", #[], none⟩ ?vqabm6 ?rqabm6
                    (try simp only [Act.put, tC, tD, tE])
                    refine tA 8 ⟨some 138, .move (.tmp 9), 3, "outright.go:78", #[], none⟩ ?vqabm7 ?rqabm7
                    (try simp only [Act.put, tC, tD, tE])
                    refine tA 9 ⟨some 139, .binOp .eql 3 (.tmp 137) (.tmp 138) 3, 4, "outright.go:78", #[⟨7, .data⟩, ⟨8, .data⟩], none⟩ ?vqabm8 ?rqabm8
                    (try simp only [Act.put, tC, tD, tE])
                    refine wpAnyH_ready (rs := [5]) (by kernel_rfl) (by simp) ?_
                    refine AllReadyH.cons (o := ⟨some 135, .call ⟨.value (.func 29), #[.tmp 134], #[3]⟩, 3, "outright.go:78", #[⟨4, .data⟩], none⟩) rfl (fun Kq hKq => ?_) AllReadyH.nil
                    go_simp
                    (refine (HLOT.out k HKN.out _).mono ?_; rintro e' w5 ⟨rfl, rfl⟩)
                    refine hKq.out _ _ ?_ (fun hHeld => ?_)
                    · exact hHeld
                    clear hKq Kq
                    (try simp only [Act.put, tC, tD, tE])
                    refine wpAnyH_ready (rs := [6]) (by kernel_rfl) (by simp) ?_
                    refine AllReadyH.cons (o := ⟨some 136, .call ⟨.value (.func 28), #[.tmp 133, .tmp 135, .const (.int .u64 0)], #[41, 3, 23]⟩, 4, "outright.go:78", #[⟨3, .data⟩, ⟨5, .data⟩, ⟨5, .chain⟩], none⟩) rfl (fun Kq hKq => ?_) AllReadyH.nil
                    go_simp
                    (refine ((HF.out _ (HB.out.trans ((Below.refl _ _).drew.mono HB.out.size))).2.1 k _ _ (Nat.lt_of_lt_of_le HKN.out HN64.out) HXK.out HGK.out).mono ?_; rintro e' w6 ⟨rfl, hb6⟩; have HB6 := Lib.hid ((HB.out.trans ((Below.refl _ _).drew.mono HB.out.size)).trans (hb6.mono (HB.out.trans ((Below.refl _ _).drew.mono HB.out.size)).size)); clear hb6)
                    refine hKq.out _ _ ?_ (fun hHeld => ?_)
                    · exact (HF.out _ HB6.out).1 k HKN.out
                    clear hKq Kq
                    (try simp only [Act.put, tC, tD, tE])
                    refine tA 10 ⟨some 140, .move (.tmp 139), 4, "outright.go:78", #[⟨9, .data⟩, ⟨6, .chain⟩], none⟩ ?vqabm9 ?rqabm9
                    (try simp only [Act.put, tC, tD, tE])
                    refine tA 11 ⟨some 141, .move (.tmp 7), 86, "outright.go:78", #[⟨10, .guard⟩], some (10, false)⟩ ?vqabm10 ?rqabm10
                    (try simp only [Act.put, tC, tD, tE])
                    refine tA 12 ⟨some 142, .move (.tmp 14), 3, "outright.go:78", #[⟨10, .guard⟩], some (10, false)⟩ ?vqabm11 ?rqabm11
                    (try simp only [Act.put, tC, tD, tE])
                    refine tA 13 ⟨some 143, .indexAddr 86 (.tmp 141) (.tmp 142), 0, "outright.go:78", #[⟨11, .data⟩, ⟨12, .data⟩, ⟨10, .guard⟩], some (10, false)⟩ ?vqabm12 ?rqabm12
                    (try simp only [Act.put, tC, tD, tE])
                    refine tA 14 ⟨some 144, .load 4 (.tmp 143), 4, "outright.go:78", #[⟨13, .data⟩, ⟨10, .guard⟩], some (10, false)⟩ ?vqabm13 ?rqabm13
                    (try simp only [Act.put, tC, tD, tE])
                    refine tA 15 ⟨some 145, .pick (.tmp 140) (.const (.bool true)) (.tmp 144), 4, "outright.go:78", #[⟨10, .data⟩, ⟨14, .data⟩], none⟩ ?vqabm14 ?rqabm14
                    (try simp only [Act.put, tC, tD, tE])
                    refine tA 16 ⟨some 146, .binOp .neq 4 (.tmp 136) (.tmp 145) 4, 4, "outright.go:78", #[⟨6, .data⟩, ⟨15, .data⟩], none⟩ ?vqabm15 ?rqabm15
                    (try simp only [Act.put, tC, tD, tE])
                    refine tA 17 ⟨some 147, .move (.tmp 146), 4, "outright.go:78", #[⟨16, .data⟩, ⟨10, .chain⟩], none⟩ ?vqabm16 ?rqabm16
                    (try simp only [Act.put, tC, tD, tE])
                    refine tA 18 ⟨some 148, .move (.tmp 7), 86, "outright.go:78", #[⟨17, .guard⟩], some (17, false)⟩ ?vqabm17 ?rqabm17
                    (try simp only [Act.put, tC, tD, tE])
                    refine tA 19 ⟨some 149, .move (.tmp 14), 3, "outright.go:78", #[⟨17, .guard⟩], some (17, false)⟩ ?vqabm18 ?rqabm18
                    (try simp only [Act.put, tC, tD, tE])
                    refine tA 20 ⟨some 150, .indexAddr 86 (.tmp 148) (.tmp 149), 0, "outright.go:78", #[⟨18, .data⟩, ⟨19, .data⟩, ⟨17, .guard⟩], some (17, false)⟩ ?vqabm19 ?rqabm19
                    (try simp only [Act.put, tC, tD, tE])
                    refine tA 21 ⟨some 151, .load 4 (.tmp 150), 4, "outright.go:78", #[⟨20, .data⟩, ⟨17, .guard⟩], some (17, false)⟩ ?vqabm20 ?rqabm20
                    (try simp only [Act.put, tC, tD, tE])
                    refine tA 22 ⟨some 152, .unOp .not 4 (.tmp 151), 4, "outright.go:78", #[⟨21, .data⟩, ⟨17, .guard⟩], some (17, false)⟩ ?vqabm21 ?rqabm21
                    (try simp only [Act.put, tC, tD, tE])
                    refine tA 23 ⟨some 153, .move (.tmp 152), 4, "outright.go:78", #[⟨22, .data⟩, ⟨17, .chain⟩, ⟨17, .guard⟩], some (17, false)⟩ ?vqabm22 ?rqabm22
                    (try simp only [Act.put, tC, tD, tE])
                    refine wpAnyH_take (i := 24) (oi := ({ dst := some 154, op := Op.move (Operand.tmp 14), type := 3, pos := "outright.go:78", after := #[{ on := 23, ground := Ground.guard }], guard := some (23, true) } : Oper)) (v := undef) rfl (by kernel_rfl) (by kernel_rfl) (by kernel_rfl) (fun _ _ _ h => h) (Or.inr ⟨by rfl, rfl⟩) (by assumption) ?_
                    (try simp only [Act.put, tC, tD, tE])
                    refine wpAnyH_take (i := 25) (oi := ({ dst := some 155, op := Op.move (Operand.tmp 9), type := 3, pos := "outright.go:78", after := #[{ on := 23, ground := Ground.guard }], guard := some (23, true) } : Oper)) (v := undef) rfl (by kernel_rfl) (by kernel_rfl) (by kernel_rfl) (fun _ _ _ h => h) (Or.inr ⟨by rfl, rfl⟩) (by assumption) ?_
                    (try simp only [Act.put, tC, tD, tE])
                    refine wpAnyH_take (i := 26) (oi := ({ dst := some 156, op := Op.binOp BinOp.neq 3 (Operand.tmp 154) (Operand.tmp 155) 3, type := 4, pos := "outright.go:78", after := #[{ on := 24, ground := Ground.data }, { on := 25, ground := Ground.data }, { on := 23, ground := Ground.guard }], guard := some (23, true) } : Oper)) (v := undef) rfl (by kernel_rfl) (by kernel_rfl) (by kernel_rfl) (fun _ _ _ h => h) (Or.inr ⟨by rfl, rfl⟩) (by assumption) ?_
                    (try simp only [Act.put, tC, tD, tE])
                    refine tA 27 ⟨some 157, .pick (.tmp 153) (.tmp 156) (.const (.bool false)), 4, "outright.go:78", #[⟨23, .data⟩, ⟨26, .data⟩, ⟨17, .guard⟩], some (17, false)⟩ ?vqabm26 ?rqabm26
                    (try simp only [Act.put, tC, tD, tE])
                    refine tA 28 ⟨some 158, .move (.tmp 157), 4, "outright.go:78", #[⟨27, .data⟩, ⟨23, .chain⟩, ⟨17, .guard⟩], some (17, false)⟩ ?vqabm27 ?rqabm27
                    (try simp only [Act.put, tC, tD, tE])
                    refine wpAnyH_take (i := 29) (oi := ({ dst := some 159, op := Op.move (Operand.tmp 5), type := 24, pos := "outright.go:78", after := #[{ on := 28, ground := Ground.guard }], guard := some (28, true) } : Oper)) (v := undef) rfl (by kernel_rfl) (by kernel_rfl) (by kernel_rfl) (fun _ _ _ h => h) (Or.inr ⟨by rfl, rfl⟩) (by assumption) ?_
                    (try simp only [Act.put, tC, tD, tE])
                    refine wpAnyH_take (i := 30) (oi := ({ dst := some 160, op := Op.nilCheck (Operand.tmp 159), type := 0, pos := "outright.go:78", after := #[{ on := 29, ground := Ground.data }, { on := 28, ground := Ground.guard }], guard := some (28, true) } : Oper)) (v := undef) rfl (by kernel_rfl) (by kernel_rfl) (by kernel_rfl) (fun _ _ _ h => h) (Or.inr ⟨by rfl, rfl⟩) (by assumption) ?_
                    (try simp only [Act.put, tC, tD, tE])
                    refine wpAnyH_take (i := 31) (oi := ({ dst := some 161, op := Op.fieldAddr 47 (Operand.tmp 160) 4, type := 0, pos := "outright.go:78", after := #[{ on := 30, ground := Ground.data }, { on := 28, ground := Ground.guard }], guard := some (28, true) } : Oper)) (v := undef) rfl (by kernel_rfl) (by kernel_rfl) (by kernel_rfl) (fun _ _ _ h => h) (Or.inr ⟨by rfl, rfl⟩) (by assumption) ?_
                    (try simp only [Act.put, tC, tD, tE])
                    refine wpAnyH_take (i := 32) (oi := ({ dst := some 162, op := Op.load 43 (Operand.tmp 161), type := 43, pos := "outright.go:78", after := #[{ on := 31, ground := Ground.data }, { on := 28, ground := Ground.guard }], guard := some (28, true) } : Oper)) (v := undef) rfl (by kernel_rfl) (by kernel_rfl) (by kernel_rfl) (fun _ _ _ h => h) (Or.inr ⟨by rfl, rfl⟩) (by assumption) ?_
                    (try simp only [Act.put, tC, tD, tE])
                    refine wpAnyH_take (i := 33) (oi := ({ dst := some 163, op := Op.move (Operand.tmp 14), type := 3, pos := "outright.go:78", after := #[{ on := 28, ground := Ground.guard }], guard := some (28, true) } : Oper)) (v := undef) rfl (by kernel_rfl) (by kernel_rfl) (by kernel_rfl) (fun _ _ _ h => h) (Or.inr ⟨by rfl, rfl⟩) (by assumption) ?_
                    (try simp only [Act.put, tC, tD, tE])
                    refine wpAnyH_take (i := 34) (oi := ({ dst := some 164, op := Op.call { callee := Callee.value (Operand.func 30), args := #[Operand.tmp 162, Operand.tmp 163], argTypes := #[43, 3] }, type := 89, pos := "outright.go:78", after := #[{ on := 32, ground := Ground.data }, { on := 33, ground := Ground.data }, { on := 28, ground := Ground.chain }, { on := 28, ground := Ground.guard }], guard := some (28, true) } : Oper)) (v := undef) rfl (by kernel_rfl) (by kernel_rfl) (by kernel_rfl) (fun _ _ _ h => h) (Or.inr ⟨by rfl, rfl⟩) (by assumption) ?_
                    (try simp only [Act.put, tC, tD, tE])
                    refine wpAnyH_take (i := 35) (oi := ({ dst := some 165, op := Op.call { callee := Callee.builtin Builtin.len, args := #[Operand.tmp 164], argTypes := #[89] }, type := 3, pos := "outright.go:78", after := #[{ on := 34, ground := Ground.data }, { on := 28, ground := Ground.guard }], guard := some (28, true) } : Oper)) (v := undef) rfl (by kernel_rfl) (by kernel_rfl) (by kernel_rfl) (fun _ _ _ h => h) (Or.inr ⟨by rfl, rfl⟩) (by assumption) ?_
                    (try simp only [Act.put, tC, tD, tE])
                    refine wpAnyH_take (i := 36) (oi := ({ dst := some 166, op := Op.binOp BinOp.neq 3 (Operand.tmp 165) (Operand.const (Value.int IntKind.i64 1)) 3, type := 4, pos := "outright.go:78", after := #[{ on := 35, ground := Ground.data }, { on := 28, ground := Ground.guard }], guard := some (28, true) } : Oper)) (v := undef) rfl (by kernel_rfl) (by kernel_rfl) (by kernel_rfl) (fun _ _ _ h => h) (Or.inr ⟨by rfl, rfl⟩) (by assumption) ?_
                    (try simp only [Act.put, tC, tD, tE])
                    refine tA 37 ⟨some 167, .pick (.tmp 158) (.tmp 166) (.const (.bool false)), 4, "outright.go:78", #[⟨28, .data⟩, ⟨36, .data⟩, ⟨17, .guard⟩], some (17, false)⟩ ?vqabm36 ?rqabm36
                    (try simp only [Act.put, tC, tD, tE])
                    refine tA 38 ⟨some 168, .pick (.tmp 147) (.const (.bool true)) (.tmp 167), 4, "outright.go:78", #[⟨17, .data⟩, ⟨37, .data⟩], none⟩ ?vqabm37 ?rqabm37
                    (try simp only [Act.put, tC, tD, tE])
                    refine wpAnyH_done (by kernel_rfl) ?_ _
                    clear hHeld
                    go_wp2_with fail
                    go_roundg (n - (k + 1))
                    case measure => have := HKN.out; omega
                    case rel => exact ⟨k + 1, HKN.out, by omega, congrArg (Value.int .i64) (by first | omega | (unfold wrap64; have := HKN.out; have := HN64.out; omega)), HB6.out⟩
                  · have hGk : G k = false := by simpa using hGk
                    have HGK : Hid (Gos xk false) := Lib.hid (by rw [hGk] at hgk; exact hgk)
                    have HCK := Lib.hid (HCN.out k HKN.out hGk HZ.out)
                    clear hgk
                    refine wp_region_held_drew (S := fun w' => w'.cell? ⟨WB, 2, none⟩ = some ps ∧ w'.cell? ⟨WB, 4, none⟩ = some ts ∧ w'.cell? ⟨GB, k, none⟩ = some (.bool (G k))) (by kernel_rfl) ?_ (fun hHeld => ?_)
                    · exact (HF.out _ (HB.out.trans ((Below.refl _ _).drew.mono HB.out.size))).1 k HKN.out
                    refine tA 0 ⟨some 130, .move (.tmp 5), 24, "outright.go:78", #[], none⟩ ?vqacm1 ?rqacm1
                    (try simp only [Act.put, tC, tD, tE])
                    refine tA 1 ⟨some 131, .nilCheck (.tmp 130), 0, "outright.go:78", #[⟨0, .data⟩], none⟩ ?vqacm2 ?rqacm2
                    (try simp only [Act.put, tC, tD, tE])
                    refine tA 2 ⟨some 132, .fieldAddr 47 (.tmp 131) 2, 0, "outright.go:78", #[⟨1, .data⟩], none⟩ ?vqacm3 ?rqacm3
                    (try simp only [Act.put, tC, tD, tE])
                    refine tA 3 ⟨some 133, .load 41 (.tmp 132), 41, "outright.go:78", #[⟨2, .data⟩], none⟩ ?vqacm4 ?rqacm4
                    (try simp only [Act.put, tC, tD, tE])
                    refine tA 4 ⟨some 134, .move (.tmp 14), 3, "outright.go:78", #[], none⟩ ?vqacm5 ?rqacm5
                    (try simp only [Act.put, tC, tD, tE])
                    refine tA 7 ⟨some 137, .move (.tmp 14), 3, "outright.go:78", #[], none⟩ ?vqacm6 ?rqacm6
                    (try simp only [Act.put, tC, tD, tE])
                    refine tA 8 ⟨some 138, .move (.tmp 9), 3, "outright.go:78", #[], none⟩ ?vqacm7 ?rqacm7
                    (try simp only [Act.put, tC, tD, tE])
                    refine tA 9 ⟨some 139, .binOp .eql 3 (.tmp 137) (.tmp 138) 3, 4, "outright.go:78", #[⟨7, .data⟩, ⟨8, .data⟩], none⟩ ?vqacm8 ?rqacm8
                    (try simp only [Act.put, tC, tD, tE])
                    refine wpAnyH_ready (rs := [5]) (by kernel_rfl) (by simp) ?_
                    refine AllReadyH.cons (o := ⟨some 135, .call ⟨.value (.func 29), #[.tmp 134], #[3]⟩, 3, "outright.go:78", #[⟨4, .data⟩], none⟩) rfl (fun Kq hKq => ?_) AllReadyH.nil
                    go_simp
                    (refine (HLOT.out k HKN.out _).mono ?_; rintro e' w5 ⟨rfl, rfl⟩)
                    refine hKq.out _ _ ?_ (fun hHeld => ?_)
                    · exact hHeld
                    clear hKq Kq
                    (try simp only [Act.put, tC, tD, tE])
                    refine wpAnyH_ready (rs := [6]) (by kernel_rfl) (by simp) ?_
                    refine AllReadyH.cons (o := ⟨some 136, .call ⟨.value (.func 28), #[.tmp 133, .tmp 135, .const (.int .u64 0)], #[41, 3, 23]⟩, 4, "outright.go:78", #[⟨3, .data⟩, ⟨5, .data⟩, ⟨5, .chain⟩], none⟩) rfl (fun Kq hKq => ?_) AllReadyH.nil
                    go_simp
                    (refine ((HF.out _ (HB.out.trans ((Below.refl _ _).drew.mono HB.out.size))).2.1 k _ _ (Nat.lt_of_lt_of_le HKN.out HN64.out) HXK.out HGK.out).mono ?_; rintro e' w6 ⟨rfl, hb6⟩; have HB6 := Lib.hid ((HB.out.trans ((Below.refl _ _).drew.mono HB.out.size)).trans (hb6.mono (HB.out.trans ((Below.refl _ _).drew.mono HB.out.size)).size)); clear hb6)
                    refine hKq.out _ _ ?_ (fun hHeld => ?_)
                    · exact (HF.out _ HB6.out).1 k HKN.out
                    clear hKq Kq
                    (try simp only [Act.put, tC, tD, tE])
                    refine tA 10 ⟨some 140, .move (.tmp 139), 4, "outright.go:78", #[⟨9, .data⟩, ⟨6, .chain⟩], none⟩ ?vqacm9 ?rqacm9
                    (try simp only [Act.put, tC, tD, tE])
                    refine tA 11 ⟨some 141, .move (.tmp 7), 86, "outright.go:78", #[⟨10, .guard⟩], some (10, false)⟩ ?vqacm10 ?rqacm10
                    (try simp only [Act.put, tC, tD, tE])
                    refine tA 12 ⟨some 142, .move (.tmp 14), 3, "outright.go:78", #[⟨10, .guard⟩], some (10, false)⟩ ?vqacm11 ?rqacm11
                    (try simp only [Act.put, tC, tD, tE])
                    refine tA 13 ⟨some 143, .indexAddr 86 (.tmp 141) (.tmp 142), 0, "outright.go:78", #[⟨11, .data⟩, ⟨12, .data⟩, ⟨10, .guard⟩], some (10, false)⟩ ?vqacm12 ?rqacm12
                    (try simp only [Act.put, tC, tD, tE])
                    refine tA 14 ⟨some 144, .load 4 (.tmp 143), 4, "outright.go:78", #[⟨13, .data⟩, ⟨10, .guard⟩], some (10, false)⟩ ?vqacm13 ?rqacm13
                    (try simp only [Act.put, tC, tD, tE])
                    refine tA 15 ⟨some 145, .pick (.tmp 140) (.const (.bool true)) (.tmp 144), 4, "outright.go:78", #[⟨10, .data⟩, ⟨14, .data⟩], none⟩ ?vqacm14 ?rqacm14
                    (try simp only [Act.put, tC, tD, tE])
                    refine tA 16 ⟨some 146, .binOp .neq 4 (.tmp 136) (.tmp 145) 4, 4, "outright.go:78", #[⟨6, .data⟩, ⟨15, .data⟩], none⟩ ?vqacm15 ?rqacm15
                    (try simp only [Act.put, tC, tD, tE])
                    refine tA 17 ⟨some 147, .move (.tmp 146), 4, "outright.go:78", #[⟨16, .data⟩, ⟨10, .chain⟩], none⟩ ?vqacm16 ?rqacm16
                    (try simp only [Act.put, tC, tD, tE])
                    refine tA 18 ⟨some 148, .move (.tmp 7), 86, "outright.go:78", #[⟨17, .guard⟩], some (17, false)⟩ ?vqacm17 ?rqacm17
                    (try simp only [Act.put, tC, tD, tE])
                    refine tA 19 ⟨some 149, .move (.tmp 14), 3, "outright.go:78", #[⟨17, .guard⟩], some (17, false)⟩ ?vqacm18 ?rqacm18
                    (try simp only [Act.put, tC, tD, tE])
                    refine tA 20 ⟨some 150, .indexAddr 86 (.tmp 148) (.tmp 149), 0, "outright.go:78", #[⟨18, .data⟩, ⟨19, .data⟩, ⟨17, .guard⟩], some (17, false)⟩ ?vqacm19 ?rqacm19
                    (try simp only [Act.put, tC, tD, tE])
                    refine tA 21 ⟨some 151, .load 4 (.tmp 150), 4, "outright.go:78", #[⟨20, .data⟩, ⟨17, .guard⟩], some (17, false)⟩ ?vqacm20 ?rqacm20
                    (try simp only [Act.put, tC, tD, tE])
                    refine tA 22 ⟨some 152, .unOp .not 4 (.tmp 151), 4, "outright.go:78", #[⟨21, .data⟩, ⟨17, .guard⟩], some (17, false)⟩ ?vqacm21 ?rqacm21
                    (try simp only [Act.put, tC, tD, tE])
                    refine tA 23 ⟨some 153, .move (.tmp 152), 4, "outright.go:78", #[⟨22, .data⟩, ⟨17, .chain⟩, ⟨17, .guard⟩], some (17, false)⟩ ?vqacm22 ?rqacm22
                    (try simp only [Act.put, tC, tD, tE])
                    refine tA 24 ⟨some 154, .move (.tmp 14), 3, "outright.go:78", #[⟨23, .guard⟩], some (23, true)⟩ ?vqacm23 ?rqacm23
                    (try simp only [Act.put, tC, tD, tE])
                    refine tA 25 ⟨some 155, .move (.tmp 9), 3, "outright.go:78", #[⟨23, .guard⟩], some (23, true)⟩ ?vqacm24 ?rqacm24
                    (try simp only [Act.put, tC, tD, tE])
                    refine tA 26 ⟨some 156, .binOp .neq 3 (.tmp 154) (.tmp 155) 3, 4, "outright.go:78", #[⟨24, .data⟩, ⟨25, .data⟩, ⟨23, .guard⟩], some (23, true)⟩ ?vqacm25 ?rqacm25
                    (try simp only [Act.put, tC, tD, tE])
                    refine tA 27 ⟨some 157, .pick (.tmp 153) (.tmp 156) (.const (.bool false)), 4, "outright.go:78", #[⟨23, .data⟩, ⟨26, .data⟩, ⟨17, .guard⟩], some (17, false)⟩ ?vqacm26 ?rqacm26
                    (try simp only [Act.put, tC, tD, tE])
                    refine tA 28 ⟨some 158, .move (.tmp 157), 4, "outright.go:78", #[⟨27, .data⟩, ⟨23, .chain⟩, ⟨17, .guard⟩], some (17, false)⟩ ?vqacm27 ?rqacm27
                    (try simp only [Act.put, tC, tD, tE])
                    refine tA 29 ⟨some 159, .move (.tmp 5), 24, "outright.go:78", #[⟨28, .guard⟩], some (28, true)⟩ ?vqacm28 ?rqacm28
                    (try simp only [Act.put, tC, tD, tE])
                    refine tA 30 ⟨some 160, .nilCheck (.tmp 159), 0, "outright.go:78", #[⟨29, .data⟩, ⟨28, .guard⟩], some (28, true)⟩ ?vqacm29 ?rqacm29
                    (try simp only [Act.put, tC, tD, tE])
                    refine tA 31 ⟨some 161, .fieldAddr 47 (.tmp 160) 4, 0, "outright.go:78", #[⟨30, .data⟩, ⟨28, .guard⟩], some (28, true)⟩ ?vqacm30 ?rqacm30
                    (try simp only [Act.put, tC, tD, tE])
                    refine tA 32 ⟨some 162, .load 43 (.tmp 161), 43, "outright.go:78", #[⟨31, .data⟩, ⟨28, .guard⟩], some (28, true)⟩ ?vqacm31 ?rqacm31
                    (try simp only [Act.put, tC, tD, tE])
                    refine tA 33 ⟨some 163, .move (.tmp 14), 3, "outright.go:78", #[⟨28, .guard⟩], some (28, true)⟩ ?vqacm32 ?rqacm32
                    (try simp only [Act.put, tC, tD, tE])
                    refine wpAnyH_ready (rs := [34]) (by kernel_rfl) (by simp) ?_
                    refine AllReadyH.cons (o := ⟨some 164, .call ⟨.value (.func 30), #[.tmp 162, .tmp 163], #[43, 3]⟩, 89, "outright.go:78", #[⟨32, .data⟩, ⟨33, .data⟩, ⟨28, .chain⟩, ⟨28, .guard⟩], some (28, true)⟩) rfl (fun Kq hKq => ?_) AllReadyH.nil
                    go_simp
                    (refine ((HF.out _ HB6.out).2.2 (k : Int)).mono ?_; rw [HCK.out]; rintro e' w7 ⟨A7, rfl, hb7⟩; have HB7 := Lib.hid (HB6.out.trans (hb7.mono HB6.out.size)); clear hb7)
                    refine hKq.out _ _ ?_ (fun hHeld => ?_)
                    · exact (HF.out _ HB7.out).1 k HKN.out
                    clear hKq Kq
                    (try simp only [Act.put, tC, tD, tE])
                    refine tA 35 ⟨some 165, .call ⟨.builtin .len, #[.tmp 164], #[89]⟩, 3, "outright.go:78", #[⟨34, .data⟩, ⟨28, .guard⟩], some (28, true)⟩ ?vqacm33 ?rqacm33
                    (try simp only [Act.put, tC, tD, tE])
                    refine tA 36 ⟨some 166, .binOp .neq 3 (.tmp 165) (.const (.int .i64 1)) 3, 4, "outright.go:78", #[⟨35, .data⟩, ⟨28, .guard⟩], some (28, true)⟩ ?vqacm34 ?rqacm34
                    (try simp only [Act.put, tC, tD, tE])
                    refine tA 37 ⟨some 167, .pick (.tmp 158) (.tmp 166) (.const (.bool false)), 4, "outright.go:78", #[⟨28, .data⟩, ⟨36, .data⟩, ⟨17, .guard⟩], some (17, false)⟩ ?vqacm35 ?rqacm35
                    (try simp only [Act.put, tC, tD, tE])
                    refine tA 38 ⟨some 168, .pick (.tmp 147) (.const (.bool true)) (.tmp 167), 4, "outright.go:78", #[⟨17, .data⟩, ⟨37, .data⟩], none⟩ ?vqacm36 ?rqacm36
                    (try simp only [Act.put, tC, tD, tE])
                    refine wpAnyH_done (by kernel_rfl) ?_ _
                    clear hHeld
                    go_wp2_with fail
                    go_roundg (n - (k + 1))
                    case measure => have := HKN.out; omega
                    case rel => exact ⟨k + 1, HKN.out, by omega, congrArg (Value.int .i64) (by first | omega | (unfold wrap64; have := HKN.out; have := HN64.out; omega)), HB7.out⟩
              · obtain rfl : n = k := by omega
                have d1 : decide ((n : Int) < (n : Int)) = false := decide_eq_false (by omega)
                have d2 : decide (n < n) = false := decide_eq_false (by omega)
                clear d1 d2
                go_wp2_with fail
                go_roundg (m - (i + 1))
                case measure => have := HI.out; omega
                case rel =>
                  have h9 := HI.out
                  have h8 := HLE.out
                  exact ⟨i + 1, M5, G, L, _, HI.out, by omega, congrArg (Value.int .i64) (by first | omega | (unfold wrap64; omega)), H7.out.new HB.out, HS.out, HK5.out.mono (by omega)⟩
          | cons x l =>
            have HWW := Lib.hid hW0.symm
            clear hW0
            have hrun := HRY.out x l HWW.out _ _ H4.out
            have hmo2 : decide (2 ≤ (x :: l).length) = decide (1 ≤ l.length) := decide_eq_decide.2 (by simp)
            rw [show hdZ (x :: l) = (x : Int) from rfl, hmo2]
            obtain ⟨mo, hmo⟩ : ∃ mo, mo = decide (1 ≤ l.length) := ⟨_, rfl⟩
            rw [← hmo] at hrun ⊢
            have HRUN : Hid (Calls Tryz.prog 16 #[Pw WB, .iface 76 (Pw B1), .int .i64 40] w4 _) := Lib.hid hrun
            clear hrun HRN HRY hmo hmo2
            go_upto_region 23 with (first
              | (go_at_call 16; refine HRUN.out.mono ?_; rintro e w5 ⟨rfl, M5, P5, h5, p1, p2, wn5, mx5, pf5, tk5⟩; have hg := h5.got p2; rw [p1] at hg; have HG : Hid (Calls Tryz.prog 22 #[Pw B1] w5 fun e w' => e = .returned (.agg #[.int .i64 1, .int .i64 0, .bool mo, .bool false, .int .i64 (x : Int)]) ∧ Below w5.heap.size w5 w') := Lib.hid hg; have H5 := Lib.hid h5; have HK5 := Lib.hid (And.intro wn5 (And.intro mx5 (And.intro pf5 tk5))); clear hg h5 p1 p2 wn5 mx5 pf5 tk5)
              | (go_at_call 22; refine HG.out.mono ?_; rintro e w6 ⟨rfl, hb6⟩; have H6 := Lib.hid (AllS.done (H5.out.new hb6)); clear hb6))
            have h7 := H6.out.setB (a := 2) rfl (.cells #[.int .i64 1, .int .i64 0, .bool mo, .bool false, .int .i64 (x : Int)] 69)
            obtain ⟨RB, hRB⟩ : ∃ RB, RB = w6.heap.size := ⟨_, rfl⟩
            rw [← hRB] at h7 ⊢
            have H7 : Hid (AllS w _ w.heap.size WB M5 (hO (.slice A6 n c6) n Bs GB G (rowsP [(RB, .cells #[.int .i64 1, .int .i64 0, .bool mo, .bool false, .int .i64 (x : Int)] 69)])) L) := Lib.hid h7
            clear h7 hRB HG HRUN
            generalize w6.alloc (.cells #[.int .i64 1, .int .i64 0, .bool mo, .bool false, .int .i64 (x : Int)] 69) = wB at *
            have hbk : wB.heap[RB]? = some (.cells #[.int .i64 1, .int .i64 0, .bool mo, .bool false, .int .i64 (x : Int)] 69) := by
              have hp := H7.out.partH (a := 2) rfl
              exact hp.1 (RB, _) List.mem_cons_self
            have r0 := cell_row hbk 0; have r2 := cell_row hbk 2; have r4 := cell_row hbk 4
            clear hbk
            have hn100 : ∀ b, (sQg ks (gset G x) b).length ≤ 100 := fun b => Nat.le_trans (sQg_len ks _ b) (by have := HN.out; have := HLE.out; omega)
            obtain ⟨ps, hps⟩ := H7.out.goes
            obtain ⟨ts, hts⟩ := H7.out.places HK5.out.1 hn100 HK5.out.2.1
            have HF : Hid (∀ W, Below wB.heap.size wB W → (∀ k, k < n → W.cell? ⟨WB, 2, none⟩ = some ps ∧ W.cell? ⟨WB, 4, none⟩ = some ts ∧ W.cell? ⟨GB, k, none⟩ = some (.bool (G k))) ∧ (∀ (t : Nat) (x : S4.Pk) (b : Bool), t < 64 → M5.pf (2 * t) = x → Gos x b → Calls Tryz.prog 28 #[ps, .int .i64 ((2 * t : Nat) : Int), .int .u64 0] W fun e w' => e = .returned (.bool b) ∧ Below W.heap.size W w') ∧ ∀ t : Int, Calls Tryz.prog 30 #[ts, .int .i64 t] W fun e w' => ∃ A, e = .returned (.slice A (cnt4 (sQg ks (gset G x)) t) (cnt4 (sQg ks (gset G x)) t)) ∧ Below W.heap.size W w') := Lib.hid (fun W hb => ⟨fun k hk => ⟨(hps W hb).1, (hts W hb).1, (cell_row (hO_blk (H7.out.new hb)) k).trans (gV_at hk)⟩, (hps W hb).2, (hts W hb).2⟩)
            clear hps hts hn100
            have HGOS : Hid (∀ k, k < n → ∃ xk, M5.pf (2 * k) = xk ∧ Gos xk (decide ((k : Int) = (x : Int)) || G k)) := Lib.hid (fun k hk => ⟨_, HK5.out.2.2.1 k (by rw [← HN.out]; exact hk), by
              by_cases hkx : k = x
              · rw [decide_eq_true (by omega), Bool.true_or]
                exact .inr (.inr ⟨if_pos hkx, rfl⟩)
              · rw [decide_eq_false (by omega), Bool.false_or, if_neg hkx]
                cases G k
                · exact .inr (.inl ⟨if_neg (by decide), rfl⟩)
                · exact .inl ⟨if_pos rfl, rfl⟩⟩)
            have HCN : Hid (∀ k, k < n → G k = false → ¬ (k : Int) = (x : Int) → cnt4 (sQg ks (gset G x)) (k : Int) = 1) := Lib.hid (fun k hk hg hkx => (sQg_pos ks (gset G x) k).trans (if_pos ⟨by rw [← HN.out]; exact hk, by unfold gset; rw [hg, decide_eq_false (by omega)]; rfl⟩))
            have HXN : Hid (x < n) := Lib.hid (by have := wS_mem (k := 0) (show x ∈ wS ks G a 0 by rw [HWW.out]; exact List.mem_cons_self); rw [HN.out]; exact this.1)
            have HGX : Hid (G x = false) := Lib.hid (wS_mem (k := 0) (show x ∈ wS ks G a 0 by rw [HWW.out]; exact List.mem_cons_self)).2.2.1
            have HGZ : Hid (∀ k, k < n → (k : Int) = (x : Int) → G k = false) := Lib.hid (fun k hk e => by have e' : k = x := by omega
                                                                                                           rw [e']; exact HGX.out)
            obtain ⟨B, hBX⟩ : ∃ B, B = Bs[x]! := ⟨_, rfl⟩
            have HBX := Lib.hid hBX
            have HCL : Hid (∀ W M' G' L' up', AllS w W w.heap.size WB M' (hO (.slice A6 n c6) n Bs GB G' up') L' → ∃ g o, A6 = some ⟨g, o, none⟩ ∧ W.cell? ⟨g, o + x, none⟩ = some (Pw B)) := Lib.hid (fun W M' G' L' up' h => by
              have h1 : x < Bs.length := by rw [HS.out.1, ← HN.out]; exact HXN.out
              have hp : S10.Row W 0 1 (.slice A6 n c6) n (ptrs Bs) := h.partH (a := 0) rfl
              obtain ⟨g, o, cap, e, _, _, hc⟩ := row_at hp (k := x) (v := Pw B) (by unfold ptrs; rw [List.getElem?_map, List.getElem?_eq_getElem h1, HBX.out, getElem!_pos Bs x h1]; rfl)
              injection e with e1 e2 e3
              exact ⟨g, o, e1, hc⟩)
            have g1 : decide ((0 : Int) ≤ (x : Int)) = true := decide_eq_true (by omega)
            clear hBX
            have HLOT := Lib.hid (fun (k : Nat) (hk : k < n) W => lot_any k (Nat.lt_of_lt_of_le hk HN64.out) W)
            go_wp2_with fail
            go_loopg [14] n (fun q s14 wy => ∃ k : Nat, k ≤ n ∧ q = n - k ∧ s14 = .int .i64 (k : Int) ∧ Below wB.heap.size wB wy)
            case atStart => exact ⟨0, by omega, by omega, rfl, Below.refl _ _⟩
            case round =>
              obtain ⟨k, hk, rfl, rfl, hb⟩ := hrel
              have HB := Lib.hid hb
              clear hb
              by_cases hkn : k < n
              · have d1 : decide ((k : Int) < (n : Int)) = true := decide_eq_true (by omega)
                have d2 : decide (k < n) = true := decide_eq_true hkn
                have HKN := Lib.hid hkn
                obtain ⟨xk, hxk, hgk⟩ := HGOS.out k hkn
                have HXK := Lib.hid hxk
                clear hxk hk
                have hkI : (k : Int) < (n : Int) := by omega
                go_wp2_with fail
                clear d1 d2
                by_cases hz : (k : Int) = (x : Int)
                · have hGk : G k = false := HGZ.out k HKN.out hz
                  have HGK : Hid (Gos xk true) := Lib.hid (by rw [decide_eq_true hz, Bool.true_or] at hgk; exact hgk)
                  have hkx : k = x := by omega
                  clear hgk hz
                  subst hkx
                  refine wp_region_held_drew (S := fun w' => w'.cell? ⟨WB, 2, none⟩ = some ps ∧ w'.cell? ⟨WB, 4, none⟩ = some ts ∧ w'.cell? ⟨GB, k, none⟩ = some (.bool (G k))) (by kernel_rfl) ?_ (fun hHeld => ?_)
                  · exact (HF.out _ (HB.out.trans ((Below.refl _ _).drew.mono HB.out.size))).1 k HKN.out
                  refine tA 0 ⟨some 130, .move (.tmp 5), 24, "outright.go:78", #[], none⟩ ?vqbam1 ?rqbam1
                  (try simp only [Act.put, tC, tD, tE])
                  refine tA 1 ⟨some 131, .nilCheck (.tmp 130), 0, "outright.go:78", #[⟨0, .data⟩], none⟩ ?vqbam2 ?rqbam2
                  (try simp only [Act.put, tC, tD, tE])
                  refine tA 2 ⟨some 132, .fieldAddr 47 (.tmp 131) 2, 0, "outright.go:78", #[⟨1, .data⟩], none⟩ ?vqbam3 ?rqbam3
                  (try simp only [Act.put, tC, tD, tE])
                  refine tA 3 ⟨some 133, .load 41 (.tmp 132), 41, "outright.go:78", #[⟨2, .data⟩], none⟩ ?vqbam4 ?rqbam4
                  (try simp only [Act.put, tC, tD, tE])
                  refine tA 4 ⟨some 134, .move (.tmp 14), 3, "outright.go:78", #[], none⟩ ?vqbam5 ?rqbam5
                  (try simp only [Act.put, tC, tD, tE])
                  refine tA 7 ⟨some 137, .move (.tmp 14), 3, "outright.go:78", #[], none⟩ ?vqbam6 ?rqbam6
                  (try simp only [Act.put, tC, tD, tE])
                  refine tA 8 ⟨some 138, .move (.tmp 9), 3, "outright.go:78", #[], none⟩ ?vqbam7 ?rqbam7
                  (try simp only [Act.put, tC, tD, tE])
                  refine tA 9 ⟨some 139, .binOp .eql 3 (.tmp 137) (.tmp 138) 3, 4, "outright.go:78", #[⟨7, .data⟩, ⟨8, .data⟩], none⟩ ?vqbam8 ?rqbam8
                  (try simp only [Act.put, tC, tD, tE])
                  refine wpAnyH_ready (rs := [5]) (by kernel_rfl) (by simp) ?_
                  refine AllReadyH.cons (o := ⟨some 135, .call ⟨.value (.func 29), #[.tmp 134], #[3]⟩, 3, "outright.go:78", #[⟨4, .data⟩], none⟩) rfl (fun Kq hKq => ?_) AllReadyH.nil
                  go_simp
                  (refine (HLOT.out k HKN.out _).mono ?_; rintro e' w5 ⟨rfl, rfl⟩)
                  refine hKq.out _ _ ?_ (fun hHeld => ?_)
                  · exact hHeld
                  clear hKq Kq
                  (try simp only [Act.put, tC, tD, tE])
                  refine wpAnyH_ready (rs := [6]) (by kernel_rfl) (by simp) ?_
                  refine AllReadyH.cons (o := ⟨some 136, .call ⟨.value (.func 28), #[.tmp 133, .tmp 135, .const (.int .u64 0)], #[41, 3, 23]⟩, 4, "outright.go:78", #[⟨3, .data⟩, ⟨5, .data⟩, ⟨5, .chain⟩], none⟩) rfl (fun Kq hKq => ?_) AllReadyH.nil
                  go_simp
                  (refine ((HF.out _ (HB.out.trans ((Below.refl _ _).drew.mono HB.out.size))).2.1 k _ _ (Nat.lt_of_lt_of_le HKN.out HN64.out) HXK.out HGK.out).mono ?_; rintro e' w6 ⟨rfl, hb6⟩; have HB6 := Lib.hid ((HB.out.trans ((Below.refl _ _).drew.mono HB.out.size)).trans (hb6.mono (HB.out.trans ((Below.refl _ _).drew.mono HB.out.size)).size)); clear hb6)
                  refine hKq.out _ _ ?_ (fun hHeld => ?_)
                  · exact (HF.out _ HB6.out).1 k HKN.out
                  clear hKq Kq
                  (try simp only [Act.put, tC, tD, tE])
                  refine tA 10 ⟨some 140, .move (.tmp 139), 4, "outright.go:78", #[⟨9, .data⟩, ⟨6, .chain⟩], none⟩ ?vqbam9 ?rqbam9
                  (try simp only [Act.put, tC, tD, tE])
                  refine wpAnyH_take (i := 11) (oi := ({ dst := some 141, op := Op.move (Operand.tmp 7), type := 86, pos := "outright.go:78", after := #[{ on := 10, ground := Ground.guard }], guard := some (10, false) } : Oper)) (v := undef) rfl (by kernel_rfl) (by kernel_rfl) (by kernel_rfl) (fun _ _ _ h => h) (Or.inr ⟨by rfl, rfl⟩) (by assumption) ?_
                  (try simp only [Act.put, tC, tD, tE])
                  refine wpAnyH_take (i := 12) (oi := ({ dst := some 142, op := Op.move (Operand.tmp 14), type := 3, pos := "outright.go:78", after := #[{ on := 10, ground := Ground.guard }], guard := some (10, false) } : Oper)) (v := undef) rfl (by kernel_rfl) (by kernel_rfl) (by kernel_rfl) (fun _ _ _ h => h) (Or.inr ⟨by rfl, rfl⟩) (by assumption) ?_
                  (try simp only [Act.put, tC, tD, tE])
                  refine wpAnyH_take (i := 13) (oi := ({ dst := some 143, op := Op.indexAddr 86 (Operand.tmp 141) (Operand.tmp 142), type := 0, pos := "outright.go:78", after := #[{ on := 11, ground := Ground.data }, { on := 12, ground := Ground.data }, { on := 10, ground := Ground.guard }], guard := some (10, false) } : Oper)) (v := undef) rfl (by kernel_rfl) (by kernel_rfl) (by kernel_rfl) (fun _ _ _ h => h) (Or.inr ⟨by rfl, rfl⟩) (by assumption) ?_
                  (try simp only [Act.put, tC, tD, tE])
                  refine wpAnyH_take (i := 14) (oi := ({ dst := some 144, op := Op.load 4 (Operand.tmp 143), type := 4, pos := "outright.go:78", after := #[{ on := 13, ground := Ground.data }, { on := 10, ground := Ground.guard }], guard := some (10, false) } : Oper)) (v := undef) rfl (by kernel_rfl) (by kernel_rfl) (by kernel_rfl) (fun _ _ _ h => h) (Or.inr ⟨by rfl, rfl⟩) (by assumption) ?_
                  (try simp only [Act.put, tC, tD, tE])
                  refine tA 15 ⟨some 145, .pick (.tmp 140) (.const (.bool true)) (.tmp 144), 4, "outright.go:78", #[⟨10, .data⟩, ⟨14, .data⟩], none⟩ ?vqbam14 ?rqbam14
                  (try simp only [Act.put, tC, tD, tE])
                  refine tA 16 ⟨some 146, .binOp .neq 4 (.tmp 136) (.tmp 145) 4, 4, "outright.go:78", #[⟨6, .data⟩, ⟨15, .data⟩], none⟩ ?vqbam15 ?rqbam15
                  (try simp only [Act.put, tC, tD, tE])
                  refine tA 17 ⟨some 147, .move (.tmp 146), 4, "outright.go:78", #[⟨16, .data⟩, ⟨10, .chain⟩], none⟩ ?vqbam16 ?rqbam16
                  (try simp only [Act.put, tC, tD, tE])
                  refine tA 18 ⟨some 148, .move (.tmp 7), 86, "outright.go:78", #[⟨17, .guard⟩], some (17, false)⟩ ?vqbam17 ?rqbam17
                  (try simp only [Act.put, tC, tD, tE])
                  refine tA 19 ⟨some 149, .move (.tmp 14), 3, "outright.go:78", #[⟨17, .guard⟩], some (17, false)⟩ ?vqbam18 ?rqbam18
                  (try simp only [Act.put, tC, tD, tE])
                  refine tA 20 ⟨some 150, .indexAddr 86 (.tmp 148) (.tmp 149), 0, "outright.go:78", #[⟨18, .data⟩, ⟨19, .data⟩, ⟨17, .guard⟩], some (17, false)⟩ ?vqbam19 ?rqbam19
                  (try simp only [Act.put, tC, tD, tE])
                  refine tA 21 ⟨some 151, .load 4 (.tmp 150), 4, "outright.go:78", #[⟨20, .data⟩, ⟨17, .guard⟩], some (17, false)⟩ ?vqbam20 ?rqbam20
                  (try simp only [Act.put, tC, tD, tE])
                  refine tA 22 ⟨some 152, .unOp .not 4 (.tmp 151), 4, "outright.go:78", #[⟨21, .data⟩, ⟨17, .guard⟩], some (17, false)⟩ ?vqbam21 ?rqbam21
                  (try simp only [Act.put, tC, tD, tE])
                  refine tA 23 ⟨some 153, .move (.tmp 152), 4, "outright.go:78", #[⟨22, .data⟩, ⟨17, .chain⟩, ⟨17, .guard⟩], some (17, false)⟩ ?vqbam22 ?rqbam22
                  (try simp only [Act.put, tC, tD, tE])
                  refine tA 24 ⟨some 154, .move (.tmp 14), 3, "outright.go:78", #[⟨23, .guard⟩], some (23, true)⟩ ?vqbam23 ?rqbam23
                  (try simp only [Act.put, tC, tD, tE])
                  refine tA 25 ⟨some 155, .move (.tmp 9), 3, "outright.go:78", #[⟨23, .guard⟩], some (23, true)⟩ ?vqbam24 ?rqbam24
                  (try simp only [Act.put, tC, tD, tE])
                  refine tA 26 ⟨some 156, .binOp .neq 3 (.tmp 154) (.tmp 155) 3, 4, "outright.go:78", #[⟨24, .data⟩, ⟨25, .data⟩, ⟨23, .guard⟩], some (23, true)⟩ ?vqbam25 ?rqbam25
                  (try simp only [Act.put, tC, tD, tE])
                  refine tA 27 ⟨some 157, .pick (.tmp 153) (.tmp 156) (.const (.bool false)), 4, "outright.go:78", #[⟨23, .data⟩, ⟨26, .data⟩, ⟨17, .guard⟩], some (17, false)⟩ ?vqbam26 ?rqbam26
                  (try simp only [Act.put, tC, tD, tE])
                  refine tA 28 ⟨some 158, .move (.tmp 157), 4, "outright.go:78", #[⟨27, .data⟩, ⟨23, .chain⟩, ⟨17, .guard⟩], some (17, false)⟩ ?vqbam27 ?rqbam27
                  (try simp only [Act.put, tC, tD, tE])
                  refine wpAnyH_take (i := 29) (oi := ({ dst := some 159, op := Op.move (Operand.tmp 5), type := 24, pos := "outright.go:78", after := #[{ on := 28, ground := Ground.guard }], guard := some (28, true) } : Oper)) (v := undef) rfl (by kernel_rfl) (by kernel_rfl) (by kernel_rfl) (fun _ _ _ h => h) (Or.inr ⟨by rfl, rfl⟩) (by assumption) ?_
                  (try simp only [Act.put, tC, tD, tE])
                  refine wpAnyH_take (i := 30) (oi := ({ dst := some 160, op := Op.nilCheck (Operand.tmp 159), type := 0, pos := "outright.go:78", after := #[{ on := 29, ground := Ground.data }, { on := 28, ground := Ground.guard }], guard := some (28, true) } : Oper)) (v := undef) rfl (by kernel_rfl) (by kernel_rfl) (by kernel_rfl) (fun _ _ _ h => h) (Or.inr ⟨by rfl, rfl⟩) (by assumption) ?_
                  (try simp only [Act.put, tC, tD, tE])
                  refine wpAnyH_take (i := 31) (oi := ({ dst := some 161, op := Op.fieldAddr 47 (Operand.tmp 160) 4, type := 0, pos := "outright.go:78", after := #[{ on := 30, ground := Ground.data }, { on := 28, ground := Ground.guard }], guard := some (28, true) } : Oper)) (v := undef) rfl (by kernel_rfl) (by kernel_rfl) (by kernel_rfl) (fun _ _ _ h => h) (Or.inr ⟨by rfl, rfl⟩) (by assumption) ?_
                  (try simp only [Act.put, tC, tD, tE])
                  refine wpAnyH_take (i := 32) (oi := ({ dst := some 162, op := Op.load 43 (Operand.tmp 161), type := 43, pos := "outright.go:78", after := #[{ on := 31, ground := Ground.data }, { on := 28, ground := Ground.guard }], guard := some (28, true) } : Oper)) (v := undef) rfl (by kernel_rfl) (by kernel_rfl) (by kernel_rfl) (fun _ _ _ h => h) (Or.inr ⟨by rfl, rfl⟩) (by assumption) ?_
                  (try simp only [Act.put, tC, tD, tE])
                  refine wpAnyH_take (i := 33) (oi := ({ dst := some 163, op := Op.move (Operand.tmp 14), type := 3, pos := "outright.go:78", after := #[{ on := 28, ground := Ground.guard }], guard := some (28, true) } : Oper)) (v := undef) rfl (by kernel_rfl) (by kernel_rfl) (by kernel_rfl) (fun _ _ _ h => h) (Or.inr ⟨by rfl, rfl⟩) (by assumption) ?_
                  (try simp only [Act.put, tC, tD, tE])
                  refine wpAnyH_take (i := 34) (oi := ({ dst := some 164, op := Op.call { callee := Callee.value (Operand.func 30), args := #[Operand.tmp 162, Operand.tmp 163], argTypes := #[43, 3] }, type := 89, pos := "outright.go:78", after := #[{ on := 32, ground := Ground.data }, { on := 33, ground := Ground.data }, { on := 28, ground := Ground.chain }, { on := 28, ground := Ground.guard }], guard := some (28, true) } : Oper)) (v := undef) rfl (by kernel_rfl) (by kernel_rfl) (by kernel_rfl) (fun _ _ _ h => h) (Or.inr ⟨by rfl, rfl⟩) (by assumption) ?_
                  (try simp only [Act.put, tC, tD, tE])
                  refine wpAnyH_take (i := 35) (oi := ({ dst := some 165, op := Op.call { callee := Callee.builtin Builtin.len, args := #[Operand.tmp 164], argTypes := #[89] }, type := 3, pos := "outright.go:78", after := #[{ on := 34, ground := Ground.data }, { on := 28, ground := Ground.guard }], guard := some (28, true) } : Oper)) (v := undef) rfl (by kernel_rfl) (by kernel_rfl) (by kernel_rfl) (fun _ _ _ h => h) (Or.inr ⟨by rfl, rfl⟩) (by assumption) ?_
                  (try simp only [Act.put, tC, tD, tE])
                  refine wpAnyH_take (i := 36) (oi := ({ dst := some 166, op := Op.binOp BinOp.neq 3 (Operand.tmp 165) (Operand.const (Value.int IntKind.i64 1)) 3, type := 4, pos := "outright.go:78", after := #[{ on := 35, ground := Ground.data }, { on := 28, ground := Ground.guard }], guard := some (28, true) } : Oper)) (v := undef) rfl (by kernel_rfl) (by kernel_rfl) (by kernel_rfl) (fun _ _ _ h => h) (Or.inr ⟨by rfl, rfl⟩) (by assumption) ?_
                  (try simp only [Act.put, tC, tD, tE])
                  refine tA 37 ⟨some 167, .pick (.tmp 158) (.tmp 166) (.const (.bool false)), 4, "outright.go:78", #[⟨28, .data⟩, ⟨36, .data⟩, ⟨17, .guard⟩], some (17, false)⟩ ?vqbam36 ?rqbam36
                  (try simp only [Act.put, tC, tD, tE])
                  refine tA 38 ⟨some 168, .pick (.tmp 147) (.const (.bool true)) (.tmp 167), 4, "outright.go:78", #[⟨17, .data⟩, ⟨37, .data⟩], none⟩ ?vqbam37 ?rqbam37
                  (try simp only [Act.put, tC, tD, tE])
                  refine wpAnyH_done (by kernel_rfl) ?_ _
                  clear hHeld
                  go_wp2_with fail
                  go_roundg (n - (k + 1))
                  case measure => have := HKN.out; omega
                  case rel => exact ⟨k + 1, HKN.out, by omega, congrArg (Value.int .i64) (by first | omega | (unfold wrap64; have := HKN.out; have := HN64.out; omega)), HB6.out⟩
                · have e1 : decide ((k : Int) = (x : Int)) = false := decide_eq_false hz
                  have e2 : ((k : Int) == (x : Int)) = false := beq_false_of_ne hz
                  have f3 : ¬ k = x := fun e => hz (by rw [e])
                  have f4 : decide (k = x) = false := decide_eq_false f3
                  have f5 : (k == x) = false := beq_false_of_ne f3
                  have f6 : decide (¬ k = x) = true := decide_eq_true f3
                  have f7 : (k != x) = true := by simp [f3]
                  have e3 : ((k : Int) != (x : Int)) = true := by rw [bne, e2]; rfl
                  have e4 : decide (¬ (k : Int) = (x : Int)) = true := decide_eq_true hz
                  have f8 : (!decide (k = x)) = true := by rw [f4]; rfl
                  rw [e1, Bool.false_or] at hgk
                  have HZ := Lib.hid hz
                  clear hz
                  by_cases hGk : G k = true
                  · have HGK : Hid (Gos xk true) := Lib.hid (by rw [hGk] at hgk; exact hgk)
                    clear hgk
                    refine wp_region_held_drew (S := fun w' => w'.cell? ⟨WB, 2, none⟩ = some ps ∧ w'.cell? ⟨WB, 4, none⟩ = some ts ∧ w'.cell? ⟨GB, k, none⟩ = some (.bool (G k))) (by kernel_rfl) ?_ (fun hHeld => ?_)
                    · exact (HF.out _ (HB.out.trans ((Below.refl _ _).drew.mono HB.out.size))).1 k HKN.out
                    refine tA 0 ⟨some 130, .move (.tmp 5), 24, "outright.go:78", #[], none⟩ ?vqbbm1 ?rqbbm1
                    (try simp only [Act.put, tC, tD, tE])
                    refine tA 1 ⟨some 131, .nilCheck (.tmp 130), 0, "outright.go:78", #[⟨0, .data⟩], none⟩ ?vqbbm2 ?rqbbm2
                    (try simp only [Act.put, tC, tD, tE])
                    refine tA 2 ⟨some 132, .fieldAddr 47 (.tmp 131) 2, 0, "outright.go:78", #[⟨1, .data⟩], none⟩ ?vqbbm3 ?rqbbm3
                    (try simp only [Act.put, tC, tD, tE])
                    refine tA 3 ⟨some 133, .load 41 (.tmp 132), 41, "outright.go:78", #[⟨2, .data⟩], none⟩ ?vqbbm4 ?rqbbm4
                    (try simp only [Act.put, tC, tD, tE])
                    refine tA 4 ⟨some 134, .move (.tmp 14), 3, "outright.go:78", #[], none⟩ ?vqbbm5 ?rqbbm5
                    (try simp only [Act.put, tC, tD, tE])
                    refine tA 7 ⟨some 137, .move (.tmp 14), 3, "outright.go:78", #[], none⟩ ?vqbbm6 ?rqbbm6
                    (try simp only [Act.put, tC, tD, tE])
                    refine tA 8 ⟨some 138, .move (.tmp 9), 3, "outright.go:78", #[], none⟩ ?vqbbm7 ?rqbbm7
                    (try simp only [Act.put, tC, tD, tE])
                    refine tA 9 ⟨some 139, .binOp .eql 3 (.tmp 137) (.tmp 138) 3, 4, "outright.go:78", #[⟨7, .data⟩, ⟨8, .data⟩], none⟩ ?vqbbm8 ?rqbbm8
                    (try simp only [Act.put, tC, tD, tE])
                    refine wpAnyH_ready (rs := [5]) (by kernel_rfl) (by simp) ?_
                    refine AllReadyH.cons (o := ⟨some 135, .call ⟨.value (.func 29), #[.tmp 134], #[3]⟩, 3, "outright.go:78", #[⟨4, .data⟩], none⟩) rfl (fun Kq hKq => ?_) AllReadyH.nil
                    go_simp
                    (refine (HLOT.out k HKN.out _).mono ?_; rintro e' w5 ⟨rfl, rfl⟩)
                    refine hKq.out _ _ ?_ (fun hHeld => ?_)
                    · exact hHeld
                    clear hKq Kq
                    (try simp only [Act.put, tC, tD, tE])
                    refine wpAnyH_ready (rs := [6]) (by kernel_rfl) (by simp) ?_
                    refine AllReadyH.cons (o := ⟨some 136, .call ⟨.value (.func 28), #[.tmp 133, .tmp 135, .const (.int .u64 0)], #[41, 3, 23]⟩, 4, "outright.go:78", #[⟨3, .data⟩, ⟨5, .data⟩, ⟨5, .chain⟩], none⟩) rfl (fun Kq hKq => ?_) AllReadyH.nil
                    go_simp
                    (refine ((HF.out _ (HB.out.trans ((Below.refl _ _).drew.mono HB.out.size))).2.1 k _ _ (Nat.lt_of_lt_of_le HKN.out HN64.out) HXK.out HGK.out).mono ?_; rintro e' w6 ⟨rfl, hb6⟩; have HB6 := Lib.hid ((HB.out.trans ((Below.refl _ _).drew.mono HB.out.size)).trans (hb6.mono (HB.out.trans ((Below.refl _ _).drew.mono HB.out.size)).size)); clear hb6)
                    refine hKq.out _ _ ?_ (fun hHeld => ?_)
                    · exact (HF.out _ HB6.out).1 k HKN.out
                    clear hKq Kq
                    (try simp only [Act.put, tC, tD, tE])
                    refine tA 10 ⟨some 140, .move (.tmp 139), 4, "outright.go:78", #[⟨9, .data⟩, ⟨6, .chain⟩], none⟩ ?vqbbm9 ?rqbbm9
                    (try simp only [Act.put, tC, tD, tE])
                    refine tA 11 ⟨some 141, .move (.tmp 7), 86, "outright.go:78", #[⟨10, .guard⟩], some (10, false)⟩ ?vqbbm10 ?rqbbm10
                    (try simp only [Act.put, tC, tD, tE])
                    refine tA 12 ⟨some 142, .move (.tmp 14), 3, "outright.go:78", #[⟨10, .guard⟩], some (10, false)⟩ ?vqbbm11 ?rqbbm11
                    (try simp only [Act.put, tC, tD, tE])
                    refine tA 13 ⟨some 143, .indexAddr 86 (.tmp 141) (.tmp 142), 0, "outright.go:78", #[⟨11, .data⟩, ⟨12, .data⟩, ⟨10, .guard⟩], some (10, false)⟩ ?vqbbm12 ?rqbbm12
                    (try simp only [Act.put, tC, tD, tE])
                    refine tA 14 ⟨some 144, .load 4 (.tmp 143), 4, "outright.go:78", #[⟨13, .data⟩, ⟨10, .guard⟩], some (10, false)⟩ ?vqbbm13 ?rqbbm13
                    (try simp only [Act.put, tC, tD, tE])
                    refine tA 15 ⟨some 145, .pick (.tmp 140) (.const (.bool true)) (.tmp 144), 4, "outright.go:78", #[⟨10, .data⟩, ⟨14, .data⟩], none⟩ ?vqbbm14 ?rqbbm14
                    (try simp only [Act.put, tC, tD, tE])
                    refine tA 16 ⟨some 146, .binOp .neq 4 (.tmp 136) (.tmp 145) 4, 4, "outright.go:78", #[⟨6, .data⟩, ⟨15, .data⟩], none⟩ ?vqbbm15 ?rqbbm15
                    (try simp only [Act.put, tC, tD, tE])
                    refine tA 17 ⟨some 147, .move (.tmp 146), 4, "outright.go:78", #[⟨16, .data⟩, ⟨10, .chain⟩], none⟩ ?vqbbm16 ?rqbbm16
                    (try simp only [Act.put, tC, tD, tE])
                    refine tA 18 ⟨some 148, .move (.tmp 7), 86, "outright.go:78", #[⟨17, .guard⟩], some (17, false)⟩ ?vqbbm17 ?rqbbm17
                    (try simp only [Act.put, tC, tD, tE])
                    refine tA 19 ⟨some 149, .move (.tmp 14), 3, "outright.go:78", #[⟨17, .guard⟩], some (17, false)⟩ ?vqbbm18 ?rqbbm18
                    (try simp only [Act.put, tC, tD, tE])
                    refine tA 20 ⟨some 150, .indexAddr 86 (.tmp 148) (.tmp 149), 0, "outright.go:78", #[⟨18, .data⟩, ⟨19, .data⟩, ⟨17, .guard⟩], some (17, false)⟩ ?vqbbm19 ?rqbbm19
                    (try simp only [Act.put, tC, tD, tE])
                    refine tA 21 ⟨some 151, .load 4 (.tmp 150), 4, "outright.go:78", #[⟨20, .data⟩, ⟨17, .guard⟩], some (17, false)⟩ ?vqbbm20 ?rqbbm20
                    (try simp only [Act.put, tC, tD, tE])
                    refine tA 22 ⟨some 152, .unOp .not 4 (.tmp 151), 4, "outright.go:78", #[⟨21, .data⟩, ⟨17, .guard⟩], some (17, false)⟩ ?vqbbm21 ?rqbbm21
                    (try simp only [Act.put, tC, tD, tE])
                    refine tA 23 ⟨some 153, .move (.tmp 152), 4, "outright.go:78", #[⟨22, .data⟩, ⟨17, .chain⟩, ⟨17, .guard⟩], some (17, false)⟩ ?vqbbm22 ?rqbbm22
                    (try simp only [Act.put, tC, tD, tE])
                    refine wpAnyH_take (i := 24) (oi := ({ dst := some 154, op := Op.move (Operand.tmp 14), type := 3, pos := "outright.go:78", after := #[{ on := 23, ground := Ground.guard }], guard := some (23, true) } : Oper)) (v := undef) rfl (by kernel_rfl) (by kernel_rfl) (by kernel_rfl) (fun _ _ _ h => h) (Or.inr ⟨by rfl, rfl⟩) (by assumption) ?_
                    (try simp only [Act.put, tC, tD, tE])
                    refine wpAnyH_take (i := 25) (oi := ({ dst := some 155, op := Op.move (Operand.tmp 9), type := 3, pos := "outright.go:78", after := #[{ on := 23, ground := Ground.guard }], guard := some (23, true) } : Oper)) (v := undef) rfl (by kernel_rfl) (by kernel_rfl) (by kernel_rfl) (fun _ _ _ h => h) (Or.inr ⟨by rfl, rfl⟩) (by assumption) ?_
                    (try simp only [Act.put, tC, tD, tE])
                    refine wpAnyH_take (i := 26) (oi := ({ dst := some 156, op := Op.binOp BinOp.neq 3 (Operand.tmp 154) (Operand.tmp 155) 3, type := 4, pos := "outright.go:78", after := #[{ on := 24, ground := Ground.data }, { on := 25, ground := Ground.data }, { on := 23, ground := Ground.guard }], guard := some (23, true) } : Oper)) (v := undef) rfl (by kernel_rfl) (by kernel_rfl) (by kernel_rfl) (fun _ _ _ h => h) (Or.inr ⟨by rfl, rfl⟩) (by assumption) ?_
                    (try simp only [Act.put, tC, tD, tE])
                    refine tA 27 ⟨some 157, .pick (.tmp 153) (.tmp 156) (.const (.bool false)), 4, "outright.go:78", #[⟨23, .data⟩, ⟨26, .data⟩, ⟨17, .guard⟩], some (17, false)⟩ ?vqbbm26 ?rqbbm26
                    (try simp only [Act.put, tC, tD, tE])
                    refine tA 28 ⟨some 158, .move (.tmp 157), 4, "outright.go:78", #[⟨27, .data⟩, ⟨23, .chain⟩, ⟨17, .guard⟩], some (17, false)⟩ ?vqbbm27 ?rqbbm27
                    (try simp only [Act.put, tC, tD, tE])
                    refine wpAnyH_take (i := 29) (oi := ({ dst := some 159, op := Op.move (Operand.tmp 5), type := 24, pos := "outright.go:78", after := #[{ on := 28, ground := Ground.guard }], guard := some (28, true) } : Oper)) (v := undef) rfl (by kernel_rfl) (by kernel_rfl) (by kernel_rfl) (fun _ _ _ h => h) (Or.inr ⟨by rfl, rfl⟩) (by assumption) ?_
                    (try simp only [Act.put, tC, tD, tE])
                    refine wpAnyH_take (i := 30) (oi := ({ dst := some 160, op := Op.nilCheck (Operand.tmp 159), type := 0, pos := "outright.go:78", after := #[{ on := 29, ground := Ground.data }, { on := 28, ground := Ground.guard }], guard := some (28, true) } : Oper)) (v := undef) rfl (by kernel_rfl) (by kernel_rfl) (by kernel_rfl) (fun _ _ _ h => h) (Or.inr ⟨by rfl, rfl⟩) (by assumption) ?_
                    (try simp only [Act.put, tC, tD, tE])
                    refine wpAnyH_take (i := 31) (oi := ({ dst := some 161, op := Op.fieldAddr 47 (Operand.tmp 160) 4, type := 0, pos := "outright.go:78", after := #[{ on := 30, ground := Ground.data }, { on := 28, ground := Ground.guard }], guard := some (28, true) } : Oper)) (v := undef) rfl (by kernel_rfl) (by kernel_rfl) (by kernel_rfl) (fun _ _ _ h => h) (Or.inr ⟨by rfl, rfl⟩) (by assumption) ?_
                    (try simp only [Act.put, tC, tD, tE])
                    refine wpAnyH_take (i := 32) (oi := ({ dst := some 162, op := Op.load 43 (Operand.tmp 161), type := 43, pos := "outright.go:78", after := #[{ on := 31, ground := Ground.data }, { on := 28, ground := Ground.guard }], guard := some (28, true) } : Oper)) (v := undef) rfl (by kernel_rfl) (by kernel_rfl) (by kernel_rfl) (fun _ _ _ h => h) (Or.inr ⟨by rfl, rfl⟩) (by assumption) ?_
                    (try simp only [Act.put, tC, tD, tE])
                    refine wpAnyH_take (i := 33) (oi := ({ dst := some 163, op := Op.move (Operand.tmp 14), type := 3, pos := "outright.go:78", after := #[{ on := 28, ground := Ground.guard }], guard := some (28, true) } : Oper)) (v := undef) rfl (by kernel_rfl) (by kernel_rfl) (by kernel_rfl) (fun _ _ _ h => h) (Or.inr ⟨by rfl, rfl⟩) (by assumption) ?_
                    (try simp only [Act.put, tC, tD, tE])
                    refine wpAnyH_take (i := 34) (oi := ({ dst := some 164, op := Op.call { callee := Callee.value (Operand.func 30), args := #[Operand.tmp 162, Operand.tmp 163], argTypes := #[43, 3] }, type := 89, pos := "outright.go:78", after := #[{ on := 32, ground := Ground.data }, { on := 33, ground := Ground.data }, { on := 28, ground := Ground.chain }, { on := 28, ground := Ground.guard }], guard := some (28, true) } : Oper)) (v := undef) rfl (by kernel_rfl) (by kernel_rfl) (by kernel_rfl) (fun _ _ _ h => h) (Or.inr ⟨by rfl, rfl⟩) (by assumption) ?_
                    (try simp only [Act.put, tC, tD, tE])
                    refine wpAnyH_take (i := 35) (oi := ({ dst := some 165, op := Op.call { callee := Callee.builtin Builtin.len, args := #[Operand.tmp 164], argTypes := #[89] }, type := 3, pos := "outright.go:78", after := #[{ on := 34, ground := Ground.data }, { on := 28, ground := Ground.guard }], guard := some (28, true) } : Oper)) (v := undef) rfl (by kernel_rfl) (by kernel_rfl) (by kernel_rfl) (fun _ _ _ h => h) (Or.inr ⟨by rfl, rfl⟩) (by assumption) ?_
                    (try simp only [Act.put, tC, tD, tE])
                    refine wpAnyH_take (i := 36) (oi := ({ dst := some 166, op := Op.binOp BinOp.neq 3 (Operand.tmp 165) (Operand.const (Value.int IntKind.i64 1)) 3, type := 4, pos := "outright.go:78", after := #[{ on := 35, ground := Ground.data }, { on := 28, ground := Ground.guard }], guard := some (28, true) } : Oper)) (v := undef) rfl (by kernel_rfl) (by kernel_rfl) (by kernel_rfl) (fun _ _ _ h => h) (Or.inr ⟨by rfl, rfl⟩) (by assumption) ?_
                    (try simp only [Act.put, tC, tD, tE])
                    refine tA 37 ⟨some 167, .pick (.tmp 158) (.tmp 166) (.const (.bool false)), 4, "outright.go:78", #[⟨28, .data⟩, ⟨36, .data⟩, ⟨17, .guard⟩], some (17, false)⟩ ?vqbbm36 ?rqbbm36
                    (try simp only [Act.put, tC, tD, tE])
                    refine tA 38 ⟨some 168, .pick (.tmp 147) (.const (.bool true)) (.tmp 167), 4, "outright.go:78", #[⟨17, .data⟩, ⟨37, .data⟩], none⟩ ?vqbbm37 ?rqbbm37
                    (try simp only [Act.put, tC, tD, tE])
                    refine wpAnyH_done (by kernel_rfl) ?_ _
                    clear hHeld
                    go_wp2_with fail
                    go_roundg (n - (k + 1))
                    case measure => have := HKN.out; omega
                    case rel => exact ⟨k + 1, HKN.out, by omega, congrArg (Value.int .i64) (by first | omega | (unfold wrap64; have := HKN.out; have := HN64.out; omega)), HB6.out⟩
                  · have hGk : G k = false := by simpa using hGk
                    have HGK : Hid (Gos xk false) := Lib.hid (by rw [hGk] at hgk; exact hgk)
                    have HCK := Lib.hid (HCN.out k HKN.out hGk HZ.out)
                    clear hgk
                    refine wp_region_held_drew (S := fun w' => w'.cell? ⟨WB, 2, none⟩ = some ps ∧ w'.cell? ⟨WB, 4, none⟩ = some ts ∧ w'.cell? ⟨GB, k, none⟩ = some (.bool (G k))) (by kernel_rfl) ?_ (fun hHeld => ?_)
                    · exact (HF.out _ (HB.out.trans ((Below.refl _ _).drew.mono HB.out.size))).1 k HKN.out
                    refine tA 0 ⟨some 130, .move (.tmp 5), 24, "outright.go:78", #[], none⟩ ?vqbcm1 ?rqbcm1
                    (try simp only [Act.put, tC, tD, tE])
                    refine tA 1 ⟨some 131, .nilCheck (.tmp 130), 0, "outright.go:78", #[⟨0, .data⟩], none⟩ ?vqbcm2 ?rqbcm2
                    (try simp only [Act.put, tC, tD, tE])
                    refine tA 2 ⟨some 132, .fieldAddr 47 (.tmp 131) 2, 0, "outright.go:78", #[⟨1, .data⟩], none⟩ ?vqbcm3 ?rqbcm3
                    (try simp only [Act.put, tC, tD, tE])
                    refine tA 3 ⟨some 133, .load 41 (.tmp 132), 41, "outright.go:78", #[⟨2, .data⟩], none⟩ ?vqbcm4 ?rqbcm4
                    (try simp only [Act.put, tC, tD, tE])
                    refine tA 4 ⟨some 134, .move (.tmp 14), 3, "outright.go:78", #[], none⟩ ?vqbcm5 ?rqbcm5
                    (try simp only [Act.put, tC, tD, tE])
                    refine tA 7 ⟨some 137, .move (.tmp 14), 3, "outright.go:78", #[], none⟩ ?vqbcm6 ?rqbcm6
                    (try simp only [Act.put, tC, tD, tE])
                    refine tA 8 ⟨some 138, .move (.tmp 9), 3, "outright.go:78", #[], none⟩ ?vqbcm7 ?rqbcm7
                    (try simp only [Act.put, tC, tD, tE])
                    refine tA 9 ⟨some 139, .binOp .eql 3 (.tmp 137) (.tmp 138) 3, 4, "outright.go:78", #[⟨7, .data⟩, ⟨8, .data⟩], none⟩ ?vqbcm8 ?rqbcm8
                    (try simp only [Act.put, tC, tD, tE])
                    refine wpAnyH_ready (rs := [5]) (by kernel_rfl) (by simp) ?_
                    refine AllReadyH.cons (o := ⟨some 135, .call ⟨.value (.func 29), #[.tmp 134], #[3]⟩, 3, "outright.go:78", #[⟨4, .data⟩], none⟩) rfl (fun Kq hKq => ?_) AllReadyH.nil
                    go_simp
                    (refine (HLOT.out k HKN.out _).mono ?_; rintro e' w5 ⟨rfl, rfl⟩)
                    refine hKq.out _ _ ?_ (fun hHeld => ?_)
                    · exact hHeld
                    clear hKq Kq
                    (try simp only [Act.put, tC, tD, tE])
                    refine wpAnyH_ready (rs := [6]) (by kernel_rfl) (by simp) ?_
                    refine AllReadyH.cons (o := ⟨some 136, .call ⟨.value (.func 28), #[.tmp 133, .tmp 135, .const (.int .u64 0)], #[41, 3, 23]⟩, 4, "outright.go:78", #[⟨3, .data⟩, ⟨5, .data⟩, ⟨5, .chain⟩], none⟩) rfl (fun Kq hKq => ?_) AllReadyH.nil
                    go_simp
                    (refine ((HF.out _ (HB.out.trans ((Below.refl _ _).drew.mono HB.out.size))).2.1 k _ _ (Nat.lt_of_lt_of_le HKN.out HN64.out) HXK.out HGK.out).mono ?_; rintro e' w6 ⟨rfl, hb6⟩; have HB6 := Lib.hid ((HB.out.trans ((Below.refl _ _).drew.mono HB.out.size)).trans (hb6.mono (HB.out.trans ((Below.refl _ _).drew.mono HB.out.size)).size)); clear hb6)
                    refine hKq.out _ _ ?_ (fun hHeld => ?_)
                    · exact (HF.out _ HB6.out).1 k HKN.out
                    clear hKq Kq
                    (try simp only [Act.put, tC, tD, tE])
                    refine tA 10 ⟨some 140, .move (.tmp 139), 4, "outright.go:78", #[⟨9, .data⟩, ⟨6, .chain⟩], none⟩ ?vqbcm9 ?rqbcm9
                    (try simp only [Act.put, tC, tD, tE])
                    refine tA 11 ⟨some 141, .move (.tmp 7), 86, "outright.go:78", #[⟨10, .guard⟩], some (10, false)⟩ ?vqbcm10 ?rqbcm10
                    (try simp only [Act.put, tC, tD, tE])
                    refine tA 12 ⟨some 142, .move (.tmp 14), 3, "outright.go:78", #[⟨10, .guard⟩], some (10, false)⟩ ?vqbcm11 ?rqbcm11
                    (try simp only [Act.put, tC, tD, tE])
                    refine tA 13 ⟨some 143, .indexAddr 86 (.tmp 141) (.tmp 142), 0, "outright.go:78", #[⟨11, .data⟩, ⟨12, .data⟩, ⟨10, .guard⟩], some (10, false)⟩ ?vqbcm12 ?rqbcm12
                    (try simp only [Act.put, tC, tD, tE])
                    refine tA 14 ⟨some 144, .load 4 (.tmp 143), 4, "outright.go:78", #[⟨13, .data⟩, ⟨10, .guard⟩], some (10, false)⟩ ?vqbcm13 ?rqbcm13
                    (try simp only [Act.put, tC, tD, tE])
                    refine tA 15 ⟨some 145, .pick (.tmp 140) (.const (.bool true)) (.tmp 144), 4, "outright.go:78", #[⟨10, .data⟩, ⟨14, .data⟩], none⟩ ?vqbcm14 ?rqbcm14
                    (try simp only [Act.put, tC, tD, tE])
                    refine tA 16 ⟨some 146, .binOp .neq 4 (.tmp 136) (.tmp 145) 4, 4, "outright.go:78", #[⟨6, .data⟩, ⟨15, .data⟩], none⟩ ?vqbcm15 ?rqbcm15
                    (try simp only [Act.put, tC, tD, tE])
                    refine tA 17 ⟨some 147, .move (.tmp 146), 4, "outright.go:78", #[⟨16, .data⟩, ⟨10, .chain⟩], none⟩ ?vqbcm16 ?rqbcm16
                    (try simp only [Act.put, tC, tD, tE])
                    refine tA 18 ⟨some 148, .move (.tmp 7), 86, "outright.go:78", #[⟨17, .guard⟩], some (17, false)⟩ ?vqbcm17 ?rqbcm17
                    (try simp only [Act.put, tC, tD, tE])
                    refine tA 19 ⟨some 149, .move (.tmp 14), 3, "outright.go:78", #[⟨17, .guard⟩], some (17, false)⟩ ?vqbcm18 ?rqbcm18
                    (try simp only [Act.put, tC, tD, tE])
                    refine tA 20 ⟨some 150, .indexAddr 86 (.tmp 148) (.tmp 149), 0, "outright.go:78", #[⟨18, .data⟩, ⟨19, .data⟩, ⟨17, .guard⟩], some (17, false)⟩ ?vqbcm19 ?rqbcm19
                    (try simp only [Act.put, tC, tD, tE])
                    refine tA 21 ⟨some 151, .load 4 (.tmp 150), 4, "outright.go:78", #[⟨20, .data⟩, ⟨17, .guard⟩], some (17, false)⟩ ?vqbcm20 ?rqbcm20
                    (try simp only [Act.put, tC, tD, tE])
                    refine tA 22 ⟨some 152, .unOp .not 4 (.tmp 151), 4, "outright.go:78", #[⟨21, .data⟩, ⟨17, .guard⟩], some (17, false)⟩ ?vqbcm21 ?rqbcm21
                    (try simp only [Act.put, tC, tD, tE])
                    refine tA 23 ⟨some 153, .move (.tmp 152), 4, "outright.go:78", #[⟨22, .data⟩, ⟨17, .chain⟩, ⟨17, .guard⟩], some (17, false)⟩ ?vqbcm22 ?rqbcm22
                    (try simp only [Act.put, tC, tD, tE])
                    refine tA 24 ⟨some 154, .move (.tmp 14), 3, "outright.go:78", #[⟨23, .guard⟩], some (23, true)⟩ ?vqbcm23 ?rqbcm23
                    (try simp only [Act.put, tC, tD, tE])
                    refine tA 25 ⟨some 155, .move (.tmp 9), 3, "outright.go:78", #[⟨23, .guard⟩], some (23, true)⟩ ?vqbcm24 ?rqbcm24
                    (try simp only [Act.put, tC, tD, tE])
                    refine tA 26 ⟨some 156, .binOp .neq 3 (.tmp 154) (.tmp 155) 3, 4, "outright.go:78", #[⟨24, .data⟩, ⟨25, .data⟩, ⟨23, .guard⟩], some (23, true)⟩ ?vqbcm25 ?rqbcm25
                    (try simp only [Act.put, tC, tD, tE])
                    refine tA 27 ⟨some 157, .pick (.tmp 153) (.tmp 156) (.const (.bool false)), 4, "outright.go:78", #[⟨23, .data⟩, ⟨26, .data⟩, ⟨17, .guard⟩], some (17, false)⟩ ?vqbcm26 ?rqbcm26
                    (try simp only [Act.put, tC, tD, tE])
                    refine tA 28 ⟨some 158, .move (.tmp 157), 4, "outright.go:78", #[⟨27, .data⟩, ⟨23, .chain⟩, ⟨17, .guard⟩], some (17, false)⟩ ?vqbcm27 ?rqbcm27
                    (try simp only [Act.put, tC, tD, tE])
                    refine tA 29 ⟨some 159, .move (.tmp 5), 24, "outright.go:78", #[⟨28, .guard⟩], some (28, true)⟩ ?vqbcm28 ?rqbcm28
                    (try simp only [Act.put, tC, tD, tE])
                    refine tA 30 ⟨some 160, .nilCheck (.tmp 159), 0, "outright.go:78", #[⟨29, .data⟩, ⟨28, .guard⟩], some (28, true)⟩ ?vqbcm29 ?rqbcm29
                    (try simp only [Act.put, tC, tD, tE])
                    refine tA 31 ⟨some 161, .fieldAddr 47 (.tmp 160) 4, 0, "outright.go:78", #[⟨30, .data⟩, ⟨28, .guard⟩], some (28, true)⟩ ?vqbcm30 ?rqbcm30
                    (try simp only [Act.put, tC, tD, tE])
                    refine tA 32 ⟨some 162, .load 43 (.tmp 161), 43, "outright.go:78", #[⟨31, .data⟩, ⟨28, .guard⟩], some (28, true)⟩ ?vqbcm31 ?rqbcm31
                    (try simp only [Act.put, tC, tD, tE])
                    refine tA 33 ⟨some 163, .move (.tmp 14), 3, "outright.go:78", #[⟨28, .guard⟩], some (28, true)⟩ ?vqbcm32 ?rqbcm32
                    (try simp only [Act.put, tC, tD, tE])
                    refine wpAnyH_ready (rs := [34]) (by kernel_rfl) (by simp) ?_
                    refine AllReadyH.cons (o := ⟨some 164, .call ⟨.value (.func 30), #[.tmp 162, .tmp 163], #[43, 3]⟩, 89, "outright.go:78", #[⟨32, .data⟩, ⟨33, .data⟩, ⟨28, .chain⟩, ⟨28, .guard⟩], some (28, true)⟩) rfl (fun Kq hKq => ?_) AllReadyH.nil
                    go_simp
                    (refine ((HF.out _ HB6.out).2.2 (k : Int)).mono ?_; rw [HCK.out]; rintro e' w7 ⟨A7, rfl, hb7⟩; have HB7 := Lib.hid (HB6.out.trans (hb7.mono HB6.out.size)); clear hb7)
                    refine hKq.out _ _ ?_ (fun hHeld => ?_)
                    · exact (HF.out _ HB7.out).1 k HKN.out
                    clear hKq Kq
                    (try simp only [Act.put, tC, tD, tE])
                    refine tA 35 ⟨some 165, .call ⟨.builtin .len, #[.tmp 164], #[89]⟩, 3, "outright.go:78", #[⟨34, .data⟩, ⟨28, .guard⟩], some (28, true)⟩ ?vqbcm33 ?rqbcm33
                    (try simp only [Act.put, tC, tD, tE])
                    refine tA 36 ⟨some 166, .binOp .neq 3 (.tmp 165) (.const (.int .i64 1)) 3, 4, "outright.go:78", #[⟨35, .data⟩, ⟨28, .guard⟩], some (28, true)⟩ ?vqbcm34 ?rqbcm34
                    (try simp only [Act.put, tC, tD, tE])
                    refine tA 37 ⟨some 167, .pick (.tmp 158) (.tmp 166) (.const (.bool false)), 4, "outright.go:78", #[⟨28, .data⟩, ⟨36, .data⟩, ⟨17, .guard⟩], some (17, false)⟩ ?vqbcm35 ?rqbcm35
                    (try simp only [Act.put, tC, tD, tE])
                    refine tA 38 ⟨some 168, .pick (.tmp 147) (.const (.bool true)) (.tmp 167), 4, "outright.go:78", #[⟨17, .data⟩, ⟨37, .data⟩], none⟩ ?vqbcm36 ?rqbcm36
                    (try simp only [Act.put, tC, tD, tE])
                    refine wpAnyH_done (by kernel_rfl) ?_ _
                    clear hHeld
                    go_wp2_with fail
                    go_roundg (n - (k + 1))
                    case measure => have := HKN.out; omega
                    case rel => exact ⟨k + 1, HKN.out, by omega, congrArg (Value.int .i64) (by first | omega | (unfold wrap64; have := HKN.out; have := HN64.out; omega)), HB7.out⟩
              · obtain rfl : n = k := by omega
                have d1 : decide ((n : Int) < (n : Int)) = false := decide_eq_false (by omega)
                have d2 : decide (n < n) = false := decide_eq_false (by omega)
                have hxn : x < n := HXN.out
                have f1 : decide ((x : Int) < 0) = false := decide_eq_false (by omega)
                have f2 : decide ((x : Int) < (n : Int)) = true := decide_eq_true (by omega)
                have f3 : (x : Int) < (n : Int) := by omega
                have hcg : wr.cell? ⟨GB, x, none⟩ = some (.bool (G x)) := (cell_row (hO_blk (H7.out.new HB.out)) x).trans (gV_at hxn)
                have hfz : wr.frozen? ⟨GB, x, none⟩ = false := froz_row (hO_blk (H7.out.new HB.out)) x
                clear d1 d2 hxn
                go_upto_region 32 with fail
                have H8 := Lib.hid (hO_mark (H7.out.new HB.out) x)
                clear hcg hfz f1
                generalize wr.setCell ⟨GB, x, none⟩ (.bool true) = w8 at *
                obtain ⟨g6, o6, rfl, c6a⟩ := HCL.out _ _ _ _ _ H8.out
                obtain ⟨lx, Ex, Fx, hlx, hsx⟩ := HS.out.2 x (by rw [← HN.out]; exact HXN.out) HGX.out
                have HLX := Lib.hid hlx
                have hwk := wake_s (i := x) (D := sD ks x) HT.out.1 HT.out.2 HK5.out.1 (by have := HI.out; have := HLE.out; omega) H8.out hlx hsx rfl (by show (M5.pf (2 * x)).p = true; rw [HK5.out.2.2.1 x (by rw [← HN.out]; exact HXN.out), if_pos rfl])
                rw [← HBX.out] at hwk
                have HWK : Hid (Calls Tryz.prog 31 #[Pw B, Pw WB] w8 _) := Lib.hid hwk
                clear hwk hlx hsx
                go_upto_region 33 with (go_at_call 31; refine HWK.out.mono ?_; rintro e w9 ⟨rfl, l9, h9, s9⟩; have H9 := Lib.hid h9; have S9 := Lib.hid s9; clear h9 s9)
                clear HWK c6a
                obtain ⟨g9, o9, e9, c9⟩ := HCL.out _ _ _ _ _ H9.out
                injection e9 with e9
                injection e9 with e9a e9b e9c
                subst e9a e9b
                have hgt := got_s (i := x) H9.out (by rw [List.getElem?_set_self (List.getElem?_eq_some_iff.1 HLX.out).1]) S9.out (by show x < 64; have := HXN.out; have := HN64.out; omega)
                have e10 : (M5.park (2 * (sD ks x).t)).tk (sD ks x).t = i + 50 := HK5.out.2.2.2
                rw [e10] at hgt
                have HGT : Hid (Calls Tryz.prog 17 #[Pw B, Pw WB] w9 fun e w' => e = .returned (.tuple #[.int .u8 2, .int .u64 ((i + 50 : Nat) : Int)]) ∧ Below w9.heap.size w9 w') := Lib.hid hgt
                clear hgt e10
                go_upto_region 34 with (go_at_call 17; refine HGT.out.mono ?_; rintro e w10 ⟨rfl, hb10⟩; have H10 := Lib.hid (H9.out.new hb10); clear hb10)
                clear c9 HGT
                have hok9 : OkO ks (gset G x) (M5.park (2 * x)) (10 * n + 30 * i + 10 + 10) := OkO.woke HK5.out.1 HK5.out.2.1 HK5.out.2.2.1
                obtain ⟨ts9, hts9⟩ := H10.out.places hok9.wn (fun b => Nat.le_trans (sQg_len ks _ b) (by have := HN.out; have := HLE.out; omega)) hok9.mx
                have hc0 : cnt4 (sQg ks (gset G x)) (x : Int) = 0 := (sQg_pos ks (gset G x) x).trans (if_neg (fun e => by have := e.2; simp [gset] at this))
                have HOK9 := Lib.hid hok9; have HC0 := Lib.hid hc0
                have k4 := (hts9 _ (Below.refl _ _)).1
                have HPL := Lib.hid ((hts9 _ (Below.refl _ _)).2 (x : Int))
                have y6 : IntKind.u64.wrap (i : Int) = (i : Int) := by rw [IntKind.wrap_u64]; have := HI.out; have := HLE.out; omega
                have y7 : IntKind.u64.wrap ((i : Int) + 50) = ((i + 50 : Nat) : Int) := by rw [IntKind.wrap_u64]; have := HI.out; have := HLE.out; omega
                clear hok9 hc0 hts9
                go_wp2_with (go_at_call 30; refine HPL.out.mono ?_; rw [HC0.out]; rintro e w11 ⟨A11, rfl, hb11⟩; have HB11 := Lib.hid hb11; clear hb11)
                go_roundg (m - (i + 1))
                case measure => have := HI.out; omega
                case rel =>
                  have h9 := HI.out
                  have h8 := HLE.out
                  exact ⟨i + 1, M5.park (2 * x), gset G x, L.set x l9, _, HI.out, by omega, congrArg (Value.int .i64) (by first | omega | (unfold wrap64; omega)), H10.out.new HB11.out, HS.out.gone x l9, HOK9.out.mono (by omega)⟩
        · have ej : ((j + 1 : Nat) : Int) - 1 = (j : Int) := by omega
          rw [ej] at hs11
          subst hs11
          have hjn : j < n := by omega
          have HJN := Lib.hid hjn
          have d1 : decide ((0 : Int) ≤ (j : Int)) = true := decide_eq_true (by omega)
          have hnx := @wS_next ks G a j (by rw [← HN.out]; exact hjn)
          obtain ⟨l, hl⟩ : ∃ l, l = wS ks G a (j + 1) := ⟨_, rfl⟩
          rw [← hl] at hnx
          rw [← hl]
          obtain ⟨g, og, rfl, hg, hc0⟩ := HIN.out j hjn
          obtain ⟨b, hbb⟩ : ∃ b, b = ks[j]! := ⟨_, rfl⟩
          have hb256 := H256.out j hjn
          rw [← hbb] at hc0 hb256
          have HBO := Lib.hid (HA.out.bl.trans (HBY.out.mono HA.out.bl.size))
          have hc : wr.cell? ⟨g, og + j, none⟩ = some (.int .u8 (b : Int)) := (HBO.out.cell (p := ⟨g, og + j, none⟩) hg).trans hc0
          have hcq := HCQ.out _ HBO.out
          have hcg : wr.cell? ⟨GB, j, none⟩ = some (.bool (G j)) := (cell_row (hO_blk (HA.out.new HBY.out)) j).trans (gV_at hjn)
          obtain ⟨⟨y1, y1', y2⟩, -⟩ := HY.out
          obtain ⟨bm, hbm⟩ : ∃ bm, bm = b % 4 := ⟨_, rfl⟩
          have x1 : (b : Int).tmod 4 = (bm : Int) := by rw [Int.tmod_eq_emod_of_nonneg (by omega)]; omega
          have x1' : (b : Int) % 4 = (bm : Int) := by omega
          have x2 : IntKind.u8.wrap (bm : Int) = (bm : Int) := by rw [IntKind.wrap_u8]; omega
          have hP : wP ks G a j = (!G j && decide (bm = am)) := by rw [hbm, HAM.out, hbb]; rfl
          have hge := @hdZ_ge l
          have HL := Lib.hid hl
          have b1 : (j : Int) < (n : Int) := by omega
          have b2 : (i : Int) < (m : Int) := by have := HI.out; omega
          clear hl hbb hb256 hc0 hjn hg ej hj hbm
          obtain ⟨gj, hgj⟩ : ∃ gj, gj = G j := ⟨_, rfl⟩
          rw [← hgj] at hcg hP
          clear hgj
          cases gj
          · by_cases hba : bm = am
            · subst hba
              have HNX : Hid (wS ks G a j = j :: l) := Lib.hid (by rw [hnx, hP]; simp)
              obtain ⟨z, hz⟩ : ∃ z, z = hdZ l := ⟨_, rfl⟩
              rw [← hz] at hge
              rw [← hz]
              have HGE := Lib.hid hge
              clear hnx hP hge hz
              go_wp2_with fail
              go_quiet (fail)
              go_wp2_with fail
              go_roundg j
              case measure => omega
              case rel => exact ⟨j, Nat.le_of_lt HJN.out, rfl, congrArg (Value.int .i64) (by first | rfl | (unfold wrap64; have := HJN.out; have := HLE.out; omega)), by rw [HNX.out]; rfl, by rw [HNX.out]; first | (rw [HGE.out]; exact congrArg Value.bool (decide_eq_decide.2 (by simp))) | exact congrArg Value.bool (HGE.out.trans (decide_eq_decide.2 (by simp))), HBY.out.trans ((below_n wr nq).mono HBY.out.size)⟩
            · have f1 : decide ((bm : Int) = (am : Int)) = false := decide_eq_false (by omega)
              have f2 : ((bm : Int) == (am : Int)) = false := beq_false_of_ne (by omega)
              have HNX : Hid (wS ks G a j = l) := Lib.hid (by rw [hnx, hP, decide_eq_false hba]; simp)
              clear hnx hP hge
              go_wp2_with fail
              go_quiet (fail)
              go_wp2_with fail
              go_roundg j
              case measure => omega
              case rel => exact ⟨j, Nat.le_of_lt HJN.out, rfl, congrArg (Value.int .i64) (by first | rfl | (unfold wrap64; have := HJN.out; have := HLE.out; omega)), by rw [HNX.out], by rw [HNX.out], HBY.out.trans ((below_n wr nq).mono HBY.out.size)⟩
          · have HNX : Hid (wS ks G a j = l) := Lib.hid (by rw [hnx, hP]; simp)
            clear hnx hP hge
            go_wp2_with fail
            go_quiet (fail)
            go_wp2_with fail
            go_roundg j
            case measure => omega
            case rel => exact ⟨j, Nat.le_of_lt HJN.out, rfl, congrArg (Value.int .i64) (by first | rfl | (unfold wrap64; have := HJN.out; have := HLE.out; omega)), by rw [HNX.out], by rw [HNX.out], HBY.out.trans ((below_n wr nq).mono HBY.out.size)⟩
    · obtain rfl : i = m := by have := HI0.out; omega
      have d1 : decide ((i : Int) < (i : Int)) = false := decide_eq_false (by omega)
      have d2 : decide (i < i) = false := decide_eq_false (by omega)
      have HBW : Hid (Below w.heap.size w wr) := Lib.hid HA.out.bl
      go_wp2_with (go_at_call 26; refine (HLV.out _ HBW.out).mono ?_; rintro e w7 ⟨rfl, hb7⟩; have HB7 := Lib.hid (HBW.out.trans (hb7.mono HBW.out.size)); clear hb7)
      go_ret
      exact ⟨rfl, HB7.out⟩
end Go.Proofs.YtieiiabbeglmfaaGreatDoor.S19
