/- TablesGrow's walk. -/
import Derived.Test.YtcdoklgjicfkmaaG2
namespace Go.Proofs.Ytcdoklgjicfkmaa
open Go.RowKit

set_option maxRecDepth 20000 in
theorem grow_big {W : World} (A B : Option Addr) (n c ns cs : Nat) (now : Int) (h : 60 < n ∨ 10 < ns) (hn9 : n ≤ 9223372036854775807) (hs9 : ns ≤ 9223372036854775807) : Calls Try.prog 5 #[.slice A n c, .slice B ns cs, .int .u64 now] W fun e w' => e = .returned (.bool true) ∧ Below W.heap.size W w' := by
  have QL := Lib.hid lives_any
  by_cases h1 : 60 < n
  · have g1 : decide ((60 : Int) < (n : Int)) = true := by simp; omega
    clear h
    go_enter Try.func5, Try.ntmps5
    go_wp2_with fail
    refine (QL.out _).mono ?_
    rintro e w2 ⟨rfl, b2⟩
    have B2 := Lib.hid b2
    clear b2
    go_wp2_with fail
    go_ret
    exact ⟨rfl, B2.out⟩
  · have g1 : decide ((60 : Int) < (n : Int)) = false := by simp; omega
    have g2 : decide ((10 : Int) < (ns : Int)) = true := by simp; omega
    clear h
    go_enter Try.func5, Try.ntmps5
    go_wp2_with fail
    refine (QL.out _).mono ?_
    rintro e w2 ⟨rfl, b2⟩
    have B2 := Lib.hid b2
    clear b2
    go_wp2_with fail
    go_ret
    exact ⟨rfl, B2.out⟩
set_option maxHeartbeats 8000000 in
set_option maxRecDepth 100000 in
theorem law_grow {W : World} {A B : Option Addr} {D : List Ent} (c : Nat) (hr : Rd W W.heap.size A (flat D)) (hkeys : Keys D) (hlen : D.length ≤ 60) (ns cs : Nat) (Z : Nat → Nat) (hz : 0 < ns → ∃ g o, B = some ⟨g, o, none⟩ ∧ g < W.heap.size ∧ ∀ i, i < ns → W.cell? ⟨g, o + i, none⟩ = some (.int .u8 (Z i : Int))) (hZ : ∀ i, i < ns → Z i < 256) (hns : ns ≤ 10) (now : Int) :
    Calls Try.prog 5 #[.slice A D.length c, .slice B ns cs, .int .u64 now] W fun e w' => e = .returned (.bool true) ∧ Below W.heap.size W w' := by
  have QL := Lib.hid lives_any
  obtain ⟨h, hkit, hhalf⟩ := kits
  have K2 : Kit 2 4 (h 2) := hkit 2 (by omega) (by omega)
  have hlt : ∀ b, 2 ≤ b → b ≤ 8 → ∀ k, k < 4294967296 → h b k < 2 ^ b := fun b h1 h2 => (hkit b h1 h2).lt (Nat.pow_pos (by omega))
  have HP := Lib.hid (placed_any c hr hkeys hlen K2)
  have hg2 := mp_good (h 2) D hkeys (K2.lt (by omega))
  have HKIT := Lib.hid hkit; have HHALF := Lib.hid hhalf; have HLT := Lib.hid hlt; have HR := Lib.hid hr; have HKEYS := Lib.hid hkeys; have HZ := Lib.hid hz; have HZ8 := Lib.hid hZ; have HG2 := Lib.hid hg2; have HK2 := Lib.hid K2
  obtain ⟨n, hn⟩ : ∃ n, n = D.length := ⟨_, rfl⟩
  rw [← hn] at HP hlen ⊢
  have HN := Lib.hid hn
  have g1 : decide ((60 : Int) < (n : Int)) = false := by simp; omega
  have g2 : decide ((10 : Int) < (ns : Int)) = false := by simp; omega
  clear hr hkeys hz hZ hkit hhalf hlt hg2 K2 hn
  go_enter Try.func5, Try.ntmps5
  go_wp2_with fail
  refine HP.out.mono ?_
  rintro e w1 ⟨s, own1, rfl, hs1, hb1⟩
  have HS1 := Lib.hid hs1; have HB1 := Lib.hid hb1
  have hI2 : InI 2 := by unfold InI; omega
  have hqs : Calls Try.prog 22 #[s, .int .i64 2] w1 fun e w' => ∃ s' ss, e = .returned s' ∧ Tq w' w1.heap.size s' ss (reh (h 2) 4 D) ∧ Below w1.heap.size w1 w' := by
    obtain ⟨F, hrs⟩ := hs1.rs
    have hl : (Mp (h 2) D 2).length = 4 := by rw [mp2, fresh_len, reh_len]
    have := queues_any hrs hI2 (n := 4) HK2.out.size hl (by omega) (fun i hi => by have := q_len (L := Mp (h 2) D 2) (i := i) (by omega); have := HG2.out.few 2; have := HN.out; omega)
    rw [mp2, fresh_q] at this
    exact this
  have HQS := Lib.hid hqs
  clear hs1 hb1 hqs
  go_wp2_with fail
  refine HQS.out.mono ?_
  rintro e w2 ⟨s8, ss8, rfl, ht8, hb2⟩
  obtain ⟨A8, c8, hse, hc8, hc89⟩ := ht8.row.shape
  rw [reh_len] at hse hc8
  subst hse
  have hsn2 : Sn w2 W.heap.size own1 s 1 (Mp (h 2) D) (fun g => w1.heap.size ≤ g ∧ g < w2.heap.size) := ⟨HS1.out.new hb2, fun g hg => ⟨hg.2, fun hm => by have := (HS1.out.fp hm).2; omega⟩⟩
  have HSN2 := Lib.hid hsn2; have HT8 := Lib.hid ht8; have HB2 := Lib.hid (HB1.out.trans (hb2.mono HB1.out.size))
  clear hsn2 ht8 hb2
  go_wp2_with fail
  go_loopg [9, 10] ns (fun q s9 s10 wx => ∃ (i b m : Nat) (t : Int) (own : Nat → Option Role) (M : Int → List Bk), i ≤ ns ∧ q = ns - i ∧ s10 = .int .i64 (i : Int) ∧ s9 = .int .i64 (b : Int) ∧ 2 ≤ b ∧ b ≤ 8 ∧ Inv h D M b t ∧ Good M 60 ∧ m ≤ i + 1 ∧ Sn wx W.heap.size own s m M (fun g => w1.heap.size ≤ g ∧ g < w2.heap.size) ∧ Turns (fun g => ¬ (w1.heap.size ≤ g ∧ g < w2.heap.size)) w2 wx ∧ Below W.heap.size W wx)
  case atStart => exact ⟨0, 2, 1, 0, own1, Mp (h 2) D, by omega, rfl, rfl, rfl, by omega, by omega, mp_inv h D, HG2.out.mono (by have := HN.out; omega), by omega, HSN2.out, Turns.refl _ _, HB2.out⟩
  case round =>
    obtain ⟨i, b, m, t, own, M, hi, rfl, rfl, rfl, hb2, hb8, hinv, hgd, hm, hsn, htn, hbw⟩ := hrel
    have HINV := Lib.hid hinv; have HGD := Lib.hid hgd; have HM := Lib.hid hm; have HSN := Lib.hid hsn; have HTN := Lib.hid htn; have HBW := Lib.hid hbw
    clear hinv hgd hm hsn htn hbw
    by_cases hin : i < ns
    · have t1 : decide ((i : Int) < (ns : Int)) = true := by simpa using hin
      by_cases hb7 : b < 8
      · have t2 : decide ((b : Int) < 8) = true := by simp; omega
        obtain ⟨g, o, rfl, hg, hcell⟩ := HZ.out (by omega)
        have hc := (HBW.out.cell (p := ⟨g, o + i, none⟩) hg).trans (hcell i hin)
        have hz8 := HZ8.out i hin
        generalize Z i = z at hc hz8
        obtain ⟨tg, htg⟩ : ∃ tg : Nat, tg = if b + 1 + z % 3 ≤ 8 then b + 1 + z % 3 else 8 := ⟨_, rfl⟩
        have htg1 : b < tg := by split at htg <;> omega
        have htg8 : tg ≤ 8 := by split at htg <;> omega
        have HTG := Lib.hid htg
        have hIb : InI (b : Int) := by unfold InI; omega
        have hIt : InI (tg : Int) := by unfold InI; omega
        have hM1 := HINV.out.more (tg : Int) (by omega)
        have hMb : M (b : Int) ≠ [] := fun e => by
          have := HINV.out.len
          rw [e] at this
          have := Nat.pow_pos (n := b) (show 0 < 2 by omega)
          simp at *
          omega
        have hinv' := HINV.out.grow HHALF.out HKEYS.out htg1 htg8 (HLT.out b hb2 hb8) now
        have hgd' : Good (grown M (h tg) (2 ^ tg) (b : Int) (tg : Int) now) 60 := Good.grow (h := h tg) HGD.out now (by omega) (by omega) (by omega) (by rw [Int.toNat_natCast]; exact HLT.out tg (by omega) htg8)
        obtain ⟨M', hM'⟩ : ∃ M', M' = grown M (h tg) (2 ^ tg) (b : Int) (tg : Int) now := ⟨_, rfl⟩
        have hgrow := fun W' (hst : St W' W.heap.size own s m M) => grow_yes hst hIb hIt now hMb (by omega) (by omega) hM1 (HKIT.out tg (by omega) htg8) (HGD.out.len _) (HGD.out.keys _) (Nat.le_trans (HGD.out.few _) (by omega)) (by have := HM.out; omega)
        rw [← hM'] at hinv' hgd'
        simp only [← hM'] at hgrow
        have hlt' : (M' (tg : Int)).length = 2 ^ tg := hinv'.len
        have hpt := Nat.pow_pos (n := tg) (show 0 < 2 by omega)
        have hlb' : 0 < (M' (b : Int)).length := by
          rw [hM']
          unfold grown
          rw [upd_ne _ _ (by omega), upd_same, hollow_len]
          exact List.length_pos_iff.2 hMb
        have hno : M' (b : Int) = [] ∨ (tg : Int) ≤ (b : Int) ∨ 8 < (tg : Int) ∨ M' (tg : Int) ≠ [] := .inr (.inr (.inr (fun e => by rw [e] at hlt'; simp at hlt'; omega)))
        have hhas0 : ∀ W', St W' W.heap.size own s m M → Calls Try.prog 18 #[s, .int .i64 (tg : Int)] W' fun e w' => e = .returned (.bool false) ∧ W' = w' := fun W' hst => by
          obtain ⟨F, hrs⟩ := hst.rs
          obtain ⟨Ax, cx, V, e, _⟩ := hrs.rd (tg : Int)
          have := has_any hrs.sv hIt e
          rw [hM1] at this
          exact this
        have hhasb : ∀ W' own' m', St W' W.heap.size own' s m' M' → (Calls Try.prog 18 #[s, .int .i64 (b : Int)] W' fun e w' => e = .returned (.bool true) ∧ W' = w') ∧ (Calls Try.prog 18 #[s, .int .i64 (tg : Int)] W' fun e w' => e = .returned (.bool true) ∧ W' = w') ∧ (Calls Try.prog 17 #[s, .int .i64 (b : Int), .int .i64 (tg : Int), .int .u64 now] W' fun e w' => e = .returned (.bool false) ∧ W' = w') ∧ (∀ x : Int, x = ((2 ^ tg : Nat) : Int) - 1 → Calls Try.prog 20 #[s, .agg #[.int .i64 (tg : Int), .int .i64 x]] W' fun e w' => e = .returned (.agg #[.int .u64 now, .int .u64 now]) ∧ Below W'.heap.size W' w') := fun W' own' m' hst => by
          obtain ⟨F, hrs⟩ := hst.rs
          obtain ⟨Ax, cx, V, e, _⟩ := hrs.rd (b : Int)
          obtain ⟨Ay, cy, Vy, ey, _⟩ := hrs.rd (tg : Int)
          have d1 : decide (0 < (M' (b : Int)).length) = true := by simpa using hlb'
          have d2 : decide (0 < (M' (tg : Int)).length) = true := by simp; omega
          have h1 := has_any hrs.sv hIb e
          have h2 := has_any hrs.sv hIt ey
          rw [d1] at h1
          rw [d2] at h2
          refine ⟨h1, h2, grow_no hrs hIb hIt now hno, fun x hx => ?_⟩
          have hxe : x = ((2 ^ tg - 1 : Nat) : Int) := by rw [hx]; omega
          rw [hxe]
          have := timer_yes hrs hIt (i := 2 ^ tg - 1) (by omega)
          rw [hinv'.here, fresh_at now _ (by rw [reh_len]; omega)] at this
          exact this
        have hsz : ∀ W', Calls Try.prog 23 #[.int .i64 (tg : Int)] W' fun e w' => e = .returned (.int .i64 ((2 ^ tg : Nat) : Int)) ∧ W' = w' := (HKIT.out tg (by omega) htg8).size
        have hp256 := (HKIT.out tg (by omega) htg8).few
        obtain ⟨nt, hnt⟩ : ∃ nt, nt = 2 ^ tg := ⟨_, rfl⟩
        rw [← hnt] at hsz hp256 hhasb hpt
        have hne33 := fun W => neqT33 now now now now W
        simp only [and_self, decide_true, Bool.not_true] at hne33
        have HINV' := Lib.hid hinv'; have HGD' := Lib.hid hgd'; have HGROW := Lib.hid hgrow; have HHAS0 := Lib.hid hhas0; have HHASB := Lib.hid hhasb; have HSZ := Lib.hid hsz
        have hsn := HSN.out
        have HST := Lib.hid hsn.st
        have e33 : b + 1 + z % 3 ≤ 8 ∨ ¬ b + 1 + z % 3 ≤ 8 := by omega
        clear htg hM1 hMb hinv' hgd' hM' hgrow hlt' hlb' hno hhas0 hhasb hsz hnt hcell hsn
        rcases e33 with e33 | e33
        · have hX : ((b : Int) + 1 + (z : Int) % 3) = (tg : Int) := by have := HTG.out; rw [if_pos e33] at this; omega
          go_wp2_with fail
          refine (HHAS0.out wr HST.out).mono ?_
          rintro e w3 ⟨rfl, rfl⟩
          go_wp2_with fail
          refine (HGROW.out wr HST.out).mono ?_
          rintro e w4 ⟨rfl, own4, hs4, ht4, hf4⟩
          obtain ⟨sn4, t4, b4⟩ := HSN.out.one hs4 ht4 hf4
          have HSN4 := Lib.hid sn4
          have HTN4 := Lib.hid (HTN.out.trans t4 (fun _ _ e => e))
          have HBW4 := Lib.hid (HBW.out.trans b4)
          have HX := Lib.hid (HHASB.out w4 own4 _ hs4)
          clear hs4 ht4 hf4 sn4 t4 b4
          go_wp2_with fail
          refine HX.out.1.mono ?_
          rintro e w5 ⟨rfl, rfl⟩
          go_wp2_with fail
          refine HX.out.2.1.mono ?_
          rintro e w5 ⟨rfl, rfl⟩
          go_wp2_with fail
          refine HX.out.2.2.1.mono ?_
          rintro e w5 ⟨rfl, rfl⟩
          go_wp2_with fail
          refine (HSZ.out _).mono ?_
          rintro e w5 ⟨rfl, rfl⟩
          go_wp2_with fail
          refine (HX.out.2.2.2 _ rfl).mono ?_
          rintro e w5 ⟨rfl, hb5⟩
          have HSN5 := Lib.hid (HSN4.out.new hb5)
          have HTN5 := Lib.hid (HTN4.out.trans (Turns.of_below (S := fun _ => False) hb5) (fun _ _ e => e.elim))
          have HBW5 := Lib.hid (HBW4.out.trans (hb5.mono HBW4.out.size))
          clear hb5
          go_wp2_with fail
          refine (begin_any now _).mono ?_
          rintro e w6 ⟨rfl, hb6⟩
          have HSN6 := Lib.hid (HSN5.out.new hb6)
          have HTN6 := Lib.hid (HTN5.out.trans (Turns.of_below (S := fun _ => False) hb6) (fun _ _ e => e.elim))
          have HBW6 := Lib.hid (HBW5.out.trans (hb6.mono HBW5.out.size))
          clear hb6
          go_wp2_with fail
          go_roundg (ns - (i + 1))
          case measure => omega
          case rel => exact ⟨i + 1, tg, m + 1, now, own4, M', by omega, rfl, by go_num, rfl, by omega, by omega, HINV'.out, HGD'.out, by have := HM.out; omega, HSN6.out, HTN6.out, HBW6.out⟩
        · have h8 : tg = 8 := by have := HTG.out; rw [if_neg e33] at this; exact this
          go_wp2_with fail
          subst h8
          refine (HHAS0.out wr HST.out).mono ?_
          rintro e w3 ⟨rfl, rfl⟩
          go_wp2_with fail
          refine (HGROW.out wr HST.out).mono ?_
          rintro e w4 ⟨rfl, own4, hs4, ht4, hf4⟩
          obtain ⟨sn4, t4, b4⟩ := HSN.out.one hs4 ht4 hf4
          have HSN4 := Lib.hid sn4
          have HTN4 := Lib.hid (HTN.out.trans t4 (fun _ _ e => e))
          have HBW4 := Lib.hid (HBW.out.trans b4)
          have HX := Lib.hid (HHASB.out w4 own4 _ hs4)
          clear hs4 ht4 hf4 sn4 t4 b4
          go_wp2_with fail
          refine HX.out.1.mono ?_
          rintro e w5 ⟨rfl, rfl⟩
          go_wp2_with fail
          refine HX.out.2.1.mono ?_
          rintro e w5 ⟨rfl, rfl⟩
          go_wp2_with fail
          refine HX.out.2.2.1.mono ?_
          rintro e w5 ⟨rfl, rfl⟩
          go_wp2_with fail
          refine (HSZ.out _).mono ?_
          rintro e w5 ⟨rfl, rfl⟩
          go_wp2_with fail
          refine (HX.out.2.2.2 _ rfl).mono ?_
          rintro e w5 ⟨rfl, hb5⟩
          have HSN5 := Lib.hid (HSN4.out.new hb5)
          have HTN5 := Lib.hid (HTN4.out.trans (Turns.of_below (S := fun _ => False) hb5) (fun _ _ e => e.elim))
          have HBW5 := Lib.hid (HBW4.out.trans (hb5.mono HBW4.out.size))
          clear hb5
          go_wp2_with fail
          refine (begin_any now _).mono ?_
          rintro e w6 ⟨rfl, hb6⟩
          have HSN6 := Lib.hid (HSN5.out.new hb6)
          have HTN6 := Lib.hid (HTN5.out.trans (Turns.of_below (S := fun _ => False) hb6) (fun _ _ e => e.elim))
          have HBW6 := Lib.hid (HBW5.out.trans (hb6.mono HBW5.out.size))
          clear hb6
          go_wp2_with fail
          go_roundg (ns - (i + 1))
          case measure => omega
          case rel => exact ⟨i + 1, 8, m + 1, now, own4, M', by omega, rfl, by go_num, rfl, by omega, by omega, HINV'.out, HGD'.out, by have := HM.out; omega, HSN6.out, HTN6.out, HBW6.out⟩
      · have Kb := HKIT.out b hb2 hb8
        obtain ⟨nb, hnb⟩ : ∃ nb, nb = 2 ^ b := ⟨_, rfl⟩
        have hIb : InI (b : Int) := by unfold InI; omega
        have htq := HT8.out.keep HTN.out (fun g h1 h2 hn => hn ⟨h1, h2⟩)
        have hwant : Calls Try.prog 25 #[.slice A8 4 c8, .int .i64 (b : Int)] wr fun e w' => ∃ s ss, e = .returned s ∧ Tab w' wr.heap.size s ss (reh (h b) nb D) ∧ Below wr.heap.size wr w' := by
          have hK2 := HK2.out
          have htot := reh_total (h 2) 4 D HKEYS.out (hK2.lt (by omega))
          have := rehash_all (c := c8) Kb htq.rd.2 (Nat.le_refl _) (by rw [reh_len]; exact hc8) hc89 (keys_reh HKEYS.out 4) (by rw [reh_len]; omega) (by rw [htot]; have := HN.out; omega)
          rw [reh_len, ← hnb] at this
          have hon := reh_on (b := 2) HHALF.out HKEYS.out hb2 hb8 (HLT.out 2 (by omega) (by omega))
          rw [show (2 : Nat) ^ 2 = 4 from rfl, ← hnb] at hon
          rw [hon] at this
          refine this.mono ?_
          rintro e w' ⟨s', ss', rfl, ht', -, hb'⟩
          exact ⟨s', ss', rfl, ht', hb'⟩
        have hgot : ∀ W', Below wr.heap.size wr W' → Calls Try.prog 22 #[s, .int .i64 (b : Int)] W' fun e w' => ∃ s' ss, e = .returned s' ∧ Tq w' W'.heap.size s' ss (reh (h b) nb D) ∧ Below W'.heap.size W' w' := fun W' hW => by
          obtain ⟨F, hrs⟩ := (HSN.out.st.new hW).rs
          have hl := HINV.out.len
          have := queues_any hrs hIb Kb.size hl Kb.few (fun i hi => by have := q_len (L := M (b : Int)) (i := i) (by omega); have := HGD.out.few (b : Int); omega)
          rw [HINV.out.q, ← hnb] at this
          exact this
        have hnb256 : nb ≤ 256 := by rw [hnb]; exact Kb.few
        have hpl : ∀ (t : Int) W', Below wr.heap.size wr W' → Calls Try.prog 12 #[s, .int .i64 t] W' fun e w' => ∃ A P, e = .returned (.slice A (cnt t D) (cnt t D)) ∧ P.length = cnt t D ∧ (∀ p ∈ P, p.1 = (b : Int)) ∧ Rd w' w'.heap.size A (pflat P) ∧ Below W'.heap.size W' w' := fun t W' hW => by
          obtain ⟨F, hrs⟩ := (HSN.out.st.new hW).rs
          have hp := places_any hrs t HGD.out.len (fun x => Nat.le_trans (HGD.out.few x) (by omega))
          obtain ⟨p1, p2⟩ := HINV.out.places hb2 hb8 HKEYS.out (HLT.out b hb2 hb8) t
          refine hp.mono ?_
          rintro e w' ⟨A', rfl, hr', hb'⟩
          unfold RowP at hr'
          rw [p1] at hr' ⊢
          exact ⟨A', _, rfl, p1, p2, hr'.rd, hb'⟩
        obtain ⟨Ls, hLs⟩ : ∃ Ls, Ls = reh (h b) nb D := ⟨_, rfl⟩
        have hLl : Ls.length = nb := by rw [hLs, reh_len]
        have hL60 : ∀ i, i < nb → Ls[i]!.length ≤ 60 := fun i hi => by
          rw [hLs, reh_at _ _ hi]
          have := bk_le (h b) i D
          have := HN.out
          omega
        rw [← hLs] at hwant hgot
        have HWANT := Lib.hid hwant; have HGOT := Lib.hid hgot; have HPL := Lib.hid hpl; have HLL := Lib.hid hLl; have HL60 := Lib.hid hL60
        clear hnb htq hwant hgot hpl hLs hLl hL60 Kb
        have t2 : decide ((b : Int) < 8) = false := by simp; omega
        go_wp2_with fail
        refine HWANT.out.mono ?_
        rintro e w3 ⟨sw, ssw, rfl, htw, hb3⟩
        obtain ⟨Aw, cw, hse, hcw, hcw9⟩ := htw.shape
        rw [HLL.out] at hse hcw
        subst hse
        have HTW := Lib.hid htw; have HB3 := Lib.hid hb3
        clear htw hb3
        go_wp2_with fail
        refine (HGOT.out w3 HB3.out).mono ?_
        rintro e w4 ⟨sg, ssg, rfl, htg, hb4⟩
        obtain ⟨Ag, cg, hse, hcg, hcg9⟩ := htg.row.shape
        rw [HLL.out] at hse hcg
        subst hse
        have hQW : Qs w4 w4.heap.size Aw Ls := (HTW.out.new hb4).rd.2
        have hQG : Qs w4 w4.heap.size Ag Ls := htg.rd.2
        have HQW := Lib.hid hQW; have HQG := Lib.hid hQG
        have HB4 := Lib.hid (HB3.out.trans (hb4.mono HB3.out.size))
        have HB4W := Lib.hid (HBW.out.trans (HB4.out.mono HBW.out.size))
        have hR4 : Rd w4 W.heap.size A (flat D) := HR.out.below HB4W.out (Nat.le_refl _)
        have HR4 := Lib.hid hR4
        have hW4 : W.heap.size ≤ w4.heap.size := HB4W.out.size
        clear htg hb4 hQW hQG hR4
        go_wp2_with fail
        go_loopg [14] nb (fun q s14 wx => ∃ i2 : Nat, i2 ≤ nb ∧ q = nb - i2 ∧ s14 = .int .i64 (i2 : Int) ∧ Below w4.heap.size w4 wx)
        case atStart => exact ⟨0, by omega, rfl, rfl, Below.refl _ _⟩
        case round =>
          obtain ⟨i2, hi2, rfl, rfl, hbx⟩ := hrel
          have HBX := Lib.hid hbx
          clear hbx
          by_cases hin2 : i2 < nb
          · obtain ⟨gw, ow, Aw', cw', rfl, hgw, kw, lw, lw9, rw'⟩ := HQW.out.at (i := i2) (by rw [HLL.out]; exact hin2)
            obtain ⟨gg, og, Ag', cg', rfl, hgg, kg, lg, lg9, rg'⟩ := HQG.out.at (i := i2) (by rw [HLL.out]; exact hin2)
            have h60 := HL60.out i2 hin2
            obtain ⟨E, hE⟩ : ∃ E, E = Ls[i2]! := ⟨_, rfl⟩
            rw [← hE] at kw lw rw' kg lg rg' h60
            obtain ⟨me, hme⟩ : ∃ me, me = E.length := ⟨_, rfl⟩
            rw [← hme] at kw lw kg lg h60
            have HKW := Lib.hid (fun W' (hb : Below w4.heap.size w4 W') => (⟨(hb.cell (p := ⟨gw, ow + i2, none⟩) hgw).trans kw, (hb.cell (p := ⟨gg, og + i2, none⟩) hgg).trans kg⟩ : _ ∧ _))
            have HRW := Lib.hid rw'; have HRG := Lib.hid rg'; have HME := Lib.hid hme
            have HL1 := Lib.hid lw; have HL2 := Lib.hid lg; have HL3 := Lib.hid lw9; have HL4 := Lib.hid lg9
            obtain ⟨k1, k2⟩ := HKW.out wr HBX.out
            clear hE hme kw kg rw' rg' lw lg lw9 lg9
            go_upto_region 22 with (fail)
            go_quiet (fail)
            go_wp2_with fail
            go_loopg [15] me (fun q s15 wx => ∃ j : Nat, j ≤ me ∧ q = me - j ∧ s15 = .int .i64 (j : Int) ∧ Below w4.heap.size w4 wx)
            case atStart => exact ⟨0, by omega, rfl, rfl, HBX.out.trans ((below_drewN _ _).mono HBX.out.size)⟩
            case round =>
              obtain ⟨j, hj, rfl, rfl, hby⟩ := hrel
              have HBY := Lib.hid hby
              clear hby k1 k2
              obtain ⟨k1, k2⟩ := HKW.out wr HBY.out
              by_cases hjm : j < me
              · obtain ⟨ga, oa, rfl, hga, p0, p1, p2⟩ := (HRW.out.below HBY.out (Nat.le_refl _)).ent (i := j) (by have := HME.out; omega)
                obtain ⟨gb, ob, rfl, hgb, q0, q1, q2⟩ := (HRG.out.below HBY.out (Nat.le_refl _)).ent (i := j) (by have := HME.out; omega)
                generalize hd : E[j]! = d at *
                clear hd
                have hneE := fun W => neqE d d W
                simp only [decide_true, Bool.not_true] at hneE
                go_upto_region 27 with (fail)
                go_quiet (fail)
                go_wp2_with fail
                go_roundg (me - (j + 1))
                case measure => omega
                case rel => exact ⟨j + 1, by omega, rfl, by go_num, HBY.out.trans ((below_drewN _ _).mono HBY.out.size)⟩
              · obtain rfl : j = me := by omega
                go_wp2_with fail
                go_roundg (nb - (i2 + 1))
                case measure => omega
                case rel => exact ⟨i2 + 1, by omega, rfl, by go_num, HBY.out⟩
          · obtain rfl : i2 = nb := by omega
            go_wp2_with fail
            go_loopg [16] n (fun q s16 wx => ∃ k : Nat, k ≤ n ∧ q = n - k ∧ s16 = .int .i64 (k : Int) ∧ Below w4.heap.size w4 wx)
            case atStart => exact ⟨0, by omega, rfl, rfl, HBX.out⟩
            case round =>
              obtain ⟨k, hk, rfl, rfl, hbk⟩ := hrel
              have HBK := Lib.hid hbk
              clear hbk
              by_cases hkn : k < n
              · obtain ⟨ga, oa, rfl, hga, p0', -, -⟩ := HR4.out.ent (i := k) (by have := HN.out; omega)
                obtain ⟨t, ht⟩ : ∃ t, t = D[k]!.t := ⟨_, rfl⟩
                rw [← ht] at p0'
                have HP0 := Lib.hid (fun W' (hb : Below w4.heap.size w4 W') => (hb.cell (p := ⟨ga, oa + k * 3, none⟩) (Nat.lt_of_lt_of_le hga hW4)).trans p0')
                have p0 := HP0.out wr HBK.out
                have hbk4 := HB4.out.trans (HBK.out.mono HB4.out.size)
                have HPLK := Lib.hid (HPL.out t wr hbk4)
                have hcl := cnt_le t D
                obtain ⟨np, hnp⟩ : ∃ np, np = cnt t D := ⟨_, rfl⟩
                rw [← hnp] at HPLK hcl
                have HNP := Lib.hid hnp
                have hnp60 : np ≤ 60 := by have := HN.out; omega
                clear ht p0' hbk4 hnp hcl
                go_wp2_with fail
                refine HPLK.out.mono ?_
                rintro e w5 ⟨Ap, P, rfl, hPl, hPb, hPr, hb5⟩
                have HPR := Lib.hid hPr; have HPB := Lib.hid hPb; have HPLN := Lib.hid hPl
                have HB5 := Lib.hid (HBK.out.trans (hb5.mono HBK.out.size))
                clear p0 hPl hPb hPr hb5
                go_wp2_with fail
                go_loopg [18, 19] n (fun q s18 s19 wx => ∃ x : Nat, x ≤ n ∧ q = n - x ∧ s19 = .int .i64 (x : Int) ∧ s18 = .int .i64 (cnt t (D.take x) : Nat) ∧ Below w5.heap.size w5 wx)
                case atStart => exact ⟨0, by omega, rfl, rfl, rfl, Below.refl _ _⟩
                case round =>
                  obtain ⟨x, hx, rfl, rfl, rfl, hb6⟩ := hrel
                  have HB6 := Lib.hid hb6
                  have HB46 := Lib.hid (HB5.out.trans (hb6.mono HB5.out.size))
                  clear hb6
                  by_cases hxn : x < n
                  · obtain ⟨gx, ox, hgx, hgxl, r0, -, -⟩ := (HR4.out.below HB46.out hW4).ent (i := x) (by have := HN.out; omega)
                    cases hgx
                    have p0 := HP0.out wr HB46.out
                    have hct := cnt_take (t := t) (D := D) (k := x) (by have := HN.out; omega)
                    have hcl : cnt t (D.take x) ≤ 60 := by
                      have h1 := cnt_le t (D.take x)
                      rw [List.length_take] at h1
                      omega
                    obtain ⟨cx, hcx⟩ : ∃ cx, cx = cnt t (D.take x) := ⟨_, rfl⟩
                    rw [← hcx] at hct hcl ⊢
                    generalize D[x]!.t = u at r0 hct
                    have HCT := Lib.hid hct
                    clear hcx hct
                    by_cases hut : u = t
                    · have hb : (u == t) = true := by simpa using hut
                      rw [if_pos hut] at HCT
                      clear hut
                      go_upto_region 37 with (fail)
                      go_quiet (fail)
                      go_wp2_with fail
                      go_roundg (n - (x + 1))
                      case measure => omega
                      case rel => exact ⟨x + 1, by omega, rfl, by go_num, by rw [HCT.out]; go_num, HB6.out.trans ((below_drewN _ _).mono HB6.out.size)⟩
                    · have hb : (u == t) = false := by simpa using hut
                      rw [if_neg hut] at HCT
                      clear hut
                      go_upto_region 37 with (fail)
                      go_quiet (fail)
                      go_wp2_with fail
                      go_roundg (n - (x + 1))
                      case measure => omega
                      case rel => exact ⟨x + 1, by omega, rfl, by go_num, by rw [HCT.out]; rfl, HB6.out.trans ((below_drewN _ _).mono HB6.out.size)⟩
                  · obtain rfl : x = n := by omega
                    have hall : cnt t (D.take x) = np := by rw [HN.out, List.take_length, HNP.out]
                    rw [hall]
                    clear hall
                    go_wp2_with fail
                    go_loopg [20] np (fun q s20 wx => ∃ y : Nat, y ≤ np ∧ q = np - y ∧ s20 = .int .i64 (y : Int) ∧ Below w5.heap.size w5 wx)
                    case atStart => exact ⟨0, by omega, rfl, rfl, HB6.out⟩
                    case round =>
                      obtain ⟨y, hy, rfl, rfl, hb7⟩ := hrel
                      have HB7 := Lib.hid hb7
                      clear hb7
                      by_cases hyn : y < np
                      · have hyP : y < P.length := by rw [HPLN.out]; exact hyn
                        obtain ⟨gp, op, rfl, hgp, u0, -⟩ := (HPR.out.below HB7.out (Nat.le_refl _)).pair (i := y) hyP
                        have hfst : P[y]!.1 = (b : Int) := by
                          rw [getElem!_pos P y hyP]
                          exact HPB.out _ (List.getElem_mem hyP)
                        rw [hfst] at u0
                        clear hfst hyP
                        go_wp2_with fail
                        go_roundg (np - (y + 1))
                        case measure => omega
                        case rel => exact ⟨y + 1, by omega, rfl, by go_num, HB7.out⟩
                      · obtain rfl : y = np := by omega
                        go_wp2_with fail
                        go_roundg (x - (k + 1))
                        case measure => omega
                        case rel => exact ⟨k + 1, by omega, rfl, by go_num, HB5.out.trans (HB7.out.mono HB5.out.size)⟩
              · obtain rfl : k = n := by omega
                go_wp2_with fail
                refine (QL.out _).mono ?_
                rintro e w6 ⟨rfl, hb6⟩
                have HB6 := Lib.hid (HBK.out.trans (hb6.mono HBK.out.size))
                clear hb6
                go_wp2_with fail
                go_ret
                exact ⟨rfl, HB4W.out.trans (HB6.out.mono hW4)⟩
    · obtain rfl : i = ns := by omega
      have Kb := HKIT.out b hb2 hb8
      obtain ⟨nb, hnb⟩ : ∃ nb, nb = 2 ^ b := ⟨_, rfl⟩
      have hIb : InI (b : Int) := by unfold InI; omega
      have htq := HT8.out.keep HTN.out (fun g h1 h2 hn => hn ⟨h1, h2⟩)
      have hwant : Calls Try.prog 25 #[.slice A8 4 c8, .int .i64 (b : Int)] wr fun e w' => ∃ s ss, e = .returned s ∧ Tab w' wr.heap.size s ss (reh (h b) nb D) ∧ Below wr.heap.size wr w' := by
        have hK2 := HK2.out
        have htot := reh_total (h 2) 4 D HKEYS.out (hK2.lt (by omega))
        have := rehash_all (c := c8) Kb htq.rd.2 (Nat.le_refl _) (by rw [reh_len]; exact hc8) hc89 (keys_reh HKEYS.out 4) (by rw [reh_len]; omega) (by rw [htot]; have := HN.out; omega)
        rw [reh_len, ← hnb] at this
        have hon := reh_on (b := 2) HHALF.out HKEYS.out hb2 hb8 (HLT.out 2 (by omega) (by omega))
        rw [show (2 : Nat) ^ 2 = 4 from rfl, ← hnb] at hon
        rw [hon] at this
        refine this.mono ?_
        rintro e w' ⟨s', ss', rfl, ht', -, hb'⟩
        exact ⟨s', ss', rfl, ht', hb'⟩
      have hgot : ∀ W', Below wr.heap.size wr W' → Calls Try.prog 22 #[s, .int .i64 (b : Int)] W' fun e w' => ∃ s' ss, e = .returned s' ∧ Tq w' W'.heap.size s' ss (reh (h b) nb D) ∧ Below W'.heap.size W' w' := fun W' hW => by
        obtain ⟨F, hrs⟩ := (HSN.out.st.new hW).rs
        have hl := HINV.out.len
        have := queues_any hrs hIb Kb.size hl Kb.few (fun i hi => by have := q_len (L := M (b : Int)) (i := i) (by omega); have := HGD.out.few (b : Int); omega)
        rw [HINV.out.q, ← hnb] at this
        exact this
      have hnb256 : nb ≤ 256 := by rw [hnb]; exact Kb.few
      have hpl : ∀ (t : Int) W', Below wr.heap.size wr W' → Calls Try.prog 12 #[s, .int .i64 t] W' fun e w' => ∃ A P, e = .returned (.slice A (cnt t D) (cnt t D)) ∧ P.length = cnt t D ∧ (∀ p ∈ P, p.1 = (b : Int)) ∧ Rd w' w'.heap.size A (pflat P) ∧ Below W'.heap.size W' w' := fun t W' hW => by
        obtain ⟨F, hrs⟩ := (HSN.out.st.new hW).rs
        have hp := places_any hrs t HGD.out.len (fun x => Nat.le_trans (HGD.out.few x) (by omega))
        obtain ⟨p1, p2⟩ := HINV.out.places hb2 hb8 HKEYS.out (HLT.out b hb2 hb8) t
        refine hp.mono ?_
        rintro e w' ⟨A', rfl, hr', hb'⟩
        unfold RowP at hr'
        rw [p1] at hr' ⊢
        exact ⟨A', _, rfl, p1, p2, hr'.rd, hb'⟩
      obtain ⟨Ls, hLs⟩ : ∃ Ls, Ls = reh (h b) nb D := ⟨_, rfl⟩
      have hLl : Ls.length = nb := by rw [hLs, reh_len]
      have hL60 : ∀ i, i < nb → Ls[i]!.length ≤ 60 := fun i hi => by
        rw [hLs, reh_at _ _ hi]
        have := bk_le (h b) i D
        have := HN.out
        omega
      rw [← hLs] at hwant hgot
      have HWANT := Lib.hid hwant; have HGOT := Lib.hid hgot; have HPL := Lib.hid hpl; have HLL := Lib.hid hLl; have HL60 := Lib.hid hL60
      clear hnb htq hwant hgot hpl hLs hLl hL60 Kb
      have t1 : decide ((i : Int) < (i : Int)) = false := by simp
      go_wp2_with fail
      refine HWANT.out.mono ?_
      rintro e w3 ⟨sw, ssw, rfl, htw, hb3⟩
      obtain ⟨Aw, cw, hse, hcw, hcw9⟩ := htw.shape
      rw [HLL.out] at hse hcw
      subst hse
      have HTW := Lib.hid htw; have HB3 := Lib.hid hb3
      clear htw hb3
      go_wp2_with fail
      refine (HGOT.out w3 HB3.out).mono ?_
      rintro e w4 ⟨sg, ssg, rfl, htg, hb4⟩
      obtain ⟨Ag, cg, hse, hcg, hcg9⟩ := htg.row.shape
      rw [HLL.out] at hse hcg
      subst hse
      have hQW : Qs w4 w4.heap.size Aw Ls := (HTW.out.new hb4).rd.2
      have hQG : Qs w4 w4.heap.size Ag Ls := htg.rd.2
      have HQW := Lib.hid hQW; have HQG := Lib.hid hQG
      have HB4 := Lib.hid (HB3.out.trans (hb4.mono HB3.out.size))
      have HB4W := Lib.hid (HBW.out.trans (HB4.out.mono HBW.out.size))
      have hR4 : Rd w4 W.heap.size A (flat D) := HR.out.below HB4W.out (Nat.le_refl _)
      have HR4 := Lib.hid hR4
      have hW4 : W.heap.size ≤ w4.heap.size := HB4W.out.size
      clear htg hb4 hQW hQG hR4
      go_wp2_with fail
      go_loopg [14] nb (fun q s14 wx => ∃ i2 : Nat, i2 ≤ nb ∧ q = nb - i2 ∧ s14 = .int .i64 (i2 : Int) ∧ Below w4.heap.size w4 wx)
      case atStart => exact ⟨0, by omega, rfl, rfl, Below.refl _ _⟩
      case round =>
        obtain ⟨i2, hi2, rfl, rfl, hbx⟩ := hrel
        have HBX := Lib.hid hbx
        clear hbx
        by_cases hin2 : i2 < nb
        · obtain ⟨gw, ow, Aw', cw', rfl, hgw, kw, lw, lw9, rw'⟩ := HQW.out.at (i := i2) (by rw [HLL.out]; exact hin2)
          obtain ⟨gg, og, Ag', cg', rfl, hgg, kg, lg, lg9, rg'⟩ := HQG.out.at (i := i2) (by rw [HLL.out]; exact hin2)
          have h60 := HL60.out i2 hin2
          obtain ⟨E, hE⟩ : ∃ E, E = Ls[i2]! := ⟨_, rfl⟩
          rw [← hE] at kw lw rw' kg lg rg' h60
          obtain ⟨me, hme⟩ : ∃ me, me = E.length := ⟨_, rfl⟩
          rw [← hme] at kw lw kg lg h60
          have HKW := Lib.hid (fun W' (hb : Below w4.heap.size w4 W') => (⟨(hb.cell (p := ⟨gw, ow + i2, none⟩) hgw).trans kw, (hb.cell (p := ⟨gg, og + i2, none⟩) hgg).trans kg⟩ : _ ∧ _))
          have HRW := Lib.hid rw'; have HRG := Lib.hid rg'; have HME := Lib.hid hme
          have HL1 := Lib.hid lw; have HL2 := Lib.hid lg; have HL3 := Lib.hid lw9; have HL4 := Lib.hid lg9
          obtain ⟨k1, k2⟩ := HKW.out wr HBX.out
          clear hE hme kw kg rw' rg' lw lg lw9 lg9
          go_upto_region 22 with (fail)
          go_quiet (fail)
          go_wp2_with fail
          go_loopg [15] me (fun q s15 wx => ∃ j : Nat, j ≤ me ∧ q = me - j ∧ s15 = .int .i64 (j : Int) ∧ Below w4.heap.size w4 wx)
          case atStart => exact ⟨0, by omega, rfl, rfl, HBX.out.trans ((below_drewN _ _).mono HBX.out.size)⟩
          case round =>
            obtain ⟨j, hj, rfl, rfl, hby⟩ := hrel
            have HBY := Lib.hid hby
            clear hby k1 k2
            obtain ⟨k1, k2⟩ := HKW.out wr HBY.out
            by_cases hjm : j < me
            · obtain ⟨ga, oa, rfl, hga, p0, p1, p2⟩ := (HRW.out.below HBY.out (Nat.le_refl _)).ent (i := j) (by have := HME.out; omega)
              obtain ⟨gb, ob, rfl, hgb, q0, q1, q2⟩ := (HRG.out.below HBY.out (Nat.le_refl _)).ent (i := j) (by have := HME.out; omega)
              generalize hd : E[j]! = d at *
              clear hd
              have hneE := fun W => neqE d d W
              simp only [decide_true, Bool.not_true] at hneE
              go_upto_region 27 with (fail)
              go_quiet (fail)
              go_wp2_with fail
              go_roundg (me - (j + 1))
              case measure => omega
              case rel => exact ⟨j + 1, by omega, rfl, by go_num, HBY.out.trans ((below_drewN _ _).mono HBY.out.size)⟩
            · obtain rfl : j = me := by omega
              go_wp2_with fail
              go_roundg (nb - (i2 + 1))
              case measure => omega
              case rel => exact ⟨i2 + 1, by omega, rfl, by go_num, HBY.out⟩
        · obtain rfl : i2 = nb := by omega
          go_wp2_with fail
          go_loopg [16] n (fun q s16 wx => ∃ k : Nat, k ≤ n ∧ q = n - k ∧ s16 = .int .i64 (k : Int) ∧ Below w4.heap.size w4 wx)
          case atStart => exact ⟨0, by omega, rfl, rfl, HBX.out⟩
          case round =>
            obtain ⟨k, hk, rfl, rfl, hbk⟩ := hrel
            have HBK := Lib.hid hbk
            clear hbk
            by_cases hkn : k < n
            · obtain ⟨ga, oa, rfl, hga, p0', -, -⟩ := HR4.out.ent (i := k) (by have := HN.out; omega)
              obtain ⟨t, ht⟩ : ∃ t, t = D[k]!.t := ⟨_, rfl⟩
              rw [← ht] at p0'
              have HP0 := Lib.hid (fun W' (hb : Below w4.heap.size w4 W') => (hb.cell (p := ⟨ga, oa + k * 3, none⟩) (Nat.lt_of_lt_of_le hga hW4)).trans p0')
              have p0 := HP0.out wr HBK.out
              have hbk4 := HB4.out.trans (HBK.out.mono HB4.out.size)
              have HPLK := Lib.hid (HPL.out t wr hbk4)
              have hcl := cnt_le t D
              obtain ⟨np, hnp⟩ : ∃ np, np = cnt t D := ⟨_, rfl⟩
              rw [← hnp] at HPLK hcl
              have HNP := Lib.hid hnp
              have hnp60 : np ≤ 60 := by have := HN.out; omega
              clear ht p0' hbk4 hnp hcl
              go_wp2_with fail
              refine HPLK.out.mono ?_
              rintro e w5 ⟨Ap, P, rfl, hPl, hPb, hPr, hb5⟩
              have HPR := Lib.hid hPr; have HPB := Lib.hid hPb; have HPLN := Lib.hid hPl
              have HB5 := Lib.hid (HBK.out.trans (hb5.mono HBK.out.size))
              clear p0 hPl hPb hPr hb5
              go_wp2_with fail
              go_loopg [18, 19] n (fun q s18 s19 wx => ∃ x : Nat, x ≤ n ∧ q = n - x ∧ s19 = .int .i64 (x : Int) ∧ s18 = .int .i64 (cnt t (D.take x) : Nat) ∧ Below w5.heap.size w5 wx)
              case atStart => exact ⟨0, by omega, rfl, rfl, rfl, Below.refl _ _⟩
              case round =>
                obtain ⟨x, hx, rfl, rfl, rfl, hb6⟩ := hrel
                have HB6 := Lib.hid hb6
                have HB46 := Lib.hid (HB5.out.trans (hb6.mono HB5.out.size))
                clear hb6
                by_cases hxn : x < n
                · obtain ⟨gx, ox, hgx, hgxl, r0, -, -⟩ := (HR4.out.below HB46.out hW4).ent (i := x) (by have := HN.out; omega)
                  cases hgx
                  have p0 := HP0.out wr HB46.out
                  have hct := cnt_take (t := t) (D := D) (k := x) (by have := HN.out; omega)
                  have hcl : cnt t (D.take x) ≤ 60 := by
                    have h1 := cnt_le t (D.take x)
                    rw [List.length_take] at h1
                    omega
                  obtain ⟨cx, hcx⟩ : ∃ cx, cx = cnt t (D.take x) := ⟨_, rfl⟩
                  rw [← hcx] at hct hcl ⊢
                  generalize D[x]!.t = u at r0 hct
                  have HCT := Lib.hid hct
                  clear hcx hct
                  by_cases hut : u = t
                  · have hb : (u == t) = true := by simpa using hut
                    rw [if_pos hut] at HCT
                    clear hut
                    go_upto_region 37 with (fail)
                    go_quiet (fail)
                    go_wp2_with fail
                    go_roundg (n - (x + 1))
                    case measure => omega
                    case rel => exact ⟨x + 1, by omega, rfl, by go_num, by rw [HCT.out]; go_num, HB6.out.trans ((below_drewN _ _).mono HB6.out.size)⟩
                  · have hb : (u == t) = false := by simpa using hut
                    rw [if_neg hut] at HCT
                    clear hut
                    go_upto_region 37 with (fail)
                    go_quiet (fail)
                    go_wp2_with fail
                    go_roundg (n - (x + 1))
                    case measure => omega
                    case rel => exact ⟨x + 1, by omega, rfl, by go_num, by rw [HCT.out]; rfl, HB6.out.trans ((below_drewN _ _).mono HB6.out.size)⟩
                · obtain rfl : x = n := by omega
                  have hall : cnt t (D.take x) = np := by rw [HN.out, List.take_length, HNP.out]
                  rw [hall]
                  clear hall
                  go_wp2_with fail
                  go_loopg [20] np (fun q s20 wx => ∃ y : Nat, y ≤ np ∧ q = np - y ∧ s20 = .int .i64 (y : Int) ∧ Below w5.heap.size w5 wx)
                  case atStart => exact ⟨0, by omega, rfl, rfl, HB6.out⟩
                  case round =>
                    obtain ⟨y, hy, rfl, rfl, hb7⟩ := hrel
                    have HB7 := Lib.hid hb7
                    clear hb7
                    by_cases hyn : y < np
                    · have hyP : y < P.length := by rw [HPLN.out]; exact hyn
                      obtain ⟨gp, op, rfl, hgp, u0, -⟩ := (HPR.out.below HB7.out (Nat.le_refl _)).pair (i := y) hyP
                      have hfst : P[y]!.1 = (b : Int) := by
                        rw [getElem!_pos P y hyP]
                        exact HPB.out _ (List.getElem_mem hyP)
                      rw [hfst] at u0
                      clear hfst hyP
                      go_wp2_with fail
                      go_roundg (np - (y + 1))
                      case measure => omega
                      case rel => exact ⟨y + 1, by omega, rfl, by go_num, HB7.out⟩
                    · obtain rfl : y = np := by omega
                      go_wp2_with fail
                      go_roundg (x - (k + 1))
                      case measure => omega
                      case rel => exact ⟨k + 1, by omega, rfl, by go_num, HB5.out.trans (HB7.out.mono HB5.out.size)⟩
            · obtain rfl : k = n := by omega
              go_wp2_with fail
              refine (QL.out _).mono ?_
              rintro e w6 ⟨rfl, hb6⟩
              have HB6 := Lib.hid (HBK.out.trans (hb6.mono HBK.out.size))
              clear hb6
              go_wp2_with fail
              go_ret
              exact ⟨rfl, HB4W.out.trans (HB6.out.mono hW4)⟩
end Go.Proofs.Ytcdoklgjicfkmaa
