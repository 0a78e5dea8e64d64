/- The document's Places. -/
import Derived.Test.YtcdoklgjicfkmaaU7
namespace Go.Proofs.Ytcdoklgjicfkmaa
open Go.RowKit

theorem info79 : ∃ i, Try.prog.info? 79 = some i ∧ i.zero = some (.agg #[.int .i64 0, .int .i64 0]) ∧ i.size = 2 ∧ i.bytes = 16 := info_of (by kernel_rfl)
theorem layPr : Lay 40 79 2 16 (.agg #[.int .i64 0, .int .i64 0]) := ⟨Try.underlying40, info79, rfl, by decide, by decide⟩
set_option maxHeartbeats 4000000 in
set_option maxRecDepth 20000 in
theorem rplaces_any {w : World} {base : Nat} {own : Nat → Option Role} {s : Value} {M : Int → List Bk} (h : Rt w base own s M) (t : Int) (hl : ∀ b, (M b).length ≤ 256) (hfew : ∀ b, ((M b).map Bk.q).flatten.length ≤ 100000) :
    Calls Try.prog 13 #[s, .int .i64 t] w fun e w' => ∃ s', e = .returned s' ∧ RowP w' w.heap.size s' (plM M t 7) ∧ Below w.heap.size w w' := by
  obtain ⟨rb, Q, T, V, H⟩ := h
  obtain rfl := H.hs
  have HH := Lib.hid H; have HL := Lib.hid hl; have HFEW := Lib.hid hfew
  have hrl := (H.fp rb _ H.os).2
  clear H hl hfew
  go_enter Try.func13, Try.ntmps13
  go_wp2_with fail
  go_loopg [5, 6] 7 (fun q s5 s6 wx => ∃ k : Nat, k ≤ 7 ∧ q = 7 - k ∧ s6 = .int .i64 ((k + 2 : Nat) : Int) ∧ RowP wx w.heap.size s5 (plM M t k) ∧ Below w.heap.size w wx)
  case atStart => exact ⟨0, by omega, rfl, rfl, row_nil _ _ _, Below.refl _ _⟩
  case round =>
    obtain ⟨k, hk, rfl, rfl, hrow, hb⟩ := hrel
    have HROW := Lib.hid hrow; have HB := Lib.hid hb
    clear hrow hb
    obtain ⟨wo, rfl⟩ : ∃ wo : World, wo = wr := ⟨_, rfl⟩
    by_cases hk7 : k < 7
    · obtain ⟨b, hbk⟩ : ∃ b : Nat, b = k + 2 := ⟨_, rfl⟩
      have HBK := Lib.hid hbk
      have hb9 : b < 9 := by omega
      have hb8 : (b : Int) ≤ 8 := by omega
      rw [← hbk]
      obtain ⟨A, c, e, hc, hc9⟩ := (HH.out.hq b hb9).shape
      have hcell := (HH.out.hQ b hb9).1
      rw [e] at hcell
      obtain ⟨L, hL⟩ : ∃ L, L = M (b : Int) := ⟨_, rfl⟩
      have hLl := HL.out (b : Int)
      rw [← hL] at hc hLl hcell
      obtain ⟨m, hm⟩ : ∃ m, m = L.length := ⟨_, rfl⟩
      rw [← hm] at hc hLl hcell
      have HCELL := Lib.hid (fun W (hb : Below w.heap.size w W) => (hb.cell (p := ⟨rb, b, none⟩) hrl).trans hcell)
      have HLM := Lib.hid hL; have HM := Lib.hid hm; have HE := Lib.hid e; have HC := Lib.hid hc; have HC9 := Lib.hid hc9
      obtain ⟨D, hD⟩ : ∃ D, D = plM M t k := ⟨_, rfl⟩
      rw [← hD] at HROW
      have HD := Lib.hid hD
      clear hbk e hc hc9 hL hm hD hcell
      go_wp2_with fail
      go_loopg [5, 7] m (fun q s5 s7 wx => ∃ i : Nat, i ≤ m ∧ q = m - i ∧ s7 = .int .i64 (i : Int) ∧ RowP wx w.heap.size s5 (D ++ plT b t L i) ∧ Below w.heap.size w wx)
      case atStart => exact ⟨0, by omega, rfl, rfl, by simpa [plT] using HROW.out, HB.out⟩
      case round =>
        obtain ⟨i, hi, rfl, rfl, hrow2, hb2⟩ := hrel
        have HROW2 := Lib.hid hrow2; have HB2 := Lib.hid hb2
        have hcw := HCELL.out wr hb2
        clear hrow2 hb2
        obtain ⟨wm, rfl⟩ : ∃ wm : World, wm = wr := ⟨_, rfl⟩
        by_cases him : i < m
        · obtain ⟨g, o, c', g2, o2, c2', e1, e2, og, og2, q1, q2, -⟩ := HH.out.bk (k := b) (i := i) hb9 (by rw [← HLM.out, ← HM.out]; exact him)
          rw [HE.out] at e1
          cases e1
          have hv := HH.out.hv b i (by rw [← HLM.out, ← HM.out]; exact him)
          obtain ⟨A', cv, ev, hcv, hcv9⟩ := hv.shape
          rw [ev] at hv q1
          have hrd := hv.rd
          rw [← HLM.out] at q1 hcv hrd
          obtain ⟨Qu, hQ⟩ : ∃ Qu, Qu = L[i]!.q := ⟨_, rfl⟩
          rw [← hQ] at q1 hcv hrd
          obtain ⟨mq, hmq⟩ : ∃ mq, mq = Qu.length := ⟨_, rfl⟩
          rw [← hmq] at q1 hcv
          have hmq9 : mq ≤ 9223372036854775807 := by omega
          have q1' := (HB2.out.cell (p := ⟨g, o + i, none⟩) (HH.out.fp g _ og).2).trans q1
          have HQ := Lib.hid hQ; have HMQ := Lib.hid hmq; have H9 := Lib.hid hrd; have HV := Lib.hid hcv; have HV9 := Lib.hid hcv9
          clear hQ hmq hrd hcv hcv9 q1 q2 hv ev e2 og og2
          go_wp2_with fail
          go_loopg [5, 9] mq (fun q s5 s9 wx => ∃ j : Nat, j ≤ mq ∧ q = mq - j ∧ s9 = .int .i64 (j : Int) ∧ RowP wx w.heap.size s5 (D ++ plT b t L i ++ plQ b (i : Nat) t (Qu.take j)) ∧ Below w.heap.size w wx)
          case atStart => exact ⟨0, by omega, rfl, rfl, by rw [List.take_zero, show plQ b (i : Nat) t [] = [] from rfl, List.append_nil]; exact HROW2.out, HB2.out⟩
          case round =>
            obtain ⟨j, hj, rfl, rfl, hrow3, hb3⟩ := hrel
            have HROW3 := Lib.hid hrow3; have HB3 := Lib.hid hb3
            clear hrow3 hb3
            by_cases hjm : j < mq
            · obtain ⟨g3, o3, rfl, hg3, p0, p1, p2⟩ := (H9.out.below HB3.out (Nat.le_refl _)).ent (i := j) (by have := HMQ.out; omega)
              have htk := take_snoc (D := Qu) (k := j) (by have := HMQ.out; omega)
              obtain ⟨d, hd⟩ : ∃ d, d = Qu[j]! := ⟨_, rfl⟩
              rw [← hd] at htk p0 p1 p2
              have hpq := plQ_snoc b (i : Nat) t (Qu.take j) d
              rw [← htk] at hpq
              obtain ⟨P, hP⟩ : ∃ P, P = D ++ plT b t L i ++ plQ b (i : Nat) t (Qu.take j) := ⟨_, rfl⟩
              have hPl : P.length ≤ 999999 := by
                have e1 := plM_len M t 100000 HFEW.out k
                have e2 := plT_len b t L i (by have := HM.out; omega)
                have e3 := plQ_len b (i : Nat) t (Qu.take j)
                have e4 := cum_mono (Ls := L.map Bk.q) (i := i) (by rw [List.length_map]; have := HM.out; omega) (k := j) (by rw [map_at L (by have := HM.out; omega), ← HQ.out, ← HMQ.out]; exact hjm)
                have e5 := HFEW.out b
                rw [← HLM.out] at e5
                rw [hP, List.length_append, List.length_append, HD.out]
                rw [List.length_take] at e3
                omega
              have HP := Lib.hid hP; have HPQ := Lib.hid hpq
              rw [← hP] at HROW3
              clear hd htk hpq hP
              by_cases ht : d.t = t
              · have hdt : (d.t == t) = true := by simpa using ht
                rw [if_pos ht] at HPQ
                clear ht
                go_wp2_with (at_builtin; refine wpList_append_row layPr rfl _ _ rfl rfl (HROW3.out.new (below1 _ _)) (pflat_one _) (by have := HB2.out.size; have := HB3.out.size; simp; omega) 1 rfl (rd_pair _ b (i : Nat) 79) rfl (pflat_one _) (by simp; omega) ?_; intro v' w2 hr2 ht2 ho2; (have HR2 := Lib.hid hr2); (have HT2 := Lib.hid ht2); (clear hr2 ht2 ho2))
                go_roundg (mq - (j + 1))
                case measure => omega
                case rel =>
                  refine ⟨j + 1, by omega, rfl, by go_num, ?_, ?_⟩
                  · rw [HPQ.out, ← List.append_assoc, ← HP.out]
                    have := HR2.out
                    rw [← pflat_app] at this
                    unfold RowP
                    rw [List.length_append]
                    exact this
                  · have t3 := ((Turns.refl _ wr).alloc _).trans HT2.out (fun k _ e => e)
                    exact HB3.out.trans (t3.below HB3.out.size (fun k hk e => by have := (HROW3.out.lt k e).1; omega))
              · have hdt : (d.t == t) = false := by simpa using ht
                rw [if_neg ht] at HPQ
                clear ht
                go_wp2_with fail
                go_roundg (mq - (j + 1))
                case measure => omega
                case rel =>
                  refine ⟨j + 1, by omega, rfl, by go_num, ?_, HB3.out⟩
                  rw [HPQ.out, ← HP.out]
                  exact HROW3.out
            · obtain rfl : j = mq := by omega
              go_wp2_with fail
              go_roundg (m - (i + 1))
              case measure => omega
              case rel =>
                refine ⟨i + 1, by omega, rfl, by go_num, ?_, HB3.out⟩
                have := HROW3.out
                rw [HMQ.out, List.take_length, HQ.out, List.append_assoc, ← plT_succ] at this
                exact this
        · obtain rfl : i = m := by omega
          have e12 : IntKind.i64.wrap ((b : Int) + 1) = (b : Int) + 1 := by rw [IntKind.wrap_i64]; omega
          go_wp2_with fail
          go_roundg (7 - (k + 1))
          case measure => omega
          case rel =>
            refine ⟨k + 1, by omega, rfl, ?_, ?_, HB2.out⟩
            · rw [HBK.out]; go_num
            · have := HROW2.out
              rw [HM.out, HLM.out, HD.out, HBK.out, ← plM_succ] at this
              exact this
    · obtain rfl : k = 7 := by omega
      go_wp2_with fail
      go_ret
      exact ⟨_, rfl, HROW.out, HB.out⟩
end Go.Proofs.Ytcdoklgjicfkmaa
