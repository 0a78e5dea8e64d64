/- Places. -/
import Derived.Test.YtcdoklgjicfkmaaT8
namespace Go.Proofs.Ytcdoklgjicfkmaa
open Go.RowKit

/-- Places of a thread in a queue, in a table's first buckets, in the first tables. -/
def plQ (b i t : Int) (q : List Ent) : List (Int × Int) := (q.filter fun e => decide (e.t = t)).map fun _ => (b, i)
def plT (b t : Int) (L : List Bk) (k : Nat) : List (Int × Int) := (List.range k).flatMap fun i => plQ b (i : Nat) t L[i]!.q
def plM (M : Int → List Bk) (t : Int) (k : Nat) : List (Int × Int) := (List.range k).flatMap fun j => plT ((j + 2 : Nat) : Int) t (M ((j + 2 : Nat) : Int)) (M ((j + 2 : Nat) : Int)).length
def pcs (p : Int × Int) : List Value := [.int .i64 p.1, .int .i64 p.2]
def pflat (D : List (Int × Int)) : List Value := D.flatMap pcs
theorem pflat_app (D E : List (Int × Int)) : pflat (D ++ E) = pflat D ++ pflat E := by simp [pflat]
theorem pflat_len (D : List (Int × Int)) : (pflat D).length = D.length * 2 := by
  induction D with
  | nil => rfl
  | cons e r ih =>
    have : pflat (e :: r) = pcs e ++ pflat r := rfl
    rw [this, List.length_append, ih]
    simp [pcs]
    omega
theorem pflat_one (D : List (Int × Int)) : ∀ u ∈ pflat D, u.oneCell' = true := fun u hu => by
  simp only [pflat, List.mem_flatMap] at hu
  obtain ⟨e, _, hu⟩ := hu
  simp [pcs] at hu
  rcases hu with rfl | rfl <;> rfl
theorem plQ_len (b i t : Int) (q : List Ent) : (plQ b i t q).length ≤ q.length := by
  unfold plQ
  rw [List.length_map]
  exact List.length_filter_le _ _
theorem plQ_snoc (b i t : Int) (q : List Ent) (e : Ent) : plQ b i t (q ++ [e]) = if e.t = t then plQ b i t q ++ [(b, i)] else plQ b i t q := by
  unfold plQ
  rw [List.filter_append, List.map_append]
  by_cases h : e.t = t
  · simp [h]
  · simp [h]
theorem plT_succ (b t : Int) (L : List Bk) (k : Nat) : plT b t L (k + 1) = plT b t L k ++ plQ b (k : Nat) t L[k]!.q := by
  unfold plT
  rw [List.range_succ, List.flatMap_append]
  simp
theorem plM_succ (M : Int → List Bk) (t : Int) (k : Nat) : plM M t (k + 1) = plM M t k ++ plT ((k + 2 : Nat) : Int) t (M ((k + 2 : Nat) : Int)) (M ((k + 2 : Nat) : Int)).length := by
  unfold plM
  rw [List.range_succ, List.flatMap_append]
  simp
theorem map_at (L : List Bk) {i : Nat} (h : i < L.length) : (L.map Bk.q)[i]! = L[i]!.q := by
  rw [getElem!_pos _ i (by rw [List.length_map]; exact h), getElem!_pos _ i h]
  simp
theorem plT_len (b t : Int) (L : List Bk) : ∀ k, k ≤ L.length → (plT b t L k).length ≤ cum (L.map Bk.q) k
  | 0, _ => by simp [plT]
  | k + 1, h => by
    rw [plT_succ, List.length_append, cum_succ (by rw [List.length_map]; omega), map_at L (by omega)]
    have := plT_len b t L k (by omega)
    have := plQ_len b (k : Nat) t L[k]!.q
    omega
theorem cum_le (Ls : List (List Ent)) : ∀ k, k ≤ Ls.length → cum Ls k ≤ Ls.flatten.length := fun k hk => by
  unfold cum
  have h1 : Ls.flatten = (Ls.take k).flatten ++ (Ls.drop k).flatten := by rw [← List.flatten_append, List.take_append_drop]
  rw [h1, List.length_append]
  omega
theorem plM_len (M : Int → List Bk) (t : Int) (X : Nat) (h : ∀ b, ((M b).map Bk.q).flatten.length ≤ X) : ∀ k, (plM M t k).length ≤ k * X
  | 0 => by simp [plM]
  | k + 1 => by
    rw [plM_succ, List.length_append, Nat.add_mul]
    have h1 := plM_len M t X h k
    have h2 := plT_len ((k + 2 : Nat) : Int) t (M ((k + 2 : Nat) : Int)) _ (Nat.le_refl _)
    have h3 := cum_le ((M ((k + 2 : Nat) : Int)).map Bk.q) (M ((k + 2 : Nat) : Int)).length (by rw [List.length_map]; exact Nat.le_refl _)
    have h4 := h ((k + 2 : Nat) : Int)
    omega
theorem info30 : ∃ i, Try.prog.info? 30 = some i ∧ i.zero = some (.agg #[.int .i64 0, .int .i64 0]) ∧ i.size = 2 ∧ i.bytes = 16 := info_of (by kernel_rfl)
theorem layP : Lay 38 30 2 16 (.agg #[.int .i64 0, .int .i64 0]) := ⟨Try.underlying38, info30, rfl, by decide, by decide⟩
/-- One place, in new memory. -/
theorem rd_pair (w : World) (b i : Int) (T : TypeId) : Rd (w.alloc (.cells #[.int .i64 b, .int .i64 i] T)) (w.heap.size + 1) (some ⟨w.heap.size, 0, none⟩) (pflat [(b, i)]) := fun _ => by
  refine ⟨w.heap.size, 0, rfl, by omega, fun j u e => ?_⟩
  have hnew := heap_alloc_new w (.cells #[.int .i64 b, .int .i64 i] T)
  rw [cell_row hnew, Nat.zero_add]
  simpa [pflat, pcs] using e
theorem rd_pair' (w : World) (b i : Int) (T : TypeId) {X : Nat} (h : w.heap.size = X) : Rd (w.alloc (.cells #[.int .i64 b, .int .i64 i] T)) (X + 1) (some ⟨X, 0, none⟩) (pflat [(b, i)]) := h ▸ rd_pair w b i T
theorem clipP_any (A : Option Addr) (n cap : Nat) (w : World) (h : n ≤ cap) (hc : cap ≤ 9223372036854775807) : Calls Try.prog 41 #[.slice A n cap] w fun e w' => e = .returned (.slice A n n) ∧ w = w' := by
  go_enter Try.func41, Try.ntmps41
  go_wp2
  go_ret
  exact ⟨by simp, rfl⟩
abbrev RowP (w : World) (base : Nat) (s : Value) (D : List (Int × Int)) : Prop := Row w base 2 s D.length (pflat D)
set_option maxHeartbeats 4000000 in
set_option maxRecDepth 20000 in
theorem places_any {w : World} {s : Value} {F : Int → Value} {M : Int → List Bk} (h : Rs w s F M) (t : Int) (hl : ∀ b, (M b).length ≤ 256) (hfew : ∀ b, ((M b).map Bk.q).flatten.length ≤ 100000) :
    Calls Try.prog 12 #[s, .int .i64 t] w fun e w' => ∃ A, e = .returned (.slice A (plM M t 7).length (plM M t 7).length) ∧ RowP w' w.heap.size (.slice A (plM M t 7).length (plM M t 7).length) (plM M t 7) ∧ Below w.heap.size w w' := by
  have HR := Lib.hid h; have HL := Lib.hid hl; have HFEW := Lib.hid hfew
  clear h hl hfew
  go_enter Try.func12, Try.ntmps12
  go_wp2_with fail
  go_loopg [5, 6] 7 (fun q s5 s6 wx => ∃ k : Nat, k ≤ 7 ∧ q = 7 - k ∧ s6 = .int .i64 ((k + 2 : Nat) : Int) ∧ RowP wx w.heap.size s5 (plM M t k) ∧ Below w.heap.size w wx)
  case atStart => exact ⟨0, by omega, rfl, rfl, row_nil _ _ _, Below.refl _ _⟩
  case round =>
    obtain ⟨k, hk, rfl, rfl, hrow, hb⟩ := hrel
    have HROW := Lib.hid hrow; have HB := Lib.hid hb
    clear hrow hb
    obtain ⟨wo, rfl⟩ : ∃ wo : World, wo = wr := ⟨_, rfl⟩
    by_cases hk7 : k < 7
    · obtain ⟨b, hbk⟩ : ∃ b : Int, b = ((k + 2 : Nat) : Int) := ⟨_, rfl⟩
      have HBK := Lib.hid hbk
      have hb8 : b ≤ 8 := by omega
      have hbI : InI b := by unfold InI; omega
      rw [← hbk]
      obtain ⟨A, c, V, hF, hc, hc9, -⟩ := HR.out.rd b
      have HT := table_any (HR.out.below HB.out).sv hbI
      rw [hF] at HT
      have HT := Lib.hid HT
      obtain ⟨L, hL⟩ : ∃ L, L = M b := ⟨_, rfl⟩
      have hLl := HL.out b
      rw [← hL] at hc hLl HT
      obtain ⟨m, hm⟩ : ∃ m, m = L.length := ⟨_, rfl⟩
      rw [← hm] at hc hLl HT
      have HLM := Lib.hid hL; have HM := Lib.hid hm; have HF := Lib.hid hF; have HC := Lib.hid hc; have HC9 := Lib.hid hc9
      obtain ⟨D, hD⟩ : ∃ D, D = plM M t k := ⟨_, rfl⟩
      rw [← hD] at HROW
      have HD := Lib.hid hD
      clear hbk hF hc hc9 hL hm hD
      go_wp2_with (go_at_call 40; refine HT.out.mono ?_; rintro e w' ⟨rfl, rfl⟩)
      go_loopg [5, 19] m (fun q s5 s19 wx => ∃ i : Nat, i ≤ m ∧ q = m - i ∧ s19 = .int .i64 (i : Int) ∧ RowP wx w.heap.size s5 (D ++ plT b t L i) ∧ Below w.heap.size w wx)
      case atStart => exact ⟨0, by omega, rfl, rfl, by simpa [plT] using HROW.out, HB.out⟩
      case round =>
        obtain ⟨i, hi, rfl, rfl, hrow2, hb2⟩ := hrel
        have HROW2 := Lib.hid hrow2; have HB2 := Lib.hid hb2
        clear hrow2 hb2
        obtain ⟨wm, rfl⟩ : ∃ wm : World, wm = wr := ⟨_, rfl⟩
        by_cases him : i < m
        · obtain ⟨g, o, c', A', c2, hF2, k0', k1', k2', hg, h7, h8, h9⟩ := HR.out.bk (b := b) (i := i) (by rw [← HLM.out, ← HM.out]; exact him)
          rw [HF.out] at hF2
          cases hF2
          have k0 := (HB2.out.cell (p := ⟨g, o + i * 3, none⟩) hg).trans k0'
          have k1 := (HB2.out.cell (p := ⟨g, o + i * 3 + 1, none⟩) hg).trans k1'
          have k2 := (HB2.out.cell (p := ⟨g, o + i * 3 + 2, none⟩) hg).trans k2'
          clear k0' k1' k2'
          rw [← HLM.out] at k0 k1 k2 h7 h9
          obtain ⟨Q, hQ⟩ : ∃ Q, Q = L[i]!.q := ⟨_, rfl⟩
          rw [← hQ] at k2 h7 h9
          generalize L[i]!.a = ta at k0
          generalize L[i]!.f = tf at k1
          obtain ⟨mq, hmq⟩ : ∃ mq, mq = Q.length := ⟨_, rfl⟩
          rw [← hmq] at k2 h7
          have hmq9 : mq ≤ 9223372036854775807 := by omega
          have HQ := Lib.hid hQ; have HMQ := Lib.hid hmq; have H9 := Lib.hid h9; have H7 := Lib.hid h7; have H8 := Lib.hid h8
          clear hQ hmq h9 h7 h8
          clear HT
          go_wp2_with fail
          go_loopg [5, 27] mq (fun q s5 s27 wx => ∃ j : Nat, j ≤ mq ∧ q = mq - j ∧ s27 = .int .i64 (j : Int) ∧ RowP wx w.heap.size s5 (D ++ plT b t L i ++ plQ b (i : Nat) t (Q.take j)) ∧ Below w.heap.size w wx)
          case atStart => exact ⟨0, by omega, rfl, rfl, by rw [List.take_zero, show plQ b (i : Nat) t [] = [] from rfl, List.append_nil]; exact HROW2.out.new (below1 wm _), HB2.out.trans ((below1 wm _).mono HB2.out.size)⟩
          case round =>
            obtain ⟨j, hj, rfl, rfl, hrow3, hb3⟩ := hrel
            have HROW3 := Lib.hid hrow3; have HB3 := Lib.hid hb3
            clear hrow3 hb3
            by_cases hjm : j < mq
            · obtain ⟨g3, o3, rfl, hg3, q0, q1, q2⟩ := (H9.out.below HB3.out (Nat.le_refl _)).ent (i := j) (by have := HMQ.out; omega)
              have htk := take_snoc (D := Q) (k := j) (by have := HMQ.out; omega)
              obtain ⟨d, hd⟩ : ∃ d, d = Q[j]! := ⟨_, rfl⟩
              rw [← hd] at htk q0 q1 q2
              have hpq := plQ_snoc b (i : Nat) t (Q.take j) d
              rw [← htk] at hpq
              obtain ⟨P, hP⟩ : ∃ P, P = D ++ plT b t L i ++ plQ b (i : Nat) t (Q.take j) := ⟨_, rfl⟩
              have hPl : P.length ≤ 999999 := by
                have e1 := plM_len M t 100000 HFEW.out k
                have e2 := plT_len b t L i (by have := HM.out; omega)
                have e3 := plQ_len b (i : Nat) t (Q.take j)
                have e4 := cum_mono (Ls := L.map Bk.q) (i := i) (by rw [List.length_map]; have := HM.out; omega) (k := j) (by rw [map_at L (by have := HM.out; omega), ← HQ.out, ← HMQ.out]; exact hjm)
                have e5 := HFEW.out b
                rw [← HLM.out] at e5
                rw [hP, List.length_append, List.length_append, HD.out]
                rw [List.length_take] at e3
                omega
              have HP := Lib.hid hP; have HPQ := Lib.hid hpq
              rw [← hP] at HROW3
              clear hd htk hpq hP
              by_cases ht : d.t = t
              · have hdt : (d.t == t) = true := by simpa using ht
                rw [if_pos ht] at HPQ
                clear ht
                go_wp2_with (at_builtin; refine wpList_append_row layP rfl _ _ rfl rfl ((HROW3.out.new (below1 _ _)).new (below1 _ _)) (pflat_one _) (by have := HB2.out.size; have := HB3.out.size; simp; omega) 1 rfl (rd_pair' _ b (i : Nat) 30 (by simp)) rfl (pflat_one _) (by simp; omega) ?_; intro v' w2 hr2 ht2 ho2; (have HR2 := Lib.hid hr2); (have HT2 := Lib.hid ht2); (clear hr2 ht2 ho2))
                go_roundg (mq - (j + 1))
                case measure => omega
                case rel =>
                  refine ⟨j + 1, by omega, rfl, by go_num, ?_, ?_⟩
                  · rw [HPQ.out, ← List.append_assoc, ← HP.out]
                    have := HR2.out
                    rw [← pflat_app] at this
                    unfold RowP
                    rw [List.length_append]
                    exact this
                  · have t3 := ((Turns.refl _ wr).alloc _ |>.alloc _).trans HT2.out (fun k _ e => e)
                    exact HB3.out.trans (t3.below HB3.out.size (fun k hk e => by have := (HROW3.out.lt k e).1; omega))
              · have hdt : (d.t == t) = false := by simpa using ht
                rw [if_neg ht] at HPQ
                clear ht
                go_wp2_with fail
                go_roundg (mq - (j + 1))
                case measure => omega
                case rel =>
                  refine ⟨j + 1, by omega, rfl, by go_num, ?_, HB3.out.trans ((below1 wr _).mono HB3.out.size)⟩
                  rw [HPQ.out, ← HP.out]
                  exact HROW3.out.new (below1 wr _)
            · obtain rfl : j = mq := by omega
              go_wp2_with fail
              go_roundg (m - (i + 1))
              case measure => omega
              case rel =>
                refine ⟨i + 1, by omega, rfl, by go_num, ?_, HB3.out⟩
                have := HROW3.out
                rw [HMQ.out, List.take_length, HQ.out, List.append_assoc, ← plT_succ] at this
                exact this
        · obtain rfl : i = m := by omega
          have e12 : IntKind.i64.wrap (b + 1) = b + 1 := by have := HBK.out; rw [IntKind.wrap_i64]; omega
          go_wp2_with fail
          go_roundg (7 - (k + 1))
          case measure => omega
          case rel =>
            refine ⟨k + 1, by omega, rfl, ?_, ?_, HB2.out⟩
            · rw [HBK.out]; go_num
            · have := HROW2.out
              rw [HM.out, HLM.out, HD.out, HBK.out, ← plM_succ] at this
              exact this
    · obtain rfl : k = 7 := by omega
      obtain ⟨A, c, rfl, hc, hc9⟩ := HROW.out.shape
      go_wp2_with (go_at_call 41; refine (clipP_any _ _ _ _ hc hc9).mono ?_; rintro e w' ⟨rfl, rfl⟩)
      go_ret
      exact ⟨A, rfl, HROW.out.clip, HB.out⟩
end Go.Proofs.Ytcdoklgjicfkmaa
