/- begun and emptied. -/
import Derived.Test.YtcdoklgjicfkmaaT5
namespace Go.Proofs.Ytcdoklgjicfkmaa
open Go.RowKit

theorem info93 : ∃ i, Try.prog.info? 93 = some i ∧ i.zero = some (.agg #[.int .u64 0, .int .u64 0, nilS]) ∧ i.size = 3 ∧ i.bytes = 40 := info_of (by kernel_rfl)
theorem layB : Lay 69 93 3 40 (.agg #[.int .u64 0, .int .u64 0, nilS]) := ⟨Try.underlying69, info93, rfl, by decide, by decide⟩
/-- A table of zero buckets. -/
theorem makeB (n : Nat) (hn : n ≤ 65536) (w : World) : (Instr.makeSlice 69 (.int .i64 (n : Int)) (.int .i64 (n : Int))).run Try.prog w = .ok (.slice (some ⟨w.heap.size, 0, none⟩) n n) (w.alloc (.cells (bflat (List.replicate n ⟨0, 0, []⟩) (fun _ => nilS)).toArray 93)) := by
  obtain ⟨i, hi, hz, hsz, hby⟩ := info93
  have hr := run_make (P := Try.prog) w 69 93 i (.agg #[.int .u64 0, .int .u64 0, nilS]) Try.underlying69 hi hz .i64 .i64 n n (by omega) (Int.le_refl _) (by rw [hby]; omega) (by omega)
  simp only [Int.toNat_natCast, hsz] at hr
  rw [hr]
  have hm : madeCells (Value.agg #[.int .u64 0, .int .u64 0, nilS]).cells (n * 3) = (bflat (List.replicate n ⟨0, 0, []⟩) (fun _ => nilS)).toArray := by
    apply Array.ext
    · simp [madeCells, bflat_len]
    · intro j h1 h2
      have hj : j < n * 3 := by simpa [madeCells] using h1
      have h3 := bflat_at (List.replicate n (⟨0, 0, []⟩ : Bk)) (fun _ => nilS) (j := j) (by rw [List.length_replicate]; exact hj)
      have h4 : (bflat (List.replicate n (⟨0, 0, []⟩ : Bk)) (fun _ => nilS)).toArray[j] = bcell (List.replicate n (⟨0, 0, []⟩ : Bk)) (fun _ => nilS) j := by
        have := (List.getElem?_eq_some_iff.1 h3).2
        simpa using this
      rw [h4]
      have h5 : (List.replicate n (⟨0, 0, []⟩ : Bk))[j / 3]! = ⟨0, 0, []⟩ := by
        rw [List.getElem!_eq_getElem?_getD, List.getElem?_replicate, if_pos (by omega)]; rfl
      unfold bcell
      rw [h5]
      have h6 : j % 3 = 0 ∨ j % 3 = 1 ∨ j % 3 = 2 := by omega
      rcases h6 with h6 | h6 | h6 <;> simp [madeCells, Value.cells, h6]
  rw [hm]
theorem row_made (w : World) (base g n sz : Nat) (T : TypeId) (cs : List Value) (h : w.heap[g]? = some (.cells cs.toArray T (0, 0))) (hl : cs.length = n * sz) (hb : base ≤ g) (hn : n ≤ 65536) : Row w base sz (.slice (some ⟨g, 0, none⟩) n n) n cs := by
  have hlt := (Array.getElem?_eq_some_iff.1 h).1
  refine ⟨_, n, rfl, hl, Nat.le_refl _, by unfold maxLen; omega, (fun e => by cases e), fun ad e => ?_⟩
  cases e
  refine ⟨g, 0, rfl, hb, hlt, fun j u e => ?_, fun j hj => ⟨?_, froz_row h _⟩⟩
  · rw [cell_row h, Nat.zero_add, List.getElem?_toArray]
    exact e
  · rw [cell_row h, Nat.zero_add]
    simp; omega
theorem begin_any (x : Int) (w : World) : Calls Try.prog 24 #[.int .u64 x] w fun e w' => e = .returned (.agg #[.int .u64 x, .int .u64 x]) ∧ Below w.heap.size w w' := by
  go_enter Try.func24, Try.ntmps24
  go_wp2
  exact bodyPost_ret (v := .agg #[.int .u64 x, .int .u64 x]) (by simp [results, Try.results24, go_sem]) rfl ⟨rfl, below1 w _⟩
/-- Buckets whose timers begin at a tick, of these queues. -/
def fresh (now : Int) (Ls : List (List Ent)) : List Bk := Ls.map fun q => ⟨now, now, q⟩
/-- The three cells of an element may be written. -/
theorem Row.three {w : World} {base g n cap : Nat} {cs : List Value} (h : Row w base 3 (.slice (some ⟨g, 0, none⟩) n cap) n cs) {k : Nat} (hk : k < n) :
    (∃ u, w.cell? ⟨g, k * 3, none⟩ = some u ∧ w.frozen? ⟨g, k * 3, none⟩ = false) ∧ (∃ u, w.cell? ⟨g, k * 3 + 1, none⟩ = some u ∧ w.frozen? ⟨g, k * 3 + 1, none⟩ = false) ∧ (∃ u, w.cell? ⟨g, k * 3 + 2, none⟩ = some u ∧ w.frozen? ⟨g, k * 3 + 2, none⟩ = false) := by
  obtain ⟨A, cap', e, h0, h1, h2, h3, h4⟩ := h
  cases e
  obtain ⟨g', o, e, hb, hlt, hl, hc⟩ := h4 _ rfl
  cases e
  have hx : ∀ j, j < cap * 3 → ∃ u, w.cell? ⟨g, j, none⟩ = some u ∧ w.frozen? ⟨g, j, none⟩ = false := fun j hj => by
    obtain ⟨k1, k2⟩ := hc j hj
    rw [Nat.zero_add] at k1 k2
    obtain ⟨u, hu⟩ := Option.isSome_iff_exists.1 k1
    exact ⟨u, hu, k2⟩
  exact ⟨hx _ (by omega), hx _ (by omega), hx _ (by omega)⟩
set_option maxHeartbeats 1000000 in
theorem begun_any {w : World} {b0 c N : Nat} {A : Option Addr} {ss : List Value} (Ls : List (List Ent)) (now : Int) (hr : Rd w b0 A ss) (hb0 : b0 ≤ w.heap.size) (hss : ss.length = N) (hN : Ls.length = N) (hsl : ∀ i, i < N → ∃ A' m c', ss[i]? = some (.slice A' m c')) (hn : N ≤ 65536) :
    Calls Try.prog 26 #[.slice A N c, .int .u64 now] w fun e w' => ∃ g, e = .returned (.slice (some ⟨g, 0, none⟩) N N) ∧ w.heap.size ≤ g ∧ Row w' w.heap.size 3 (.slice (some ⟨g, 0, none⟩) N N) N (bflat (fresh now Ls) (fun i => (ss[i]?).getD nilS)) ∧ Below w.heap.size w w' := by
  have HR := Lib.hid hr; have HB0 := Lib.hid hb0; have HSS := Lib.hid hss; have HLN := Lib.hid hN; have HSL := Lib.hid hsl
  clear hr hb0 hss hN hsl
  have hmk := makeB N hn
  go_enter Try.func26, Try.ntmps26
  go_wp2_with fail
  have hnew := heap_alloc_new w (.cells (bflat (List.replicate N ⟨0, 0, []⟩) (fun _ => nilS)).toArray 93)
  have hbl := below1 w (.cells (bflat (List.replicate N ⟨0, 0, []⟩) (fun _ => nilS)).toArray 93)
  have hr0 := row_made _ w.heap.size _ N 3 93 _ hnew (by rw [bflat_len, List.length_replicate]) (Nat.le_refl _) hn
  obtain ⟨g, hg⟩ : ∃ g, g = w.heap.size := ⟨_, rfl⟩
  rw [← hg] at hr0 ⊢
  generalize w.alloc (.cells (bflat (List.replicate N ⟨0, 0, []⟩) (fun _ => nilS)).toArray 93) = w0 at *
  have HBL := Lib.hid hbl; have HR0 := Lib.hid hr0; have HG := Lib.hid hg
  clear hmk hnew hbl hr0 hg
  go_loopg [6, 7, 13] N (fun q s6 s7 s13 wx => ∃ (k : Nat) (L : List Bk) (V : Nat → Value), k ≤ N ∧ q = N - k ∧ s13 = .int .i64 (k : Int) ∧ L.length = N ∧ (∀ j, j < k → L[j]! = ⟨now, now, Ls[j]!⟩ ∧ V j = (ss[j]?).getD nilS) ∧ Row wx g 3 (.slice (some ⟨g, 0, none⟩) N N) N (bflat L V) ∧ Below w.heap.size w wx)
  case atStart => exact ⟨0, _, _, by omega, rfl, rfl, by simp, fun j hj => by omega, HR0.out, HBL.out⟩
  case round =>
    obtain ⟨k, L, V, hk, rfl, rfl, hL, hdone, hrow, hb⟩ := hrel
    have HL := Lib.hid hL; have HD := Lib.hid hdone; have HROW := Lib.hid hrow; have HB := Lib.hid hb
    clear hL hdone hrow hb
    by_cases hkn : k < N
    · obtain ⟨A', m, c', hv⟩ := HSL.out k hkn
      obtain ⟨gs, os, rfl, hgs, hls⟩ := HR.out (by rw [HSS.out]; omega)
      have hc0 : wr.cell? ⟨gs, os + k, none⟩ = some (.slice A' m c') := (HB.out.cell (p := ⟨gs, os + k, none⟩) (by have := HB0.out; show gs < w.heap.size; omega)).trans (hls k _ hv)
      have HV := Lib.hid hv
      clear hv hls
      have hw1 : Below wr.heap.size wr wr := Below.refl _ _
      obtain ⟨⟨u0, c0, f0⟩, ⟨u1, c1, f1⟩, ⟨u2, c2, f2⟩⟩ := HROW.out.three hkn
      have hglt := (HROW.out.lt g rfl).2
      have HK := Lib.hid (fun W (hb : Below wr.heap.size wr W) => (⟨(hb.cell (p := ⟨g, k * 3, none⟩) hglt).trans c0, (hb.cell (p := ⟨g, k * 3 + 1, none⟩) hglt).trans c1, (hb.cell (p := ⟨g, k * 3 + 2, none⟩) hglt).trans c2, (hb.frozen (p := ⟨g, k * 3, none⟩) hglt).trans f0, (hb.frozen (p := ⟨g, k * 3 + 1, none⟩) hglt).trans f1, (hb.frozen (p := ⟨g, k * 3 + 2, none⟩) hglt).trans f2⟩ : _ ∧ _ ∧ _ ∧ _ ∧ _ ∧ _))
      clear c0 c1 c2 f0 f1 f2
      go_wp2_with fail
      refine (begin_any now _).mono ?_
      rintro e w1 ⟨rfl, hb1⟩
      obtain ⟨c0, c1, c2, f0, f1, f2⟩ := HK.out w1 hb1
      have HB1 := Lib.hid hb1
      clear hb1
      go_wp2_with fail
      go_roundg (N - (k + 1))
      case measure => omega
      case rel =>
        have h1 := HROW.out.new HB1.out
        have h2 := ((h1.setAt (i := k * 3) (by omega) (.int .u64 now)).setAt (i := k * 3 + 1) (by omega) (.int .u64 now)).setAt (i := k * 3 + 2) (by omega) (.slice A' m c')
        have hL := HL.out
        rw [bflat_a _ _ (by omega), bflat_f _ _ (by rw [List.length_set]; omega), bflat_q _ _ (by rw [List.length_set, List.length_set]; omega) _ Ls[k]!] at h2
        simp only [Nat.zero_add] at h2
        refine ⟨k + 1, _, _, by omega, rfl, by go_num, ?_, fun j hj => ?_, h2, ?_⟩
        · simp only [List.length_set]; exact hL
        · rw [get_set (by simp only [List.length_set]; omega), get_set (by simp only [List.length_set]; omega), get_set (by omega)]
          by_cases e : j = k
          · subst e
            rw [if_pos rfl, if_pos rfl, if_pos rfl, upd_same, HV.out]
            exact ⟨rfl, rfl⟩
          · rw [if_neg e, upd_ne _ _ e]
            have := HD.out j (by omega)
            refine ⟨?_, this.2⟩
            rw [get_set (by rw [List.length_set]; omega), if_neg e, get_set (by omega), if_neg e]
            exact this.1
        · have t3 : Turns (fun x => x = g) w1 (((w1.setCell ⟨g, k * 3, none⟩ (.int .u64 now)).setCell ⟨g, k * 3 + 1, none⟩ (.int .u64 now)).setCell ⟨g, k * 3 + 2, none⟩ (.slice A' m c')) := (((Turns.refl (fun x => x = g) w1).setCell ⟨g, k * 3, none⟩ _ rfl).setCell ⟨g, k * 3 + 1, none⟩ _ rfl).setCell ⟨g, k * 3 + 2, none⟩ _ rfl
          have hb1 : Below w.heap.size w w1 := HB.out.trans (HB1.out.mono HB.out.size)
          exact hb1.trans (t3.below hb1.size (fun x hx e => by have := HG.out; omega))
    · obtain rfl : k = N := by omega
      go_wp2_with fail
      go_ret
      refine ⟨g, rfl, by have := HG.out; omega, ?_, HB.out⟩
      have hL := HL.out
      have hx : bflat L V = bflat (fresh now Ls) (fun i => (ss[i]?).getD nilS) := by
        refine bflat_ext (L := L) (V := V) (by rw [bflat_len]; simp [fresh, hL, HLN.out]) fun j hj => ?_
        have hj3 : j < k * 3 := by simpa [fresh, HLN.out] using hj
        rw [bflat_at _ _ (by omega)]
        unfold bcell
        obtain ⟨h1, h2⟩ := HD.out (j / 3) (by omega)
        have h3 : (fresh now Ls)[j / 3]! = ⟨now, now, Ls[j / 3]!⟩ := by
          have hl := HLN.out
          rw [getElem!_pos (fresh now Ls) (j / 3) (by simp [fresh]; omega), getElem!_pos Ls (j / 3) (by omega)]
          simp [fresh]
        rw [h1, h2, h3]
      rw [← hx]
      have := HROW.out.base (b := w.heap.size) (by have := HG.out; omega)
      exact this
/-- A cell of a list of a call's own. -/
theorem Row.ok {w : World} {base g o n m sz cap : Nat} {cs : List Value} (h : Row w base sz (.slice (some ⟨g, o, none⟩) m cap) n cs) {j : Nat} (hj : j < n * sz) : ∃ u, cs[j]? = some u ∧ w.cell? ⟨g, o + j, none⟩ = some u ∧ w.frozen? ⟨g, o + j, none⟩ = false := by
  obtain ⟨A, cap', e, h0, h1, h2, h3, h4⟩ := h
  cases e
  obtain ⟨g', o', e, hb, hlt, hl, hc⟩ := h4 _ rfl
  cases e
  have hcap : n * sz ≤ cap * sz := Nat.mul_le_mul_right _ h1
  have hu := List.getElem?_eq_getElem (l := cs) (i := j) (by omega)
  exact ⟨_, hu, hl j _ hu, (hc j (by omega)).2⟩
/-- A table's queues taken out. -/
def hollow (L : List Bk) : List Bk := L.map fun x => { x with q := [] }
set_option maxHeartbeats 1000000 in
theorem emptied_any {w : World} {g o c N : Nat} {L : List Bk} {V : Nat → Value} (hr : Row w 0 3 (.slice (some ⟨g, o, none⟩) N c) N (bflat L V)) (hL : L.length = N) (hV : ∀ i, i < N → ∃ A' m c', V i = .slice A' m c') (hn : N ≤ 65536) :
    Calls Try.prog 44 #[.slice (some ⟨g, o, none⟩) N c] w fun e w' => ∃ g2, e = .returned (.slice (some ⟨g2, 0, none⟩) N N) ∧ w.heap.size ≤ g2 ∧ g2 < w'.heap.size ∧ Lies w' g2 0 ((List.range N).map V) ∧ Row w' 0 3 (.slice (some ⟨g, o, none⟩) N c) N (bflat (hollow L) (fun _ => nilS)) ∧ Turns (fun x => x = g) w w' := by
  have HR := Lib.hid hr; have HLL := Lib.hid hL; have HV := Lib.hid hV
  have hc := hr.shape
  obtain ⟨_, _, e, hNc, hc9⟩ := hc
  cases e
  clear hr hL hV
  have hmk := make_any N hn
  go_enter Try.func44, Try.ntmps44
  go_wp2_with fail
  have hnew := heap_alloc_new w (.cells (List.replicate N nilS).toArray 31)
  have hbl := below1 w (.cells (List.replicate N nilS).toArray 31)
  have hr0 := row_made _ w.heap.size _ N 1 31 _ hnew (by rw [List.length_replicate]; omega) (Nat.le_refl _) hn
  have hglt := (HR.out.lt g rfl).2
  have hrt := HR.out.new hbl
  obtain ⟨g2, hg⟩ : ∃ g2, g2 = w.heap.size := ⟨_, rfl⟩
  rw [← hg] at hr0 ⊢
  have hgg : g ≠ g2 := by omega
  have hgg' : g2 ≠ g := by omega
  have hee : (List.replicate N nilS).toArray = Array.replicate N nilS := by simp
  rw [hee] at hbl hrt hr0
  clear hnew hee
  generalize w.alloc (.cells (Array.replicate N (Value.slice none 0 0)) 31) = w0 at *
  have HBL := Lib.hid hbl; have HR0 := Lib.hid hr0; have HG := Lib.hid hg; have HRT := Lib.hid hrt
  clear hmk hbl hr0 hg hrt hglt
  go_loopg [4, 10] N (fun q s4 s10 wx => ∃ (k : Nat) (L' : List Bk) (V' : Nat → Value) (cs : List Value), k ≤ N ∧ q = N - k ∧ s10 = .int .i64 (k : Int) ∧ L'.length = N ∧ (∀ j, j < N → L'[j]! = (if j < k then { L[j]! with q := [] } else L[j]!) ∧ V' j = if j < k then nilS else V j) ∧
    Row wx 0 3 (.slice (some ⟨g, o, none⟩) N c) N (bflat L' V') ∧ Row wx g2 1 (.slice (some ⟨g2, 0, none⟩) N N) N cs ∧ (∀ j, j < k → cs[j]? = some (V j)) ∧ Turns (fun x => x = g) w wx)
  case atStart => exact ⟨0, L, V, _, by omega, rfl, rfl, HLL.out, fun j hj => ⟨by rw [if_neg (by omega)], by rw [if_neg (by omega)]⟩, HRT.out, HR0.out, fun j hj => by omega, Turns.of_below HBL.out⟩
  case round =>
    obtain ⟨k, L', V', cs, hk, rfl, rfl, hL, hdone, hrow, hrow2, hcs, ht⟩ := hrel
    have HL := Lib.hid hL; have HD := Lib.hid hdone; have HROW := Lib.hid hrow; have HROW2 := Lib.hid hrow2; have HCS := Lib.hid hcs; have HT := Lib.hid ht
    clear hL hdone hrow hrow2 hcs ht
    by_cases hkn : k < N
    · obtain ⟨A', m, c', hv⟩ := HV.out k hkn
      obtain ⟨u, hu, c2, f2⟩ := HROW.out.ok (j := k * 3 + 2) (by omega)
      have hg2 := (bflat_get L' V' (i := k) (by have := HL.out; omega)).2.2
      rw [hu] at hg2
      have hvk := (HD.out k hkn).2
      rw [if_neg (by omega), hv] at hvk
      rw [hvk] at hg2
      cases hg2
      obtain ⟨u', hu', d2, e2⟩ := HROW2.out.ok (j := k) (by omega)
      rw [Nat.zero_add] at d2 e2
      rw [← Nat.add_assoc] at c2 f2
      have HVV := Lib.hid hv
      clear hu hvk hu' hv
      go_wp2_with fail
      go_roundg (N - (k + 1))
      case measure => omega
      case rel =>
        have t1 : Turns (fun x => x = g2) wr (wr.setCell ⟨g2, k, none⟩ (.slice A' m c')) := (Turns.refl (fun x => x = g2) wr).setCell ⟨g2, k, none⟩ _ rfl
        have t2 : Turns (fun x => x = g) (wr.setCell ⟨g2, k, none⟩ (.slice A' m c')) ((wr.setCell ⟨g2, k, none⟩ (.slice A' m c')).setCell ⟨g, o + k * 3 + 2, none⟩ nilS) := (Turns.refl (fun x => x = g) _).setCell ⟨g, o + k * 3 + 2, none⟩ _ rfl
        have r1 := (HROW.out.keep t1 (fun x e e2 => hgg (by simp [Value.ownBlock] at e; omega))).setAt (i := k * 3 + 2) (by omega) nilS
        have r2 := (HROW2.out.setAt (i := k) (by omega) (.slice A' m c'))
        rw [Nat.zero_add] at r2
        have r3 := r2.keep t2 (fun x e e2 => hgg (by simp [Value.ownBlock] at e; omega))
        have hL := HL.out
        rw [bflat_q _ _ (by omega) _ [], ← Nat.add_assoc] at r1
        refine ⟨k + 1, _, _, _, by omega, rfl, by go_num, ?_, fun j hj => ?_, r1, r3, fun j hj => ?_, ?_⟩
        · simp only [List.length_set]; exact hL
        · obtain ⟨d1, d2⟩ := HD.out j hj
          rw [get_set (by omega)]
          by_cases e : j = k
          · subst e
            rw [if_pos rfl, upd_same, if_pos (by omega), if_pos (by omega), d1, if_neg (by omega)]
            exact ⟨rfl, rfl⟩
          · rw [if_neg e, upd_ne _ _ e, d1, d2]
            by_cases e3 : j < k
            · rw [if_pos e3, if_pos e3, if_pos (by omega), if_pos (by omega)]
              exact ⟨rfl, rfl⟩
            · rw [if_neg e3, if_neg e3, if_neg (by omega), if_neg (by omega)]
              exact ⟨rfl, rfl⟩
        · have hlc := HROW2.out.len
          by_cases e : j = k
          · subst e
            rw [List.getElem?_set_self (by omega), HVV.out]
          · rw [List.getElem?_set_ne (fun e' => e e'.symm)]
            exact HCS.out j (by omega)
        · refine (HT.out.trans t1 (fun x hx e => ?_)).trans t2 (fun x hx e => e)
          have := HG.out; omega
    · obtain rfl : k = N := by omega
      go_wp2_with fail
      go_ret
      have hlt := (HROW2.out.lt g2 rfl).2
      have hL := HL.out
      have hcl := HROW2.out.len
      have hx : bflat L' V' = bflat (hollow L) (fun _ => nilS) := by
        refine bflat_ext (L := L) (V := V) (by rw [bflat_len]; simp [hollow, hL, HLL.out]) fun j hj => ?_
        have hj3 : j < k * 3 := by simpa [hollow, HLL.out] using hj
        rw [bflat_at _ _ (by omega)]
        unfold bcell
        obtain ⟨h1, h2⟩ := HD.out (j / 3) (by omega)
        rw [if_pos (by omega)] at h1 h2
        have h3 : (hollow L)[j / 3]! = { L[j / 3]! with q := [] } := by
          have hl := HLL.out
          rw [getElem!_pos (hollow L) (j / 3) (by simp [hollow]; omega), getElem!_pos L (j / 3) (by omega)]
          simp [hollow]
        rw [h1, h2, h3]
      rw [← hx]
      refine ⟨g2, rfl, by have := HG.out; omega, hlt, ?_, HROW.out, HT.out⟩
      obtain ⟨A, cap, e, h0, h1, h2, h3, h4⟩ := HROW2.out
      cases e
      obtain ⟨g', o', e, hb, hlt', hl, hc⟩ := h4 _ rfl
      cases e
      intro j x hj
      have hjk : j < k := by
        have := (List.getElem?_eq_some_iff.1 hj).1
        simpa using this
      have : x = V j := by simpa [hjk] using hj.symm
      subst this
      exact hl j _ (HCS.out j hjk)
end Go.Proofs.Ytcdoklgjicfkmaa
