/- Texts of this seat, one behind the other. -/
import Derived.Test.YtpmafdggbeppcaaGreatDoorMLawVoid1813
set_option linter.unusedVariables false
set_option linter.unusedSimpArgs false
namespace Go.Proofs.YtpmafdggbeppcaaGreatDoor.S10
set_option maxRecDepth 100000
set_option maxHeartbeats 16000000
open Go.Proofs.YtpmafdggbeppcaaGreatDoor
open Go.RowKit
theorem info32 : ∃ i, Tryz.prog.info? 123 = some i ∧ i.zero = some (.slice none 0 0) ∧ i.size = 1 ∧ i.bytes = 24 := info_of (by kernel_rfl)
theorem made_nil (n : Nat) : madeCells #[Value.slice none 0 0] n = (List.replicate n (Value.slice none 0 0)).toArray := by
  apply Array.ext
  · simp [madeCells]
  · intro j h1 h2
    simp [madeCells, Nat.mod_one]
theorem make_any (n : Nat) (hn : n ≤ 65536) (w : World) : (Instr.makeSlice 220 (.int .i64 (n : Int)) (.int .i64 (n : Int))).run Tryz.prog w = .ok (.slice (some ⟨w.heap.size, 0, none⟩) n n) (w.alloc (.cells (List.replicate n (Value.slice none 0 0)).toArray 123)) := by
  obtain ⟨i, hi, hz, hsz, hby⟩ := info32
  have hr := run_make (P := Tryz.prog) w 220 123 i (.slice none 0 0) Tryz.underlying220 hi hz .i64 .i64 n n (by omega) (Int.le_refl _) (by rw [hby]; omega) (by omega)
  simp only [Int.toNat_natCast, hsz, Nat.mul_one] at hr
  rw [hr]
  have hm : madeCells (Value.slice none 0 0).cells n = (List.replicate n (Value.slice none 0 0)).toArray := made_nil n
  rw [hm]
theorem info93 : ∃ i, Tryz.prog.info? 188 = some i ∧ i.zero = some (.agg #[.int .u64 0, .int .u64 0, nilS]) ∧ i.size = 3 ∧ i.bytes = 40 := info_of (by kernel_rfl)
theorem makeB (n : Nat) (hn : n ≤ 65536) (w : World) : (Instr.makeSlice 185 (.int .i64 (n : Int)) (.int .i64 (n : Int))).run Tryz.prog w = .ok (.slice (some ⟨w.heap.size, 0, none⟩) n n) (w.alloc (.cells (bflat (List.replicate n ⟨0, 0, []⟩) (fun _ => nilS)).toArray 188)) := by
  obtain ⟨i, hi, hz, hsz, hby⟩ := info93
  have hr := run_make (P := Tryz.prog) w 185 188 i (.agg #[.int .u64 0, .int .u64 0, nilS]) Tryz.underlying185 hi hz .i64 .i64 n n (by omega) (Int.le_refl _) (by rw [hby]; omega) (by omega)
  simp only [Int.toNat_natCast, hsz] at hr
  rw [hr]
  have hm : madeCells (Value.agg #[.int .u64 0, .int .u64 0, nilS]).cells (n * 3) = (bflat (List.replicate n ⟨0, 0, []⟩) (fun _ => nilS)).toArray := by
    apply Array.ext
    · simp [madeCells, bflat_len]
    · intro j h1 h2
      have hj : j < n * 3 := by simpa [madeCells] using h1
      have h3 := bflat_at (List.replicate n (⟨0, 0, []⟩ : Bk)) (fun _ => nilS) (j := j) (by rw [List.length_replicate]; exact hj)
      have h4 : (bflat (List.replicate n (⟨0, 0, []⟩ : Bk)) (fun _ => nilS)).toArray[j] = bcell (List.replicate n (⟨0, 0, []⟩ : Bk)) (fun _ => nilS) j := by
        have := (List.getElem?_eq_some_iff.1 h3).2
        simpa using this
      rw [h4]
      have h5 : (List.replicate n (⟨0, 0, []⟩ : Bk))[j / 3]! = ⟨0, 0, []⟩ := by
        rw [List.getElem!_eq_getElem?_getD, List.getElem?_replicate, if_pos (by omega)]; rfl
      unfold bcell
      rw [h5]
      have h6 : j % 3 = 0 ∨ j % 3 = 1 ∨ j % 3 = 2 := by omega
      rcases h6 with h6 | h6 | h6 <;> simp [madeCells, Value.cells, h6]
  rw [hm]
theorem row_made (w : World) (base g n sz : Nat) (T : TypeId) (cs : List Value) (h : w.heap[g]? = some (.cells cs.toArray T (0, 0))) (hl : cs.length = n * sz) (hb : base ≤ g) (hn : n ≤ 65536) : Row w base sz (.slice (some ⟨g, 0, none⟩) n n) n cs := by
  have hlt := (Array.getElem?_eq_some_iff.1 h).1
  refine ⟨_, n, rfl, hl, Nat.le_refl _, by unfold maxLen; omega, (fun e => by cases e), fun ad e => ?_⟩
  cases e
  refine ⟨g, 0, rfl, hb, hlt, fun j u e => ?_, fun j hj => ⟨?_, froz_row h _⟩⟩
  · rw [cell_row h, Nat.zero_add, List.getElem?_toArray]
    exact e
  · rw [cell_row h, Nat.zero_add]
    simp; omega
theorem begin_any (x : Int) (w : World) : Calls Tryz.prog 123 #[.int .u64 x] w fun e w' => e = .returned (.agg #[.int .u64 x, .int .u64 x]) ∧ Below w.heap.size w w' := by
  go_enter Tryz.func123, Tryz.ntmps123
  go_wp2
  exact bodyPost_ret (v := .agg #[.int .u64 x, .int .u64 x]) (by simp [results, Tryz.results123, go_sem]) rfl ⟨rfl, below1 w _⟩
def fresh (now : Int) (Ls : List (List Ent)) : List Bk := Ls.map fun q => ⟨now, now, q⟩
theorem Row.three {w : World} {base g n cap : Nat} {cs : List Value} (h : Row w base 3 (.slice (some ⟨g, 0, none⟩) n cap) n cs) {k : Nat} (hk : k < n) :
    (∃ u, w.cell? ⟨g, k * 3, none⟩ = some u ∧ w.frozen? ⟨g, k * 3, none⟩ = false) ∧ (∃ u, w.cell? ⟨g, k * 3 + 1, none⟩ = some u ∧ w.frozen? ⟨g, k * 3 + 1, none⟩ = false) ∧ (∃ u, w.cell? ⟨g, k * 3 + 2, none⟩ = some u ∧ w.frozen? ⟨g, k * 3 + 2, none⟩ = false) := by
  obtain ⟨A, cap', e, h0, h1, h2, h3, h4⟩ := h
  cases e
  obtain ⟨g', o, e, hb, hlt, hl, hc⟩ := h4 _ rfl
  cases e
  have hx : ∀ j, j < cap * 3 → ∃ u, w.cell? ⟨g, j, none⟩ = some u ∧ w.frozen? ⟨g, j, none⟩ = false := fun j hj => by
    obtain ⟨k1, k2⟩ := hc j hj
    rw [Nat.zero_add] at k1 k2
    obtain ⟨u, hu⟩ := Option.isSome_iff_exists.1 k1
    exact ⟨u, hu, k2⟩
  exact ⟨hx _ (by omega), hx _ (by omega), hx _ (by omega)⟩
theorem begun_any {w : World} {b0 c N : Nat} {A : Option Addr} {ss : List Value} (Ls : List (List Ent)) (now : Int) (hr : Rd w b0 A ss) (hb0 : b0 ≤ w.heap.size) (hss : ss.length = N) (hN : Ls.length = N) (hsl : ∀ i, i < N → ∃ A' m c', ss[i]? = some (.slice A' m c')) (hn : N ≤ 65536) :
    Calls Tryz.prog 85 #[.slice A N c, .int .u64 now] w fun e w' => ∃ g, e = .returned (.slice (some ⟨g, 0, none⟩) N N) ∧ w.heap.size ≤ g ∧ Row w' w.heap.size 3 (.slice (some ⟨g, 0, none⟩) N N) N (bflat (fresh now Ls) (fun i => (ss[i]?).getD nilS)) ∧ Below w.heap.size w w' := by
  have HR := Lib.hid hr; have HB0 := Lib.hid hb0; have HSS := Lib.hid hss; have HLN := Lib.hid hN; have HSL := Lib.hid hsl
  clear hr hb0 hss hN hsl
  have hmk := makeB N hn
  go_enter Tryz.func85, Tryz.ntmps85
  go_wp2_with fail
  have hnew := heap_alloc_new w (.cells (bflat (List.replicate N ⟨0, 0, []⟩) (fun _ => nilS)).toArray 188)
  have hbl := below1 w (.cells (bflat (List.replicate N ⟨0, 0, []⟩) (fun _ => nilS)).toArray 188)
  have hr0 := row_made _ w.heap.size _ N 3 188 _ hnew (by rw [bflat_len, List.length_replicate]) (Nat.le_refl _) hn
  obtain ⟨g, hg⟩ : ∃ g, g = w.heap.size := ⟨_, rfl⟩
  rw [← hg] at hr0 ⊢
  generalize w.alloc (.cells (bflat (List.replicate N ⟨0, 0, []⟩) (fun _ => nilS)).toArray 188) = w0 at *
  have HBL := Lib.hid hbl; have HR0 := Lib.hid hr0; have HG := Lib.hid hg
  clear hmk hnew hbl hr0 hg
  go_loopg [6, 7, 13] N (fun q s6 s7 s13 wx => ∃ (k : Nat) (L : List Bk) (V : Nat → Value), k ≤ N ∧ q = N - k ∧ s13 = .int .i64 (k : Int) ∧ L.length = N ∧ (∀ j, j < k → L[j]! = ⟨now, now, Ls[j]!⟩ ∧ V j = (ss[j]?).getD nilS) ∧ Row wx g 3 (.slice (some ⟨g, 0, none⟩) N N) N (bflat L V) ∧ Below w.heap.size w wx)
  case atStart => exact ⟨0, _, _, by omega, rfl, rfl, by simp, fun j hj => by omega, HR0.out, HBL.out⟩
  case round =>
    obtain ⟨k, L, V, hk, rfl, rfl, hL, hdone, hrow, hb⟩ := hrel
    have HL := Lib.hid hL; have HD := Lib.hid hdone; have HROW := Lib.hid hrow; have HB := Lib.hid hb
    clear hL hdone hrow hb
    by_cases hkn : k < N
    · obtain ⟨A', m, c', hv⟩ := HSL.out k hkn
      obtain ⟨gs, os, rfl, hgs, hls⟩ := HR.out (by rw [HSS.out]; omega)
      have hc0 : wr.cell? ⟨gs, os + k, none⟩ = some (.slice A' m c') := (HB.out.cell (p := ⟨gs, os + k, none⟩) (by have := HB0.out; show gs < w.heap.size; omega)).trans (hls k _ hv)
      have HV := Lib.hid hv
      clear hv hls
      have hw1 : Below wr.heap.size wr wr := Below.refl _ _
      obtain ⟨⟨u0, c0, f0⟩, ⟨u1, c1, f1⟩, ⟨u2, c2, f2⟩⟩ := HROW.out.three hkn
      have hglt := (HROW.out.lt g rfl).2
      have HK := Lib.hid (fun W (hb : Below wr.heap.size wr W) => (⟨(hb.cell (p := ⟨g, k * 3, none⟩) hglt).trans c0, (hb.cell (p := ⟨g, k * 3 + 1, none⟩) hglt).trans c1, (hb.cell (p := ⟨g, k * 3 + 2, none⟩) hglt).trans c2, (hb.frozen (p := ⟨g, k * 3, none⟩) hglt).trans f0, (hb.frozen (p := ⟨g, k * 3 + 1, none⟩) hglt).trans f1, (hb.frozen (p := ⟨g, k * 3 + 2, none⟩) hglt).trans f2⟩ : _ ∧ _ ∧ _ ∧ _ ∧ _ ∧ _))
      clear c0 c1 c2 f0 f1 f2
      go_wp2_with fail
      refine (begin_any now _).mono ?_
      rintro e w1 ⟨rfl, hb1⟩
      obtain ⟨c0, c1, c2, f0, f1, f2⟩ := HK.out w1 hb1
      have HB1 := Lib.hid hb1
      clear hb1
      go_wp2_with fail
      go_roundg (N - (k + 1))
      case measure => omega
      case rel =>
        have h1 := HROW.out.new HB1.out
        have h2 := ((h1.setAt (i := k * 3) (by omega) (.int .u64 now)).setAt (i := k * 3 + 1) (by omega) (.int .u64 now)).setAt (i := k * 3 + 2) (by omega) (.slice A' m c')
        have hL := HL.out
        rw [bflat_a _ _ (by omega), bflat_f _ _ (by rw [List.length_set]; omega), bflat_q _ _ (by rw [List.length_set, List.length_set]; omega) _ Ls[k]!] at h2
        simp only [Nat.zero_add] at h2
        refine ⟨k + 1, _, _, by omega, rfl, by go_num, ?_, fun j hj => ?_, h2, ?_⟩
        · simp only [List.length_set]; exact hL
        · rw [get_set (by simp only [List.length_set]; omega), get_set (by simp only [List.length_set]; omega), get_set (by omega)]
          by_cases e : j = k
          · subst e
            rw [if_pos rfl, if_pos rfl, if_pos rfl, upd_same, HV.out]
            exact ⟨rfl, rfl⟩
          · rw [if_neg e, upd_ne _ _ e]
            have := HD.out j (by omega)
            refine ⟨?_, this.2⟩
            rw [get_set (by rw [List.length_set]; omega), if_neg e, get_set (by omega), if_neg e]
            exact this.1
        · have t3 : Turns (fun x => x = g) w1 (((w1.setCell ⟨g, k * 3, none⟩ (.int .u64 now)).setCell ⟨g, k * 3 + 1, none⟩ (.int .u64 now)).setCell ⟨g, k * 3 + 2, none⟩ (.slice A' m c')) := (((Turns.refl (fun x => x = g) w1).setCell ⟨g, k * 3, none⟩ _ rfl).setCell ⟨g, k * 3 + 1, none⟩ _ rfl).setCell ⟨g, k * 3 + 2, none⟩ _ rfl
          have hb1 : Below w.heap.size w w1 := HB.out.trans (HB1.out.mono HB.out.size)
          exact hb1.trans (t3.below hb1.size (fun x hx e => by have := HG.out; omega))
    · obtain rfl : k = N := by omega
      go_wp2_with fail
      go_ret
      refine ⟨g, rfl, by have := HG.out; omega, ?_, HB.out⟩
      have hL := HL.out
      have hx : bflat L V = bflat (fresh now Ls) (fun i => (ss[i]?).getD nilS) := by
        refine bflat_ext (L := L) (V := V) (by rw [bflat_len]; simp [fresh, hL, HLN.out]) fun j hj => ?_
        have hj3 : j < k * 3 := by simpa [fresh, HLN.out] using hj
        rw [bflat_at _ _ (by omega)]
        unfold bcell
        obtain ⟨h1, h2⟩ := HD.out (j / 3) (by omega)
        have h3 : (fresh now Ls)[j / 3]! = ⟨now, now, Ls[j / 3]!⟩ := by
          have hl := HLN.out
          rw [getElem!_pos (fresh now Ls) (j / 3) (by simp [fresh]; omega), getElem!_pos Ls (j / 3) (by omega)]
          simp [fresh]
        rw [h1, h2, h3]
      rw [← hx]
      have := HROW.out.base (b := w.heap.size) (by have := HG.out; omega)
      exact this
theorem Row.ok {w : World} {base g o n m sz cap : Nat} {cs : List Value} (h : Row w base sz (.slice (some ⟨g, o, none⟩) m cap) n cs) {j : Nat} (hj : j < n * sz) : ∃ u, cs[j]? = some u ∧ w.cell? ⟨g, o + j, none⟩ = some u ∧ w.frozen? ⟨g, o + j, none⟩ = false := by
  obtain ⟨A, cap', e, h0, h1, h2, h3, h4⟩ := h
  cases e
  obtain ⟨g', o', e, hb, hlt, hl, hc⟩ := h4 _ rfl
  cases e
  have hcap : n * sz ≤ cap * sz := Nat.mul_le_mul_right _ h1
  have hu := List.getElem?_eq_getElem (l := cs) (i := j) (by omega)
  exact ⟨_, hu, hl j _ hu, (hc j (by omega)).2⟩
def hollow (L : List Bk) : List Bk := L.map fun x => { x with q := [] }
theorem emptied_any {w : World} {g o c N : Nat} {L : List Bk} {V : Nat → Value} (hr : Row w 0 3 (.slice (some ⟨g, o, none⟩) N c) N (bflat L V)) (hL : L.length = N) (hV : ∀ i, i < N → ∃ A' m c', V i = .slice A' m c') (hn : N ≤ 65536) :
    Calls Tryz.prog 87 #[.slice (some ⟨g, o, none⟩) N c] w fun e w' => ∃ g2, e = .returned (.slice (some ⟨g2, 0, none⟩) N N) ∧ w.heap.size ≤ g2 ∧ g2 < w'.heap.size ∧ Lies w' g2 0 ((List.range N).map V) ∧ Row w' 0 3 (.slice (some ⟨g, o, none⟩) N c) N (bflat (hollow L) (fun _ => nilS)) ∧ Turns (fun x => x = g) w w' := by
  have HR := Lib.hid hr; have HLL := Lib.hid hL; have HV := Lib.hid hV
  have hc := hr.shape
  obtain ⟨_, _, e, hNc, hc9⟩ := hc
  cases e
  clear hr hL hV
  have hmk := make_any N hn
  go_enter Tryz.func87, Tryz.ntmps87
  go_wp2_with fail
  have hnew := heap_alloc_new w (.cells (List.replicate N nilS).toArray 123)
  have hbl := below1 w (.cells (List.replicate N nilS).toArray 123)
  have hr0 := row_made _ w.heap.size _ N 1 123 _ hnew (by rw [List.length_replicate]; omega) (Nat.le_refl _) hn
  have hglt := (HR.out.lt g rfl).2
  have hrt := HR.out.new hbl
  obtain ⟨g2, hg⟩ : ∃ g2, g2 = w.heap.size := ⟨_, rfl⟩
  rw [← hg] at hr0 ⊢
  have hgg : g ≠ g2 := by omega
  have hgg' : g2 ≠ g := by omega
  have hee : (List.replicate N nilS).toArray = Array.replicate N nilS := by simp
  rw [hee] at hbl hrt hr0
  clear hnew hee
  generalize w.alloc (.cells (Array.replicate N (Value.slice none 0 0)) 123) = w0 at *
  have HBL := Lib.hid hbl; have HR0 := Lib.hid hr0; have HG := Lib.hid hg; have HRT := Lib.hid hrt
  clear hmk hbl hr0 hg hrt hglt
  go_loopg [4, 10] N (fun q s4 s10 wx => ∃ (k : Nat) (L' : List Bk) (V' : Nat → Value) (cs : List Value), k ≤ N ∧ q = N - k ∧ s10 = .int .i64 (k : Int) ∧ L'.length = N ∧ (∀ j, j < N → L'[j]! = (if j < k then { L[j]! with q := [] } else L[j]!) ∧ V' j = if j < k then nilS else V j) ∧
    Row wx 0 3 (.slice (some ⟨g, o, none⟩) N c) N (bflat L' V') ∧ Row wx g2 1 (.slice (some ⟨g2, 0, none⟩) N N) N cs ∧ (∀ j, j < k → cs[j]? = some (V j)) ∧ Turns (fun x => x = g) w wx)
  case atStart => exact ⟨0, L, V, _, by omega, rfl, rfl, HLL.out, fun j hj => ⟨by rw [if_neg (by omega)], by rw [if_neg (by omega)]⟩, HRT.out, HR0.out, fun j hj => by omega, Turns.of_below HBL.out⟩
  case round =>
    obtain ⟨k, L', V', cs, hk, rfl, rfl, hL, hdone, hrow, hrow2, hcs, ht⟩ := hrel
    have HL := Lib.hid hL; have HD := Lib.hid hdone; have HROW := Lib.hid hrow; have HROW2 := Lib.hid hrow2; have HCS := Lib.hid hcs; have HT := Lib.hid ht
    clear hL hdone hrow hrow2 hcs ht
    by_cases hkn : k < N
    · obtain ⟨A', m, c', hv⟩ := HV.out k hkn
      obtain ⟨u, hu, c2, f2⟩ := HROW.out.ok (j := k * 3 + 2) (by omega)
      have hg2 := (bflat_get L' V' (i := k) (by have := HL.out; omega)).2.2
      rw [hu] at hg2
      have hvk := (HD.out k hkn).2
      rw [if_neg (by omega), hv] at hvk
      rw [hvk] at hg2
      cases hg2
      obtain ⟨u', hu', d2, e2⟩ := HROW2.out.ok (j := k) (by omega)
      rw [Nat.zero_add] at d2 e2
      rw [← Nat.add_assoc] at c2 f2
      have HVV := Lib.hid hv
      clear hu hvk hu' hv
      go_wp2_with fail
      go_roundg (N - (k + 1))
      case measure => omega
      case rel =>
        have t1 : Turns (fun x => x = g2) wr (wr.setCell ⟨g2, k, none⟩ (.slice A' m c')) := (Turns.refl (fun x => x = g2) wr).setCell ⟨g2, k, none⟩ _ rfl
        have t2 : Turns (fun x => x = g) (wr.setCell ⟨g2, k, none⟩ (.slice A' m c')) ((wr.setCell ⟨g2, k, none⟩ (.slice A' m c')).setCell ⟨g, o + k * 3 + 2, none⟩ nilS) := (Turns.refl (fun x => x = g) _).setCell ⟨g, o + k * 3 + 2, none⟩ _ rfl
        have r1 := (HROW.out.keep t1 (fun x e e2 => hgg (by simp [Value.ownBlock] at e; omega))).setAt (i := k * 3 + 2) (by omega) nilS
        have r2 := (HROW2.out.setAt (i := k) (by omega) (.slice A' m c'))
        rw [Nat.zero_add] at r2
        have r3 := r2.keep t2 (fun x e e2 => hgg (by simp [Value.ownBlock] at e; omega))
        have hL := HL.out
        rw [bflat_q _ _ (by omega) _ [], ← Nat.add_assoc] at r1
        refine ⟨k + 1, _, _, _, by omega, rfl, by go_num, ?_, fun j hj => ?_, r1, r3, fun j hj => ?_, ?_⟩
        · simp only [List.length_set]; exact hL
        · obtain ⟨d1, d2⟩ := HD.out j hj
          rw [get_set (by omega)]
          by_cases e : j = k
          · subst e
            rw [if_pos rfl, upd_same, if_pos (by omega), if_pos (by omega), d1, if_neg (by omega)]
            exact ⟨rfl, rfl⟩
          · rw [if_neg e, upd_ne _ _ e, d1, d2]
            by_cases e3 : j < k
            · rw [if_pos e3, if_pos e3, if_pos (by omega), if_pos (by omega)]
              exact ⟨rfl, rfl⟩
            · rw [if_neg e3, if_neg e3, if_neg (by omega), if_neg (by omega)]
              exact ⟨rfl, rfl⟩
        · have hlc := HROW2.out.len
          by_cases e : j = k
          · subst e
            rw [List.getElem?_set_self (by omega), HVV.out]
          · rw [List.getElem?_set_ne (fun e' => e e'.symm)]
            exact HCS.out j (by omega)
        · refine (HT.out.trans t1 (fun x hx e => ?_)).trans t2 (fun x hx e => e)
          have := HG.out; omega
    · obtain rfl : k = N := by omega
      go_wp2_with fail
      go_ret
      have hlt := (HROW2.out.lt g2 rfl).2
      have hL := HL.out
      have hcl := HROW2.out.len
      have hx : bflat L' V' = bflat (hollow L) (fun _ => nilS) := by
        refine bflat_ext (L := L) (V := V) (by rw [bflat_len]; simp [hollow, hL, HLL.out]) fun j hj => ?_
        have hj3 : j < k * 3 := by simpa [hollow, HLL.out] using hj
        rw [bflat_at _ _ (by omega)]
        unfold bcell
        obtain ⟨h1, h2⟩ := HD.out (j / 3) (by omega)
        rw [if_pos (by omega)] at h1 h2
        have h3 : (hollow L)[j / 3]! = { L[j / 3]! with q := [] } := by
          have hl := HLL.out
          rw [getElem!_pos (hollow L) (j / 3) (by simp [hollow]; omega), getElem!_pos L (j / 3) (by omega)]
          simp [hollow]
        rw [h1, h2, h3]
      rw [← hx]
      refine ⟨g2, rfl, by have := HG.out; omega, hlt, ?_, HROW.out, HT.out⟩
      obtain ⟨A, cap, e, h0, h1, h2, h3, h4⟩ := HROW2.out
      cases e
      obtain ⟨g', o', e, hb, hlt', hl, hc⟩ := h4 _ rfl
      cases e
      intro j x hj
      have hjk : j < k := by
        have := (List.getElem?_eq_some_iff.1 hj).1
        simpa using this
      have : x = V j := by simpa [hjk] using hj.symm
      subst this
      exact hl j _ (HCS.out j hjk)
end Go.Proofs.YtpmafdggbeppcaaGreatDoor.S10
namespace Go.Proofs.YtpmafdggbeppcaaGreatDoor.S10
open Go.Proofs.YtpmafdggbeppcaaGreatDoor
open Go.RowKit
def M0 (now : Int) : Int → List Bk := upd (fun _ => []) 2 (fresh now (List.replicate 4 []))
theorem grown_turns {w w' : World} {r : Option Nat} (h : w.grownBy w' r) : Turns (fun k => r = some k) w w' :=
  ⟨h.os, h.tape, h.output, h.size, fun k hk hn => h.block k hk (fun e => hn e.symm)⟩
theorem fresh_at (now : Int) (Ls : List (List Ent)) {i : Nat} (hi : i < Ls.length) : (fresh now Ls)[i]! = ⟨now, now, Ls[i]!⟩ := by
  rw [getElem!_pos (fresh now Ls) i (by simpa [fresh] using hi), getElem!_pos Ls i hi]
  simp [fresh]
theorem fresh_len (now : Int) (Ls : List (List Ent)) : (fresh now Ls).length = Ls.length := by simp [fresh]
theorem hollow_at (L : List Bk) {i : Nat} (hi : i < L.length) : (hollow L)[i]! = { L[i]! with q := [] } := by
  rw [getElem!_pos (hollow L) i (by simpa [hollow] using hi), getElem!_pos L i hi]
  simp [hollow]
theorem hollow_len (L : List Bk) : (hollow L).length = L.length := by simp [hollow]
theorem rep_at (n i : Nat) : (List.replicate n ([] : List Ent))[i]! = [] := by
  rw [List.getElem!_eq_getElem?_getD, List.getElem?_replicate]
  split <;> rfl
theorem rep_get (n i : Nat) : ((List.replicate n nilS)[i]?).getD nilS = nilS := by
  rw [List.getElem?_replicate]
  split <;> rfl
theorem new_any (now : Int) (w : World) : Calls Tryz.prog 81 #[.int .u64 now] w fun e w' => ∃ s own, e = .returned s ∧ St w' w.heap.size own s 1 (M0 now) ∧ Below w.heap.size w w' := by
  have hs : ∀ w, Calls Tryz.prog 119 #[.int .i64 2] w fun e w' => e = .returned (.int .i64 4) ∧ w = w' := fun w => by
    have := size_any 2 w
    rwa [show sizeN 2 = 4 by decide] at this
  have HS := Lib.hid hs
  clear hs
  have hmk : ∀ w, (Instr.makeSlice 220 (.int .i64 4) (.int .i64 4)).run Tryz.prog w = .ok (.slice (some ⟨w.heap.size, 0, none⟩) 4 4) (w.alloc (.cells (List.replicate 4 nilS).toArray 123)) := fun w => make_any 4 (by omega) w
  have hmm := @run_makeMap Tryz.prog
  generalize hR : (List.replicate 4 nilS).toArray = R4 at hmk
  have HR4 := Lib.hid hR
  clear hR
  go_enter Tryz.func81, Tryz.ntmps81
  go_wp2_with (go_at_call 119; refine (HS.out _).mono ?_; rintro e w' ⟨rfl, rfl⟩)
  have hn1 := heap_alloc_new w (.cells R4 123)
  have hs1 : (w.alloc (.cells R4 123)).heap.size = w.heap.size + 1 := by simp
  have hb1 := below1 w (.cells R4 123)
  generalize w.alloc (.cells R4 123) = w1 at *
  have hm1 := MapAt.made w1
  have hb2 := below1 w1 (.map #[] 0)
  have hs2 : (w1.alloc (.map #[] 0)).heap.size = w.heap.size + 2 := by simp [hs1]
  have hn2 := (hb2.block w.heap.size (by omega)).trans hn1
  rw [hs1] at hm1
  generalize w1.alloc (.map #[] 0) = w2 at *
  rw [← HR4.out] at hn2
  have hrd : Rd w2 w2.heap.size (some ⟨w.heap.size, 0, none⟩) (List.replicate 4 nilS) := fun _ => ⟨_, 0, rfl, by omega, fun j u e => by rw [cell_row hn2, Nat.zero_add, List.getElem?_toArray]; exact e⟩
  refine (begun_any (c := 4) (ss := List.replicate 4 nilS) (List.replicate 4 []) now hrd (Nat.le_refl _) (by simp) (by simp) (fun i hi => ⟨none, 0, 0, by rw [List.getElem?_replicate, if_pos hi]⟩) (by omega)).mono ?_
  rintro e w3 ⟨g, rfl, hg, hr3, hb3⟩
  have hm3 := hm1.keep (Turns.of_below (S := fun _ => False) hb3) (fun h => h)
  obtain ⟨w4, hrun, hm4, hg4⟩ := hm3.put (by omega) (b := 2) (by unfold InI; omega) (.slice (some ⟨g, 0, none⟩) 4 4)
  have hs4 : w3.heap.size ≤ w4.heap.size := hg4.size
  have hbw : Below w.heap.size w w4 := by
    refine (hb1.trans (hb2.mono (by omega))).trans ((hb3.mono (by omega)).trans ((grown_turns hg4).below (by have := hb3.size; omega) (fun k hk e => ?_)))
    simp at e; omega
  have hr4 := hr3.keep (grown_turns hg4) (fun x e e2 => by simp [Value.ownBlock] at e; simp at e2; omega)
  have hglt := (hr4.lt g rfl).2
  have HB := Lib.hid hbw; have HM := Lib.hid hm4; have HRW := Lib.hid hr4
  have hw2 := hb3.size
  have HSZ : Hid (w.heap.size + 1 < w4.heap.size ∧ w.heap.size + 2 ≤ g ∧ g < w4.heap.size) := Lib.hid ⟨by omega, by omega, hglt⟩
  clear hn1 hb1 hm1 hb2 hn2 hrd hr3 hb3 hm3 hg4 hbw hm4 hr4 hmk hmm hs4 hglt hs1 hs2 hg hw2
  go_wp2_with fail
  go_ret
  obtain ⟨z1, z2, z3⟩ := HSZ.out
  have hbn := below1 w4 (.cells #[.map (some (w.heap.size + 1))] 225)
  have hnew := heap_alloc_new w4 (.cells #[.map (some (w.heap.size + 1))] 225)
  have hsz : (w4.alloc (.cells #[.map (some (w.heap.size + 1))] 225)).heap.size = w4.heap.size + 1 := by simp
  refine ⟨_, fun x => if x = w4.heap.size then some .set else if x = w.heap.size + 1 then some .map else if x = g then some (.tab 2) else none, rfl, ⟨w4.heap.size, w.heap.size + 1, upd (fun _ => nilS) 2 (.slice (some ⟨g, 0, none⟩) 4 4), fun _ _ => nilS, ?_⟩, HB.out.trans (hbn.mono HB.out.size)⟩
  have hM2 : M0 now 2 = fresh now (List.replicate 4 []) := upd_same _ _ _
  have hMo : ∀ b, b ≠ 2 → M0 now b = [] := fun b hb => upd_ne _ _ hb
  refine ⟨fun x r e => ?_, rfl, hnew, if_pos rfl, HM.out.keep (Turns.of_below (S := fun _ => False) hbn) (fun h => h), by rw [if_neg (by omega), if_pos rfl], fun b => ?_, fun b x e => ?_, fun b i hi => ?_, fun b i x hi e => by simp [Value.ownBlock] at e⟩
  · rw [hsz]
    split at e
    · omega
    · split at e
      · omega
      · split at e
        · omega
        · cases e
  · by_cases hb : b = 2
    · subst hb
      rw [upd_same, hM2]
      have := (HRW.out.new hbn).base (Nat.zero_le _)
      have hv : (fun i => ((List.replicate 4 nilS)[i]?).getD nilS) = fun _ => nilS := funext fun i => rep_get 4 i
      rw [hv] at this
      exact this
    · rw [upd_ne _ _ hb, hMo b hb]
      exact row_nil _ _ _
  · by_cases hb : b = 2
    · subst hb
      rw [upd_same] at e
      have : g = x := by simpa [Value.ownBlock] using e
      subst this
      rw [if_neg (by omega), if_neg (by omega), if_pos rfl]
    · rw [upd_ne _ _ hb] at e
      simp [Value.ownBlock] at e
  · by_cases hb : b = 2
    · subst hb
      rw [hM2] at hi ⊢
      have h4 : i < 4 := by simpa [fresh] using hi
      have : (fresh now (List.replicate 4 []))[i]!.q = [] := by
        rw [fresh_at _ _ (by simpa using h4), rep_at]
      rw [this]
      exact row_nil _ _ _
    · rw [hMo b hb] at hi
      simp at hi
end Go.Proofs.YtpmafdggbeppcaaGreatDoor.S10
namespace Go.Proofs.YtpmafdggbeppcaaGreatDoor.S11
set_option maxRecDepth 100000
set_option maxHeartbeats 16000000
open Go.Proofs.YtpmafdggbeppcaaGreatDoor
open Go.RowKit
abbrev Pt (B : Nat) : Value := .pointer (some ⟨B, 0, none⟩)
structure LAt (T : Nat) (K : IntKind) (w : World) (base p : Nat) (s : Value) (D : List Nt) : Prop where
  box : w.heap[p]? = some (.cells #[s] T (0, 0))
  own : Row w base 7 s D.length (flat K D)
  ne : s.ownBlock ≠ some p
  low : base ≤ p
section
variable {T : Nat} {K : IntKind} {w w' : World} {base p : Nat} {s : Value} {D : List Nt}
theorem LAt.lt (h : LAt T K w base p s D) : p < w.heap.size := (Array.getElem?_eq_some_iff.1 h.box).1
theorem LAt.kept {S : Nat → Prop} (h : LAt T K w base p s D) (t : Turns S w w') (hp : ¬ S p) (hs : ∀ g, s.ownBlock = some g → ¬ S g) : LAt T K w' base p s D :=
  ⟨(t.block p h.lt hp).trans h.box, h.own.keep t hs, h.ne, h.low⟩
theorem LAt.new (h : LAt T K w base p s D) (b : Below w.heap.size w w') : LAt T K w' base p s D :=
  h.kept (Turns.of_below (S := fun _ => False) b) (fun e => e) (fun _ _ e => e)
theorem LAt.drew (h : LAt T K w base p s D) : LAt T K w.drew base p s D := ⟨h.box, h.own.drew, h.ne, h.low⟩
theorem LAt.cell (h : LAt T K w base p s D) : w.cell? ⟨p, 0, none⟩ = some s := cell_row h.box 0
theorem LAt.froz (h : LAt T K w base p s D) : w.frozen? ⟨p, 0, none⟩ = false := froz_row h.box 0
theorem LAt.first (T : Nat) (K : IntKind) (w : World) : LAt T K (w.alloc (.cells #[.slice none 0 0] T)) w.heap.size w.heap.size (.slice none 0 0) [] :=
  ⟨heap_alloc_new _ _, row_nil _ _ _, by simp [Value.ownBlock], Nat.le_refl _⟩
end
theorem new_any (w : World) : Calls Tryz.prog 82 #[] w fun e w' => e = .returned (Pt w.heap.size) ∧ LAt 264 .u8 w' w.heap.size w.heap.size (.slice none 0 0) [] ∧ Below w.heap.size w w' := by
  go_enter Tryz.func82, Tryz.ntmps82
  go_wp2
  go_ret
  exact ⟨rfl, LAt.first _ _ _, (Below.refl _ _).alloc (Nat.le_refl _) _⟩
theorem count_any {w : World} {base p : Nat} {s : Value} {D : List Nt} (h : LAt 264 .u8 w base p s D) : Calls Tryz.prog 103 #[Pt p] w fun e w' => e = .returned (.int .i64 (D.length : Nat)) ∧ w = w' := by
  have c0 := h.cell
  obtain ⟨A, cap, rfl, _⟩ := h.own
  clear h
  go_enter Tryz.func103, Tryz.ntmps103
  go_wp2
  go_ret
  exact ⟨rfl, rfl⟩
def fallsB (D : List Nt) (x : Int) : Bool := decide (0 < D.length) && decide (x < D[D.length - 1]!.s)
theorem falls_any {w : World} {base p : Nat} {s : Value} {D : List Nt} (h : LAt 264 .u8 w base p s D) (hlen : D.length ≤ 1000000) (x : Int) : Calls Tryz.prog 191 #[Pt p, .int .i64 x] w fun e w' => e = .returned (.bool (fallsB D x)) ∧ w = w' := by
  have c0 := h.cell
  obtain ⟨A, cap, hs, hcap, hc9⟩ := h.own.shape
  subst hs
  have hrd := h.own.rd
  clear h
  by_cases hn : D.length = 0
  · have e1 : fallsB D x = false := by simp [fallsB, hn]
    rw [e1]
    rw [hn] at c0
    go_enter Tryz.func191, Tryz.ntmps191
    go_wp2
    go_ret
    exact ⟨rfl, rfl⟩
  · obtain ⟨g, o, rfl, hg, hN⟩ := hrd.note (i := D.length - 1) (by omega)
    have d0 := hN.c0
    have hwr : IntKind.i64.wrap ((D.length : Int) - 1) = ((D.length - 1 : Nat) : Int) := by rw [IntKind.wrap_i64]; omega
    have hge : (0 : Int) ≤ ((D.length - 1 : Nat) : Int) := by omega
    have hlt : ((D.length - 1 : Nat) : Int) < (D.length : Int) := by omega
    clear hrd hN hg
    have e1 : fallsB D x = decide (x < D[D.length - 1]!.s) := by simp [fallsB]; omega
    rw [e1]
    generalize D[D.length - 1]!.s = y at *
    go_enter Tryz.func191, Tryz.ntmps191
    go_wp2
    go_ret
    exact ⟨rfl, rfl⟩
end Go.Proofs.YtpmafdggbeppcaaGreatDoor.S11
