/- The document's Put and PutTimer. -/
import Derived.Test.YtcdoklgjicfkmaaU3
namespace Go.Proofs.Ytcdoklgjicfkmaa
open Go.RowKit

section
variable {w : World} {base : Nat} {own : Nat → Option Role} {s : Value} {M : Int → List Bk} {rb : Nat} {Q T : Nat → Value} {V : Nat → Nat → Value}
theorem upd_len (M : Int → List Bk) (b : Int) (i : Nat) (x : Bk) (b' : Int) : (upd M b ((M b).set i x) b').length = (M b').length := by
  by_cases e : b' = b
  · subst e; rw [upd_same, List.length_set]
  · rw [upd_ne _ _ e]
theorem upd_no {M : Int → List Bk} (h : ∀ b, (b < 2 ∨ 8 < b) → M b = []) (b : Int) (i : Nat) (x : Bk) : ∀ b', (b' < 2 ∨ 8 < b') → upd M b ((M b).set i x) b' = [] := fun b' hb => by
  have := upd_len M b i x b'
  rw [h b' hb] at this
  exact List.eq_nil_of_length_eq_zero (by simpa using this)
theorem RtF.putQ (h : RtF w base own s M rb Q T V) {k i g o c : Nat} (hk : k < 9) (hi : i < (M (k : Int)).length) (hQ : Q k = .slice (some ⟨g, o, none⟩) (M (k : Int)).length c) {w1 : World} (hb : Below w.heap.size w w1) {v : Value} {D : List Ent} (hv : RowE w1 w.heap.size v D) :
    RtF (w1.setCell ⟨g, o + i, none⟩ v) base (ownQ own k i v) s (upd M k ((M k).set i { (M k)[i]! with q := D })) rb Q T (upd V k (upd (V k) i v)) := by
  have h1 := h.new hb
  have hog : own g = some (.tab (k : Nat)) := h.oq k g hk (by rw [hQ]; rfl)
  have hvg : ∀ x, v.ownBlock = some x → w.heap.size ≤ x ∧ x < w1.heap.size := fun x e => hv.lt x e
  have hvx : ∀ x, v.ownBlock = some x → w.heap.size ≤ x := fun x e => (hvg x e).1
  have tset : Turns (fun k => k = g) w1 (w1.setCell ⟨g, o + i, none⟩ v) := (Turns.refl _ w1).setCell _ _ rfl
  have hrb := h.fp rb _ h.os
  have hrg : rb ≠ g := h.ne h.os hog (by simp)
  have hrlt := (h1.fp rb _ h.os).2
  refine ⟨fun x r e => ?_, h.hs, ownQ_keep hvx h.os hrb.2 (by simp), fun j hj => ⟨(tset.cell hrlt hrg).trans (h1.hQ j hj).1, (tset.frozen hrlt hrg).trans (h1.hQ j hj).2⟩, fun j hj => ⟨(tset.cell hrlt hrg).trans (h1.hT j hj).1, (tset.frozen hrlt hrg).trans (h1.hT j hj).2⟩, upd_no h.no _ _ _, fun j hj => ?_, fun j hj => ?_, fun j x hx => ?_, fun j x hj e => ?_, fun j x hj e => ?_, fun j x y hx e => ?_⟩
  · unfold ownQ at e
    have hsz : (w1.setCell ⟨g, o + i, none⟩ v).heap.size = w1.heap.size := by simp [World.setCell]
    rw [hsz]
    by_cases e1 : v.ownBlock = some x
    · have := hvg x e1; omega
    · rw [if_neg e1] at e
      by_cases e2 : own x = some (.q (k : Nat) i)
      · rw [if_pos e2] at e; cases e
      · rw [if_neg e2] at e
        have := h.fp x r e
        have := hb.size
        omega
  · rw [upd_len]
    by_cases e : j = k
    · subst e
      rw [upd_same, ← qflat_set _ _ hi]
      have := h1.hq j hj
      rw [hQ] at this ⊢
      exact this.setAt (i := i) (by omega) v
    · rw [upd_ne _ _ e]
      exact (h1.hq j hj).keep tset (fun x ex => h.ne (h.oq j x hj ex) hog (by simp; exact fun e' => e (by omega)))
  · rw [upd_len]
    have ht : tflat (upd M k ((M k).set i { (M k)[i]! with q := D }) (j : Int)) = tflat (M (j : Int)) := by
      by_cases e : j = k
      · subst e; rw [upd_same, tflat_q _ hi]
      · rw [upd_ne _ _ (by omega)]
    rw [ht]
    exact (h1.ht j hj).keep tset (fun x ex => h.ne (h.ot j x hj ex) hog (by simp))
  · rw [upd_len] at hx
    by_cases e : j = k
    · subst e
      rw [upd_same, upd_same, get_set hi]
      by_cases e2 : x = i
      · subst e2
        rw [if_pos rfl, upd_same]
        exact (hv.keep tset (fun y ey e3 => by have := hvx y ey; have := h.fp g _ hog; omega)).base (Nat.zero_le _)
      · rw [if_neg e2, upd_ne _ _ e2]
        exact (h1.hv j x hx).keep tset (fun y ey => h.ne (h.ov j x y hx ey) hog (by simp))
    · rw [upd_ne _ _ (show (j : Int) ≠ (k : Int) by omega), upd_ne _ _ e]
      exact (h1.hv j x hx).keep tset (fun y ey => h.ne (h.ov j x y hx ey) hog (by simp))
  · exact ownQ_keep hvx (h.oq j x hj e) (h.fp x _ (h.oq j x hj e)).2 (by simp)
  · exact ownQ_keep hvx (h.ot j x hj e) (h.fp x _ (h.ot j x hj e)).2 (by simp)
  · rw [upd_len] at hx
    by_cases e1 : j = k ∧ x = i
    · obtain ⟨rfl, rfl⟩ := e1
      rw [upd_same, upd_same] at e
      unfold ownQ
      rw [if_pos e]
    · have e' : (V j x).ownBlock = some y := by
        by_cases e2 : j = k
        · subst e2
          rw [upd_same, upd_ne _ _ (fun e3 => e1 ⟨rfl, e3⟩)] at e
          exact e
        · rw [upd_ne _ _ e2] at e
          exact e
      exact ownQ_keep hvx (h.ov j x y hx e') (h.fp y _ (h.ov j x y hx e')).2 (by simp; exact fun e2 e3 => e1 ⟨by omega, e3⟩)
theorem RtF.putT (h : RtF w base own s M rb Q T V) {k i g o c : Nat} (hk : k < 9) (hi : i < (M (k : Int)).length) (hT : T k = .slice (some ⟨g, o, none⟩) (M (k : Int)).length c) (ta tf : Int) :
    RtF ((w.setCell ⟨g, o + i * 2, none⟩ (.int .u64 ta)).setCell ⟨g, o + i * 2 + 1, none⟩ (.int .u64 tf)) base own s (upd M k ((M k).set i { (M k)[i]! with a := ta, f := tf })) rb Q T V := by
  have hog : own g = some (.tim (k : Nat)) := h.ot k g hk (by rw [hT]; rfl)
  have tset : Turns (fun k => k = g) w ((w.setCell ⟨g, o + i * 2, none⟩ (.int .u64 ta)).setCell ⟨g, o + i * 2 + 1, none⟩ (.int .u64 tf)) := ((Turns.refl (fun k => k = g) w).setCell ⟨g, o + i * 2, none⟩ _ rfl).setCell ⟨g, o + i * 2 + 1, none⟩ _ rfl
  have hrlt := (h.fp rb _ h.os).2
  have hrg : rb ≠ g := h.ne h.os hog (by simp)
  refine ⟨fun x r e => ?_, h.hs, h.os, fun j hj => ⟨(tset.cell hrlt hrg).trans (h.hQ j hj).1, (tset.frozen hrlt hrg).trans (h.hQ j hj).2⟩, fun j hj => ⟨(tset.cell hrlt hrg).trans (h.hT j hj).1, (tset.frozen hrlt hrg).trans (h.hT j hj).2⟩, upd_no h.no _ _ _, fun j hj => ?_, fun j hj => ?_, fun j x hx => ?_, h.oq, h.ot, fun j x y hx e => ?_⟩
  · have := h.fp x r e
    have := tset.size
    omega
  · rw [upd_len]
    exact (h.hq j hj).keep tset (fun x ex => h.ne (h.oq j x hj ex) hog (by simp))
  · rw [upd_len]
    by_cases e : j = k
    · subst e
      rw [upd_same, ← tflat_set _ hi]
      have := h.ht j hj
      rw [hT] at this ⊢
      have h2 := (this.setAt (i := i * 2) (by omega) (.int .u64 ta)).setAt (i := i * 2 + 1) (by omega) (.int .u64 tf)
      rw [Nat.add_assoc]
      exact h2
    · rw [upd_ne _ _ (show (j : Int) ≠ (k : Int) by omega)]
      exact (h.ht j hj).keep tset (fun x ex => h.ne (h.ot j x hj ex) hog (by simp; omega))
  · rw [upd_len] at hx
    have : (upd M k ((M k).set i { (M k)[i]! with a := ta, f := tf }) (j : Int))[x]!.q = (M (j : Int))[x]!.q := by
      by_cases e : j = k
      · subst e
        rw [upd_same, get_set hi]
        by_cases e2 : x = i
        · subst e2; rw [if_pos rfl]
        · rw [if_neg e2]
      · rw [upd_ne _ _ (by omega)]
    rw [this]
    exact (h.hv j x hx).keep tset (fun y ey => h.ne (h.ov j x y hx ey) hog (by simp))
  · rw [upd_len] at hx
    exact h.ov j x y hx e
variable {b : Int}
theorem rput_no (h : Rt w base own s M) {i : Int} (hi : i < 0 ∨ ((M b).length : Int) ≤ i) (A0 : Option Addr) (m0 c0 : Nat) :
    Calls Try.prog 31 #[s, .agg #[.int .i64 b, .int .i64 i], .slice A0 m0 c0] w fun e w' => e = .returned (.bool false) ∧ Below w.heap.size w w' := by
  have HT := Lib.hid (fun o => there_any (h.new (below1 w o)) b i)
  rw [there_no hi] at HT
  clear h hi
  go_enter Try.func31, Try.ntmps31
  go_wp2_with (go_at_call 52; refine (HT.out _).mono ?_; rintro e w' ⟨rfl, hb1⟩; (have HB1 := Lib.hid hb1); (clear hb1))
  go_ret
  exact ⟨rfl, (below1 w _).trans (HB1.out.mono (by simp))⟩
theorem rputT_no (h : Rt w base own s M) {i : Int} (hi : i < 0 ∨ ((M b).length : Int) ≤ i) (ta tf : Int) :
    Calls Try.prog 33 #[s, .agg #[.int .i64 b, .int .i64 i], .agg #[.int .u64 ta, .int .u64 tf]] w fun e w' => e = .returned (.bool false) ∧ Below w.heap.size w w' := by
  have HT := Lib.hid (fun W hW => there_any (h.new (w' := W) hW) b i)
  rw [there_no hi] at HT
  have hbb : Below w.heap.size w ((w.alloc (.cells #[.int .i64 b, .int .i64 i] 79)).alloc (.cells #[.int .u64 ta, .int .u64 tf] 86)) := (below1 w _).alloc (by simp) _
  have HBB := Lib.hid hbb
  clear h hi hbb
  go_enter Try.func33, Try.ntmps33
  go_wp2_with (go_at_call 52; refine (HT.out _ HBB.out).mono ?_; rintro e w' ⟨rfl, hb1⟩; (have HB1 := Lib.hid hb1); (clear hb1))
  go_ret
  exact ⟨rfl, HBB.out.trans (HB1.out.mono HBB.out.size)⟩
theorem rput_yes (h : Rt w base own s M) {i : Nat} (hi : i < (M b).length) {b0 c0 : Nat} {A0 : Option Addr} {D : List Ent} (hr : Rd w b0 A0 (flat D)) (hb0 : b0 ≤ w.heap.size) (hlen : D.length ≤ 1000000) :
    Calls Try.prog 31 #[s, .agg #[.int .i64 b, .int .i64 (i : Int)], .slice A0 D.length c0] w fun e w' => e = .returned (.bool true) ∧ ∃ own', Rt w' base own' s (upd M b ((M b).set i { (M b)[i]! with q := D })) ∧ Turns (Mine own) w w' ∧ Fresh own own' w := by
  have HT := Lib.hid (fun o => there_any (h.new (below1 w o)) b i)
  rw [there_yes hi] at HT
  obtain ⟨rb, Q, T, V, hf⟩ := h
  obtain ⟨k, rfl, hk2, hk9⟩ := hf.nat (b := b) (fun e => by rw [e] at hi; simp at hi)
  obtain rfl := hf.hs
  obtain ⟨g, o, c, g2, o2, c2, e1, e2, og, og2, q1, q2, -⟩ := hf.bk hk9 hi
  have hc := (hf.hQ k hk9).1
  rw [e1] at hc
  have hgl := (hf.fp g _ og).2
  have hrl := (hf.fp rb _ hf.os).2
  have hrg : g ≠ rb := hf.ne og hf.os (by simp)
  have HF := Lib.hid hf; have HI := Lib.hid hi; have HQ := Lib.hid e1; have HR := Lib.hid hr; have HB0 := Lib.hid hb0; have HOG := Lib.hid og
  have hi' := hi
  obtain ⟨m, hm⟩ : ∃ m, m = (M (k : Int)).length := ⟨_, rfl⟩
  rw [← hm] at hi' hc
  obtain ⟨n, hn⟩ : ∃ n, n = D.length := ⟨_, rfl⟩
  have HN := Lib.hid hn
  have HK := Lib.hid (fun W (hb : Below w.heap.size w W) => (⟨(hb.cell (p := ⟨rb, k, none⟩) hrl).trans hc, (hb.cell (p := ⟨g, o + i, none⟩) hgl).trans q1, (hb.frozen (p := ⟨g, o + i, none⟩) hgl).trans q2⟩ : _ ∧ _ ∧ _))
  rw [← hn]
  clear q1 q2 hc hf e1 e2 og og2 hm hn hi hr hb0
  go_enter Try.func31, Try.ntmps31
  go_wp2_with fail
  have hnew := heap_alloc_new w (.cells #[.int .i64 (k : Int), .int .i64 (i : Int)] 79)
  refine (HT.out _).mono ?_
  rintro e w1 ⟨rfl, hb1⟩
  have hnew1 := (hb1.block _ (by simp)).trans hnew
  have c0' : w1.cell? ⟨w.heap.size, 0, none⟩ = some (.int .i64 (k : Int)) := cell_row hnew1 0
  have c1' : w1.cell? ⟨w.heap.size, 1, none⟩ = some (.int .i64 (i : Int)) := cell_row hnew1 1
  have HB := Lib.hid ((below1 w _).trans (hb1.mono (by simp)))
  obtain ⟨k0, k1, k2⟩ := HK.out w1 HB.out
  have hX1 : w.heap.size < w1.heap.size := by have := hb1.size; simp at this; omega
  have hgX : g ≠ w.heap.size := by omega
  have hbs := HB.out.size
  have hrl1 : rb < w1.heap.size := by omega
  have hgl1 : g < w1.heap.size := by omega
  clear hnew hb1 hnew1
  obtain ⟨X, hX⟩ : ∃ X, X = w.heap.size := ⟨_, rfl⟩
  rw [← hX] at c0' c1' hX1 hgX ⊢
  have hk9i : (k : Int) < 9 := by omega
  have HRD : Hid (Rd w1.drew w1.heap.size A0 (flat D)) := Lib.hid ((HR.out.below HB.out HB0.out).more (Nat.le_trans HB0.out hbs))
  have HB0' := Lib.hid hlen
  clear hX
  go_upto_region 3 with (fail)
  refine wp_region_held_drew (S := fun w' => w'.cell? ⟨X, 0, none⟩ = some (.int .i64 (k : Int)) ∧ w'.cell? ⟨X, 1, none⟩ = some (.int .i64 (i : Int)) ∧ w'.cell? ⟨rb, k, none⟩ = some (.slice (some ⟨g, o, none⟩) m c)) (by kernel_rfl) ?_ (fun hHeld => ?_)
  · exact ⟨c0', c1', k0⟩
  refine wpAnyH_take (i := 0) (oi := ({ dst := some 11, op := Op.move (Operand.tmp 0), type := 27, pos := "ref.go:61", after := #[], guard := none } : Oper)) (v := ?v0) rfl (by kernel_rfl) (by kernel_rfl) (by kernel_rfl) (fun _ _ _ h => h) (Or.inl ⟨by rfl, fun w hSw => ?hy0⟩) (by assumption) ?r0
  case hy0 => (try dsimp only at hSw); go_simp; (try with_reducible rfl)
  (try simp only [Act.put, List.setIfInBounds_toArray, List.set_cons_zero, List.set_cons_succ])
  refine wpAnyH_take (i := 1) (oi := ({ dst := some 12, op := Op.fieldAddr 79 (Operand.tmp 4) 0, type := 0, pos := "ref.go:61", after := #[], guard := none } : Oper)) (v := ?v1) rfl (by kernel_rfl) (by kernel_rfl) (by kernel_rfl) (fun _ _ _ h => h) (Or.inl ⟨by rfl, fun w hSw => ?hy1⟩) (by assumption) ?r1
  case hy1 => (try dsimp only at hSw); go_simp; (try with_reducible rfl)
  (try simp only [Act.put, List.setIfInBounds_toArray, List.set_cons_zero, List.set_cons_succ])
  refine wpAnyH_take (i := 2) (oi := ({ dst := some 13, op := Op.load 3 (Operand.tmp 12), type := 3, pos := "ref.go:61", after := #[{ on := 1, ground := Ground.data }], guard := none } : Oper)) (v := ?v2) rfl (by kernel_rfl) (by kernel_rfl) (by kernel_rfl) (fun _ _ _ h => h) (Or.inl ⟨by rfl, fun w hSw => ?hy2⟩) (by assumption) ?r2
  case hy2 => (try dsimp only at hSw); go_simp; (try with_reducible rfl)
  (try simp only [Act.put, List.setIfInBounds_toArray, List.set_cons_zero, List.set_cons_succ])
  refine wpAnyH_take (i := 3) (oi := ({ dst := some 14, op := Op.nilCheck (Operand.tmp 11), type := 0, pos := "ref.go:61", after := #[{ on := 0, ground := Ground.data }], guard := none } : Oper)) (v := ?v3) rfl (by kernel_rfl) (by kernel_rfl) (by kernel_rfl) (fun _ _ _ h => h) (Or.inl ⟨by rfl, fun w hSw => ?hy3⟩) (by assumption) ?r3
  case hy3 => (try dsimp only at hSw); go_simp; (try with_reducible rfl)
  (try simp only [Act.put, List.setIfInBounds_toArray, List.set_cons_zero, List.set_cons_succ])
  refine wpAnyH_take (i := 4) (oi := ({ dst := some 15, op := Op.fieldAddr 76 (Operand.tmp 14) 0, type := 0, pos := "ref.go:61", after := #[{ on := 3, ground := Ground.data }], guard := none } : Oper)) (v := ?v4) rfl (by kernel_rfl) (by kernel_rfl) (by kernel_rfl) (fun _ _ _ h => h) (Or.inl ⟨by rfl, fun w hSw => ?hy4⟩) (by assumption) ?r4
  case hy4 => (try dsimp only at hSw); go_simp; (try with_reducible rfl)
  (try simp only [Act.put, List.setIfInBounds_toArray, List.set_cons_zero, List.set_cons_succ])
  refine wpAnyH_take (i := 5) (oi := ({ dst := some 16, op := Op.indexAddr 72 (Operand.tmp 15) (Operand.tmp 13), type := 0, pos := "ref.go:61", after := #[{ on := 4, ground := Ground.data }, { on := 2, ground := Ground.data }], guard := none } : Oper)) (v := ?v5) rfl (by kernel_rfl) (by kernel_rfl) (by kernel_rfl) (fun _ _ _ h => h) (Or.inl ⟨by rfl, fun w hSw => ?hy5⟩) (by assumption) ?r5
  case hy5 => (try dsimp only at hSw); go_simp; (try with_reducible rfl)
  (try simp only [Act.put, List.setIfInBounds_toArray, List.set_cons_zero, List.set_cons_succ])
  refine wpAnyH_take (i := 6) (oi := ({ dst := some 17, op := Op.load 71 (Operand.tmp 16), type := 71, pos := "ref.go:61", after := #[{ on := 5, ground := Ground.data }], guard := none } : Oper)) (v := ?v6) rfl (by kernel_rfl) (by kernel_rfl) (by kernel_rfl) (fun _ _ _ h => h) (Or.inl ⟨by rfl, fun w hSw => ?hy6⟩) (by assumption) ?r6
  case hy6 => (try dsimp only at hSw); go_simp; (try with_reducible rfl)
  (try simp only [Act.put, List.setIfInBounds_toArray, List.set_cons_zero, List.set_cons_succ])
  refine wpAnyH_take (i := 7) (oi := ({ dst := some 18, op := Op.fieldAddr 79 (Operand.tmp 4) 1, type := 0, pos := "ref.go:61", after := #[], guard := none } : Oper)) (v := ?v7) rfl (by kernel_rfl) (by kernel_rfl) (by kernel_rfl) (fun _ _ _ h => h) (Or.inl ⟨by rfl, fun w hSw => ?hy7⟩) (by assumption) ?r7
  case hy7 => (try dsimp only at hSw); go_simp; (try with_reducible rfl)
  (try simp only [Act.put, List.setIfInBounds_toArray, List.set_cons_zero, List.set_cons_succ])
  refine wpAnyH_take (i := 8) (oi := ({ dst := some 19, op := Op.load 3 (Operand.tmp 18), type := 3, pos := "ref.go:61", after := #[{ on := 7, ground := Ground.data }], guard := none } : Oper)) (v := ?v8) rfl (by kernel_rfl) (by kernel_rfl) (by kernel_rfl) (fun _ _ _ h => h) (Or.inl ⟨by rfl, fun w hSw => ?hy8⟩) (by assumption) ?r8
  case hy8 => (try dsimp only at hSw); go_simp; (try with_reducible rfl)
  (try simp only [Act.put, List.setIfInBounds_toArray, List.set_cons_zero, List.set_cons_succ])
  refine wpAnyH_take (i := 9) (oi := ({ dst := some 20, op := Op.move (Operand.tmp 2), type := 83, pos := "ref.go:61", after := #[], guard := none } : Oper)) (v := ?v9) rfl (by kernel_rfl) (by kernel_rfl) (by kernel_rfl) (fun _ _ _ h => h) (Or.inl ⟨by rfl, fun w hSw => ?hy9⟩) (by assumption) ?r9
  case hy9 => (try dsimp only at hSw); go_simp; (try with_reducible rfl)
  (try simp only [Act.put, List.setIfInBounds_toArray, List.set_cons_zero, List.set_cons_succ])
  refine wpAnyH_ready (rs := [10]) (by kernel_rfl) (by simp) ?_
  refine AllReadyH.cons (o := ({ dst := some 21, op := Op.call { callee := Callee.builtin Builtin.append, args := #[Operand.const (Value.slice none 0 0), Operand.tmp 20], argTypes := #[83, 83] }, type := 83, pos := "ref.go:61", after := #[{ on := 9, ground := Ground.data }], guard := none } : Oper)) rfl (fun Kq hKq => ?_) AllReadyH.nil
  (refine step_append_row layO rfl _ _ rfl rfl (row_nil _ w1.heap.size 3) (fun u hu => by cases hu) (Nat.le_refl _) c0 rfl HRD.out (by rw [HN.out]; exact flat_len D) (flat_one' D) (by have := HN.out; have := HB0'.out; omega) ?_; intro v2 w2 hr2 ht2 ho2; obtain ⟨A2, cap2, hv2, hn2, hm2⟩ := hr2.shape; rw [Nat.zero_add] at hv2 hn2; subst hv2)
  refine hKq.out _ _ ?_ (fun hHeld => ?_)
  · exact ⟨(ht2.cell hX1 (fun e => by change (none : Option Nat) = some _ at e; cases e)).trans hHeld.1, (ht2.cell hX1 (fun e => by change (none : Option Nat) = some _ at e; cases e)).trans hHeld.2.1, (ht2.cell hrl1 (fun e => by change (none : Option Nat) = some _ at e; cases e)).trans hHeld.2.2⟩
  clear hKq Kq
  (try simp only [Act.put, List.setIfInBounds_toArray, List.set_cons_zero, List.set_cons_succ])
  refine wpAnyH_take (i := 11) (oi := ({ dst := some 22, op := Op.indexAddr 71 (Operand.tmp 17) (Operand.tmp 19), type := 0, pos := "ref.go:61", after := #[{ on := 6, ground := Ground.data }, { on := 8, ground := Ground.data }, { on := 0, ground := Ground.phase }, { on := 1, ground := Ground.phase }, { on := 2, ground := Ground.phase }, { on := 3, ground := Ground.phase }, { on := 4, ground := Ground.phase }, { on := 5, ground := Ground.phase }, { on := 6, ground := Ground.phase }, { on := 7, ground := Ground.phase }, { on := 8, ground := Ground.phase }, { on := 9, ground := Ground.phase }, { on := 10, ground := Ground.phase }], guard := none } : Oper)) (v := ?v11) rfl (by kernel_rfl) (by kernel_rfl) (by kernel_rfl) (fun _ _ _ h => h) (Or.inl ⟨by rfl, fun w hSw => ?hy11⟩) (by assumption) ?r11
  case hy11 => (try dsimp only at hSw); go_simp; (try with_reducible rfl)
  (try simp only [Act.put, List.setIfInBounds_toArray, List.set_cons_zero, List.set_cons_succ])
  refine wpAnyH_ready (rs := [12]) (by kernel_rfl) (by simp) ?_
  refine AllReadyH.cons (o := ({ dst := none, op := Op.store 83 (Operand.tmp 22) (Operand.tmp 21), type := 0, pos := "ref.go:61", after := #[{ on := 11, ground := Ground.data }, { on := 10, ground := Ground.data }, { on := 10, ground := Ground.chain }, { on := 0, ground := Ground.phase }, { on := 1, ground := Ground.phase }, { on := 2, ground := Ground.phase }, { on := 3, ground := Ground.phase }, { on := 4, ground := Ground.phase }, { on := 5, ground := Ground.phase }, { on := 6, ground := Ground.phase }, { on := 7, ground := Ground.phase }, { on := 8, ground := Ground.phase }, { on := 9, ground := Ground.phase }, { on := 10, ground := Ground.phase }], guard := none } : Oper)) rfl (fun Kq hKq => ?_) AllReadyH.nil
  have k9 := (ht2.cell (g := g) (o := o + i) hgl1 (fun e => by change (none : Option Nat) = some _ at e; cases e)).trans k1; have f9 := (ht2.frozen (g := g) (o := o + i) hgl1 (fun e => by change (none : Option Nat) = some _ at e; cases e)).trans k2; go_simp
  refine hKq.out _ _ ?_ (fun hHeld => ?_)
  · exact ⟨(World.cell?_setCell_other _ _ _ _ (by intro e; injection e with e1; exact hgX e1)).trans hHeld.1, (World.cell?_setCell_other _ _ _ _ (by intro e; injection e with e1; exact hgX e1)).trans hHeld.2.1, (World.cell?_setCell_other _ _ _ _ (by intro e; injection e with e1; exact hrg e1)).trans hHeld.2.2⟩
  clear hKq Kq
  (try simp only [Act.put, List.setIfInBounds_toArray, List.set_cons_zero, List.set_cons_succ])
  refine wpAnyH_done (by kernel_rfl) ?_ _
  go_wp2_with fail
  go_ret
  have hb2 : Below w.heap.size w w2 := (HB.out.drew).trans ((ht2.below (Nat.le_refl _) (fun x hx e => by change (none : Option Nat) = some x at e; cases e)).mono hbs)
  have hr3 : RowE w2 w.heap.size (.slice A2 n cap2) D := by
    have := hr2.base hbs
    rw [Nat.zero_add, List.nil_append] at this
    simp only [HN.out] at this ⊢
    exact this
  refine ⟨rfl, _, ⟨rb, Q, T, _, HF.out.putQ hk9 HI.out HQ.out hb2 hr3⟩, (Turns.of_below hb2).setCell _ _ ⟨_, HOG.out⟩, fresh_ownQ _ _ _ (fun x e => (hr3.lt x e).1)⟩
theorem rputT_yes (h : Rt w base own s M) {i : Nat} (hi : i < (M b).length) (ta tf : Int) :
    Calls Try.prog 33 #[s, .agg #[.int .i64 b, .int .i64 (i : Int)], .agg #[.int .u64 ta, .int .u64 tf]] w fun e w' => e = .returned (.bool true) ∧ Rt w' base own s (upd M b ((M b).set i { (M b)[i]! with a := ta, f := tf })) ∧ Turns (Mine own) w w' := by
  have HT := Lib.hid (fun W hW => there_any (h.new (w' := W) hW) b i)
  rw [there_yes hi] at HT
  obtain ⟨rb, Q, T, V, hf⟩ := h
  obtain ⟨k, rfl, hk2, hk9⟩ := hf.nat (b := b) (fun e => by rw [e] at hi; simp at hi)
  obtain rfl := hf.hs
  obtain ⟨g2, o2, c2, g, o, c, e2, e1, og2, og, q1, q2, q3, q4, q5, q6⟩ := hf.bk hk9 hi
  have hc := (hf.hT k hk9).1
  rw [e1] at hc
  have hgl := (hf.fp g _ og).2
  have hrl := (hf.fp rb _ hf.os).2
  have hrg : g ≠ rb := hf.ne og hf.os (by simp)
  have HF := Lib.hid hf; have HI := Lib.hid hi; have HQ := Lib.hid e1; have HOG := Lib.hid og
  have hi' := hi
  obtain ⟨m, hm⟩ : ∃ m, m = (M (k : Int)).length := ⟨_, rfl⟩
  rw [← hm] at hi' hc
  have HK := Lib.hid (fun W (hb : Below w.heap.size w W) => (⟨(hb.cell (p := ⟨rb, 9 + k, none⟩) hrl).trans hc, (hb.cell (p := ⟨g, o + i * 2, none⟩) hgl).trans q3, (hb.frozen (p := ⟨g, o + i * 2, none⟩) hgl).trans q4, (hb.cell (p := ⟨g, o + i * 2 + 1, none⟩) hgl).trans q5, (hb.frozen (p := ⟨g, o + i * 2 + 1, none⟩) hgl).trans q6⟩ : _ ∧ _ ∧ _ ∧ _ ∧ _))
  clear q1 q2 q3 q4 q5 q6 hc hf e1 e2 og og2 hm hi
  go_enter Try.func33, Try.ntmps33
  go_wp2_with fail
  have hbb : Below w.heap.size w ((w.alloc (.cells #[.int .i64 (k : Int), .int .i64 (i : Int)] 79)).alloc (.cells #[.int .u64 ta, .int .u64 tf] 86)) := (below1 w _).alloc (by simp) _
  have hnew : ((w.alloc (.cells #[.int .i64 (k : Int), .int .i64 (i : Int)] 79)).alloc (.cells #[.int .u64 ta, .int .u64 tf] 86)).heap[w.heap.size]? = some (.cells #[.int .i64 (k : Int), .int .i64 (i : Int)] 79 (0, 0)) :=
    (Below.heap_alloc _ _ _ (by simp)).trans (heap_alloc_new w _)
  refine (HT.out _ hbb).mono ?_
  rintro e w1 ⟨rfl, hb1⟩
  have hnew1 := (hb1.block _ (by simp; omega)).trans hnew
  have c0 : w1.cell? ⟨w.heap.size, 0, none⟩ = some (.int .i64 (k : Int)) := cell_row hnew1 0
  have c1 : w1.cell? ⟨w.heap.size, 1, none⟩ = some (.int .i64 (i : Int)) := cell_row hnew1 1
  have hx := pair_facts hb1
  rw [show (w.alloc (.cells #[Value.int .i64 (k : Int), .int .i64 (i : Int)] 79)).heap.size = w.heap.size + 1 by simp] at hx
  have HB := Lib.hid (hbb.trans (hb1.mono hbb.size))
  obtain ⟨k0, k1, k2, k3, k4⟩ := HK.out w1 HB.out
  have x0 : w1.cell? ⟨w.heap.size + 1, 0, none⟩ = some (.int .u64 ta) := cell_row hx 0
  have x1 : w1.cell? ⟨w.heap.size + 1, 1, none⟩ = some (.int .u64 tf) := cell_row hx 1
  have hgX : g ≠ w.heap.size := by omega
  have hgY : g ≠ w.heap.size + 1 := by omega
  clear hb1 hbb hnew hnew1 hx
  obtain ⟨Y, hY⟩ : ∃ Y, Y = w.heap.size + 1 := ⟨_, rfl⟩
  rw [← hY] at x0 x1 hgY ⊢
  clear hY
  obtain ⟨X, hX⟩ : ∃ X, X = w.heap.size := ⟨_, rfl⟩
  rw [← hX] at c0 c1 hgX ⊢
  clear hX
  go_upto_region 3 with (fail)
  go_region
  all_goals
    go_wp2_with fail
    go_ret
    have hS := (HF.out.new HB.out).putT hk9 HI.out HQ.out ta tf
    refine ⟨rfl, ⟨rb, Q, T, V, hS.keep (Turns.refl (fun _ => False) _).drew (fun _ _ e => e)⟩, ?_⟩
    exact (((Turns.of_below HB.out).setCell _ _ ⟨_, HOG.out⟩).setCell _ _ ⟨_, HOG.out⟩).drew
end
end Go.Proofs.Ytcdoklgjicfkmaa
