/- Texts of this seat, one behind the other. -/
import Derived.Test.YthafnphpcdbnlaaGreatDoorMLawNew34
set_option linter.unusedVariables false
set_option linter.unusedSimpArgs false
set_option linter.unusedVariables false
set_option linter.unusedSimpArgs false
namespace Go.Proofs.YthafnphpcdbnlaaGreatDoor.S10
open Go.Proofs.YthafnphpcdbnlaaGreatDoor
open Go.RowKit

section
variable {w : World} {base : Nat} {own : Nat → Option Role} {s : Value} {M : Int → List Bk} {rb : Nat} {Q T : Nat → Value} {V : Nat → Nat → Value}
theorem upd_len (M : Int → List Bk) (b : Int) (i : Nat) (x : Bk) (b' : Int) : (upd M b ((M b).set i x) b').length = (M b').length := by
  by_cases e : b' = b
  · subst e; rw [upd_same, List.length_set]
  · rw [upd_ne _ _ e]
theorem upd_no {M : Int → List Bk} (h : ∀ b, (b < 2 ∨ 8 < b) → M b = []) (b : Int) (i : Nat) (x : Bk) : ∀ b', (b' < 2 ∨ 8 < b') → upd M b ((M b).set i x) b' = [] := fun b' hb => by
  have := upd_len M b i x b'
  rw [h b' hb] at this
  exact List.eq_nil_of_length_eq_zero (by simpa using this)
theorem RtF.putQ (h : RtF w base own s M rb Q T V) {k i g o c : Nat} (hk : k < 9) (hi : i < (M (k : Int)).length) (hQ : Q k = .slice (some ⟨g, o, none⟩) (M (k : Int)).length c) {w1 : World} (hb : Below w.heap.size w w1) {v : Value} {D : List Ent} (hv : RowE w1 w.heap.size v D) :
    RtF (w1.setCell ⟨g, o + i, none⟩ v) base (ownQ own k i v) s (upd M k ((M k).set i { (M k)[i]! with q := D })) rb Q T (upd V k (upd (V k) i v)) := by
  have h1 := h.new hb
  have hog : own g = some (.tab (k : Nat)) := h.oq k g hk (by rw [hQ]; rfl)
  have hvg : ∀ x, v.ownBlock = some x → w.heap.size ≤ x ∧ x < w1.heap.size := fun x e => hv.lt x e
  have hvx : ∀ x, v.ownBlock = some x → w.heap.size ≤ x := fun x e => (hvg x e).1
  have tset : Turns (fun k => k = g) w1 (w1.setCell ⟨g, o + i, none⟩ v) := (Turns.refl _ w1).setCell _ _ rfl
  have hrb := h.fp rb _ h.os
  have hrg : rb ≠ g := h.ne h.os hog (by simp)
  have hrlt := (h1.fp rb _ h.os).2
  refine ⟨fun x r e => ?_, h.hs, ownQ_keep hvx h.os hrb.2 (by simp), fun j hj => ⟨(tset.cell hrlt hrg).trans (h1.hQ j hj).1, (tset.frozen hrlt hrg).trans (h1.hQ j hj).2⟩, fun j hj => ⟨(tset.cell hrlt hrg).trans (h1.hT j hj).1, (tset.frozen hrlt hrg).trans (h1.hT j hj).2⟩, upd_no h.no _ _ _, fun j hj => ?_, fun j hj => ?_, fun j x hx => ?_, fun j x hj e => ?_, fun j x hj e => ?_, fun j x y hx e => ?_⟩
  · unfold ownQ at e
    have hsz : (w1.setCell ⟨g, o + i, none⟩ v).heap.size = w1.heap.size := by simp [World.setCell]
    rw [hsz]
    by_cases e1 : v.ownBlock = some x
    · have := hvg x e1; omega
    · rw [if_neg e1] at e
      by_cases e2 : own x = some (.q (k : Nat) i)
      · rw [if_pos e2] at e; cases e
      · rw [if_neg e2] at e
        have := h.fp x r e
        have := hb.size
        omega
  · rw [upd_len]
    by_cases e : j = k
    · subst e
      rw [upd_same, ← qflat_set _ _ hi]
      have := h1.hq j hj
      rw [hQ] at this ⊢
      exact this.setAt (i := i) (by omega) v
    · rw [upd_ne _ _ e]
      exact (h1.hq j hj).keep tset (fun x ex => h.ne (h.oq j x hj ex) hog (by simp; exact fun e' => e (by omega)))
  · rw [upd_len]
    have ht : tflat (upd M k ((M k).set i { (M k)[i]! with q := D }) (j : Int)) = tflat (M (j : Int)) := by
      by_cases e : j = k
      · subst e; rw [upd_same, tflat_q _ hi]
      · rw [upd_ne _ _ (by omega)]
    rw [ht]
    exact (h1.ht j hj).keep tset (fun x ex => h.ne (h.ot j x hj ex) hog (by simp))
  · rw [upd_len] at hx
    by_cases e : j = k
    · subst e
      rw [upd_same, upd_same, get_set hi]
      by_cases e2 : x = i
      · subst e2
        rw [if_pos rfl, upd_same]
        exact (hv.keep tset (fun y ey e3 => by have := hvx y ey; have := h.fp g _ hog; omega)).base (Nat.zero_le _)
      · rw [if_neg e2, upd_ne _ _ e2]
        exact (h1.hv j x hx).keep tset (fun y ey => h.ne (h.ov j x y hx ey) hog (by simp))
    · rw [upd_ne _ _ (show (j : Int) ≠ (k : Int) by omega), upd_ne _ _ e]
      exact (h1.hv j x hx).keep tset (fun y ey => h.ne (h.ov j x y hx ey) hog (by simp))
  · exact ownQ_keep hvx (h.oq j x hj e) (h.fp x _ (h.oq j x hj e)).2 (by simp)
  · exact ownQ_keep hvx (h.ot j x hj e) (h.fp x _ (h.ot j x hj e)).2 (by simp)
  · rw [upd_len] at hx
    by_cases e1 : j = k ∧ x = i
    · obtain ⟨rfl, rfl⟩ := e1
      rw [upd_same, upd_same] at e
      unfold ownQ
      rw [if_pos e]
    · have e' : (V j x).ownBlock = some y := by
        by_cases e2 : j = k
        · subst e2
          rw [upd_same, upd_ne _ _ (fun e3 => e1 ⟨rfl, e3⟩)] at e
          exact e
        · rw [upd_ne _ _ e2] at e
          exact e
      exact ownQ_keep hvx (h.ov j x y hx e') (h.fp y _ (h.ov j x y hx e')).2 (by simp; exact fun e2 e3 => e1 ⟨by omega, e3⟩)
theorem RtF.putT (h : RtF w base own s M rb Q T V) {k i g o c : Nat} (hk : k < 9) (hi : i < (M (k : Int)).length) (hT : T k = .slice (some ⟨g, o, none⟩) (M (k : Int)).length c) (ta tf : Int) :
    RtF ((w.setCell ⟨g, o + i * 2, none⟩ (.int .u64 ta)).setCell ⟨g, o + i * 2 + 1, none⟩ (.int .u64 tf)) base own s (upd M k ((M k).set i { (M k)[i]! with a := ta, f := tf })) rb Q T V := by
  have hog : own g = some (.tim (k : Nat)) := h.ot k g hk (by rw [hT]; rfl)
  have tset : Turns (fun k => k = g) w ((w.setCell ⟨g, o + i * 2, none⟩ (.int .u64 ta)).setCell ⟨g, o + i * 2 + 1, none⟩ (.int .u64 tf)) := ((Turns.refl (fun k => k = g) w).setCell ⟨g, o + i * 2, none⟩ _ rfl).setCell ⟨g, o + i * 2 + 1, none⟩ _ rfl
  have hrlt := (h.fp rb _ h.os).2
  have hrg : rb ≠ g := h.ne h.os hog (by simp)
  refine ⟨fun x r e => ?_, h.hs, h.os, fun j hj => ⟨(tset.cell hrlt hrg).trans (h.hQ j hj).1, (tset.frozen hrlt hrg).trans (h.hQ j hj).2⟩, fun j hj => ⟨(tset.cell hrlt hrg).trans (h.hT j hj).1, (tset.frozen hrlt hrg).trans (h.hT j hj).2⟩, upd_no h.no _ _ _, fun j hj => ?_, fun j hj => ?_, fun j x hx => ?_, h.oq, h.ot, fun j x y hx e => ?_⟩
  · have := h.fp x r e
    have := tset.size
    omega
  · rw [upd_len]
    exact (h.hq j hj).keep tset (fun x ex => h.ne (h.oq j x hj ex) hog (by simp))
  · rw [upd_len]
    by_cases e : j = k
    · subst e
      rw [upd_same, ← tflat_set _ hi]
      have := h.ht j hj
      rw [hT] at this ⊢
      have h2 := (this.setAt (i := i * 2) (by omega) (.int .u64 ta)).setAt (i := i * 2 + 1) (by omega) (.int .u64 tf)
      rw [Nat.add_assoc]
      exact h2
    · rw [upd_ne _ _ (show (j : Int) ≠ (k : Int) by omega)]
      exact (h.ht j hj).keep tset (fun x ex => h.ne (h.ot j x hj ex) hog (by simp; omega))
  · rw [upd_len] at hx
    have : (upd M k ((M k).set i { (M k)[i]! with a := ta, f := tf }) (j : Int))[x]!.q = (M (j : Int))[x]!.q := by
      by_cases e : j = k
      · subst e
        rw [upd_same, get_set hi]
        by_cases e2 : x = i
        · subst e2; rw [if_pos rfl]
        · rw [if_neg e2]
      · rw [upd_ne _ _ (by omega)]
    rw [this]
    exact (h.hv j x hx).keep tset (fun y ey => h.ne (h.ov j x y hx ey) hog (by simp))
  · rw [upd_len] at hx
    exact h.ov j x y hx e
variable {b : Int}
end
end Go.Proofs.YthafnphpcdbnlaaGreatDoor.S10
set_option linter.unusedVariables false
set_option linter.unusedSimpArgs false
namespace Go.Proofs.YthafnphpcdbnlaaGreatDoor.S10
open Go.Proofs.YthafnphpcdbnlaaGreatDoor
open Go.RowKit

theorem tflat_snoc (L : List Bk) (x : Bk) : tflat (L ++ [x]) = tflat L ++ [.int .u64 x.a, .int .u64 x.f] := by
  refine (tflat_ext (by simp [tflat_len]; omega) fun j hj => ?_).symm
  rw [List.length_append, List.length_singleton] at hj
  by_cases h : j < L.length * 2
  · rw [List.getElem?_append_left (by rw [tflat_len]; exact h), tflat_at L h]
    unfold tcell
    rw [get_app_ne (by omega)]
  · rw [List.getElem?_append_right (by rw [tflat_len]; omega), tflat_len]
    unfold tcell
    rw [show j / 2 = L.length by omega, get_app_last]
    have : j = L.length * 2 ∨ j = L.length * 2 + 1 := by omega
    rcases this with rfl | rfl
    · simp
    · rw [show L.length * 2 + 1 - L.length * 2 = 1 by omega]
      simp [Nat.add_mod]
theorem tflat_fresh (now : Int) (Ls : List (List Ent)) : tflat (fresh now Ls) = tflat (List.replicate Ls.length ⟨now, now, []⟩) := by
  refine (tflat_ext (by simp [tflat_len, fresh_len]) fun j hj => ?_).symm
  rw [fresh_len] at hj
  rw [tflat_at _ (by rw [List.length_replicate]; exact hj)]
  unfold tcell
  rw [fresh_at now Ls (by omega)]
  have : (List.replicate Ls.length (⟨now, now, []⟩ : Bk))[j / 2]! = ⟨now, now, []⟩ := by
    rw [List.getElem!_eq_getElem?_getD, List.getElem?_replicate, if_pos (by omega)]; rfl
  rw [this]
theorem info86 : ∃ i, Tryz.prog.info? 171 = some i ∧ i.zero = some (.agg #[.int .u64 0, .int .u64 0]) ∧ i.size = 2 ∧ i.bytes = 16 := info_of (by kernel_rfl)
theorem layT : Lay 156 171 2 16 (.agg #[.int .u64 0, .int .u64 0]) := ⟨Tryz.underlying156, info86, rfl, by decide, by decide⟩
theorem rd_two (w : World) (x y : Value) (T : TypeId) : Rd (w.alloc (.cells #[x, y] T)) (w.heap.size + 1) (some ⟨w.heap.size, 0, none⟩) [x, y] := fun _ => by
  refine ⟨w.heap.size, 0, rfl, by omega, fun j u e => ?_⟩
  have hnew := heap_alloc_new w (.cells #[x, y] T)
  rw [cell_row hnew, Nat.zero_add]
  simpa using e
theorem rbegin_any (x : Int) (w : World) : Calls Tryz.prog 83 #[.int .u64 x] w fun e w' => e = .returned (.agg #[.int .u64 x, .int .u64 x]) ∧ Below w.heap.size w w' := by
  go_enter Tryz.func83, Tryz.ntmps83
  go_wp2
  exact bodyPost_ret (v := .agg #[.int .u64 x, .int .u64 x]) (by simp [results, Tryz.results83, go_sem]) rfl ⟨rfl, below1 w _⟩
theorem tflat_one (L : List Bk) : ∀ u ∈ tflat L, u.oneCell' = true := fun u hu => by
  simp only [tflat, List.mem_map] at hu
  obtain ⟨j, _, rfl⟩ := hu
  unfold tcell
  split <;> rfl
set_option maxHeartbeats 1000000 in
theorem rbegins_any {w : World} {b : Int} {n : Nat} (hs : ∀ w, Calls Tryz.prog 81 #[.int .i64 b] w fun e w' => e = .returned (.int .i64 (n : Nat)) ∧ w = w') (hn : n ≤ 256) (now : Int) :
    Calls Tryz.prog 54 #[.int .i64 b, .int .u64 now] w fun e w' => ∃ s, e = .returned s ∧ Row w' w.heap.size 2 s n (tflat (List.replicate n ⟨now, now, []⟩)) ∧ Below w.heap.size w w' := by
  have HS := Lib.hid hs
  clear hs
  go_enter Tryz.func54, Tryz.ntmps54
  go_wp2_with fail
  go_loopg [5, 6] n (fun q s5 s6 wx => ∃ k : Nat, k ≤ n ∧ q = n - k ∧ s6 = .int .i64 (k : Int) ∧ Row wx w.heap.size 2 s5 k (tflat (List.replicate k ⟨now, now, []⟩)) ∧ Below w.heap.size w wx)
  case atStart => exact ⟨0, by omega, rfl, rfl, row_nil _ _ _, Below.refl _ _⟩
  case round =>
    obtain ⟨k, hk, rfl, rfl, hrow, hb⟩ := hrel
    have HROW := Lib.hid hrow; have HB := Lib.hid hb
    clear hrow hb
    by_cases hkn : k < n
    · go_wp2_with (go_at_call 81; refine (HS.out _).mono ?_; rintro e w' ⟨rfl, rfl⟩)
      refine (rbegin_any now _).mono ?_
      rintro e w1 ⟨rfl, hb1⟩
      have HB1 := Lib.hid hb1
      clear hb1
      go_wp2_with (at_builtin; refine wpList_append_row layT rfl _ _ rfl rfl ((HROW.out.new HB1.out).new (below1 _ _)) (tflat_one _) (by have := HB.out.size; have := HB1.out.size; simp; omega) 1 rfl (rd_two w1 _ _ 171) rfl (fun u hu => by simp at hu; rw [hu]; rfl) (by omega) ?_; intro v' w2 hr2 ht2 ho2; (have HR2 := Lib.hid hr2); (have HT2 := Lib.hid ht2); (clear hr2 ht2 ho2))
      go_roundg (n - (k + 1))
      case measure => omega
      case rel =>
        refine ⟨k + 1, by omega, rfl, by go_num, ?_, ?_⟩
        · have := HR2.out
          rw [← tflat_snoc (List.replicate k ⟨now, now, []⟩) ⟨now, now, []⟩, ← List.replicate_succ'] at this
          exact this
        · have t3 := ((Turns.refl _ w1).alloc _).trans HT2.out (fun k _ e => e)
          exact (HB.out.trans (HB1.out.mono HB.out.size)).trans (t3.below (by have := HB.out.size; have := HB1.out.size; omega) (fun x hx e => by have := (HROW.out.lt x e).1; omega))
    · obtain rfl : k = n := by omega
      go_wp2_with (go_at_call 81; refine (HS.out _).mono ?_; rintro e w' ⟨rfl, rfl⟩)
      go_ret
      exact ⟨_, rfl, HROW.out, HB.out⟩
/-- What of new queues' blocks is owned for what. -/
def NewT (s : Value) (ss : List Value) (b : Int) (x : Nat) (r : Role) : Prop := (s.ownBlock = some x ∧ r = .tab b) ∨ ∃ i v, ss[i]? = some v ∧ v.ownBlock = some x ∧ r = .q b i
theorem NewT.fun {w : World} {base : Nat} {s : Value} {ss : List Value} {Ls : List (List Ent)} (h : Tab w base s ss Ls) {b : Int} {x : Nat} {r r' : Role} (e : NewT s ss b x r) (e' : NewT s ss b x r') : r = r' := by
  rcases e with ⟨h1, rfl⟩ | ⟨i, v, hv, h1, rfl⟩
  · rcases e' with ⟨_, rfl⟩ | ⟨j, u, hu, h2, rfl⟩
    · rfl
    · exact absurd h1 (h.off j u x hu h2)
  · rcases e' with ⟨h2, rfl⟩ | ⟨j, u, hu, h2, rfl⟩
    · exact absurd h2 (h.off i v x hv h1)
    · rw [h.apart i j v u x hv hu h1 h2]
theorem NewT.lt {w : World} {base : Nat} {s : Value} {ss : List Value} {Ls : List (List Ent)} (h : Tab w base s ss Ls) {b : Int} {x : Nat} {r : Role} (e : NewT s ss b x r) : base ≤ x ∧ x < w.heap.size := by
  rcases e with ⟨h1, rfl⟩ | ⟨i, v, hv, h1, rfl⟩
  · exact h.row.lt x h1
  · exact h.lt hv h1
theorem tab_qflat {w : World} {base : Nat} {s : Value} {ss : List Value} {Ls : List (List Ent)} (h : Tab w base s ss Ls) : Row w base 1 s Ls.length (qflat Ls.length fun i => (ss[i]?).getD nilS) := by
  have hl := h.len
  have : ss = qflat Ls.length fun i => (ss[i]?).getD nilS := by
    refine List.ext_getElem? fun j => ?_
    by_cases hj : j < Ls.length
    · rw [qflat_at _ hj, List.getElem?_eq_getElem (by omega)]; rfl
    · rw [List.getElem?_eq_none (by omega), List.getElem?_eq_none (by rw [qflat_len]; omega)]
  have hr := h.row
  rw [this] at hr
  exact hr
end Go.Proofs.YthafnphpcdbnlaaGreatDoor.S10
set_option linter.unusedVariables false
set_option linter.unusedSimpArgs false
namespace Go.Proofs.YthafnphpcdbnlaaGreatDoor.S4
open Go.Proofs.YthafnphpcdbnlaaGreatDoor Go.Proofs.YthafnphpcdbnlaaGreatDoor.S11
open Go.RowKit

structure RPkAt (w : World) (B : Nat) (f : Nat → Pk) (n kd pk : Int) : Prop where
  lt : B < w.heap.size
  c0 : ∀ i, i < 128 → w.cell? ⟨B, i * 4, none⟩ = some (.bool (f i).p)
  c1 : ∀ i, i < 128 → w.cell? ⟨B, i * 4 + 1, none⟩ = some (.bool (f i).a)
  c2 : ∀ i, i < 128 → w.cell? ⟨B, i * 4 + 2, none⟩ = some (.bool (f i).o)
  c3 : ∀ i, i < 128 → w.cell? ⟨B, i * 4 + 3, none⟩ = some (.int .u64 ((f i).t : Int))
  cn : w.cell? ⟨B, 512, none⟩ = some (.int .i64 n)
  ck : w.cell? ⟨B, 513, none⟩ = some (.int .i64 kd)
  cp : w.cell? ⟨B, 514, none⟩ = some (.int .i64 pk)
  fz : ∀ i, w.frozen? ⟨B, i, none⟩ = false
section
variable {w w' : World} {B : Nat} {f : Nat → Pk} {n kd pk : Int}
theorem RPkAt.kept {T : Nat → Prop} (h : RPkAt w B f n kd pk) (t : Turns T w w') (hB : ¬ T B) : RPkAt w' B f n kd pk :=
  ⟨Nat.lt_of_lt_of_le h.lt t.size, fun i hi => (t.cell h.lt hB).trans (h.c0 i hi), fun i hi => (t.cell h.lt hB).trans (h.c1 i hi), fun i hi => (t.cell h.lt hB).trans (h.c2 i hi), fun i hi => (t.cell h.lt hB).trans (h.c3 i hi), (t.cell h.lt hB).trans h.cn, (t.cell h.lt hB).trans h.ck, (t.cell h.lt hB).trans h.cp, fun i => (t.frozen h.lt hB).trans (h.fz i)⟩
theorem RPkAt.new (h : RPkAt w B f n kd pk) (b : Below w.heap.size w w') : RPkAt w' B f n kd pk := h.kept (Turns.of_below (S := fun _ => False) b) (fun e => e)
theorem RPkAt.drew (h : RPkAt w B f n kd pk) : RPkAt w.drew B f n kd pk := ⟨h.lt, h.c0, h.c1, h.c2, h.c3, h.cn, h.ck, h.cp, h.fz⟩
end
/-- The count. -/
theorem RPkAt.setN {w : World} {B : Nat} {f : Nat → Pk} {n kd pk : Int} (h : RPkAt w B f n kd pk) (m : Int) : RPkAt (w.setCell ⟨B, 512, none⟩ (.int .i64 m)) B f m kd pk :=
  ⟨by simpa [World.setCell] using h.lt, fun i hi => (cset (by omega)).trans (h.c0 i hi), fun i hi => (cset (by omega)).trans (h.c1 i hi), fun i hi => (cset (by omega)).trans (h.c2 i hi), fun i hi => (cset (by omega)).trans (h.c3 i hi), World.cell?_setCell_same _ _ _ h.cn, (cset (by omega)).trans h.ck, (cset (by omega)).trans h.cp, fun i => by rw [World.frozen?_setCell]; exact h.fz i⟩
theorem RPkAt.setK {w : World} {B : Nat} {f : Nat → Pk} {n kd pk : Int} (h : RPkAt w B f n kd pk) (m : Int) : RPkAt (w.setCell ⟨B, 513, none⟩ (.int .i64 m)) B f n m pk :=
  ⟨by simpa [World.setCell] using h.lt, fun i hi => (cset (by omega)).trans (h.c0 i hi), fun i hi => (cset (by omega)).trans (h.c1 i hi), fun i hi => (cset (by omega)).trans (h.c2 i hi), fun i hi => (cset (by omega)).trans (h.c3 i hi), (cset (by omega)).trans h.cn, World.cell?_setCell_same _ _ _ h.ck, (cset (by omega)).trans h.cp, fun i => by rw [World.frozen?_setCell]; exact h.fz i⟩
theorem RPkAt.setP {w : World} {B : Nat} {f : Nat → Pk} {n kd pk : Int} (h : RPkAt w B f n kd pk) (m : Int) : RPkAt (w.setCell ⟨B, 514, none⟩ (.int .i64 m)) B f n kd m :=
  ⟨by simpa [World.setCell] using h.lt, fun i hi => (cset (by omega)).trans (h.c0 i hi), fun i hi => (cset (by omega)).trans (h.c1 i hi), fun i hi => (cset (by omega)).trans (h.c2 i hi), fun i hi => (cset (by omega)).trans (h.c3 i hi), (cset (by omega)).trans h.cn, (cset (by omega)).trans h.ck, World.cell?_setCell_same _ _ _ h.cp, fun i => by rw [World.frozen?_setCell]; exact h.fz i⟩
/-- One parker's permit. -/
theorem RPkAt.setPermit {w : World} {B : Nat} {f : Nat → Pk} {n kd pk : Int} (h : RPkAt w B f n kd pk) {i : Nat} (hi : i < 128) (b : Bool) : RPkAt (w.setCell ⟨B, i * 4, none⟩ (.bool b)) B (updP f i { f i with p := b }) n kd pk := by
  have hj : ∀ j, j ≠ i → updP f i { f i with p := b } j = f j := fun j e => by simp [updP, e]
  have he : updP f i { f i with p := b } i = { f i with p := b } := by simp [updP]
  refine ⟨by simpa [World.setCell] using h.lt, fun j hl => ?_, fun j hl => (cset (by omega)).trans ?_, fun j hl => (cset (by omega)).trans ?_, fun j hl => (cset (by omega)).trans ?_, (cset (by omega)).trans h.cn, (cset (by omega)).trans h.ck, (cset (by omega)).trans h.cp, fun j => by rw [World.frozen?_setCell]; exact h.fz j⟩
  · by_cases e : j = i
    · subst e; rw [he]; exact World.cell?_setCell_same _ _ _ (h.c0 j hl)
    · rw [hj j e]; exact (cset (by omega)).trans (h.c0 j hl)
  · rw [h.c1 j hl]; by_cases e : j = i
    · subst e; rw [he]
    · rw [hj j e]
  · rw [h.c2 j hl]; by_cases e : j = i
    · subst e; rw [he]
    · rw [hj j e]
  · rw [h.c3 j hl]; by_cases e : j = i
    · subst e; rw [he]
    · rw [hj j e]
/-- A whole parker. -/
theorem RPkAt.setAll {w : World} {B : Nat} {f : Nat → Pk} {n kd pk : Int} (h : RPkAt w B f n kd pk) {i : Nat} (hi : i < 128) (x : Pk) :
    RPkAt ((((w.setCell ⟨B, i * 4, none⟩ (.bool x.p)).setCell ⟨B, i * 4 + 1, none⟩ (.bool x.a)).setCell ⟨B, i * 4 + 2, none⟩ (.bool x.o)).setCell ⟨B, i * 4 + 3, none⟩ (.int .u64 (x.t : Int))) B (updP f i x) n kd pk := by
  have hj : ∀ j, j ≠ i → updP f i x j = f j := fun j e => by simp [updP, e]
  have he : updP f i x i = x := by simp [updP]
  have far : ∀ k v, (k ≠ i * 4 ∧ k ≠ i * 4 + 1 ∧ k ≠ i * 4 + 2 ∧ k ≠ i * 4 + 3) → w.cell? ⟨B, k, none⟩ = some v → ((((w.setCell ⟨B, i * 4, none⟩ (.bool x.p)).setCell ⟨B, i * 4 + 1, none⟩ (.bool x.a)).setCell ⟨B, i * 4 + 2, none⟩ (.bool x.o)).setCell ⟨B, i * 4 + 3, none⟩ (.int .u64 (x.t : Int))).cell? ⟨B, k, none⟩ = some v := fun k v hk e => by
    rw [cset (by omega), cset (by omega), cset (by omega), cset (by omega)]; exact e
  refine ⟨by simpa [World.setCell] using h.lt, fun j hl => ?_, fun j hl => ?_, fun j hl => ?_, fun j hl => ?_, far _ _ (by omega) h.cn, far _ _ (by omega) h.ck, far _ _ (by omega) h.cp, fun j => by rw [World.frozen?_setCell, World.frozen?_setCell, World.frozen?_setCell, World.frozen?_setCell]; exact h.fz j⟩
  · by_cases e : j = i
    · subst e; rw [he, cset (by omega), cset (by omega), cset (by omega)]; exact World.cell?_setCell_same _ _ _ (h.c0 j hl)
    · rw [hj j e]; exact far _ _ (by omega) (h.c0 j hl)
  · by_cases e : j = i
    · subst e; rw [he, cset (by omega), cset (by omega)]; exact World.cell?_setCell_same _ _ _ ((cset (by omega)).trans (h.c1 j hl))
    · rw [hj j e]; exact far _ _ (by omega) (h.c1 j hl)
  · by_cases e : j = i
    · subst e; rw [he, cset (by omega)]; exact World.cell?_setCell_same _ _ _ ((cset (by omega)).trans ((cset (by omega)).trans (h.c2 j hl)))
    · rw [hj j e]; exact far _ _ (by omega) (h.c2 j hl)
  · by_cases e : j = i
    · subst e; rw [he]; exact World.cell?_setCell_same _ _ _ ((cset (by omega)).trans ((cset (by omega)).trans ((cset (by omega)).trans (h.c3 j hl))))
    · rw [hj j e]; exact far _ _ (by omega) (h.c3 j hl)
def RZPn (n : Nat) : Array Value := ((List.replicate n blkP).flatten ++ [Value.int .i64 0, Value.int .i64 0, Value.int .i64 0]).toArray
def RZP : Array Value := RZPn 128
theorem rzero140 : Tryz.zeroCells84 = RZP := by kernel_rfl
theorem rzpn_get (n i j : Nat) (hi : i < n) (hj : j < 4) : (RZPn n)[i * 4 + j]? = blkP[j]? := by
  unfold RZPn
  rw [List.getElem?_toArray]
  exact rep_get blkP rfl _ n i j hi hj
theorem rzpn_end (n j : Nat) : (RZPn n)[n * 4 + j]? = [Value.int .i64 0, Value.int .i64 0, Value.int .i64 0][j]? := by
  unfold RZPn
  rw [List.getElem?_toArray, List.getElem?_append_right (by rw [rep_len _ rfl]; omega), rep_len _ rfl]
  congr 1; omega
theorem rzp_get (i j : Nat) (hi : i < 128) (hj : j < 4) : RZP[i * 4 + j]? = blkP[j]? := rzpn_get 128 i j hi hj
theorem rzp_end (j : Nat) : RZP[512 + j]? = [Value.int .i64 0, Value.int .i64 0, Value.int .i64 0][j]? := rzpn_end 128 j
/-- A set as it is at first: nobody asleep, no permits. -/
theorem rpk_row {w : World} {B : Nat} {T : TypeId} (h : w.heap[B]? = some (.cells RZP T (0, 0))) : RPkAt w B (fun _ => pk0) 0 0 0 :=
  ⟨(Array.getElem?_eq_some_iff.1 h).1, fun i hi => (cell_row h _).trans (rzp_get i 0 hi (by omega)), fun i hi => (cell_row h _).trans (rzp_get i 1 hi (by omega)), fun i hi => (cell_row h _).trans (rzp_get i 2 hi (by omega)), fun i hi => (cell_row h _).trans (rzp_get i 3 hi (by omega)), (cell_row h _).trans (rzp_end 0), (cell_row h _).trans (rzp_end 1), (cell_row h _).trans (rzp_end 2), fun i => froz_row h i⟩
def RPSets (w w' : World) (B : Nat) (f : Nat → Pk) (n kd pk : Int) : Prop := RPkAt w' B f n kd pk ∧ Turns (fun k => k = B) w w' ∧ w'.heap.size = w.heap.size
end Go.Proofs.YthafnphpcdbnlaaGreatDoor.S4
