/- Lists of lists of entries: those that are read, those of a call's own. -/
import Derived.Test.YtcdoklgjicfkmaaA3
namespace Go.Proofs.Ytcdoklgjicfkmaa
open Go.RowKit

/-- Queues that are read: their memory lies below a base. -/
def Qs (w : World) (base : Nat) (A : Option Addr) (Ls : List (List Ent)) : Prop :=
  ∃ ss : List Value, ss.length = Ls.length ∧ Rd w base A ss ∧ ∀ i, i < Ls.length → ∃ A' c, ss[i]? = some (.slice A' Ls[i]!.length c) ∧ Ls[i]!.length ≤ c ∧ c ≤ 9223372036854775807 ∧ Rd w base A' (flat Ls[i]!)
theorem Qs.below {w w' : World} {base b : Nat} {A : Option Addr} {Ls : List (List Ent)} (h : Qs w base A Ls) (hb : Below b w w') (hbb : base ≤ b) : Qs w' base A Ls := by
  obtain ⟨ss, h0, h1, h2⟩ := h
  refine ⟨ss, h0, h1.below hb hbb, fun i hi => ?_⟩
  obtain ⟨A', c, e, hc, hc', hr⟩ := h2 i hi
  exact ⟨A', c, e, hc, hc', hr.below hb hbb⟩
theorem Qs.more {w : World} {base b : Nat} {A : Option Addr} {Ls : List (List Ent)} (h : Qs w base A Ls) (hb : base ≤ b) : Qs w b A Ls := by
  obtain ⟨ss, h0, h1, h2⟩ := h
  refine ⟨ss, h0, h1.more hb, fun i hi => ?_⟩
  obtain ⟨A', c, e, hc, hc', hr⟩ := h2 i hi
  exact ⟨A', c, e, hc, hc', hr.more hb⟩
theorem Qs.at {w : World} {base : Nat} {A : Option Addr} {Ls : List (List Ent)} (h : Qs w base A Ls) {i : Nat} (hi : i < Ls.length) : ∃ g o A' c, A = some ⟨g, o, none⟩ ∧ g < base ∧ w.cell? ⟨g, o + i, none⟩ = some (.slice A' Ls[i]!.length c) ∧ Ls[i]!.length ≤ c ∧ c ≤ 9223372036854775807 ∧ Rd w base A' (flat Ls[i]!) := by
  obtain ⟨ss, h0, h1, h2⟩ := h
  obtain ⟨g, o, e, hg, hl⟩ := h1 (by omega)
  obtain ⟨A', c, e', hc, hc', hr⟩ := h2 i hi
  exact ⟨g, o, A', c, e, hg, hl i _ e', hc, hc', hr⟩
theorem Qs.nil {w : World} {base : Nat} {A : Option Addr} : Qs w base A [] := ⟨[], rfl, Rd.nil, fun i hi => by simp at hi⟩

/-- A slice's own block, if it has one, is cells. -/
def CB (w : World) (v : Value) : Prop := ∀ g, v.ownBlock = some g → ∃ cs t m, w.heap[g]? = some (.cells cs t m)
theorem CB.turn {S : Nat → Prop} {w w' : World} {v : Value} (h : CB w v) (t : Turns S w w') (hs : ∀ g, v.ownBlock = some g → ¬ S g) : CB w' v := fun g e => by
  obtain ⟨cs, ty, m, h1⟩ := h g e
  exact ⟨cs, ty, m, (t.block g (Array.getElem?_eq_some_iff.1 h1).1 (hs g e)).trans h1⟩
theorem CB.set {w : World} {v : Value} (h : CB w v) (p : Addr) (x : Value) : CB (w.setCell p x) v := fun g e => by
  obtain ⟨cs, ty, m, h1⟩ := h g e
  by_cases hg : g = p.block
  · subst hg
    obtain ⟨hlt, hk⟩ := Array.getElem?_eq_some_iff.1 h1
    have : (w.setCell p x).heap[p.block]? = (w.heap.modify p.block _)[p.block]? := rfl
    rw [this, Array.getElem?_eq_getElem (by rw [Array.size_modify]; exact hlt), Array.getElem_modify_self, hk]
    exact ⟨_, _, _, rfl⟩
  · exact ⟨cs, ty, m, (Below.heap_setCell w p x g hg).trans h1⟩
theorem cells_at {w : World} {g o : Nat} (h : (w.cell? ⟨g, o, none⟩).isSome = true) : ∃ cs t m, w.heap[g]? = some (.cells cs t m) := by
  unfold World.cell? at h
  cases ho : w.heap[g]? with
  | none => simp [ho] at h
  | some ob => cases ob <;> simp_all
theorem Row.cb {w : World} {base sz n : Nat} {s : Value} {cs : List Value} (h : Row w base sz s n cs) (h0 : 0 < n) (hsz : 0 < sz) : CB w s := fun g e => by
  obtain ⟨A, cap, rfl, h0', h1, h2, h3, h4⟩ := h
  cases A with
  | none => simp [Value.ownBlock] at e
  | some ad =>
    obtain ⟨g', o, rfl, hb, hlt, hl, hc⟩ := h4 ad rfl
    obtain rfl : g' = g := by simpa [Value.ownBlock] using e
    exact cells_at (hc 0 (Nat.mul_pos (by omega) hsz)).1
theorem cb_none (w : World) : CB w (.slice none 0 0) := fun g e => by simp [Value.ownBlock] at e

/-- Queues of a call's own, each in memory of its own. -/
structure Tab (w : World) (base : Nat) (s : Value) (ss : List Value) (Ls : List (List Ent)) : Prop where
  row : Row w base 1 s Ls.length ss
  qs : ∀ i, i < Ls.length → ∃ v, ss[i]? = some v ∧ RowE w base v Ls[i]! ∧ CB w v
  out : CB w s
  off : ∀ (i : Nat) (v : Value) (g : Nat), ss[i]? = some v → v.ownBlock = some g → s.ownBlock ≠ some g
  apart : ∀ (i j : Nat) (v u : Value) (g : Nat), ss[i]? = some v → ss[j]? = some u → v.ownBlock = some g → u.ownBlock = some g → i = j
theorem Tab.len {w : World} {base : Nat} {s : Value} {ss : List Value} {Ls : List (List Ent)} (h : Tab w base s ss Ls) : ss.length = Ls.length := by
  have := h.row.len
  omega
theorem Tab.lt {w : World} {base : Nat} {s : Value} {ss : List Value} {Ls : List (List Ent)} (h : Tab w base s ss Ls) {i : Nat} {v : Value} {g : Nat} (hv : ss[i]? = some v) (e : v.ownBlock = some g) : base ≤ g ∧ g < w.heap.size := by
  have hi : i < Ls.length := by rw [← h.len]; exact (List.getElem?_eq_some_iff.1 hv).1
  obtain ⟨u, hu, hr, _⟩ := h.qs i hi
  rw [hv] at hu
  cases hu
  exact hr.lt g e
theorem tab_nil (w : World) (base : Nat) : Tab w base (.slice none 0 0) [] [] :=
  ⟨row_nil _ _ _, fun i hi => by simp at hi, cb_none w, fun i v g e => by simp at e, fun i j v u g e => by simp at e⟩
theorem Tab.keep {S : Nat → Prop} {w w' : World} {base : Nat} {s : Value} {ss : List Value} {Ls : List (List Ent)} (h : Tab w base s ss Ls) (t : Turns S w w') (h0 : ∀ g, s.ownBlock = some g → ¬ S g) (h1 : ∀ (i : Nat) (v : Value) (g : Nat), ss[i]? = some v → v.ownBlock = some g → ¬ S g) : Tab w' base s ss Ls :=
  ⟨h.row.keep t h0, fun i hi => by
    obtain ⟨v, hv, hr, hc⟩ := h.qs i hi
    exact ⟨v, hv, hr.keep t (fun g e => h1 i v g hv e), hc.turn t (fun g e => h1 i v g hv e)⟩, h.out.turn t h0, h.off, h.apart⟩
theorem Tab.new {w w' : World} {base : Nat} {s : Value} {ss : List Value} {Ls : List (List Ent)} (h : Tab w base s ss Ls) (hb : Below w.heap.size w w') : Tab w' base s ss Ls :=
  h.keep (Turns.of_below (S := fun _ => False) hb) (fun _ _ e => e) (fun _ _ _ _ _ e => e)
theorem Tab.base {w : World} {base b : Nat} {s : Value} {ss : List Value} {Ls : List (List Ent)} (h : Tab w base s ss Ls) (hb : b ≤ base) : Tab w b s ss Ls :=
  ⟨h.row.base hb, fun i hi => by
    obtain ⟨v, hv, hr, hc⟩ := h.qs i hi
    exact ⟨v, hv, hr.base hb, hc⟩, h.out, h.off, h.apart⟩
theorem get_app_ne {α : Type} [Inhabited α] {l : List α} {x : α} {i : Nat} (h : i < l.length) : (l ++ [x])[i]! = l[i]! := by
  rw [List.getElem!_eq_getElem?_getD, List.getElem!_eq_getElem?_getD, List.getElem?_append_left h]
theorem get_app_last {α : Type} [Inhabited α] {l : List α} {x : α} : (l ++ [x])[l.length]! = x := by
  rw [List.getElem!_eq_getElem?_getD]; simp
theorem get_set {α : Type} [Inhabited α] {l : List α} {x : α} {i j : Nat} (h : i < l.length) : (l.set i x)[j]! = if j = i then x else l[j]! := by
  rw [List.getElem!_eq_getElem?_getD, List.getElem!_eq_getElem?_getD, List.getElem?_set]
  by_cases e : i = j
  · subst e; simp [h]
  · rw [if_neg e, if_neg (fun e' => e e'.symm)]
/-- One more queue behind. -/
theorem Tab.push {w w1 w2 : World} {base : Nat} {s s' v : Value} {ss : List Value} {Ls : List (List Ent)} {D : List Ent} (h : Tab w base s ss Ls) (hbase : base ≤ w.heap.size) (hb : Below w.heap.size w w1) (hv : RowE w1 w.heap.size v D) (hc : CB w1 v)
    (hr : Row w2 base 1 s' (Ls.length + 1) (ss ++ [v])) (ht : Turns (fun k => s.ownBlock = some k) w1 w2) (hs : s'.ownBlock = s.ownBlock ∨ s'.ownBlock = some w1.heap.size) : Tab w2 base s' (ss ++ [v]) (Ls ++ [D]) := by
  have h1 := h.new hb
  have hlen := h.len
  have hnew : ∀ g, v.ownBlock = some g → w.heap.size ≤ g ∧ g < w1.heap.size := fun g e => hv.lt g e
  have hso : ∀ g, s.ownBlock = some g → g < w.heap.size := fun g e => (h.row.lt g e).2
  have hold : ∀ (i : Nat) (u : Value) (g : Nat), ss[i]? = some u → u.ownBlock = some g → g < w.heap.size := fun i u g hu e => (h.lt hu e).2
  have hvs : ∀ g, v.ownBlock = some g → s.ownBlock ≠ some g := fun g e e' => by have := hnew g e; have := hso g e'; omega
  have hcase : ∀ (i : Nat) (u : Value), (ss ++ [v])[i]? = some u → (i < Ls.length ∧ ss[i]? = some u) ∨ (i = Ls.length ∧ u = v) := fun i u e => by
    rcases Nat.lt_trichotomy i Ls.length with h' | h' | h'
    · rw [List.getElem?_append_left (by omega)] at e
      exact .inl ⟨h', e⟩
    · subst h'
      rw [← hlen, List.getElem?_append_right (Nat.le_refl _)] at e
      simp at e
      exact .inr ⟨rfl, e.symm⟩
    · rw [List.getElem?_append_right (by omega)] at e
      have := (List.getElem?_eq_some_iff.1 e).1
      simp at this; omega
  refine ⟨by rw [List.length_append]; exact hr, fun i hi => ?_, hr.cb (by omega) (by omega), fun i u g hu e => ?_, fun i j u u' g hu hu' e e' => ?_⟩
  · rw [List.length_append, List.length_singleton] at hi
    by_cases h' : i < Ls.length
    · obtain ⟨u, hu, hru, hcu⟩ := h1.qs i h'
      refine ⟨u, by rw [List.getElem?_append_left (by omega)]; exact hu, ?_, hcu.turn ht (fun g e => h.off i u g hu e)⟩
      rw [get_app_ne h']
      exact hru.keep ht (fun g e => h.off i u g hu e)
    · obtain rfl : i = Ls.length := by omega
      refine ⟨v, by rw [← hlen]; simp, ?_, hc.turn ht hvs⟩
      rw [get_app_last]
      exact (hv.keep ht hvs).base hbase
  · have hg : g < w1.heap.size := by
      rcases hcase i u hu with ⟨_, hu⟩ | ⟨_, rfl⟩
      · exact Nat.lt_of_lt_of_le (hold i u g hu e) hb.size
      · exact (hnew g e).2
    rcases hs with hs | hs
    · rw [hs]
      rcases hcase i u hu with ⟨_, hu⟩ | ⟨_, rfl⟩
      · exact h.off i u g hu e
      · exact hvs g e
    · rw [hs]; intro e2; simp at e2; omega
  · rcases hcase i u hu with ⟨_, q1⟩ | ⟨hi, q1⟩
    · rcases hcase j u' hu' with ⟨_, q2⟩ | ⟨hj, q2⟩
      · exact h.apart i j u u' g q1 q2 e e'
      · rw [q2] at e'
        have := hold i u g q1 e; have := hnew g e'; omega
    · rw [q1] at e
      rcases hcase j u' hu' with ⟨_, q2⟩ | ⟨hj, q2⟩
      · have := hold j u' g q2 e'; have := hnew g e; omega
      · omega
/-- One cell of a list of one-cell elements, stored. -/
theorem Row.set1 {w : World} {base g o n m cap : Nat} {cs : List Value} (h : Row w base 1 (.slice (some ⟨g, o, none⟩) m cap) n cs) {i : Nat} (hi : i < n) (v : Value) : Row (w.setCell ⟨g, o + i, none⟩ v) base 1 (.slice (some ⟨g, o, none⟩) m cap) n (cs.set i v) := by
  obtain ⟨A, cap', e, h0, h1, h2, h3, h4⟩ := h
  cases e
  refine ⟨_, cap, rfl, by rw [List.length_set]; exact h0, h1, h2, h3, fun ad e => ?_⟩
  cases e
  obtain ⟨g', o', e, hb, hlt, hl, hc⟩ := h4 _ rfl
  cases e
  refine ⟨g, o, rfl, hb, by simpa [World.setCell] using hlt, fun j u e => ?_, fun j hj => ⟨?_, ?_⟩⟩
  · by_cases ej : j = i
    · subst ej
      have hj : j < cs.length := by omega
      rw [List.getElem?_set_self hj] at e
      cases e
      obtain ⟨x, hx⟩ := Option.isSome_iff_exists.1 (hc j (by omega)).1
      exact World.cell?_setCell_same _ _ _ hx
    · rw [List.getElem?_set_ne (fun e => ej e.symm)] at e
      rw [World.cell?_setCell_other _ _ _ _ (by simp <;> omega)]
      exact hl j u e
  · by_cases ej : j = i
    · subst ej
      obtain ⟨x, hx⟩ := Option.isSome_iff_exists.1 (hc j (by omega)).1
      rw [World.cell?_setCell_same _ _ _ hx]; rfl
    · rw [World.cell?_setCell_other _ _ _ _ (by simp <;> omega)]
      exact (hc j hj).1
  · rw [World.frozen?_setCell]
    exact (hc j hj).2
/-- One queue turned: its slice stored anew. -/
theorem Tab.app {w w1 w2 : World} {base g0 o m c : Nat} {v v' : Value} {ss : List Value} {Ls : List (List Ent)} {D : List Ent} (h : Tab w base (.slice (some ⟨g0, o, none⟩) m c) ss Ls) (hb : Below w.heap.size w w1) {i : Nat} (hi : i < Ls.length) (hv : ss[i]? = some v)
    (hr : RowE w2 base v' D) (hcb : CB w2 v') (ht : Turns (fun k => v.ownBlock = some k) w1 w2) (hs : v'.ownBlock = v.ownBlock ∨ v'.ownBlock = some w1.heap.size) :
    Tab (w2.setCell ⟨g0, o + i, none⟩ v') base (.slice (some ⟨g0, o, none⟩) m c) (ss.set i v') (Ls.set i D) := by
  have h1 := h.new hb
  have hlen := h.len
  have hg0 : (Value.slice (some ⟨g0, o, none⟩) m c).ownBlock = some g0 := rfl
  have hlt0 : g0 < w.heap.size := (h.row.lt g0 hg0).2
  have hne0 : ∀ (j : Nat) (u : Value) (g : Nat), ss[j]? = some u → u.ownBlock = some g → g ≠ g0 := fun j u g hu e e' => h.off j u g hu e (by rw [hg0, e'])
  have hvlt : ∀ g, v.ownBlock = some g → g < w.heap.size := fun g e => (h.lt hv e).2
  have hv'0 : ∀ g, v'.ownBlock = some g → g ≠ g0 := fun g e => by
    rcases hs with hs | hs
    · exact hne0 i v g hv (by rw [← hs]; exact e)
    · rw [hs] at e; cases e; have := hb.size; omega
  have hSo : ∀ g, (Value.slice (some ⟨g0, o, none⟩) m c).ownBlock = some g → ¬ v.ownBlock = some g := fun g e e' => h.off i v g hv e' e
  have tset : Turns (fun k => k = g0) w2 (w2.setCell ⟨g0, o + i, none⟩ v') := (Turns.refl _ w2).setCell _ _ rfl
  have hcase : ∀ (j : Nat) (u : Value), (ss.set i v')[j]? = some u → (j ≠ i ∧ ss[j]? = some u) ∨ (j = i ∧ u = v') := fun j u e => by
    by_cases ej : j = i
    · subst ej
      rw [List.getElem?_set_self (by omega)] at e
      cases e
      exact .inr ⟨rfl, rfl⟩
    · rw [List.getElem?_set_ne (fun e => ej e.symm)] at e
      exact .inl ⟨ej, e⟩
  have hvv : ∀ (j : Nat) (u : Value) (g : Nat), j ≠ i → ss[j]? = some u → u.ownBlock = some g → v.ownBlock ≠ some g := fun j u g hj hu e e' => hj (h.apart j i u v g hu hv e e')
  refine ⟨by rw [List.length_set]; exact (h1.row.keep ht hSo).set1 hi v', fun j hj => ?_, (h1.out.turn ht hSo).set _ _, fun j u g hu e => ?_, fun j k u u' g hu hu' e e' => ?_⟩
  · rw [List.length_set] at hj
    rw [get_set hi]
    by_cases ej : j = i
    · subst ej
      rw [if_pos rfl]
      exact ⟨v', List.getElem?_set_self (by omega), hr.keep tset hv'0, hcb.set _ _⟩
    · rw [if_neg ej]
      obtain ⟨u, hu, hru, hcu⟩ := h1.qs j hj
      exact ⟨u, by rw [List.getElem?_set_ne (fun e => ej e.symm)]; exact hu, (hru.keep ht (fun g e => hvv j u g ej hu e)).keep tset (fun g e => hne0 j u g hu e), (hcu.turn ht (fun g e => hvv j u g ej hu e)).set _ _⟩
  · rw [hg0]
    rcases hcase j u hu with ⟨_, hu⟩ | ⟨_, rfl⟩
    · intro e2; exact hne0 j u g hu e (by simpa using e2.symm)
    · intro e2; exact hv'0 g e (by simpa using e2.symm)
  · have hx : ∀ (j : Nat) (u : Value), j ≠ i → ss[j]? = some u → u.ownBlock = some g → v'.ownBlock = some g → False := fun j u ej hu e e' => by
      rcases hs with hs | hs
      · exact hvv j u g ej hu e (by rw [← hs]; exact e')
      · rw [hs] at e'; cases e'; have := (h.lt hu e).2; have := hb.size; omega
    rcases hcase j u hu with ⟨ej, q1⟩ | ⟨ej, q1⟩
    · rcases hcase k u' hu' with ⟨ek, q2⟩ | ⟨ek, q2⟩
      · exact h.apart j k u u' g q1 q2 e e'
      · rw [q2] at e'
        exact (hx j u ej q1 e e').elim
    · rw [q1] at e
      rcases hcase k u' hu' with ⟨ek, q2⟩ | ⟨ek, q2⟩
      · exact (hx k u' ek q2 e' e).elim
      · omega
/-- Queues of a call's own, read. -/
theorem Tab.rd {w : World} {base m c : Nat} {A : Option Addr} {ss : List Value} {Ls : List (List Ent)} (h : Tab w base (.slice A m c) ss Ls) : m = Ls.length ∧ Qs w w.heap.size A Ls := by
  have hlen := h.len
  have hm : m = Ls.length := by obtain ⟨A', cap', e, _⟩ := h.row; cases e; rfl
  subst hm
  refine ⟨rfl, ss, hlen, h.row.rd, fun i hi => ?_⟩
  obtain ⟨v, hv, hr, _⟩ := h.qs i hi
  obtain ⟨A', c', rfl, h1, h2⟩ := hr.shape
  exact ⟨A', c', hv, h1, h2, hr.rd⟩
theorem Tab.shape {w : World} {base : Nat} {s : Value} {ss : List Value} {Ls : List (List Ent)} (h : Tab w base s ss Ls) : ∃ A c, s = .slice A Ls.length c ∧ Ls.length ≤ c ∧ c ≤ 9223372036854775807 := h.row.shape
end Go.Proofs.Ytcdoklgjicfkmaa
