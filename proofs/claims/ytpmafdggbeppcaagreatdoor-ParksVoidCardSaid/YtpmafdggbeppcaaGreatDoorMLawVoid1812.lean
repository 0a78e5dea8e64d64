/- Texts of this seat, one behind the other. -/
import Derived.Test.YtpmafdggbeppcaaGreatDoorMLawVoid1811
set_option linter.unusedVariables false
set_option linter.unusedSimpArgs false
namespace Go.Proofs.YtpmafdggbeppcaaGreatDoor.S10
open Go.Proofs.YtpmafdggbeppcaaGreatDoor
def bk (h : Nat → Nat) (i : Nat) (E : List Ent) : List Ent := E.filter fun e => h e.k.toNat == i
def reh (h : Nat → Nat) (n : Nat) (E : List Ent) : List (List Ent) := (List.range n).map fun i => bk h i E
theorem reh_len (h : Nat → Nat) (n : Nat) (E : List Ent) : (reh h n E).length = n := by simp [reh]
theorem reh_at (h : Nat → Nat) {n i : Nat} (E : List Ent) (hi : i < n) : (reh h n E)[i]! = bk h i E := by
  rw [getElem!_pos _ i (by rw [reh_len]; exact hi)]
  simp [reh]
theorem bk_snoc (h : Nat → Nat) (i : Nat) (E : List Ent) (e : Ent) : bk h i (E ++ [e]) = if h e.k.toNat = i then bk h i E ++ [e] else bk h i E := by
  unfold bk
  rw [List.filter_append]
  by_cases hi : h e.k.toNat = i
  · simp [hi]
  · simp [hi]
theorem reh_snoc (h : Nat → Nat) {n : Nat} (E : List Ent) (e : Ent) (hb : h e.k.toNat < n) : reh h n (E ++ [e]) = (reh h n E).set (h e.k.toNat) (bk h (h e.k.toNat) E ++ [e]) := by
  refine List.ext_getElem? fun i => ?_
  by_cases hi : i < n
  · rw [List.getElem?_set, reh_len]
    have h1 : (reh h n (E ++ [e]))[i]? = some (bk h i (E ++ [e])) := by simp [reh, hi]
    have h2 : (reh h n E)[i]? = some (bk h i E) := by simp [reh, hi]
    rw [h1, h2, bk_snoc]
    by_cases e1 : h e.k.toNat = i
    · subst e1; simp [hb]
    · simp [e1]
  · rw [List.getElem?_eq_none (by rw [reh_len]; omega), List.getElem?_eq_none (by rw [List.length_set, reh_len]; omega)]
theorem bk_le (h : Nat → Nat) (i : Nat) (E : List Ent) : (bk h i E).length ≤ E.length := List.length_filter_le _ _
def cum (Ls : List (List Ent)) (i : Nat) : Nat := (Ls.take i).flatten.length
theorem cum_succ {Ls : List (List Ent)} {i : Nat} (hi : i < Ls.length) : cum Ls (i + 1) = cum Ls i + Ls[i]!.length := by
  unfold cum
  rw [List.take_add_one, List.getElem?_eq_getElem hi, getElem!_pos Ls i hi]
  simp only [Option.toList_some, List.flatten_append, List.length_append, List.flatten_cons, List.flatten_nil, List.append_nil]
theorem cum_all (Ls : List (List Ent)) : cum Ls Ls.length = Ls.flatten.length := by simp [cum]
theorem cum_mono {Ls : List (List Ent)} {i : Nat} (hi : i < Ls.length) {k : Nat} (hk : k < Ls[i]!.length) : cum Ls i + k < Ls.flatten.length := by
  have h1 : Ls.flatten = (Ls.take i).flatten ++ (Ls.drop i).flatten := by rw [← List.flatten_append, List.take_append_drop]
  have h2 : Ls.drop i = Ls[i]! :: Ls.drop (i + 1) := by rw [List.drop_eq_getElem_cons hi, getElem!_pos Ls i hi]
  rw [h1, h2, List.flatten_cons, List.length_append, List.length_append]
  unfold cum
  omega
theorem cum_at {Ls : List (List Ent)} {i : Nat} (hi : i < Ls.length) {k : Nat} (hk : k < Ls[i]!.length) : Ls.flatten[cum Ls i + k]! = Ls[i]![k]! := by
  have h1 : Ls.flatten = (Ls.take i).flatten ++ (Ls.drop i).flatten := by rw [← List.flatten_append, List.take_append_drop]
  have h2 : Ls.drop i = Ls[i]! :: Ls.drop (i + 1) := by rw [List.drop_eq_getElem_cons hi, getElem!_pos Ls i hi]
  have h3 : Ls.flatten[cum Ls i + k]? = Ls[i]![k]? := by
    rw [h1, h2, List.flatten_cons, List.getElem?_append_right (by unfold cum; omega)]
    rw [show cum Ls i + k - (List.take i Ls).flatten.length = k by unfold cum; omega, List.getElem?_append_left hk]
  rw [List.getElem!_eq_getElem?_getD, List.getElem!_eq_getElem?_getD, h3]
theorem range_snoc (n : Nat) : List.range n ++ [n] = List.range (n + 1) := List.range_succ.symm
def Keys (E : List Ent) : Prop := ∀ e ∈ E, ∃ k : Nat, e.k = (k : Int) ∧ k < 4294967296
theorem Keys.get {E : List Ent} (h : Keys E) (i : Nat) : ∃ k : Nat, E[i]!.k = (k : Int) ∧ k < 4294967296 := by
  by_cases hi : i < E.length
  · rw [getElem!_pos E i hi]
    exact h _ (List.getElem_mem hi)
  · rw [getElem!_neg E i hi]
    exact ⟨0, rfl, by omega⟩
theorem map_range_get (E : List Ent) : (List.range E.length).map (fun i => E[i]!) = E := by
  refine List.ext_getElem? fun i => ?_
  by_cases hi : i < E.length
  · simp [hi]
  · rw [List.getElem?_eq_none (by simp; omega), List.getElem?_eq_none (by omega)]
theorem map_snoc (f : Nat → Ent) (l : List Nat) (x : Nat) : (l ++ [x]).map f = l.map f ++ [f x] := by simp
end Go.Proofs.YtpmafdggbeppcaaGreatDoor.S10
namespace Go.Proofs.YtpmafdggbeppcaaGreatDoor.S10
open Go.Proofs.YtpmafdggbeppcaaGreatDoor
open Go.RowKit
def Qs (w : World) (base : Nat) (A : Option Addr) (Ls : List (List Ent)) : Prop :=
  ∃ ss : List Value, ss.length = Ls.length ∧ Rd w base A ss ∧ ∀ i, i < Ls.length → ∃ A' c, ss[i]? = some (.slice A' Ls[i]!.length c) ∧ Ls[i]!.length ≤ c ∧ c ≤ 9223372036854775807 ∧ Rd w base A' (flat Ls[i]!)
theorem Qs.below {w w' : World} {base b : Nat} {A : Option Addr} {Ls : List (List Ent)} (h : Qs w base A Ls) (hb : Below b w w') (hbb : base ≤ b) : Qs w' base A Ls := by
  obtain ⟨ss, h0, h1, h2⟩ := h
  refine ⟨ss, h0, h1.below hb hbb, fun i hi => ?_⟩
  obtain ⟨A', c, e, hc, hc', hr⟩ := h2 i hi
  exact ⟨A', c, e, hc, hc', hr.below hb hbb⟩
theorem Qs.more {w : World} {base b : Nat} {A : Option Addr} {Ls : List (List Ent)} (h : Qs w base A Ls) (hb : base ≤ b) : Qs w b A Ls := by
  obtain ⟨ss, h0, h1, h2⟩ := h
  refine ⟨ss, h0, h1.more hb, fun i hi => ?_⟩
  obtain ⟨A', c, e, hc, hc', hr⟩ := h2 i hi
  exact ⟨A', c, e, hc, hc', hr.more hb⟩
theorem Qs.at {w : World} {base : Nat} {A : Option Addr} {Ls : List (List Ent)} (h : Qs w base A Ls) {i : Nat} (hi : i < Ls.length) : ∃ g o A' c, A = some ⟨g, o, none⟩ ∧ g < base ∧ w.cell? ⟨g, o + i, none⟩ = some (.slice A' Ls[i]!.length c) ∧ Ls[i]!.length ≤ c ∧ c ≤ 9223372036854775807 ∧ Rd w base A' (flat Ls[i]!) := by
  obtain ⟨ss, h0, h1, h2⟩ := h
  obtain ⟨g, o, e, hg, hl⟩ := h1 (by omega)
  obtain ⟨A', c, e', hc, hc', hr⟩ := h2 i hi
  exact ⟨g, o, A', c, e, hg, hl i _ e', hc, hc', hr⟩
theorem Qs.nil {w : World} {base : Nat} {A : Option Addr} : Qs w base A [] := ⟨[], rfl, Rd.nil, fun i hi => by simp at hi⟩
def CB (w : World) (v : Value) : Prop := ∀ g, v.ownBlock = some g → ∃ cs t m, w.heap[g]? = some (.cells cs t m)
theorem CB.turn {S : Nat → Prop} {w w' : World} {v : Value} (h : CB w v) (t : Turns S w w') (hs : ∀ g, v.ownBlock = some g → ¬ S g) : CB w' v := fun g e => by
  obtain ⟨cs, ty, m, h1⟩ := h g e
  exact ⟨cs, ty, m, (t.block g (Array.getElem?_eq_some_iff.1 h1).1 (hs g e)).trans h1⟩
theorem CB.set {w : World} {v : Value} (h : CB w v) (p : Addr) (x : Value) : CB (w.setCell p x) v := fun g e => by
  obtain ⟨cs, ty, m, h1⟩ := h g e
  by_cases hg : g = p.block
  · subst hg
    obtain ⟨hlt, hk⟩ := Array.getElem?_eq_some_iff.1 h1
    have : (w.setCell p x).heap[p.block]? = (w.heap.modify p.block _)[p.block]? := rfl
    rw [this, Array.getElem?_eq_getElem (by rw [Array.size_modify]; exact hlt), Array.getElem_modify_self, hk]
    exact ⟨_, _, _, rfl⟩
  · exact ⟨cs, ty, m, (Below.heap_setCell w p x g hg).trans h1⟩
theorem cells_at {w : World} {g o : Nat} (h : (w.cell? ⟨g, o, none⟩).isSome = true) : ∃ cs t m, w.heap[g]? = some (.cells cs t m) := by
  unfold World.cell? at h
  cases ho : w.heap[g]? with
  | none => simp [ho] at h
  | some ob => cases ob <;> simp_all
theorem Row.cb {w : World} {base sz n : Nat} {s : Value} {cs : List Value} (h : Row w base sz s n cs) (h0 : 0 < n) (hsz : 0 < sz) : CB w s := fun g e => by
  obtain ⟨A, cap, rfl, h0', h1, h2, h3, h4⟩ := h
  cases A with
  | none => simp [Value.ownBlock] at e
  | some ad =>
    obtain ⟨g', o, rfl, hb, hlt, hl, hc⟩ := h4 ad rfl
    obtain rfl : g' = g := by simpa [Value.ownBlock] using e
    exact cells_at (hc 0 (Nat.mul_pos (by omega) hsz)).1
theorem cb_none (w : World) : CB w (.slice none 0 0) := fun g e => by simp [Value.ownBlock] at e
structure Tab (w : World) (base : Nat) (s : Value) (ss : List Value) (Ls : List (List Ent)) : Prop where
  row : Row w base 1 s Ls.length ss
  qs : ∀ i, i < Ls.length → ∃ v, ss[i]? = some v ∧ RowE w base v Ls[i]! ∧ CB w v
  out : CB w s
  off : ∀ (i : Nat) (v : Value) (g : Nat), ss[i]? = some v → v.ownBlock = some g → s.ownBlock ≠ some g
  apart : ∀ (i j : Nat) (v u : Value) (g : Nat), ss[i]? = some v → ss[j]? = some u → v.ownBlock = some g → u.ownBlock = some g → i = j
theorem Tab.len {w : World} {base : Nat} {s : Value} {ss : List Value} {Ls : List (List Ent)} (h : Tab w base s ss Ls) : ss.length = Ls.length := by
  have := h.row.len
  omega
theorem Tab.lt {w : World} {base : Nat} {s : Value} {ss : List Value} {Ls : List (List Ent)} (h : Tab w base s ss Ls) {i : Nat} {v : Value} {g : Nat} (hv : ss[i]? = some v) (e : v.ownBlock = some g) : base ≤ g ∧ g < w.heap.size := by
  have hi : i < Ls.length := by rw [← h.len]; exact (List.getElem?_eq_some_iff.1 hv).1
  obtain ⟨u, hu, hr, _⟩ := h.qs i hi
  rw [hv] at hu
  cases hu
  exact hr.lt g e
theorem tab_nil (w : World) (base : Nat) : Tab w base (.slice none 0 0) [] [] :=
  ⟨row_nil _ _ _, fun i hi => by simp at hi, cb_none w, fun i v g e => by simp at e, fun i j v u g e => by simp at e⟩
theorem Tab.keep {S : Nat → Prop} {w w' : World} {base : Nat} {s : Value} {ss : List Value} {Ls : List (List Ent)} (h : Tab w base s ss Ls) (t : Turns S w w') (h0 : ∀ g, s.ownBlock = some g → ¬ S g) (h1 : ∀ (i : Nat) (v : Value) (g : Nat), ss[i]? = some v → v.ownBlock = some g → ¬ S g) : Tab w' base s ss Ls :=
  ⟨h.row.keep t h0, fun i hi => by
    obtain ⟨v, hv, hr, hc⟩ := h.qs i hi
    exact ⟨v, hv, hr.keep t (fun g e => h1 i v g hv e), hc.turn t (fun g e => h1 i v g hv e)⟩, h.out.turn t h0, h.off, h.apart⟩
theorem Tab.new {w w' : World} {base : Nat} {s : Value} {ss : List Value} {Ls : List (List Ent)} (h : Tab w base s ss Ls) (hb : Below w.heap.size w w') : Tab w' base s ss Ls :=
  h.keep (Turns.of_below (S := fun _ => False) hb) (fun _ _ e => e) (fun _ _ _ _ _ e => e)
theorem Tab.base {w : World} {base b : Nat} {s : Value} {ss : List Value} {Ls : List (List Ent)} (h : Tab w base s ss Ls) (hb : b ≤ base) : Tab w b s ss Ls :=
  ⟨h.row.base hb, fun i hi => by
    obtain ⟨v, hv, hr, hc⟩ := h.qs i hi
    exact ⟨v, hv, hr.base hb, hc⟩, h.out, h.off, h.apart⟩
theorem get_app_ne {α : Type} [Inhabited α] {l : List α} {x : α} {i : Nat} (h : i < l.length) : (l ++ [x])[i]! = l[i]! := by
  rw [List.getElem!_eq_getElem?_getD, List.getElem!_eq_getElem?_getD, List.getElem?_append_left h]
theorem get_app_last {α : Type} [Inhabited α] {l : List α} {x : α} : (l ++ [x])[l.length]! = x := by
  rw [List.getElem!_eq_getElem?_getD]; simp
theorem get_set {α : Type} [Inhabited α] {l : List α} {x : α} {i j : Nat} (h : i < l.length) : (l.set i x)[j]! = if j = i then x else l[j]! := by
  rw [List.getElem!_eq_getElem?_getD, List.getElem!_eq_getElem?_getD, List.getElem?_set]
  by_cases e : i = j
  · subst e; simp [h]
  · rw [if_neg e, if_neg (fun e' => e e'.symm)]
theorem Tab.push {w w1 w2 : World} {base : Nat} {s s' v : Value} {ss : List Value} {Ls : List (List Ent)} {D : List Ent} (h : Tab w base s ss Ls) (hbase : base ≤ w.heap.size) (hb : Below w.heap.size w w1) (hv : RowE w1 w.heap.size v D) (hc : CB w1 v)
    (hr : Row w2 base 1 s' (Ls.length + 1) (ss ++ [v])) (ht : Turns (fun k => s.ownBlock = some k) w1 w2) (hs : s'.ownBlock = s.ownBlock ∨ s'.ownBlock = some w1.heap.size) : Tab w2 base s' (ss ++ [v]) (Ls ++ [D]) := by
  have h1 := h.new hb
  have hlen := h.len
  have hnew : ∀ g, v.ownBlock = some g → w.heap.size ≤ g ∧ g < w1.heap.size := fun g e => hv.lt g e
  have hso : ∀ g, s.ownBlock = some g → g < w.heap.size := fun g e => (h.row.lt g e).2
  have hold : ∀ (i : Nat) (u : Value) (g : Nat), ss[i]? = some u → u.ownBlock = some g → g < w.heap.size := fun i u g hu e => (h.lt hu e).2
  have hvs : ∀ g, v.ownBlock = some g → s.ownBlock ≠ some g := fun g e e' => by have := hnew g e; have := hso g e'; omega
  have hcase : ∀ (i : Nat) (u : Value), (ss ++ [v])[i]? = some u → (i < Ls.length ∧ ss[i]? = some u) ∨ (i = Ls.length ∧ u = v) := fun i u e => by
    rcases Nat.lt_trichotomy i Ls.length with h' | h' | h'
    · rw [List.getElem?_append_left (by omega)] at e
      exact .inl ⟨h', e⟩
    · subst h'
      rw [← hlen, List.getElem?_append_right (Nat.le_refl _)] at e
      simp at e
      exact .inr ⟨rfl, e.symm⟩
    · rw [List.getElem?_append_right (by omega)] at e
      have := (List.getElem?_eq_some_iff.1 e).1
      simp at this; omega
  refine ⟨by rw [List.length_append]; exact hr, fun i hi => ?_, hr.cb (by omega) (by omega), fun i u g hu e => ?_, fun i j u u' g hu hu' e e' => ?_⟩
  · rw [List.length_append, List.length_singleton] at hi
    by_cases h' : i < Ls.length
    · obtain ⟨u, hu, hru, hcu⟩ := h1.qs i h'
      refine ⟨u, by rw [List.getElem?_append_left (by omega)]; exact hu, ?_, hcu.turn ht (fun g e => h.off i u g hu e)⟩
      rw [get_app_ne h']
      exact hru.keep ht (fun g e => h.off i u g hu e)
    · obtain rfl : i = Ls.length := by omega
      refine ⟨v, by rw [← hlen]; simp, ?_, hc.turn ht hvs⟩
      rw [get_app_last]
      exact (hv.keep ht hvs).base hbase
  · have hg : g < w1.heap.size := by
      rcases hcase i u hu with ⟨_, hu⟩ | ⟨_, rfl⟩
      · exact Nat.lt_of_lt_of_le (hold i u g hu e) hb.size
      · exact (hnew g e).2
    rcases hs with hs | hs
    · rw [hs]
      rcases hcase i u hu with ⟨_, hu⟩ | ⟨_, rfl⟩
      · exact h.off i u g hu e
      · exact hvs g e
    · rw [hs]; intro e2; simp at e2; omega
  · rcases hcase i u hu with ⟨_, q1⟩ | ⟨hi, q1⟩
    · rcases hcase j u' hu' with ⟨_, q2⟩ | ⟨hj, q2⟩
      · exact h.apart i j u u' g q1 q2 e e'
      · rw [q2] at e'
        have := hold i u g q1 e; have := hnew g e'; omega
    · rw [q1] at e
      rcases hcase j u' hu' with ⟨_, q2⟩ | ⟨hj, q2⟩
      · have := hold j u' g q2 e'; have := hnew g e; omega
      · omega
theorem Row.set1 {w : World} {base g o n m cap : Nat} {cs : List Value} (h : Row w base 1 (.slice (some ⟨g, o, none⟩) m cap) n cs) {i : Nat} (hi : i < n) (v : Value) : Row (w.setCell ⟨g, o + i, none⟩ v) base 1 (.slice (some ⟨g, o, none⟩) m cap) n (cs.set i v) := by
  obtain ⟨A, cap', e, h0, h1, h2, h3, h4⟩ := h
  cases e
  refine ⟨_, cap, rfl, by rw [List.length_set]; exact h0, h1, h2, h3, fun ad e => ?_⟩
  cases e
  obtain ⟨g', o', e, hb, hlt, hl, hc⟩ := h4 _ rfl
  cases e
  refine ⟨g, o, rfl, hb, by simpa [World.setCell] using hlt, fun j u e => ?_, fun j hj => ⟨?_, ?_⟩⟩
  · by_cases ej : j = i
    · subst ej
      have hj : j < cs.length := by omega
      rw [List.getElem?_set_self hj] at e
      cases e
      obtain ⟨x, hx⟩ := Option.isSome_iff_exists.1 (hc j (by omega)).1
      exact World.cell?_setCell_same _ _ _ hx
    · rw [List.getElem?_set_ne (fun e => ej e.symm)] at e
      rw [World.cell?_setCell_other _ _ _ _ (by simp <;> omega)]
      exact hl j u e
  · by_cases ej : j = i
    · subst ej
      obtain ⟨x, hx⟩ := Option.isSome_iff_exists.1 (hc j (by omega)).1
      rw [World.cell?_setCell_same _ _ _ hx]; rfl
    · rw [World.cell?_setCell_other _ _ _ _ (by simp <;> omega)]
      exact (hc j hj).1
  · rw [World.frozen?_setCell]
    exact (hc j hj).2
theorem Tab.app {w w1 w2 : World} {base g0 o m c : Nat} {v v' : Value} {ss : List Value} {Ls : List (List Ent)} {D : List Ent} (h : Tab w base (.slice (some ⟨g0, o, none⟩) m c) ss Ls) (hb : Below w.heap.size w w1) {i : Nat} (hi : i < Ls.length) (hv : ss[i]? = some v)
    (hr : RowE w2 base v' D) (hcb : CB w2 v') (ht : Turns (fun k => v.ownBlock = some k) w1 w2) (hs : v'.ownBlock = v.ownBlock ∨ v'.ownBlock = some w1.heap.size) :
    Tab (w2.setCell ⟨g0, o + i, none⟩ v') base (.slice (some ⟨g0, o, none⟩) m c) (ss.set i v') (Ls.set i D) := by
  have h1 := h.new hb
  have hlen := h.len
  have hg0 : (Value.slice (some ⟨g0, o, none⟩) m c).ownBlock = some g0 := rfl
  have hlt0 : g0 < w.heap.size := (h.row.lt g0 hg0).2
  have hne0 : ∀ (j : Nat) (u : Value) (g : Nat), ss[j]? = some u → u.ownBlock = some g → g ≠ g0 := fun j u g hu e e' => h.off j u g hu e (by rw [hg0, e'])
  have hvlt : ∀ g, v.ownBlock = some g → g < w.heap.size := fun g e => (h.lt hv e).2
  have hv'0 : ∀ g, v'.ownBlock = some g → g ≠ g0 := fun g e => by
    rcases hs with hs | hs
    · exact hne0 i v g hv (by rw [← hs]; exact e)
    · rw [hs] at e; cases e; have := hb.size; omega
  have hSo : ∀ g, (Value.slice (some ⟨g0, o, none⟩) m c).ownBlock = some g → ¬ v.ownBlock = some g := fun g e e' => h.off i v g hv e' e
  have tset : Turns (fun k => k = g0) w2 (w2.setCell ⟨g0, o + i, none⟩ v') := (Turns.refl _ w2).setCell _ _ rfl
  have hcase : ∀ (j : Nat) (u : Value), (ss.set i v')[j]? = some u → (j ≠ i ∧ ss[j]? = some u) ∨ (j = i ∧ u = v') := fun j u e => by
    by_cases ej : j = i
    · subst ej
      rw [List.getElem?_set_self (by omega)] at e
      cases e
      exact .inr ⟨rfl, rfl⟩
    · rw [List.getElem?_set_ne (fun e => ej e.symm)] at e
      exact .inl ⟨ej, e⟩
  have hvv : ∀ (j : Nat) (u : Value) (g : Nat), j ≠ i → ss[j]? = some u → u.ownBlock = some g → v.ownBlock ≠ some g := fun j u g hj hu e e' => hj (h.apart j i u v g hu hv e e')
  refine ⟨by rw [List.length_set]; exact (h1.row.keep ht hSo).set1 hi v', fun j hj => ?_, (h1.out.turn ht hSo).set _ _, fun j u g hu e => ?_, fun j k u u' g hu hu' e e' => ?_⟩
  · rw [List.length_set] at hj
    rw [get_set hi]
    by_cases ej : j = i
    · subst ej
      rw [if_pos rfl]
      exact ⟨v', List.getElem?_set_self (by omega), hr.keep tset hv'0, hcb.set _ _⟩
    · rw [if_neg ej]
      obtain ⟨u, hu, hru, hcu⟩ := h1.qs j hj
      exact ⟨u, by rw [List.getElem?_set_ne (fun e => ej e.symm)]; exact hu, (hru.keep ht (fun g e => hvv j u g ej hu e)).keep tset (fun g e => hne0 j u g hu e), (hcu.turn ht (fun g e => hvv j u g ej hu e)).set _ _⟩
  · rw [hg0]
    rcases hcase j u hu with ⟨_, hu⟩ | ⟨_, rfl⟩
    · intro e2; exact hne0 j u g hu e (by simpa using e2.symm)
    · intro e2; exact hv'0 g e (by simpa using e2.symm)
  · have hx : ∀ (j : Nat) (u : Value), j ≠ i → ss[j]? = some u → u.ownBlock = some g → v'.ownBlock = some g → False := fun j u ej hu e e' => by
      rcases hs with hs | hs
      · exact hvv j u g ej hu e (by rw [← hs]; exact e')
      · rw [hs] at e'; cases e'; have := (h.lt hu e).2; have := hb.size; omega
    rcases hcase j u hu with ⟨ej, q1⟩ | ⟨ej, q1⟩
    · rcases hcase k u' hu' with ⟨ek, q2⟩ | ⟨ek, q2⟩
      · exact h.apart j k u u' g q1 q2 e e'
      · rw [q2] at e'
        exact (hx j u ej q1 e e').elim
    · rw [q1] at e
      rcases hcase k u' hu' with ⟨ek, q2⟩ | ⟨ek, q2⟩
      · exact (hx k u' ek q2 e' e).elim
      · omega
theorem Tab.rd {w : World} {base m c : Nat} {A : Option Addr} {ss : List Value} {Ls : List (List Ent)} (h : Tab w base (.slice A m c) ss Ls) : m = Ls.length ∧ Qs w w.heap.size A Ls := by
  have hlen := h.len
  have hm : m = Ls.length := by obtain ⟨A', cap', e, _⟩ := h.row; cases e; rfl
  subst hm
  refine ⟨rfl, ss, hlen, h.row.rd, fun i hi => ?_⟩
  obtain ⟨v, hv, hr, _⟩ := h.qs i hi
  obtain ⟨A', c', rfl, h1, h2⟩ := hr.shape
  exact ⟨A', c', hv, h1, h2, hr.rd⟩
theorem Tab.shape {w : World} {base : Nat} {s : Value} {ss : List Value} {Ls : List (List Ent)} (h : Tab w base s ss Ls) : ∃ A c, s = .slice A Ls.length c ∧ Ls.length ≤ c ∧ c ≤ 9223372036854775807 := h.row.shape
end Go.Proofs.YtpmafdggbeppcaaGreatDoor.S10
namespace Go.Proofs.YtpmafdggbeppcaaGreatDoor.S10
set_option maxRecDepth 100000
set_option maxHeartbeats 16000000
open Go.Proofs.YtpmafdggbeppcaaGreatDoor
open Go.RowKit
theorem keep3 {w w' : World} {base g o : Nat} {d : Ent} (hb : Below base w w') (hg : g < base) (h : w.cell? ⟨g, o, none⟩ = some (.int .i64 d.t) ∧ w.cell? ⟨g, o + 1, none⟩ = some (.int .u32 d.k) ∧ w.cell? ⟨g, o + 2, none⟩ = some (.int .u64 d.z)) :
    w'.cell? ⟨g, o, none⟩ = some (.int .i64 d.t) ∧ w'.cell? ⟨g, o + 1, none⟩ = some (.int .u32 d.k) ∧ w'.cell? ⟨g, o + 2, none⟩ = some (.int .u64 d.z) :=
  ⟨(hb.cell (by exact hg)).trans h.1, (hb.cell (by exact hg)).trans h.2.1, (hb.cell (by exact hg)).trans h.2.2⟩
theorem same_any {w : World} {b1 b2 : Nat} {A B : Option Addr} {D : List Ent} (c c' : Nat) (hr1 : Rd w b1 A (flat D)) (hr2 : Rd w b2 B (flat D)) (hb1 : b1 ≤ w.heap.size) (hb2 : b2 ≤ w.heap.size) (hlen : D.length ≤ 1000000) :
    Calls Tryz.prog 54 #[.slice A D.length c, .slice B D.length c'] w fun e w' => e = .returned (.bool true) ∧ Below w.heap.size w w' := by
  have H1 := Lib.hid hr1; have H2 := Lib.hid hr2; have HS1 := Lib.hid hb1; have HS2 := Lib.hid hb2
  clear hr1 hr2 hb1 hb2
  obtain ⟨n, hn⟩ : ∃ n, n = D.length := ⟨_, rfl⟩
  rw [← hn]
  have HN := Lib.hid hn
  have hn6 : n ≤ 1000000 := by omega
  clear hn hlen
  go_enter Tryz.func54, Tryz.ntmps54
  go_wp2_with fail
  go_loopg [5] n (fun q s5 wx => ∃ k : Nat, k ≤ n ∧ q = n - k ∧ s5 = .int .i64 (k : Int) ∧ Below w.heap.size w wx)
  case atStart => exact ⟨0, by omega, rfl, rfl, Below.refl _ _⟩
  case round =>
    obtain ⟨k, hk, rfl, rfl, hb⟩ := hrel
    have HB := Lib.hid hb
    clear hb
    by_cases hkn : k < n
    · obtain ⟨g1, o1, rfl, hg1, c0, c1, c2⟩ := (H1.out.below HB.out HS1.out).ent (i := k) (by have := HN.out; omega)
      obtain ⟨g2, o2, rfl, hg2, d0, d1, d2⟩ := (H2.out.below HB.out HS2.out).ent (i := k) (by have := HN.out; omega)
      have hl1 : g1 < wr.heap.size := by have := HB.out.size; have := HS1.out; omega
      have hl2 : g2 < wr.heap.size := by have := HB.out.size; have := HS2.out; omega
      generalize hd : D[k]! = d at *
      clear hd
      have hne := fun W => neqO d d W
      simp only [decide_true, Bool.not_true] at hne
      go_upto_region 6 with (fail)
      refine wp_region_held_drew (S := fun w' => (w'.cell? ⟨g1, o1 + k * 3, none⟩ = some (.int .i64 d.t) ∧ w'.cell? ⟨g1, o1 + k * 3 + 1, none⟩ = some (.int .u32 d.k) ∧ w'.cell? ⟨g1, o1 + k * 3 + 2, none⟩ = some (.int .u64 d.z)) ∧ (w'.cell? ⟨g2, o2 + k * 3, none⟩ = some (.int .i64 d.t) ∧ w'.cell? ⟨g2, o2 + k * 3 + 1, none⟩ = some (.int .u32 d.k) ∧ w'.cell? ⟨g2, o2 + k * 3 + 2, none⟩ = some (.int .u64 d.z)) ∧ Below wr.heap.size wr w') (by kernel_rfl) ?_ (fun hHeld => ?_)
      · exact ⟨⟨c0, c1, c2⟩, ⟨d0, d1, d2⟩, (Below.refl _ wr).drew⟩
      refine tA 0 ⟨some 17, .move (.tmp 0), 123, "help.go:28", #[], none⟩ ?v0 ?r0
      (try simp only [Act.put, tC, tD, tE])
      refine tA 1 ⟨some 18, .move (.tmp 5), 3, "help.go:28", #[], none⟩ ?v1 ?r1
      (try simp only [Act.put, tC, tD, tE])
      refine tA 2 ⟨some 19, .indexAddr 123 (.tmp 17) (.tmp 18), 0, "help.go:28", #[⟨0, .data⟩, ⟨1, .data⟩], none⟩ ?v2 ?r2
      (try simp only [Act.put, tC, tD, tE])
      refine tA 3 ⟨some 20, .load 39 (.tmp 19), 39, "help.go:28", #[⟨2, .data⟩], none⟩ ?v3 ?r3
      (try simp only [Act.put, tC, tD, tE])
      refine tA 5 ⟨some 22, .move (.tmp 1), 132, "help.go:28", #[], none⟩ ?v5 ?r5
      (try simp only [Act.put, tC, tD, tE])
      refine tA 6 ⟨some 23, .move (.tmp 5), 3, "help.go:28", #[], none⟩ ?v6 ?r6
      (try simp only [Act.put, tC, tD, tE])
      refine tA 7 ⟨some 24, .indexAddr 132 (.tmp 22) (.tmp 23), 0, "help.go:28", #[⟨5, .data⟩, ⟨6, .data⟩], none⟩ ?v7 ?r7
      (try simp only [Act.put, tC, tD, tE])
      refine tA 8 ⟨some 25, .load 230 (.tmp 24), 230, "help.go:28", #[⟨7, .data⟩], none⟩ ?v8 ?r8
      (try simp only [Act.put, tC, tD, tE])
      refine wpAnyH_ready (rs := [4]) (by kernel_rfl) (by simp) ?_
      refine AllReadyH.cons (o := ⟨some 21, .call ⟨.value (.func 92), #[.tmp 20], #[39]⟩, 230, "help.go:28", #[⟨3, .data⟩], none⟩) rfl (fun Kq hKq => ?_) AllReadyH.nil
      go_simp
      (refine (other_any d _).mono ?_; rintro e w1 ⟨rfl, hb1⟩)
      refine hKq.out _ _ ?_ (fun hHeld => ?_)
      · exact ⟨keep3 hb1 (by have := hHeld.2.2.size; omega) hHeld.1, keep3 hb1 (by have := hHeld.2.2.size; omega) hHeld.2.1, hHeld.2.2.trans (hb1.mono hHeld.2.2.size)⟩
      clear hKq Kq
      (try simp only [Act.put, tC, tD, tE])
      refine tA 9 ⟨some 26, .binOp .neq 230 (.tmp 21) (.tmp 25) 230, 4, "help.go:28", #[⟨4, .data⟩, ⟨8, .data⟩], none⟩ ?v9 ?r9
      (try simp only [Act.put, tC, tD, tE])
      refine wpAnyH_done (by kernel_rfl) ?_ _
      have HH := Lib.hid hHeld.2.2
      clear hHeld
      go_wp2_with fail
      go_roundg (n - (k + 1))
      case measure => omega
      case rel => exact ⟨k + 1, by omega, rfl, by go_num, HB.out.trans (HH.out.mono HB.out.size)⟩
    · obtain rfl : k = n := by omega
      go_wp2_with fail
      go_ret
      exact ⟨rfl, HB.out⟩
end Go.Proofs.YtpmafdggbeppcaaGreatDoor.S10
namespace Go.Proofs.YtpmafdggbeppcaaGreatDoor.S10
open Go.Proofs.YtpmafdggbeppcaaGreatDoor
open Go.RowKit
structure Bk where
  a : Int
  f : Int
  q : List Ent
instance : Inhabited Bk := ⟨⟨0, 0, []⟩⟩
abbrev nilS : Value := .slice none 0 0
def bcell (L : List Bk) (V : Nat → Value) (j : Nat) : Value :=
  if j % 3 = 0 then .int .u64 L[j / 3]!.a else if j % 3 = 1 then .int .u64 L[j / 3]!.f else V (j / 3)
def bflat (L : List Bk) (V : Nat → Value) : List Value := (List.range (L.length * 3)).map (bcell L V)
theorem bflat_len (L : List Bk) (V : Nat → Value) : (bflat L V).length = L.length * 3 := by simp [bflat]
theorem bflat_at (L : List Bk) (V : Nat → Value) {j : Nat} (h : j < L.length * 3) : (bflat L V)[j]? = some (bcell L V j) := by simp [bflat, h]
theorem bflat_get (L : List Bk) (V : Nat → Value) {i : Nat} (h : i < L.length) : (bflat L V)[i * 3]? = some (.int .u64 L[i]!.a) ∧ (bflat L V)[i * 3 + 1]? = some (.int .u64 L[i]!.f) ∧ (bflat L V)[i * 3 + 2]? = some (V i) := by
  refine ⟨?_, ?_, ?_⟩
  · rw [bflat_at L V (by omega)]
    simp [bcell]
  · rw [bflat_at L V (by omega)]
    simp [bcell, Nat.add_mod, show (i * 3 + 1) / 3 = i by omega]
  · rw [bflat_at L V (by omega)]
    simp [bcell, Nat.add_mod, show (i * 3 + 2) / 3 = i by omega]
def upd {α β : Type} [DecidableEq α] (f : α → β) (x : α) (y : β) : α → β := fun z => if z = x then y else f z
theorem upd_same {α β : Type} [DecidableEq α] (f : α → β) (x : α) (y : β) : upd f x y x = y := by simp [upd]
theorem upd_ne {α β : Type} [DecidableEq α] (f : α → β) {x z : α} (y : β) (h : z ≠ x) : upd f x y z = f z := by simp [upd, h]
theorem bflat_ext {L L' : List Bk} {V V' : Nat → Value} {cs : List Value} (hl : cs.length = L'.length * 3) (h : ∀ j, j < L'.length * 3 → cs[j]? = some (bcell L' V' j)) : cs = bflat L' V' := by
  refine List.ext_getElem? fun j => ?_
  by_cases hj : j < L'.length * 3
  · rw [h j hj, bflat_at L' V' hj]
  · rw [List.getElem?_eq_none (by omega), List.getElem?_eq_none (by rw [bflat_len]; omega)]
theorem bflat_q (L : List Bk) (V : Nat → Value) {i : Nat} (h : i < L.length) (v : Value) (q : List Ent) : (bflat L V).set (i * 3 + 2) v = bflat (L.set i { L[i]! with q := q }) (upd V i v) := by
  refine bflat_ext (L := L) (V := V) (by rw [List.length_set, List.length_set, bflat_len]) fun j hj => ?_
  rw [List.length_set] at hj
  unfold bcell
  rw [get_set h]
  by_cases e : j = i * 3 + 2
  · subst e
    rw [List.getElem?_set_self (by rw [bflat_len]; omega)]
    simp [Nat.add_mod, show (i * 3 + 2) / 3 = i by omega, upd_same]
  · rw [List.getElem?_set_ne (fun e' => e e'.symm), bflat_at L V hj]
    unfold bcell
    by_cases e2 : j / 3 = i
    · subst e2
      have : j % 3 ≠ 2 := fun e3 => e (by omega)
      by_cases e4 : j % 3 = 0
      · simp [e4]
      · simp [show j % 3 = 1 by omega]
    · rw [if_neg e2, upd_ne V v e2]
theorem bflat_a (L : List Bk) (V : Nat → Value) {i : Nat} (h : i < L.length) (a : Int) : (bflat L V).set (i * 3) (.int .u64 a) = bflat (L.set i { L[i]! with a := a }) V := by
  refine bflat_ext (L := L) (V := V) (by rw [List.length_set, List.length_set, bflat_len]) fun j hj => ?_
  rw [List.length_set] at hj
  unfold bcell
  rw [get_set h]
  by_cases e : j = i * 3
  · subst e
    rw [List.getElem?_set_self (by rw [bflat_len]; omega)]
    simp
  · rw [List.getElem?_set_ne (fun e' => e e'.symm), bflat_at L V hj]
    unfold bcell
    by_cases e2 : j / 3 = i
    · subst e2
      have : j % 3 ≠ 0 := fun e3 => e (by omega)
      by_cases e4 : j % 3 = 1
      · simp [e4]
      · simp [show j % 3 = 2 by omega]
    · rw [if_neg e2]
theorem bflat_f (L : List Bk) (V : Nat → Value) {i : Nat} (h : i < L.length) (f : Int) : (bflat L V).set (i * 3 + 1) (.int .u64 f) = bflat (L.set i { L[i]! with f := f }) V := by
  refine bflat_ext (L := L) (V := V) (by rw [List.length_set, List.length_set, bflat_len]) fun j hj => ?_
  rw [List.length_set] at hj
  unfold bcell
  rw [get_set h]
  by_cases e : j = i * 3 + 1
  · subst e
    rw [List.getElem?_set_self (by rw [bflat_len]; omega)]
    simp [Nat.add_mod, show (i * 3 + 1) / 3 = i by omega]
  · rw [List.getElem?_set_ne (fun e' => e e'.symm), bflat_at L V hj]
    unfold bcell
    by_cases e2 : j / 3 = i
    · subst e2
      have : j % 3 ≠ 1 := fun e3 => e (by omega)
      by_cases e4 : j % 3 = 0
      · simp [e4]
      · simp [show j % 3 = 2 by omega]
    · rw [if_neg e2]
theorem Row.setAt {w : World} {base g o n sz cap m : Nat} {cs : List Value} (h : Row w base sz (.slice (some ⟨g, o, none⟩) m cap) n cs) {i : Nat} (hi : i < n * sz) (v : Value) : Row (w.setCell ⟨g, o + i, none⟩ v) base sz (.slice (some ⟨g, o, none⟩) m cap) n (cs.set i v) := by
  obtain ⟨A, cap', e, h0, h1, h2, h3, h4⟩ := h
  cases e
  refine ⟨_, cap, rfl, by rw [List.length_set]; exact h0, h1, h2, h3, fun ad e => ?_⟩
  cases e
  obtain ⟨g', o', e, hb, hlt, hl, hc⟩ := h4 _ rfl
  cases e
  have hcap : n * sz ≤ cap * sz := Nat.mul_le_mul_right _ h1
  refine ⟨g, o, rfl, hb, by simpa [World.setCell] using hlt, fun j u e => ?_, fun j hj => ⟨?_, ?_⟩⟩
  · by_cases ej : j = i
    · subst ej
      rw [List.getElem?_set_self (by omega)] at e
      cases e
      obtain ⟨x, hx⟩ := Option.isSome_iff_exists.1 (hc j (by omega)).1
      exact World.cell?_setCell_same _ _ _ hx
    · rw [List.getElem?_set_ne (fun e => ej e.symm)] at e
      rw [World.cell?_setCell_other _ _ _ _ (by simp <;> omega)]
      exact hl j u e
  · by_cases ej : j = i
    · subst ej
      obtain ⟨x, hx⟩ := Option.isSome_iff_exists.1 (hc j (by omega)).1
      rw [World.cell?_setCell_same _ _ _ hx]; rfl
    · rw [World.cell?_setCell_other _ _ _ _ (by simp <;> omega)]
      exact (hc j hj).1
  · rw [World.frozen?_setCell]
    exact (hc j hj).2
/-! ### the map -/
def secR (v : Value) : Option (DataW Value × List MemPlace) := some (.held v, [])
theorem key3 : Go.Maps.Keyed Tryz.prog 3 := Go.Maps.int_keyed Tryz.underlying3
def InI (b : Int) : Prop := -9223372036854775808 ≤ b ∧ b ≤ 9223372036854775807
theorem wfB {b : Int} (h : InI b) : (Lit.int .i64 b).wf = true := by
  unfold InI at h
  simp [Lit.wf, IntKind.min, IntKind.max, IntKind.bits, IntKind.signed]; omega
theorem keyB {b : Int} (h : InI b) : keyOf Tryz.prog 3 (.int .i64 b) = some (.int .i64 b) := Go.Maps.keyOf_int_mk Tryz.underlying3 (wfB h)
theorem isKeyB (b : Int) : WideAt.IsKeyLit (.int .i64 b) := trivial
def MapAt (w : World) (mb n : Nat) (F : Int → Value) : Prop :=
  ∃ D, w.ownsMap Tryz.prog 3 secR mb n D ∧ Go.Maps.IsMap D ∧ ∀ b, D.atKey (.int .i64 b) (.held nilS) = .held (F b)
theorem MapAt.lt {w : World} {mb n : Nat} {F : Int → Value} (h : MapAt w mb n F) : mb < w.heap.size := by
  obtain ⟨D, h, _⟩ := h
  exact h.lt
theorem MapAt.keep {S : Nat → Prop} {w w' : World} {mb n : Nat} {F : Int → Value} (h : MapAt w mb n F) (t : Turns S w w') (hs : ¬ S mb) : MapAt w' mb n F := by
  have hlt := h.lt
  obtain ⟨D, ⟨es, clock, hb, hF, hsz, hD⟩, h2, h3⟩ := h
  exact ⟨D, ⟨es, clock, (t.block mb hlt hs).trans hb, hF, hsz, hD⟩, h2, h3⟩
theorem MapAt.made (w : World) : MapAt (w.alloc (.map #[] 0)) w.heap.size 0 (fun _ => nilS) :=
  ⟨.map [], World.ownsMap_made w _ _ _, Go.Maps.isMap_empty, fun b => rfl⟩
theorem zero69 (w : World) : (zeroValue 185).run Tryz.prog w = .ok nilS w := by
  simp [zeroValue, go_sem, Tryz.underlying185]; rfl
theorem MapAt.look {w : World} {mb n : Nat} {F : Int → Value} (h : MapAt w mb n F) {b : Int} (hb : InI b) : (Instr.lookup 223 (.map (some mb)) (.int .i64 b) false).run Tryz.prog w = .ok (F b) w := by
  obtain ⟨D, h1, h2, h3⟩ := h
  obtain ⟨v, ps, hrun, hv⟩ := h1.lookup key3 Tryz.underlying223 (zero69 w) (z := nilS) (zd := .held nilS) (zp := []) rfl (keyB hb)
  rw [h3 b] at hv
  simp only [secR, Option.some.injEq, Prod.mk.injEq, DataW.held.injEq] at hv
  rw [hrun, hv.1]
theorem MapAt.put {w : World} {mb n : Nat} {F : Int → Value} (h : MapAt w mb n F) (hn : n < 1000000) {b : Int} (hb : InI b) (v : Value) : ∃ w', (Instr.mapUpdate 223 (.map (some mb)) (.int .i64 b) v).run Tryz.prog w = .ok () w' ∧ MapAt w' mb (n + 1) (upd F b v) ∧ w.grownBy w' (some mb) := by
  obtain ⟨D, h1, h2, h3⟩ := h
  obtain ⟨w', hrun, h4, h5⟩ := h1.update key3 Tryz.underlying223 (by unfold maxLen; omega) (key := .int .i64 b) (val := v) (keyB hb) (d := .held v) (ps := []) rfl
  refine ⟨w', hrun, ⟨_, h4, h2.put _ _, fun x => ?_⟩, h5⟩
  by_cases e : x = b
  · subst e
    rw [Go.Maps.atKey_put_same h2 (isKeyB x), upd_same]
  · rw [Go.Maps.atKey_put_other (fun e' => e (by simpa using e')), upd_ne F v e, h3]
end Go.Proofs.YtpmafdggbeppcaaGreatDoor.S10
namespace Go.Proofs.YtpmafdggbeppcaaGreatDoor.S10
open Go.Proofs.YtpmafdggbeppcaaGreatDoor
open Go.RowKit
def Sv (w : World) (s : Value) (F : Int → Value) : Prop :=
  (s = .pointer none ∧ ∀ b, F b = nilS) ∨ ∃ sb, s = .pointer (some ⟨sb, 0, none⟩) ∧
    ((w.cell? ⟨sb, 0, none⟩ = some (.map none) ∧ ∀ b, F b = nilS) ∨ ∃ mb n, w.cell? ⟨sb, 0, none⟩ = some (.map (some mb)) ∧ MapAt w mb n F)
theorem Sv.below {w w' : World} {s : Value} {F : Int → Value} (h : Sv w s F) (hb : Below w.heap.size w w') : Sv w' s F := by
  rcases h with h | ⟨sb, rfl, ⟨hc, hF⟩ | ⟨mb, n, hc, hm⟩⟩
  · exact .inl h
  · refine .inr ⟨sb, rfl, .inl ⟨?_, hF⟩⟩
    have : sb < w.heap.size := (Array.getElem?_eq_some_iff.1 (cells_at (g := sb) (o := 0) (by rw [hc]; rfl)).choose_spec.choose_spec.choose_spec).1
    rw [hb.cell (p := ⟨sb, 0, none⟩) this]
    exact hc
  · refine .inr ⟨sb, rfl, .inr ⟨mb, n, ?_, hm.keep (Turns.of_below (S := fun _ => False) hb) (fun h => h)⟩⟩
    have : sb < w.heap.size := (Array.getElem?_eq_some_iff.1 (cells_at (g := sb) (o := 0) (by rw [hc]; rfl)).choose_spec.choose_spec.choose_spec).1
    rw [hb.cell (p := ⟨sb, 0, none⟩) this]
    exact hc
theorem table_any {w : World} {s : Value} {F : Int → Value} (h : Sv w s F) {b : Int} (hb : InI b) : Calls Tryz.prog 69 #[s, .int .i64 b] w fun e w' => e = .returned (F b) ∧ w = w' := by
  rcases h with ⟨rfl, hF⟩ | ⟨sb, rfl, ⟨hc, hF⟩ | ⟨mb, n, hc, hm⟩⟩
  · rw [hF b]
    clear hF
    go_enter Tryz.func69, Tryz.ntmps69
    go_wp2_with fail
    go_ret
    exact ⟨rfl, rfl⟩
  · rw [hF b]
    clear hF
    have hl : (Instr.lookup 223 (.map none) (.int .i64 b) false).run Tryz.prog w = .ok nilS w := Go.Maps.look_nil false key3 Tryz.underlying223 (zero69 w) (keyB hb)
    go_enter Tryz.func69, Tryz.ntmps69
    go_wp2_with fail
    go_ret
    exact ⟨rfl, rfl⟩
  · have hl := hm.look hb
    generalize F b = v at hl
    clear hm
    go_enter Tryz.func69, Tryz.ntmps69
    go_wp2_with fail
    go_ret
    exact ⟨rfl, rfl⟩
theorem has_any {w : World} {s : Value} {F : Int → Value} (h : Sv w s F) {b : Int} (hb : InI b) {A : Option Addr} {m c : Nat} (hF : F b = .slice A m c) : Calls Tryz.prog 49 #[s, .int .i64 b] w fun e w' => e = .returned (.bool (decide (0 < m))) ∧ w = w' := by
  have HT := Lib.hid (table_any h hb)
  rw [hF] at HT
  clear h hF
  go_enter Tryz.func49, Tryz.ntmps49
  go_wp2_with (go_at_call 69; refine HT.out.mono ?_; rintro e w' ⟨rfl, rfl⟩)
  go_ret
  exact ⟨by simp, rfl⟩
theorem at_no {w : World} {s : Value} {F : Int → Value} (h : Sv w s F) {b i : Int} (hb : InI b) {A : Option Addr} {m c : Nat} (hF : F b = .slice A m c) (hi : i < 0 ∨ (m : Int) ≤ i) :
    Calls Tryz.prog 89 #[s, .agg #[.int .i64 b, .int .i64 i]] w fun e w' => e = .returned (.pointer none) ∧ Below w.heap.size w w' := by
  have HT := Lib.hid (fun o => table_any (h.below (below1 w o)) hb)
  rw [hF] at HT
  clear h hF
  by_cases h0 : i < 0
  · have e0 : decide (i < 0) = true := by simpa using h0
    go_enter Tryz.func89, Tryz.ntmps89
    go_wp2_with (go_at_call 69; refine (HT.out _).mono ?_; rintro e w' ⟨rfl, rfl⟩)
    go_ret
    exact ⟨rfl, below1 w _⟩
  · have e0 : decide (i < 0) = false := by simpa using h0
    have e1 : decide ((m : Int) ≤ i) = true := by simp; omega
    go_enter Tryz.func89, Tryz.ntmps89
    go_wp2_with (go_at_call 69; refine (HT.out _).mono ?_; rintro e w' ⟨rfl, rfl⟩)
    go_ret
    exact ⟨rfl, below1 w _⟩
theorem at_yes {w : World} {s : Value} {F : Int → Value} (h : Sv w s F) {b : Int} {i : Nat} (hb : InI b) {g o m c : Nat} (hF : F b = .slice (some ⟨g, o, none⟩) m c) (hi : i < m) :
    Calls Tryz.prog 89 #[s, .agg #[.int .i64 b, .int .i64 (i : Int)]] w fun e w' => e = .returned (.pointer (some ⟨g, o + i * 3, none⟩)) ∧ Below w.heap.size w w' := by
  have HT := Lib.hid (fun o => table_any (h.below (below1 w o)) hb)
  rw [hF] at HT
  clear h hF
  have e0 : decide ((i : Int) < 0) = false := by simp
  have e1 : decide ((m : Int) ≤ (i : Int)) = false := by simp; omega
  have e2 : ¬ m ≤ i := by omega
  go_enter Tryz.func89, Tryz.ntmps89
  go_wp2_with (go_at_call 69; refine (HT.out _).mono ?_; rintro e w' ⟨rfl, rfl⟩)
  go_ret
  exact ⟨rfl, below1 w _⟩
theorem copied_any {w : World} {base : Nat} {A : Option Addr} {D : List Ent} (c : Nat) (hr : Rd w base A (flat D)) (hbase : base ≤ w.heap.size) (hlen : D.length ≤ 1000000) :
    Calls Tryz.prog 90 #[.slice A D.length c] w fun e w' => ∃ A', e = .returned (.slice A' D.length D.length) ∧ RowE w' w.heap.size (.slice A' D.length D.length) D ∧ Below w.heap.size w w' := by
  have HR := Lib.hid hr
  clear hr
  go_enter Tryz.func90, Tryz.ntmps90
  go_wp2_with (first
    | (at_builtin; refine wpList_append_row layE rfl _ _ rfl rfl (row_nil w w.heap.size 3) (fun u hu => by cases hu) (Nat.le_refl _) c rfl HR.out (flat_len D) (flat_one' D) (by omega) ?_; intro v' w2 hr2 ht2 ho2; (obtain ⟨A2, c2, rfl, hc2, hc29⟩ := hr2.shape); (have HR2 := Lib.hid hr2); (have HT2 := Lib.hid ht2); (clear hr2 ht2 ho2))
    | (go_at_call 125; refine (clip_any _ _ _ _ (by omega) (by omega)).mono ?_; rintro e w' ⟨rfl, rfl⟩))
  go_ret
  have hr := HR2.out
  simp only [Nat.zero_add, List.nil_append] at hr ⊢
  exact ⟨_, rfl, hr.clip, HT2.out.below (Nat.le_refl _) (fun k hk e => by change (none : Option Nat) = some k at e; cases e)⟩
end Go.Proofs.YtpmafdggbeppcaaGreatDoor.S10
