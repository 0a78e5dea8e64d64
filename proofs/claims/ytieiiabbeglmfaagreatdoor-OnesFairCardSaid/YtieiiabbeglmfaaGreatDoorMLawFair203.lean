/- Texts of this seat, one behind the other. -/
import Derived.Test.YtieiiabbeglmfaaGreatDoorProg
import Derived.WalkKit
import Derived.LoopTactic
import Derived.Outline
import Derived.Lib.Hide
import Derived.Deep.RegionWith
import Derived.Deep.AppendSrc
import Derived.Deep.Upon
import Derived.WalkSpells
set_option linter.unusedVariables false
set_option linter.unusedSimpArgs false
set_option linter.unusedVariables false
set_option linter.unusedSimpArgs false
namespace Go.Proofs.YtieiiabbeglmfaaGreatDoor.S11
open Go.Proofs.YtieiiabbeglmfaaGreatDoor
open Go.RowKit
structure Turns (S : Nat → Prop) (w w' : World) : Prop where
  os : w'.os = w.os
  tape : w'.tape = w.tape
  output : w'.output = w.output
  size : w.heap.size ≤ w'.heap.size
  block : ∀ k, k < w.heap.size → ¬ S k → w'.heap[k]? = w.heap[k]?
theorem Turns.refl (S : Nat → Prop) (w : World) : Turns S w w := ⟨rfl, rfl, rfl, Nat.le_refl _, fun _ _ _ => rfl⟩
theorem Turns.trans {S T : Nat → Prop} {a b c : World} (h : Turns S a b) (g : Turns T b c) (hs : ∀ k, k < a.heap.size → T k → S k) : Turns S a c :=
  ⟨g.os.trans h.os, g.tape.trans h.tape, g.output.trans h.output, Nat.le_trans h.size g.size, fun k hk hn => (g.block k (Nat.lt_of_lt_of_le hk h.size) (fun ht => hn (hs k hk ht))).trans (h.block k hk hn)⟩
theorem Turns.mono {S T : Nat → Prop} {a b : World} (h : Turns S a b) (hs : ∀ k, k < a.heap.size → S k → T k) : Turns T a b :=
  (Turns.refl T a).trans h hs
theorem Turns.of_below {S : Nat → Prop} {a b : World} (h : Below a.heap.size a b) : Turns S a b :=
  ⟨h.os, h.tape, h.output, h.size, fun k hk _ => h.block k hk⟩
theorem Turns.below {S : Nat → Prop} {a b : World} {B : Nat} (h : Turns S a b) (hB : B ≤ a.heap.size) (hs : ∀ k, k < B → ¬ S k) : Below B a b :=
  ⟨h.os, h.tape, h.output, h.size, fun k hk => h.block k (by omega) (hs k hk)⟩
theorem Turns.alloc {S : Nat → Prop} {a b : World} (h : Turns S a b) (o : Obj) : Turns S a (b.alloc o) :=
  h.trans (T := fun _ => False) ⟨rfl, rfl, rfl, by simp, fun k hk _ => Below.heap_alloc _ _ _ hk⟩ (fun _ _ h => h.elim)
theorem Turns.drew {S : Nat → Prop} {a b : World} (h : Turns S a b) : Turns S a b.drew :=
  ⟨h.os, h.tape, h.output, h.size, h.block⟩
theorem Turns.setCell {S : Nat → Prop} {a b : World} (h : Turns S a b) (p : Addr) (u : Value) (hp : S p.block) : Turns S a (b.setCell p u) :=
  h.trans (T := fun k => k = p.block) ⟨rfl, rfl, rfl, by simp [World.setCell], fun k _ hn => Below.heap_setCell _ _ _ _ hn⟩ (fun k _ e => e ▸ hp)
theorem Turns.setCells {S : Nat → Prop} {a b : World} (h : Turns S a b) (g : Nat) (hg : S g) : ∀ (vs : List Value) (o : Nat), Turns S a (b.setCells g o vs)
  | [], _ => h
  | v :: r, o => by
    have h1 := h.setCell ⟨g, o, none⟩ v hg
    exact Turns.setCells h1 g hg r (o + 1)
theorem Turns.cell {S : Nat → Prop} {a b : World} (h : Turns S a b) {g o : Nat} (hg : g < a.heap.size) (hn : ¬ S g) : b.cell? ⟨g, o, none⟩ = a.cell? ⟨g, o, none⟩ :=
  World.cell?_of_block (a := ⟨g, o, none⟩) (h.block g hg hn)
theorem Turns.frozen {S : Nat → Prop} {a b : World} (h : Turns S a b) {g o : Nat} (hg : g < a.heap.size) (hn : ¬ S g) : b.frozen? ⟨g, o, none⟩ = a.frozen? ⟨g, o, none⟩ :=
  World.frozen?_of_block (a := ⟨g, o, none⟩) (h.block g hg hn)
theorem cell_row {w : World} {B : Nat} {cs : Array Value} {T : TypeId} (h : w.heap[B]? = some (.cells cs T (0, 0))) (o : Nat) : w.cell? ⟨B, o, none⟩ = cs[o]? := by
  simp [World.cell?, h]
theorem froz_row {w : World} {B : Nat} {cs : Array Value} {T : TypeId} (h : w.heap[B]? = some (.cells cs T (0, 0))) (o : Nat) : w.frozen? ⟨B, o, none⟩ = false := by
  simp [World.frozen?, h]
theorem row_set {w : World} {B : Nat} {cs : Array Value} {T : TypeId} (h : w.heap[B]? = some (.cells cs T (0, 0))) (o : Nat) (v : Value) : (w.setCell ⟨B, o, none⟩ v).heap[B]? = some (.cells (cs.setIfInBounds o v) T (0, 0)) := by
  simp [World.setCell, Array.getElem?_modify, h]
structure Lay (S E sz bt : Nat) (z : Value) : Prop where
  und : Tryz.prog.underlying S = some (.slice E)
  info : ∃ i, Tryz.prog.info? E = some i ∧ i.zero = some z ∧ i.size = sz ∧ i.bytes = bt
  zc : z.cells.size = sz
  pos : 0 < sz
  few : bt ≤ 1000
def Lies (w : World) (g o : Nat) (cs : List Value) : Prop := ∀ j u, cs[j]? = some u → w.cell? ⟨g, o + j, none⟩ = some u
def Rd (w : World) (base : Nat) (A : Option Addr) (cs : List Value) : Prop := 0 < cs.length → ∃ g o, A = some ⟨g, o, none⟩ ∧ g < base ∧ Lies w g o cs
def Row (w : World) (base sz : Nat) (s : Value) (n : Nat) (cs : List Value) : Prop :=
  ∃ A cap, s = .slice A n cap ∧ cs.length = n * sz ∧ n ≤ cap ∧ cap ≤ maxLen ∧ (A = none → cap = 0) ∧
    ∀ ad, A = some ad → ∃ g o, ad = ⟨g, o, none⟩ ∧ base ≤ g ∧ g < w.heap.size ∧ Lies w g o cs ∧ ∀ j, j < cap * sz → (w.cell? ⟨g, o + j, none⟩).isSome = true ∧ w.frozen? ⟨g, o + j, none⟩ = false
theorem Lies.of {w w' : World} {g o : Nat} {cs : List Value} (h : Lies w g o cs) (e : ∀ j, w'.cell? ⟨g, o + j, none⟩ = w.cell? ⟨g, o + j, none⟩) : Lies w' g o cs := fun j u hj => (e j).trans (h j u hj)
theorem Rd.below {w w' : World} {base b : Nat} {A : Option Addr} {cs : List Value} (h : Rd w base A cs) (hb : Below b w w') (hbb : base ≤ b) : Rd w' base A cs := fun hp => by
  obtain ⟨g, o, e, hg, hl⟩ := h hp
  exact ⟨g, o, e, hg, hl.of fun j => hb.cell (p := ⟨g, o + j, none⟩) (by show g < b; omega)⟩
theorem Rd.kept {S : Nat → Prop} {w w' : World} {base : Nat} {A : Option Addr} {cs : List Value} (h : Rd w base A cs) (t : Turns S w w') (hb : base ≤ w.heap.size) (hs : ∀ k, k < base → ¬ S k) : Rd w' base A cs := fun hp => by
  obtain ⟨g, o, e, hg, hl⟩ := h hp
  exact ⟨g, o, e, hg, hl.of fun j => t.cell (by omega) (hs g hg)⟩
theorem Rd.drew {w : World} {base : Nat} {A : Option Addr} {cs : List Value} (h : Rd w base A cs) : Rd w.drew base A cs := h
theorem Row.drew {w : World} {base sz n : Nat} {s : Value} {cs : List Value} (h : Row w base sz s n cs) : Row w.drew base sz s n cs := h
theorem row_nil (w : World) (base sz : Nat) : Row w base sz (.slice none 0 0) 0 [] :=
  ⟨none, 0, rfl, by simp, Nat.le_refl _, Nat.zero_le _, fun _ => rfl, fun _ e => by cases e⟩
theorem Row.keep {S : Nat → Prop} {w w' : World} {base sz n : Nat} {s : Value} {cs : List Value} (h : Row w base sz s n cs) (t : Turns S w w') (hs : ∀ g, s.ownBlock = some g → ¬ S g) : Row w' base sz s n cs := by
  obtain ⟨A, cap, rfl, h0, h1, h2, h3, h4⟩ := h
  refine ⟨A, cap, rfl, h0, h1, h2, h3, fun ad e => ?_⟩
  obtain ⟨g, o, rfl, hb, hg, hl, hc⟩ := h4 ad e
  have hn := hs g (by rw [e]; rfl)
  exact ⟨g, o, rfl, hb, Nat.lt_of_lt_of_le hg t.size, hl.of fun j => t.cell hg hn, fun j hj => ⟨by rw [t.cell hg hn]; exact (hc j hj).1, (t.frozen hg hn).trans (hc j hj).2⟩⟩
theorem Row.lt {w : World} {base sz n : Nat} {s : Value} {cs : List Value} (h : Row w base sz s n cs) : ∀ g, s.ownBlock = some g → base ≤ g ∧ g < w.heap.size := by
  obtain ⟨A, cap, rfl, h0, h1, h2, h3, h4⟩ := h
  intro g hg
  cases A with
  | none => simp [Value.ownBlock] at hg
  | some ad =>
    obtain ⟨g', o, rfl, hb, hlt, _⟩ := h4 ad rfl
    have : g' = g := by simpa [Value.ownBlock] using hg
    subst this
    exact ⟨hb, hlt⟩
theorem Row.new {w w' : World} {base sz n : Nat} {s : Value} {cs : List Value} (h : Row w base sz s n cs) (hb : Below w.heap.size w w') : Row w' base sz s n cs :=
  h.keep (Turns.of_below (S := fun _ => False) hb) (fun _ _ e => e)
theorem Row.shape {w : World} {base sz n : Nat} {s : Value} {cs : List Value} (h : Row w base sz s n cs) : ∃ A cap, s = .slice A n cap ∧ n ≤ cap ∧ cap ≤ 9223372036854775807 := let ⟨A, cap, e, _, h1, h2, _⟩ := h; ⟨A, cap, e, h1, by unfold maxLen at h2; omega⟩
theorem Row.rd {w : World} {base sz n cap : Nat} {A : Option Addr} {cs : List Value} (h : Row w base sz (.slice A n cap) n cs) : Rd w w.heap.size A cs := fun hp => by
  obtain ⟨A', cap', e, h0, h1, h2, h3, h4⟩ := h
  cases e
  cases A with
  | none =>
    have := h3 rfl
    have : n = 0 := by omega
    subst this
    simp at h0
    simp [h0] at hp
  | some ad =>
    obtain ⟨g, o, rfl, hb, hlt, hl, _⟩ := h4 ad rfl
    exact ⟨g, o, rfl, hlt, hl⟩
theorem add_none (b o n : Nat) : (⟨b, o, none⟩ : Addr).add n = ⟨b, o + n, none⟩ := by unfold Addr.add; split <;> simp_all
theorem Rd.src {S E sz bt : Nat} {z : Value} (L : Lay S E sz bt z) {w : World} {base : Nat} {A : Option Addr} {es : List Value} (h : Rd w base A es) {m : Nat} (hl : es.length = m * sz) (h1 : ∀ u ∈ es, u.oneCell' = true) (c : Nat) : Src Tryz.prog sz S (.slice A m c) m es w := by
  by_cases hm : m = 0
  · subst hm
    obtain rfl : es = [] := List.eq_nil_of_length_eq_zero (by simpa using hl)
    cases A with
    | none => exact Src.ofNil w L.und c
    | some ad => exact Src.ofSlice w L.und ad 0 c [] (by simp) (fun j u e => by simp at e) (fun u hu => by cases hu)
  · have hp : 0 < es.length := by rw [hl]; exact Nat.mul_pos (by omega) L.pos
    obtain ⟨g, o, rfl, _, hc⟩ := h hp
    refine Src.ofSlice w L.und _ m c _ hl (fun j u e => ?_) h1
    rw [add_none]
    exact hc j u e
theorem Lies.app {w : World} {g o : Nat} {cs es : List Value} (h : Lies w g o cs) (h2 : Lies w g (o + cs.length) es) : Lies w g o (cs ++ es) := fun j u e => by
  by_cases hj : j < cs.length
  · rw [List.getElem?_append_left hj] at e
    exact h j u e
  · rw [List.getElem?_append_right (by omega)] at e
    have := h2 _ u e
    rwa [show o + cs.length + (j - cs.length) = o + j by omega] at this
theorem some_setCells (b : Nat) : ∀ (vs : List Value) (o : Nat) (w : World) (x : Addr), (w.cell? x).isSome = true → ((w.setCells b o vs).cell? x).isSome = true
  | [], _, _, _, h => h
  | v :: r, o, w, x, h => by
    refine some_setCells b r (o + 1) _ x ?_
    by_cases e : (⟨b, o, none⟩ : Addr) = x
    · subst e
      obtain ⟨u, hu⟩ := Option.isSome_iff_exists.1 h
      rw [World.cell?_setCell_same _ _ _ hu]; rfl
    · rw [World.cell?_setCell_other _ _ _ _ (fun e' => e (by rw [e']))]; exact h
theorem size_setCells' (b : Nat) : ∀ (vs : List Value) (o : Nat) (w : World), (w.setCells b o vs).heap.size = w.heap.size
  | [], _, _ => rfl
  | v :: r, o, w => by rw [World.setCells, size_setCells' b r]; simp [World.setCell]
theorem row_append {S E sz bt : Nat} {z : Value} (L : Lay S E sz bt z) {w : World} {base n : Nat} {s : Value} {cs : List Value} (h : Row w base sz s n cs) (h1c : ∀ u ∈ cs, u.oneCell' = true) (hbase : base ≤ w.heap.size) {b2 : Nat} {A : Option Addr} {m : Nat} {es : List Value} (c : Nat) (hr : Rd w b2 A es) (hm : es.length = m * sz) (h1e : ∀ u ∈ es, u.oneCell' = true) (hlen : n + m ≤ 3000000) (ty : TypeId) :
    ∃ s' w', (Builtin.append_ #[S, S] ty #[s, .slice A m c]).run Tryz.prog w = .ok s' w' ∧ Row w' base sz s' (n + m) (cs ++ es) ∧ Turns (fun k => s.ownBlock = some k) w w' ∧ (s'.ownBlock = s.ownBlock ∨ s'.ownBlock = some w.heap.size) := by
  obtain ⟨i, hi, hz, hsz, hby⟩ := L.info
  have hf := L.few
  have hsrow := h
  obtain ⟨B, cap, rfl, h0, h1, h2, h3, h4⟩ := h
  have hs := hr.src L hm h1e c
  rw [← hsz] at hs
  have hlen2 : (cs ++ es).length = (n + m) * sz := by rw [List.length_append, h0, hm, Nat.add_mul]
  by_cases hE : m = 0
  · subst hE
    obtain rfl : es = [] := List.eq_nil_of_length_eq_zero (by simpa using hm)
    refine ⟨_, w, run_append_nothing w S S ty E i L.und hi B n cap h1 _ hs, ?_, Turns.refl _ _, .inl rfl⟩
    rw [List.append_nil]
    exact hsrow
  · have hmax : n + m ≤ maxLen := by unfold maxLen; omega
    by_cases hroom : n + m ≤ cap
    · cases B with
      | none => have := h3 rfl; omega
      | some ad =>
        obtain ⟨g, o, rfl, hb, hlt, hl, hc⟩ := h4 ad rfl
        have hin : ∀ j, j < es.length → n * sz + j < cap * sz := fun j hj => by
          have : (n + m) * sz ≤ cap * sz := Nat.mul_le_mul_right _ hroom
          rw [Nat.add_mul] at this
          omega
        have hrun := run_append_room_src (P := Tryz.prog) w S S ty E i L.und hi g o n cap _ m es hs hroom
          (fun j hj => by rw [hsz, Nat.add_assoc]; exact (hc _ (hin j hj)).1) (fun j hj => by rw [hsz, Nat.add_assoc]; exact (hc _ (hin j hj)).2)
        rw [hsz] at hrun
        refine ⟨_, _, hrun, ?_, Turns.setCells (S := fun k => (Value.slice (some ⟨g, o, none⟩) n cap).ownBlock = some k) (Turns.refl _ w) g rfl _ _, .inl rfl⟩
        refine ⟨some ⟨g, o, none⟩, cap, rfl, hlen2, hroom, h2, (fun e => by cases e), fun ad e => ?_⟩
        cases e
        refine ⟨g, o, rfl, hb, by rw [size_setCells']; exact hlt, ?_, fun j hj => ⟨some_setCells _ _ _ _ _ (hc j hj).1, by rw [World.frozen?_setCells]; exact (hc j hj).2⟩⟩
        refine Lies.app (fun j u e => ?_) (fun j u e => ?_)
        · have hj : j < cs.length := (List.getElem?_eq_some_iff.1 e).1
          rw [World.cell?_setCells_out _ _ _ _ _ (fun _ _ => .inl (by show o + j < _; omega))]
          exact hl j u e
        · have hj : j < es.length := (List.getElem?_eq_some_iff.1 e).1
          have hin2 := World.cell?_setCells_in g es (o + n * sz) w (fun j hj => by rw [Nat.add_assoc]; exact (hc _ (hin j hj)).1) j hj
          rw [h0, hin2]
          exact (List.getElem?_eq_getElem hj).symm.trans e
    · have hold : (Builtin.firstCells i.size n (.slice B n cap)).run Tryz.prog w.drew = .ok cs.toArray w.drew := by
        have hr2 : Rd w.drew w.heap.size B cs := Row.rd (w := w.drew) (base := base) (cap := cap) hsrow
        have := (hr2.src L h0 h1c cap).cells
        rwa [hsz]
      have hge := grownCap_ge w (n + m) cap E
      have hcm := grownCap_le_maxLen w (n + m) cap E hmax
      have hbig : (n + m) * bt ≤ 140737488355328 := by
        have := Nat.mul_le_mul hlen hf
        omega
      have hrun := run_append_grow_src (P := Tryz.prog) w S S ty E i z L.und hi hz B n cap cs hold _ m es hs (by omega) (by omega) (growslice_fits (by omega) (by rw [hby]; exact hbig))
      have hnew := heap_alloc_new w.drew (.cells ((cs ++ es).toArray ++ Builtin.zeroCells z.cells (grownCap w (n + m) cap E - (n + m))) E)
      rw [show w.drew.heap.size = w.heap.size from rfl] at hnew
      refine ⟨_, _, hrun, ?_, ((Turns.refl _ w).drew).alloc _, .inr rfl⟩
      generalize grownCap w (n + m) cap E = cc at *
      have hzs : (Builtin.zeroCells z.cells (cc - (n + m))).size = (cc - (n + m)) * sz := by rw [size_zeroCells, L.zc]
      refine ⟨_, cc, rfl, hlen2, hge, hcm, (fun e => by cases e), fun ad e => ?_⟩
      cases e
      refine ⟨w.heap.size, 0, rfl, hbase, by simp, fun j u e => ?_, fun j hj => ⟨?_, froz_row hnew _⟩⟩
      · have hj : j < (cs ++ es).length := (List.getElem?_eq_some_iff.1 e).1
        rw [cell_row hnew, Nat.zero_add]
        rw [Array.getElem?_append_left (by simpa using hj)]
        simpa using e
      · rw [cell_row hnew, Nat.zero_add]
        have : j < ((cs ++ es).toArray ++ Builtin.zeroCells z.cells (cc - (n + m))).size := by
          rw [Array.size_append, hzs, List.size_toArray, hlen2, ← Nat.add_mul, show n + m + (cc - (n + m)) = cc by omega]
          exact hj
        rw [Array.getElem?_eq_getElem this]; rfl
end Go.Proofs.YtieiiabbeglmfaaGreatDoor.S11
