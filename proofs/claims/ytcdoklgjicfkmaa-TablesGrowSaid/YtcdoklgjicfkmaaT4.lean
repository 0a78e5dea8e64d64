/- A set of a call's own: who owns which block; a queue put, a timer put. -/
import Derived.Test.YtcdoklgjicfkmaaT3
namespace Go.Proofs.Ytcdoklgjicfkmaa
open Go.RowKit

/-- What a block is a set's for. -/
inductive Role where
  | set
  | map
  | tab (b : Int)
  | tim (b : Int)
  | q (b : Int) (i : Nat)
deriving DecidableEq
/-- Nothing is owned that was not, but new memory. -/
def Fresh (own own' : Nat → Option Role) (w : World) : Prop := ∀ g r, own' g = some r → (∃ r', own g = some r') ∨ w.heap.size ≤ g
theorem Fresh.refl (own : Nat → Option Role) (w : World) : Fresh own own w := fun _ r h => .inl ⟨r, h⟩
theorem Fresh.trans {a b c : Nat → Option Role} {w w1 : World} (h : Fresh a b w) (k : Fresh b c w1) (hs : w.heap.size ≤ w1.heap.size) : Fresh a c w := fun g r e => by
  rcases k g r e with ⟨r', e'⟩ | h'
  · exact h g r' e'
  · exact .inr (by omega)
/-- What is owned. -/
def Mine (own : Nat → Option Role) (g : Nat) : Prop := ∃ r, own g = some r
structure StF (w : World) (base : Nat) (own : Nat → Option Role) (s : Value) (n : Nat) (M : Int → List Bk) (sb mb : Nat) (F : Int → Value) (V : Int → Nat → Value) : Prop where
  fp : ∀ g r, own g = some r → base ≤ g ∧ g < w.heap.size
  hs : s = .pointer (some ⟨sb, 0, none⟩)
  hc : w.heap[sb]? = some (.cells #[.map (some mb)] 46 (0, 0))
  os : own sb = some .set
  hm : MapAt w mb n F
  om : own mb = some .map
  ht : ∀ b, Row w 0 3 (F b) (M b).length (bflat (M b) (V b))
  ot : ∀ b g, (F b).ownBlock = some g → own g = some (.tab b)
  hq : ∀ b i, i < (M b).length → RowE w 0 (V b i) (M b)[i]!.q
  oq : ∀ b i g, i < (M b).length → (V b i).ownBlock = some g → own g = some (.q b i)
/-- A set of a call's own. -/
def St (w : World) (base : Nat) (own : Nat → Option Role) (s : Value) (n : Nat) (M : Int → List Bk) : Prop := ∃ sb mb F V, StF w base own s n M sb mb F V
section
variable {w : World} {base : Nat} {own : Nat → Option Role} {s : Value} {n : Nat} {M : Int → List Bk} {sb mb : Nat} {F : Int → Value} {V : Int → Nat → Value}
theorem StF.keep (h : StF w base own s n M sb mb F V) {S : Nat → Prop} {w' : World} (t : Turns S w w') (hn : ∀ g, Mine own g → ¬ S g) : StF w' base own s n M sb mb F V :=
  ⟨fun g r e => ⟨(h.fp g r e).1, Nat.lt_of_lt_of_le (h.fp g r e).2 t.size⟩, h.hs, (t.block sb (h.fp sb _ h.os).2 (hn sb ⟨_, h.os⟩)).trans h.hc, h.os, h.hm.keep t (hn mb ⟨_, h.om⟩), h.om,
    fun b => (h.ht b).keep t (fun g e => hn g ⟨_, h.ot b g e⟩), h.ot, fun b i hi => (h.hq b i hi).keep t (fun g e => hn g ⟨_, h.oq b i g hi e⟩), h.oq⟩
theorem St.keep (h : St w base own s n M) {S : Nat → Prop} {w' : World} (t : Turns S w w') (hn : ∀ g, Mine own g → ¬ S g) : St w' base own s n M := by
  obtain ⟨sb, mb, F, V, h⟩ := h
  exact ⟨sb, mb, F, V, h.keep t hn⟩
theorem St.new (h : St w base own s n M) {w' : World} (hb : Below w.heap.size w w') : St w' base own s n M := h.keep (Turns.of_below (S := fun _ => False) hb) (fun _ _ e => e)
theorem St.fp (h : St w base own s n M) {g : Nat} (e : Mine own g) : base ≤ g ∧ g < w.heap.size := by
  obtain ⟨sb, mb, F, V, h⟩ := h
  obtain ⟨r, e⟩ := e
  exact h.fp g r e
theorem St.le (h : St w base own s n M) : base ≤ w.heap.size := by
  obtain ⟨sb, mb, F, V, h⟩ := h
  have := h.fp sb _ h.os
  omega
theorem StF.rs (h : StF w base own s n M sb mb F V) : Rs w s F M :=
  ⟨.inr ⟨sb, h.hs, .inr ⟨mb, n, cell_row h.hc 0, h.hm⟩⟩, fun b => by
    obtain ⟨A, c, e, h1, h2⟩ := (h.ht b).shape
    have hr := h.ht b
    rw [e] at hr
    refine ⟨A, c, V b, e, h1, h2, hr.rd, fun i hi => ?_⟩
    have hq := h.hq b i hi
    obtain ⟨A', c', e', h1', h2'⟩ := hq.shape
    rw [e'] at hq
    exact ⟨A', c', e', h1', h2', hq.rd⟩⟩
theorem St.rs (h : St w base own s n M) : ∃ F, Rs w s F M := by
  obtain ⟨sb, mb, F, V, h⟩ := h
  exact ⟨F, h.rs⟩
theorem StF.ne (h : StF w base own s n M sb mb F V) {g g' : Nat} {r r' : Role} (e : own g = some r) (e' : own g' = some r') (hr : r ≠ r') : g ≠ g' := fun h' => by
  subst h'
  rw [e] at e'
  exact hr (by simpa using e')
/-- A bucket of a set of a call's own: its table's block, and its three cells there. -/
theorem StF.bk (h : StF w base own s n M sb mb F V) {b : Int} {i : Nat} (hi : i < (M b).length) : ∃ g o c, F b = .slice (some ⟨g, o, none⟩) (M b).length c ∧ own g = some (.tab b) ∧
    (∀ j, j < 3 → ∃ v, w.cell? ⟨g, o + i * 3 + j, none⟩ = some v ∧ w.frozen? ⟨g, o + i * 3 + j, none⟩ = false) := by
  have hr := h.ht b
  obtain ⟨A, c, e, h0, h1, h2, h3, h4⟩ := hr
  cases A with
  | none => have := h3 rfl; omega
  | some ad =>
    obtain ⟨g, o, rfl, hb, hlt, hl, hc⟩ := h4 ad rfl
    refine ⟨g, o, c, e, h.ot b g (by rw [e]; rfl), fun j hj => ?_⟩
    obtain ⟨k1, k2⟩ := hc (i * 3 + j) (by omega)
    obtain ⟨v, hv⟩ := Option.isSome_iff_exists.1 k1
    rw [← Nat.add_assoc] at hv k2
    exact ⟨v, hv, k2⟩
/-- A set's blocks, one queue's put anew. -/
def ownQ (own : Nat → Option Role) (b : Int) (i : Nat) (v : Value) : Nat → Option Role := fun x => if v.ownBlock = some x then some (.q b i) else if own x = some (.q b i) then none else own x
theorem ownQ_keep {v : Value} {X : Nat} (hv : ∀ g, v.ownBlock = some g → X ≤ g) {b : Int} {i x : Nat} {r : Role} (e : own x = some r) (hx : x < X) (hr : r ≠ .q b i) : ownQ own b i v x = some r := by
  unfold ownQ
  rw [if_neg (fun e' => by have := hv x e'; omega), if_neg (fun e' => hr (by rw [e] at e'; simpa using e')), e]
theorem StF.putQ (h : StF w base own s n M sb mb F V) {b : Int} {i g o c : Nat} (hi : i < (M b).length) (hF : F b = .slice (some ⟨g, o, none⟩) (M b).length c) {w1 : World} (hb : Below w.heap.size w w1) {v : Value} {D : List Ent} (hv : RowE w1 w.heap.size v D) :
    StF (w1.setCell ⟨g, o + i * 3 + 2, none⟩ v) base (ownQ own b i v) s n (upd M b ((M b).set i { (M b)[i]! with q := D })) sb mb F (upd V b (upd (V b) i v)) := by
  have h1 := h.keep (Turns.of_below (S := fun _ => False) hb) (fun _ _ e => e)
  have hog : own g = some (.tab b) := h.ot b g (by rw [hF]; rfl)
  have hglt := (h.fp g _ hog).2
  have hvg : ∀ x, v.ownBlock = some x → w.heap.size ≤ x ∧ x < w1.heap.size := fun x e => hv.lt x e
  have hvx : ∀ x, v.ownBlock = some x → w.heap.size ≤ x := fun x e => (hvg x e).1
  have tset : Turns (fun k => k = g) w1 (w1.setCell ⟨g, o + i * 3 + 2, none⟩ v) := (Turns.refl _ w1).setCell _ _ rfl
  have hbase : base ≤ w.heap.size := by have := h.fp sb _ h.os; omega
  have hlen : ∀ b', (upd M b ((M b).set i { (M b)[i]! with q := D }) b').length = (M b').length := fun b' => by
    by_cases e : b' = b
    · subst e; rw [upd_same, List.length_set]
    · rw [upd_ne _ _ e]
  refine ⟨fun x r e => ?_, h.hs, ?_, ownQ_keep hvx h.os (h.fp sb _ h.os).2 (by simp), h1.hm.keep tset (h.ne h.om hog (by simp)), ownQ_keep hvx h.om (h.fp mb _ h.om).2 (by simp), fun b' => ?_, fun b' x e => ?_, fun b' j hj => ?_, fun b' j x hj e => ?_⟩
  · unfold ownQ at e
    have hsz : (w1.setCell ⟨g, o + i * 3 + 2, none⟩ v).heap.size = w1.heap.size := by simp [World.setCell]
    rw [hsz]
    by_cases e1 : v.ownBlock = some x
    · have := hvg x e1; omega
    · rw [if_neg e1] at e
      by_cases e2 : own x = some (.q b i)
      · rw [if_pos e2] at e; cases e
      · rw [if_neg e2] at e
        have := h.fp x r e
        have := hb.size
        omega
  · exact (tset.block sb (by have := (h1.fp sb _ h.os).2; exact this) (h.ne h.os hog (by simp))).trans h1.hc
  · rw [hlen]
    by_cases e : b' = b
    · subst e
      rw [upd_same, upd_same, ← bflat_q _ _ hi]
      have := h1.ht b'
      rw [hF] at this ⊢
      exact this.setAt (i := i * 3 + 2) (by omega) v
    · rw [upd_ne _ _ e, upd_ne _ _ e]
      exact (h1.ht b').keep tset (fun x ex => h.ne (h.ot b' x ex) hog (by simp; exact e))
  · exact ownQ_keep hvx (h.ot b' x e) (h.fp x _ (h.ot b' x e)).2 (by simp)
  · rw [hlen] at hj
    by_cases e : b' = b
    · subst e
      rw [upd_same, upd_same, get_set hi]
      by_cases e2 : j = i
      · subst e2
        rw [if_pos rfl, upd_same]
        exact (hv.keep tset (fun x ex e3 => by have := hvx x ex; omega)).base (Nat.zero_le _)
      · rw [if_neg e2, upd_ne _ _ e2]
        exact (h1.hq b' j hj).keep tset (fun x ex => h.ne (h.oq b' j x hj ex) hog (by simp))
    · rw [upd_ne _ _ e, upd_ne _ _ e]
      exact (h1.hq b' j hj).keep tset (fun x ex => h.ne (h.oq b' j x hj ex) hog (by simp))
  · rw [hlen] at hj
    by_cases e1 : b' = b ∧ j = i
    · obtain ⟨rfl, rfl⟩ := e1
      rw [upd_same, upd_same] at e
      unfold ownQ
      rw [if_pos e]
    · have e' : (V b' j).ownBlock = some x := by
        by_cases e2 : b' = b
        · subst e2
          rw [upd_same, upd_ne _ _ (fun e3 => e1 ⟨rfl, e3⟩)] at e
          exact e
        · rw [upd_ne _ _ e2] at e
          exact e
      exact ownQ_keep hvx (h.oq b' j x hj e') (h.fp x _ (h.oq b' j x hj e')).2 (by simp; exact fun e2 e3 => e1 ⟨e2, e3⟩)
theorem fresh_ownQ (own : Nat → Option Role) (b : Int) (i : Nat) {v : Value} {w : World} (hv : ∀ g, v.ownBlock = some g → w.heap.size ≤ g) : Fresh own (ownQ own b i v) w := fun g r e => by
  unfold ownQ at e
  by_cases e1 : v.ownBlock = some g
  · exact .inr (hv g e1)
  · rw [if_neg e1] at e
    by_cases e2 : own g = some (.q b i)
    · exact .inl ⟨_, e2⟩
    · rw [if_neg e2] at e
      exact .inl ⟨r, e⟩
/-- A timer put. -/
theorem StF.putT (h : StF w base own s n M sb mb F V) {b : Int} {i g o c : Nat} (hi : i < (M b).length) (hF : F b = .slice (some ⟨g, o, none⟩) (M b).length c) (ta tf : Int) :
    StF ((w.setCell ⟨g, o + i * 3, none⟩ (.int .u64 ta)).setCell ⟨g, o + i * 3 + 1, none⟩ (.int .u64 tf)) base own s n (upd M b ((M b).set i { (M b)[i]! with a := ta, f := tf })) sb mb F V := by
  have hog : own g = some (.tab b) := h.ot b g (by rw [hF]; rfl)
  have tset : Turns (fun k => k = g) w ((w.setCell ⟨g, o + i * 3, none⟩ (.int .u64 ta)).setCell ⟨g, o + i * 3 + 1, none⟩ (.int .u64 tf)) := ((Turns.refl (fun k => k = g) w).setCell ⟨g, o + i * 3, none⟩ _ rfl).setCell ⟨g, o + i * 3 + 1, none⟩ _ rfl
  have hlen : ∀ b', (upd M b ((M b).set i { (M b)[i]! with a := ta, f := tf }) b').length = (M b').length := fun b' => by
    by_cases e : b' = b
    · subst e; rw [upd_same, List.length_set]
    · rw [upd_ne _ _ e]
  refine ⟨fun x r e => ?_, h.hs, (tset.block sb (h.fp sb _ h.os).2 (h.ne h.os hog (by simp))).trans h.hc, h.os, h.hm.keep tset (h.ne h.om hog (by simp)), h.om, fun b' => ?_, h.ot, fun b' j hj => ?_, fun b' j x hj e => ?_⟩
  · have := h.fp x r e
    have := tset.size
    omega
  · rw [hlen]
    by_cases e : b' = b
    · subst e
      rw [upd_same]
      have := h.ht b'
      rw [hF] at this ⊢
      have h2 := (this.setAt (i := i * 3) (by omega) (.int .u64 ta)).setAt (i := i * 3 + 1) (by omega) (.int .u64 tf)
      rw [bflat_a _ _ hi, bflat_f _ _ (by rw [List.length_set]; exact hi), get_set hi, if_pos rfl, List.set_set] at h2
      rw [Nat.add_assoc]
      exact h2
    · rw [upd_ne _ _ e]
      exact (h.ht b').keep tset (fun x ex => h.ne (h.ot b' x ex) hog (by simp; exact e))
  · rw [hlen] at hj
    have : (upd M b ((M b).set i { (M b)[i]! with a := ta, f := tf }) b')[j]!.q = (M b')[j]!.q := by
      by_cases e : b' = b
      · subst e
        rw [upd_same, get_set hi]
        by_cases e2 : j = i
        · subst e2; rw [if_pos rfl]
        · rw [if_neg e2]
      · rw [upd_ne _ _ e]
    rw [this]
    exact (h.hq b' j hj).keep tset (fun x ex => h.ne (h.oq b' j x hj ex) hog (by simp))
  · rw [hlen] at hj
    exact h.oq b' j x hj e
end
end Go.Proofs.Ytcdoklgjicfkmaa
