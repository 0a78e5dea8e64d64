/- Lists of ints in memory: what they read as, what is kept, the first one gone, more behind. -/
import Derived.Test.YtlmgboggnljefaaC5
import Derived.Deep.AppendSrc
import Derived.Deep.Upon
import Derived.Deep.RegionHeld
import Derived.RegionTactic
import Derived.Deep.RegionLaw
import Derived.Deep.DrawnRows
namespace Go.Proofs.Ytlmgboggnljefaa
open Go.RowKit

/-- Numbers that stand from an address on. -/
def Lies (w : World) (g o : Nat) (D : List Nat) : Prop := ∀ i, i < D.length → w.cell? ⟨g, o + i, none⟩ = some (iv D[i]!)
/-- A list that is read: its memory lies below a base. -/
def Rd (w : World) (base : Nat) (A : Option Addr) (D : List Nat) : Prop := 0 < D.length → ∃ g o, A = some ⟨g, o, none⟩ ∧ g < base ∧ Lies w g o D
/-- A list of a call's own: its memory lies from base on, and may be written. -/
def Row (w : World) (base : Nat) (s : Value) (D : List Nat) : Prop :=
  ∃ A cap, s = .slice A D.length cap ∧ D.length ≤ cap ∧ cap ≤ maxLen ∧ (A = none → cap = 0) ∧
    ∀ ad, A = some ad → ∃ g o, ad = ⟨g, o, none⟩ ∧ base ≤ g ∧ g < w.heap.size ∧ Lies w g o D ∧ ∀ j, j < cap → (w.cell? ⟨g, o + j, none⟩).isSome = true ∧ w.frozen? ⟨g, o + j, none⟩ = false

theorem Rd.below {w w' : World} {base b : Nat} {A : Option Addr} {D : List Nat} (h : Rd w base A D) (hb : Below b w w') (hbb : base ≤ b) : Rd w' base A D := fun hp => by
  obtain ⟨g, o, e, hg, hl⟩ := h hp
  exact ⟨g, o, e, hg, fun i hi => (hb.cell (p := ⟨g, o + i, none⟩) (by show g < b; omega)).trans (hl i hi)⟩
theorem Rd.more {w : World} {base b : Nat} {A : Option Addr} {D : List Nat} (h : Rd w base A D) (hb : base ≤ b) : Rd w b A D := fun hp => by
  obtain ⟨g, o, e, hg, hl⟩ := h hp
  exact ⟨g, o, e, by omega, hl⟩
theorem Rd.kept {S : Nat → Prop} {w w' : World} {base : Nat} {A : Option Addr} {D : List Nat} (h : Rd w base A D) (t : Turns S w w') (hb : base ≤ w.heap.size) (hs : ∀ k, k < base → ¬ S k) : Rd w' base A D := fun hp => by
  obtain ⟨g, o, e, hg, hl⟩ := h hp
  exact ⟨g, o, e, hg, fun i hi => (t.cell (by omega) (hs g hg)).trans (hl i hi)⟩
theorem getD_take {D : List Nat} {k i : Nat} (h : i < (D.take k).length) : (D.take k)[i]! = D[i]! := by
  have h2 : i < D.length := by rw [List.length_take] at h; omega
  rw [getElem!_pos _ i h, getElem!_pos _ i h2, List.getElem_take]
theorem Rd.take {w : World} {base : Nat} {A : Option Addr} {D : List Nat} (h : Rd w base A D) (k : Nat) : Rd w base A (D.take k) := fun hp => by
  rw [List.length_take] at hp
  obtain ⟨g, o, e, hg, hl⟩ := h (by omega)
  refine ⟨g, o, e, hg, fun i hi => ?_⟩
  rw [getD_take hi]
  rw [List.length_take] at hi
  exact hl i (by omega)
theorem Rd.nil {w : World} {base : Nat} {A : Option Addr} : Rd w base A [] := fun h => by simp at h

theorem Row.drew {w : World} {base : Nat} {s : Value} {D : List Nat} (h : Row w base s D) : Row w.drew base s D := h
theorem Rd.drew {w : World} {base : Nat} {A : Option Addr} {D : List Nat} (h : Rd w base A D) : Rd w.drew base A D := h
theorem row_nil (w : World) (base : Nat) : Row w base (.slice none 0 0) [] :=
  ⟨none, 0, rfl, Nat.le_refl _, Nat.zero_le _, fun _ => rfl, fun _ e => by cases e⟩
theorem Row.keep {S : Nat → Prop} {w w' : World} {base : Nat} {s : Value} {D : List Nat} (h : Row w base s D) (t : Turns S w w') (hs : ∀ g, s.ownBlock = some g → ¬ S g) : Row w' base s D := by
  obtain ⟨A, cap, rfl, h1, h2, h3, h4⟩ := h
  refine ⟨A, cap, rfl, h1, h2, h3, fun ad e => ?_⟩
  obtain ⟨g, o, rfl, hb, hg, hl, hc⟩ := h4 ad e
  have hn := hs g (by rw [e]; rfl)
  exact ⟨g, o, rfl, hb, Nat.lt_of_lt_of_le hg t.size, fun i hi => (t.cell hg hn).trans (hl i hi), fun j hj => ⟨by rw [t.cell hg hn]; exact (hc j hj).1, (t.frozen hg hn).trans (hc j hj).2⟩⟩
theorem Row.lt {w : World} {base : Nat} {s : Value} {D : List Nat} (h : Row w base s D) : ∀ g, s.ownBlock = some g → base ≤ g ∧ g < w.heap.size := by
  obtain ⟨A, cap, rfl, h1, h2, h3, h4⟩ := h
  intro g hg
  cases A with
  | none => simp [Value.ownBlock] at hg
  | some ad =>
    obtain ⟨g', o, rfl, hb, hlt, _⟩ := h4 ad rfl
    have : g' = g := by simpa [Value.ownBlock] using hg
    subst this
    exact ⟨hb, hlt⟩
theorem Row.rd {w : World} {base : Nat} {A : Option Addr} {n cap : Nat} {D : List Nat} (h : Row w base (.slice A n cap) D) : Rd w w.heap.size A D := fun hp => by
  obtain ⟨A', cap', e, h1, h2, h3, h4⟩ := h
  cases e
  cases A with
  | none => have := h3 rfl; omega
  | some ad =>
    obtain ⟨g, o, rfl, hb, hlt, hl, _⟩ := h4 ad rfl
    exact ⟨g, o, rfl, hlt, hl⟩
/-- The first one is drawn: what the list is then. -/
theorem Row.tail {w : World} {base : Nat} {s : Value} {d : Nat} {D : List Nat} (h : Row w base s (d :: D)) :
    ∃ g o cap, s = .slice (some ⟨g, o, none⟩) (D.length + 1) cap ∧ w.cell? ⟨g, o, none⟩ = some (iv d) ∧ D.length + 1 ≤ cap ∧ cap ≤ maxLen ∧
      Row w base (.slice (some ⟨g, if cap = 1 then o else o + 1, none⟩) D.length (cap - 1)) D := by
  obtain ⟨A, cap, rfl, h1, h2, h3, h4⟩ := h
  simp only [List.length_cons] at h1 ⊢
  cases A with
  | none => have := h3 rfl; omega
  | some ad =>
    obtain ⟨g, o, rfl, hb, hlt, hl, hc⟩ := h4 ad rfl
    refine ⟨g, o, cap, rfl, ?_, h1, h2, _, _, rfl, by omega, by omega, (fun e => by cases e), fun ad e => ?_⟩
    · have := hl 0 (by simp)
      simpa using this
    · cases e
      refine ⟨g, _, rfl, hb, hlt, ?_, ?_⟩
      · intro i hi
        rw [if_neg (by omega)]
        have := hl (i + 1) (by simp; omega)
        rw [show o + (i + 1) = o + 1 + i by omega] at this
        simpa using this
      · intro j hj
        rw [if_neg (by omega), show o + 1 + j = o + (j + 1) by omega]
        exact hc (j + 1) (by omega)

theorem info3p : (Try.prog.info? 3).map (fun i => (i.zero, i.size, i.bytes)) = some (some (.int .i64 0), 1, 8) := by kernel_rfl
theorem info3 : ∃ i, Try.prog.info? 3 = some i ∧ i.zero = some (.int .i64 0) ∧ i.size = 1 ∧ i.bytes = 8 := by
  have h := info3p
  cases e : Try.prog.info? 3 with
  | none => rw [e] at h; cases h
  | some i =>
    rw [e] at h
    simp at h
    exact ⟨i, rfl, h.1, h.2.1, h.2.2⟩
theorem len_iv (D : List Nat) : (D.map iv).length = D.length := List.length_map ..
theorem one_iv (D : List Nat) : ∀ u ∈ D.map iv, u.oneCell' = true := fun u hu => by
  obtain ⟨_, _, rfl⟩ := List.mem_map.1 hu
  rfl
theorem get_iv {D : List Nat} {j : Nat} (h : j < D.length) : (D.map iv)[j]? = some (iv D[j]!) := by
  rw [List.getElem?_map, List.getElem?_eq_getElem h, getElem!_pos D j h]; rfl
theorem add_none (b o n : Nat) : (⟨b, o, none⟩ : Addr).add n = ⟨b, o + n, none⟩ := by unfold Addr.add; split <;> simp_all
theorem Rd.src {w : World} {base : Nat} {A : Option Addr} {E : List Nat} (h : Rd w base A E) (c : Nat) : Src Try.prog 1 49 (.slice A E.length c) E.length (E.map iv) w := by
  cases E with
  | nil =>
    cases A with
    | none => exact Src.ofNil w Try.underlying49 c
    | some ad => exact Src.ofSlice w Try.underlying49 ad 0 c [] rfl (fun j u e => by simp at e) (fun u hu => by cases hu)
  | cons d D =>
    obtain ⟨g, o, rfl, _, hl⟩ := h (by simp)
    refine Src.ofSlice w Try.underlying49 _ _ c _ (by simp) (fun j u e => ?_) (one_iv _)
    have hj : j < (d :: D).length := by
      have := (List.getElem?_eq_some_iff.1 e).1
      simpa using this
    rw [add_none, hl j hj, ← e, get_iv hj]
theorem get_app {D E : List Nat} {i : Nat} (h : i < D.length) : (D ++ E)[i]! = D[i]! := by
  rw [getElem!_pos _ i (by simp; omega), getElem!_pos _ i h, List.getElem_append_left h]
theorem get_app2 {D E : List Nat} {i : Nat} (h : D.length ≤ i) (h2 : i < D.length + E.length) : (D ++ E)[i]! = E[i - D.length]! := by
  rw [getElem!_pos _ i (by simp; omega), getElem!_pos _ (i - D.length) (by omega), List.getElem_append_right h]
theorem some_setCells (b : Nat) : ∀ (vs : List Value) (o : Nat) (w : World) (x : Addr), (w.cell? x).isSome = true → ((w.setCells b o vs).cell? x).isSome = true
  | [], _, _, _, h => h
  | v :: r, o, w, x, h => by
    refine some_setCells b r (o + 1) _ x ?_
    by_cases e : (⟨b, o, none⟩ : Addr) = x
    · subst e
      obtain ⟨u, hu⟩ := Option.isSome_iff_exists.1 h
      rw [World.cell?_setCell_same _ _ _ hu]; rfl
    · rw [World.cell?_setCell_other _ _ _ _ (fun e' => e (by rw [e']))]; exact h
theorem size_setCells' (b : Nat) : ∀ (vs : List Value) (o : Nat) (w : World), (w.setCells b o vs).heap.size = w.heap.size
  | [], _, _ => rfl
  | v :: r, o, w => by rw [World.setCells, size_setCells' b r]; simp [World.setCell]
/-- More behind: in the list's own memory, or in new memory. -/
theorem row_append {w : World} {base : Nat} {s : Value} {D : List Nat} (h : Row w base s D) (hbase : base ≤ w.heap.size) {b2 : Nat} {A : Option Addr} {E : List Nat} (c : Nat) (hr : Rd w b2 A E) (hlen : D.length + E.length ≤ 1000000) (ty : TypeId) :
    ∃ s' w', (Builtin.append_ #[49, 49] ty #[s, .slice A E.length c]).run Try.prog w = .ok s' w' ∧ Row w' base s' (D ++ E) ∧ Turns (fun k => s.ownBlock = some k) w w' ∧ (s'.ownBlock = s.ownBlock ∨ s'.ownBlock = some w.heap.size) := by
  obtain ⟨i, hi, hz, hsz, hby⟩ := info3
  obtain ⟨B, cap, rfl, h1, h2, h3, h4⟩ := h
  have hs := hr.src c
  rw [← hsz] at hs
  by_cases hE : E.length = 0
  · obtain rfl : E = [] := List.eq_nil_of_length_eq_zero hE
    refine ⟨_, w, run_append_nothing w 49 49 ty 3 i Try.underlying49 hi B D.length cap h1 _ hs, ?_, Turns.refl _ _, .inl rfl⟩
    rw [List.append_nil]
    exact ⟨B, cap, rfl, h1, h2, h3, h4⟩
  · have hmax : D.length + E.length ≤ maxLen := by unfold maxLen; omega
    by_cases hroom : D.length + E.length ≤ cap
    · cases B with
      | none => have := h3 rfl; omega
      | some ad =>
        obtain ⟨g, o, rfl, hb, hlt, hl, hc⟩ := h4 ad rfl
        have hlu := len_iv E
        have hrun := run_append_room_src (P := Try.prog) w 49 49 ty 3 i Try.underlying49 hi g o D.length cap _ E.length (E.map iv) hs hroom
          (fun j hj => by rw [hsz, Nat.mul_one, Nat.add_assoc]; exact (hc (D.length + j) (by omega)).1) (fun j hj => by rw [hsz, Nat.mul_one, Nat.add_assoc]; exact (hc (D.length + j) (by omega)).2)
        rw [hsz, Nat.mul_one] at hrun
        refine ⟨_, _, hrun, ?_, Turns.setCells (S := fun k => (Value.slice (some ⟨g, o, none⟩) D.length cap).ownBlock = some k) (Turns.refl _ w) g rfl _ _, .inl rfl⟩
        refine ⟨some ⟨g, o, none⟩, cap, by rw [List.length_append], by rw [List.length_append]; exact hroom, h2, (fun e => by cases e), fun ad e => ?_⟩
        cases e
        refine ⟨g, o, rfl, hb, by rw [size_setCells']; exact hlt, fun k hk => ?_, fun j hj => ⟨some_setCells _ _ _ _ _ (hc j hj).1, by rw [World.frozen?_setCells]; exact (hc j hj).2⟩⟩
        rw [List.length_append] at hk
        by_cases hkd : k < D.length
        · rw [World.cell?_setCells_out _ _ _ _ _ (fun _ _ => .inl (by show o + k < _; omega)), get_app hkd]
          exact hl k hkd
        · have hin := World.cell?_setCells_in g (E.map iv) (o + D.length) w (fun j hj => by rw [Nat.add_assoc]; exact (hc (D.length + j) (by omega)).1) (k - D.length) (by omega)
          rw [show o + D.length + (k - D.length) = o + k by omega] at hin
          rw [hin, get_app2 (by omega) hk]
          have := get_iv (D := E) (j := k - D.length) (by omega)
          rw [List.getElem?_eq_getElem (by omega)] at this
          exact this
    · have hold : (Builtin.firstCells i.size D.length (.slice B D.length cap)).run Try.prog w.drew = .ok (D.map iv).toArray w.drew := by
        have hr2 : Rd w.drew w.heap.size B D := Row.rd (w := w.drew) (base := base) (cap := cap) ⟨B, cap, rfl, h1, h2, h3, h4⟩
        have := (hr2.src cap).cells
        rwa [hsz]
      have hlu := len_iv E
      have hld := len_iv D
      have hge := grownCap_ge w (D.length + E.length) cap 3
      have hcm := grownCap_le_maxLen w (D.length + E.length) cap 3 hmax
      have hrun := run_append_grow_src (P := Try.prog) w 49 49 ty 3 i (.int .i64 0) Try.underlying49 hi hz B D.length cap (D.map iv) hold _ E.length (E.map iv) hs (by omega) (by omega) (growslice_fits (by omega) (by rw [hby]; omega))
      have hnew := heap_alloc_new w.drew (.cells ((D.map iv ++ E.map iv).toArray ++ Builtin.zeroCells (Value.int .i64 0).cells (grownCap w (D.length + E.length) cap 3 - (D.length + E.length))) 3)
      rw [show w.drew.heap.size = w.heap.size from rfl] at hnew
      refine ⟨_, _, hrun, ?_, ((Turns.refl _ w).drew).alloc _, .inr rfl⟩
      generalize grownCap w (D.length + E.length) cap 3 = cc at *
      have hzs : (Builtin.zeroCells (Value.int .i64 0).cells (cc - (D.length + E.length))).size = cc - (D.length + E.length) := by rw [size_zeroCells]; simp [Value.cells]
      refine ⟨_, cc, by rw [List.length_append], by rw [List.length_append]; exact hge, hcm, (fun e => by cases e), fun ad e => ?_⟩
      cases e
      refine ⟨w.heap.size, 0, rfl, hbase, by simp, fun k hk => ?_, fun j hj => ⟨?_, froz_row hnew _⟩⟩
      · rw [cell_row hnew, Nat.zero_add, ← List.map_append]
        rw [List.length_append] at hk
        rw [Array.getElem?_append_left (by simp; omega)]
        simp only [List.getElem?_toArray]
        exact get_iv (by simp; omega)
      · rw [cell_row hnew, Nat.zero_add]
        have : j < ((D.map iv ++ E.map iv).toArray ++ Builtin.zeroCells (Value.int .i64 0).cells (cc - (D.length + E.length))).size := by
          rw [Array.size_append, hzs]; simp; omega
        rw [Array.getElem?_eq_getElem this]; rfl
section
variable {P : Program} {w : World}
theorem wp_append_row {o : Oper} {a : Act} {K : Act → World → Prop} {Q : Exit → Act → World → Prop} (s x : Operand)
    (ho : o.op = .call { callee := .builtin .append, args := #[s, x], argTypes := #[49, 49] }) {base : Nat} {v : Value} {D : List Nat} (hs : a.eval s = v) (h : Row w base v D) (hbase : base ≤ w.heap.size)
    {b2 : Nat} {A : Option Addr} {n : Nat} {E : List Nat} (c : Nat) (hx : a.eval x = .slice A n c) (hn : n = E.length) (hr : Rd w b2 A E) (hlen : D.length + E.length ≤ 1000000)
    (hK : ∀ v' w', Row w' base v' (D ++ E) → Turns (fun k => v.ownBlock = some k) w w' → (v'.ownBlock = v.ownBlock ∨ v'.ownBlock = some w.heap.size) → K (a.put o.dst v') w') : o.wp Try.prog a w K Q := by
  subst hn
  obtain ⟨v', w', hrun, h2, h3, h4⟩ := row_append h hbase c hr hlen o.type
  unfold Oper.wp execOp
  simp only [ho, resolve, invoke, builtin, Sem.run_bind, Sem.run_pure, Result.andThen_ok, List.map_toArray, List.map_cons, List.map_nil, hs, hx, hrun]
  exact hK v' w' h2 h3 h4
theorem wpList_append_row {ops : Array Oper} {rest : List Oper} {o : Oper} {a : Act} {Q : Exit → Act → World → Prop} (hgd : o.guard = none) (s x : Operand)
    (ho : o.op = .call { callee := .builtin .append, args := #[s, x], argTypes := #[49, 49] }) {base : Nat} {v : Value} {D : List Nat} (hs : a.eval s = v) (h : Row w base v D) (hbase : base ≤ w.heap.size)
    {b2 : Nat} {A : Option Addr} {n : Nat} {E : List Nat} (c : Nat) (hx : a.eval x = .slice A n c) (hn : n = E.length) (hr : Rd w b2 A E) (hlen : D.length + E.length ≤ 1000000)
    (hK : ∀ v' w', Row w' base v' (D ++ E) → Turns (fun k => v.ownBlock = some k) w w' → (v'.ownBlock = v.ownBlock ∨ v'.ownBlock = some w.heap.size) → wpList Try.prog ops Q rest (a.put o.dst v') w') : wpList Try.prog ops Q (o :: rest) a w :=
  wpList_plain hgd fun _ hK' => wp_append_row s x ho hs h hbase c hx hn hr hlen fun v' w' h2 h3 h4 => hK' _ _ (hK v' w' h2 h3 h4)
theorem step_append_row {ops : Array Oper} {o : Oper} {a : Act} {K : Act → World → Prop} {Q : Exit → Act → World → Prop} {F : Prop} (hgd : o.guard = none) (s x : Operand)
    (ho : o.op = .call { callee := .builtin .append, args := #[s, x], argTypes := #[49, 49] }) {base : Nat} {v : Value} {D : List Nat} (hs : a.eval s = v) (h : Row w base v D) (hbase : base ≤ w.heap.size)
    {b2 : Nat} {A : Option Addr} {n : Nat} {E : List Nat} (c : Nat) (hx : a.eval x = .slice A n c) (hn : n = E.length) (hr : Rd w b2 A E) (hlen : D.length + E.length ≤ 1000000)
    (hK : ∀ v' w', Row w' base v' (D ++ E) → Turns (fun k => v.ownBlock = some k) w w' → (v'.ownBlock = v.ownBlock ∨ v'.ownBlock = some w.heap.size) → K (a.put o.dst v') w') :
    if Region.wanted o (yielded ops a.tmps) = true then Oper.wp Try.prog o a w K Q else F := by
  have hw : Region.wanted o (yielded ops a.tmps) = true := by simp [Region.wanted, hgd]
  rw [if_pos hw]
  exact wp_append_row s x ho hs h hbase c hx hn hr hlen hK
end
theorem Row.shape {w : World} {base : Nat} {s : Value} {D : List Nat} (h : Row w base s D) : ∃ A cap, s = .slice A D.length cap := let ⟨A, cap, e, _⟩ := h; ⟨A, cap, e⟩
end Go.Proofs.Ytlmgboggnljefaa
