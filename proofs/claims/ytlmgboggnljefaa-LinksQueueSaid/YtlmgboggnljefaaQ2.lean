/- A queue in links: what holds of it, and what a seek, a cut and a push leave. -/
import Derived.Test.YtlmgboggnljefaaC4
namespace Go.Proofs.Ytlmgboggnljefaa

/-- Threads q, as they came; the last one from the head on that knows its tail is the k-th. -/
structure Queue (S : Lk) (q : List Nat) (k : Nat) : Prop where
  nodup : ∀ i j, i < q.length → j < q.length → q[i]! = q[j]! → i = j
  lt : ∀ i, i < q.length → q[i]! < 64
  hk : k < q.length
  tail : S (q[k]! * 3 + 2) = q[0]! + 1
  none : ∀ j, k < j → j < q.length → S (q[j]! * 3 + 2) = 0
  next : ∀ j, j + 1 < q.length → S (q[j + 1]! * 3) = q[j]! + 1
  prev : ∀ j, j < k → S (q[j]! * 3 + 1) = q[j + 1]! + 1
  last : S (q[q.length - 1]! * 3 + 1) = 0
def Good (S : Lk) (q : List Nat) : Prop := q = [] ∨ ∃ k, Queue S q k
theorem upd_same (S : Lk) (i v : Nat) : upd S i v i = v := by unfold upd; rw [if_pos rfl]
theorem upd_else {S : Lk} {i j v : Nat} (h : j ≠ i) : upd S i v j = S j := by unfold upd; rw [if_neg h]
/-- From the (k + d)-th on the way ends at the k-th. -/
theorem way (q : List Nat) (k : Nat) : ∀ (d m : Nat) (S : Lk), d ≤ m → k + d < q.length → (∀ i j, i < q.length → j < q.length → q[i]! = q[j]! → i = j) →
    S (q[k]! * 3 + 2) ≠ 0 → (∀ j, k < j → j < q.length → S (q[j]! * 3 + 2) = 0) → (∀ j, j + 1 < q.length → S (q[j + 1]! * 3) = q[j]! + 1) →
    ∃ S', go m S q[k + d]! = (S', some q[k]!) ∧ (∀ x, S' (x * 3) = S (x * 3)) ∧ (∀ x, S' (x * 3 + 2) = S (x * 3 + 2)) ∧ (∀ j, k ≤ j → j < k + d → S' (q[j]! * 3 + 1) = q[j + 1]! + 1) ∧
      (∀ x, (∀ j, k ≤ j → j < k + d → x ≠ q[j]!) → S' (x * 3 + 1) = S (x * 3 + 1)) := by
  intro d
  induction d with
  | zero =>
    intro m S _ _ _ hk _ _
    exact ⟨S, by rw [Nat.add_zero, go_stop m (.inl hk)], fun _ => rfl, fun _ => rfl, fun j h1 h2 => by omega, fun _ _ => rfl⟩
  | succ d ih =>
    intro m S hm hd hnd hk hno hne
    obtain ⟨m, rfl⟩ : ∃ m', m = m' + 1 := ⟨m - 1, by omega⟩
    have h2 := hno (k + d + 1) (by omega) (by omega)
    have h0 := hne (k + d) (by omega)
    have hgo := go_on m h2 h0
    obtain ⟨S', e1, e2, e3, e4, e5⟩ := ih m (upd S (q[k + d]! * 3 + 1) (q[k + d + 1]! + 1)) (by omega) (by omega) hnd
      (by rw [upd_else (by omega)]; exact hk) (fun j h1 h2 => by rw [upd_else (by omega)]; exact hno j h1 h2) (fun j h1 => by rw [upd_else (by omega)]; exact hne j h1)
    refine ⟨S', by rw [show k + (d + 1) = k + d + 1 by omega, hgo]; exact e1, fun x => by rw [e2, upd_else (by omega)], fun x => by rw [e3, upd_else (by omega)], fun j h1 h2 => ?_, fun x hx => ?_⟩
    · by_cases hj : j < k + d
      · exact e4 j h1 hj
      · obtain rfl : j = k + d := by omega
        rw [e5 _ (fun j h3 h4 e => by have := hnd _ _ (by omega) (by omega) e; omega), upd_same]
    · have hx2 := hx (k + d) (by omega) (by omega)
      rw [e5 x (fun j h3 h4 => hx j h3 (by omega)), upd_else (by omega)]
/-- At most as many as there are. -/
theorem pigeon : ∀ (N n : Nat) (f : Nat → Nat), (∀ i j, i < n → j < n → f i = f j → i = j) → (∀ i, i < n → f i < N) → n ≤ N := by
  intro N
  induction N with
  | zero =>
    intro n f _ hl
    cases n with
    | zero => exact Nat.le_refl _
    | succ n => have := hl 0 (by omega); omega
  | succ N ih =>
    intro n f hi hl
    by_cases h : ∃ i, i < n ∧ f i = N
    · obtain ⟨i, hin, hiN⟩ := h
      have := ih (n - 1) (fun j => if j < i then f j else f (j + 1)) (fun a b ha hb e => by
        by_cases h1 : a < i <;> by_cases h2 : b < i <;> simp only [h1, h2, if_true, if_false] at e
        · exact hi a b (by omega) (by omega) e
        · have := hi a (b + 1) (by omega) (by omega) e; omega
        · have := hi (a + 1) b (by omega) (by omega) e; omega
        · have := hi (a + 1) (b + 1) (by omega) (by omega) e; omega) (fun a ha => by
        by_cases h1 : a < i
        · simp only [h1, if_true]
          have h2 := hl a (by omega)
          have h3 : f a ≠ N := fun e => by have := hi a i (by omega) hin (by omega); omega
          omega
        · simp only [h1, if_false]
          have h2 := hl (a + 1) (by omega)
          have h3 : f (a + 1) ≠ N := fun e => by have := hi (a + 1) i (by omega) hin (by omega); omega
          omega)
      omega
    · have := ih n f hi (fun i hin => by
        have h2 := hl i hin
        have h3 : f i ≠ N := fun e => h ⟨i, hin, e⟩
        omega)
      omega
theorem short (q : List Nat) (h : ∀ i j, i < q.length → j < q.length → q[i]! = q[j]! → i = j) (hl : ∀ i, i < q.length → q[i]! < 64) : q.length ≤ 64 :=
  pigeon 64 q.length (fun i => q[i]!) h hl
section
variable {S : Lk} {q : List Nat} {k : Nat}
/-- What a seek from the head tells, and leaves. -/
theorem Queue.seek (h : Queue S q k) : (seekO S (some q[q.length - 1]!)).2 = q[0]! + 1 ∧ Queue (seekO S (some q[q.length - 1]!)).1 q (q.length - 1) := by
  have hk := h.hk
  have h64 := short q h.nodup h.lt
  obtain ⟨S', e1, e2, e3, e4, e5⟩ := way q k (q.length - 1 - k) 64 S (by omega) (by omega) h.nodup (by rw [h.tail]; omega) h.none h.next
  rw [show k + (q.length - 1 - k) = q.length - 1 by omega] at e1 e4 e5
  have ht : S' (q[k]! * 3 + 2) = q[0]! + 1 := by rw [e3]; exact h.tail
  have hr : seekO S (some q[q.length - 1]!) = (upd S' (q[q.length - 1]! * 3 + 2) (q[0]! + 1), q[0]! + 1) := by
    rw [seekO, seekS, e1, closeS, ht]
  rw [hr]
  refine ⟨rfl, ⟨h.nodup, h.lt, by omega, upd_same _ _ _, fun j h1 h2 => by omega, fun j hj => ?_, fun j hj => ?_, ?_⟩⟩
  · show upd S' _ _ _ = _
    rw [upd_else (by omega), e2]; exact h.next j hj
  · show upd S' _ _ _ = _
    rw [upd_else (by omega)]
    by_cases hjk : j < k
    · rw [e5 _ (fun i h1 h2 e => by have := h.nodup _ _ (by omega) (by omega) e; omega)]
      exact h.prev j hjk
    · exact e4 j (by omega) (by omega)
  · show upd S' _ _ _ = _
    rw [upd_else (by omega), e5 _ (fun i h1 h2 e => by have := h.nodup _ _ (by omega) (by omega) e; omega)]
    exact h.last
/-- One more than who is next behind the tail. -/
def nx (q : List Nat) : Nat := if 1 < q.length then q[1]! + 1 else 0
theorem Queue.nx (h : Queue S q (q.length - 1)) : S (q[0]! * 3 + 1) = Ytlmgboggnljefaa.nx q := by
  have hk := h.hk
  unfold Ytlmgboggnljefaa.nx
  by_cases h1 : 1 < q.length
  · rw [if_pos h1]
    exact h.prev 0 (by omega)
  · rw [if_neg h1]
    have := h.last
    rwa [show q.length - 1 = 0 by omega] at this
theorem tail_get {q : List Nat} (i : Nat) : q.tail[i]! = q[i + 1]! := by
  cases q with
  | nil => rfl
  | cons a r => rfl
/-- What a cut behind a seek tells, and leaves. -/
theorem Queue.cut (h : Queue S q (q.length - 1)) : (cutO S (some q[q.length - 1]!) (some q[0]!)).2 = Ytlmgboggnljefaa.nx q ∧ Good (cutO S (some q[q.length - 1]!) (some q[0]!)).1 q.tail := by
  have hk := h.hk
  refine ⟨by show S _ = _; exact h.nx, ?_⟩
  by_cases h1 : 1 < q.length
  · right
    have hp := h.prev 0 (by omega)
    have hc : cutO S (some q[q.length - 1]!) (some q[0]!) = (upd S (q[q.length - 1]! * 3 + 2) (S (q[0]! * 3 + 1)), S (q[0]! * 3 + 1)) := cut_pos (by rw [hp]; omega)
    rw [hc, hp]
    have hl : q.tail.length = q.length - 1 := List.length_tail
    refine ⟨q.length - 2, ⟨fun i j hi hj e => ?_, fun i hi => ?_, by omega, ?_, fun j h1 h2 => by omega, fun j hj => ?_, fun j hj => ?_, ?_⟩⟩
    · rw [tail_get, tail_get] at e
      have := h.nodup _ _ (by omega) (by omega) e
      omega
    · rw [tail_get]; exact h.lt _ (by omega)
    · rw [tail_get, tail_get, show q.length - 2 + 1 = q.length - 1 by omega]
      exact upd_same _ _ _
    · rw [tail_get, tail_get]
      show upd S _ _ _ = _
      rw [upd_else (by omega)]
      exact h.next _ (by omega)
    · rw [tail_get, tail_get]
      show upd S _ _ _ = _
      rw [upd_else (by omega)]
      exact h.prev _ (by omega)
    · rw [tail_get, hl, show q.length - 1 - 1 + 1 = q.length - 1 by omega]
      show upd S _ _ _ = _
      rw [upd_else (by omega)]
      exact h.last
  · left
    exact List.eq_nil_of_length_eq_zero (by rw [List.length_tail]; omega)
theorem snoc_old {t i : Nat} (h : i < q.length) : (q ++ [t])[i]! = q[i]! := by
  rw [getElem!_pos _ i (by simp; omega), getElem!_pos _ i h, List.getElem_append_left h]
theorem snoc_new {t : Nat} : (q ++ [t])[q.length]! = t := by
  rw [getElem!_pos _ q.length (by simp)]; simp
/-- A push ahead of the head. -/
theorem Queue.push (h : Queue S q k) {t : Nat} (ht : t < 64) (hn : ∀ i, i < q.length → q[i]! ≠ t) : Queue (pushS S (some t) (some q[q.length - 1]!)) (q ++ [t]) k := by
  have hk := h.hk
  have hl : (q ++ [t]).length = q.length + 1 := by simp
  have hold : ∀ i j, i < q.length → j < 3 → pushS S (some t) (some q[q.length - 1]!) (q[i]! * 3 + j) = S (q[i]! * 3 + j) := fun i j hi hj => by
    have := hn i hi
    rw [pushS, pushed, put3, upd_else (by omega), upd_else (by omega), upd_else (by omega)]
  refine ⟨fun i j hi hj e => ?_, fun i hi => ?_, by omega, ?_, fun j h1 h2 => ?_, fun j hj => ?_, fun j hj => ?_, ?_⟩
  · by_cases hi2 : i < q.length
    · rw [snoc_old hi2] at e
      by_cases hj2 : j < q.length
      · rw [snoc_old hj2] at e
        exact h.nodup i j hi2 hj2 e
      · obtain rfl : j = q.length := by omega
        rw [snoc_new] at e
        exact absurd e (hn i hi2)
    · obtain rfl : i = q.length := by omega
      by_cases hj2 : j < q.length
      · rw [snoc_old hj2, snoc_new] at e
        exact absurd e.symm (hn j hj2)
      · omega
  · by_cases hi2 : i < q.length
    · rw [snoc_old hi2]; exact h.lt i hi2
    · obtain rfl : i = q.length := by omega
      rw [snoc_new]; exact ht
  · rw [snoc_old hk, snoc_old (by omega), hold k 2 hk (by omega)]
    exact h.tail
  · by_cases hj2 : j < q.length
    · rw [snoc_old hj2, hold j 2 hj2 (by omega)]
      exact h.none j h1 hj2
    · obtain rfl : j = q.length := by omega
      rw [snoc_new]
      rw [pushS, pushed, put3, upd_same]
  · by_cases hj2 : j + 1 < q.length
    · have := hold (j + 1) 0 hj2 (by omega)
      rw [Nat.add_zero] at this
      rw [snoc_old hj2, snoc_old (by omega), this]
      exact h.next j hj2
    · obtain rfl : j = q.length - 1 := by omega
      rw [show q.length - 1 + 1 = q.length by omega, snoc_new, snoc_old (by omega)]
      rw [pushS, pushed, put3, upd_else (by omega), upd_else (by omega), upd_same]
  · rw [snoc_old (by omega), snoc_old (by omega), hold j 1 (by omega) (by omega)]
    exact h.prev j hj
  · rw [hl, Nat.add_sub_cancel, snoc_new]
    rw [pushS, pushed, put3, upd_else (by omega), upd_same]
theorem queue_one {t : Nat} (ht : t < 64) : Queue (pushS S (some t) none) [t] 0 := by
  refine ⟨fun i j hi hj _ => by simp at hi hj; omega, fun i hi => ?_, by simp, ?_, fun j h1 h2 => by simp at h2; omega, fun j hj => by simp at hj, fun j hj => by omega, ?_⟩
  · obtain rfl : i = 0 := by simpa using hi
    exact ht
  · show pushS S (some t) none (t * 3 + 2) = t + 1
    rw [pushS, pushed, put3, upd_same]
  · show pushS S (some t) none (t * 3 + 1) = 0
    rw [pushS, pushed, put3, upd_else (by omega), upd_same]
end
end Go.Proofs.Ytlmgboggnljefaa
