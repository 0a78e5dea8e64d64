/- Chosen: by a row, by one that takes all, by none. -/
import Derived.Test.YtemdaafnmjenmaaD4
namespace Go.Proofs.Ytemdaafnmjenmaa
open Go.RowKit

theorem fch_not {key : Int} {ch : Nat → Nat} {s : Ch} {e : Ent} (h : e.k ≠ key ∨ s.stopped = true) : fch key ch s e = (false, s) := if_pos h
theorem fch_asked {key : Int} {ch : Nat → Nat} {s : Ch} {e : Ent} (h : ¬ (e.k ≠ key ∨ s.stopped = true)) : fch key ch s e = (decide (ch s.asked.length = 0), ⟨stopB (ch s.asked.length), s.asked ++ [e.z]⟩) := if_neg h
theorem chl_lt (cl : List Nat) (i : Nat) : chl (ints cl) i < 256 := by
  unfold chl
  split
  · rename_i h
    rw [getElem!_pos (ints cl) i h]
    simp [ints]
    omega
  · omega
/-- Behind k calls: the key, the filter, whether it stopped, the row. -/
def rowI (key : Int) (Bk Bs Bf b0 B : Nat) (Lp : Option Addr) (cl : List Nat) (c : Nat) (k : Nat) (st : Ch) (F : Nat → Prop) (W : World) : Prop :=
  ∃ s, W.heap[Bk]? = some (.cells #[.int .u32 key] 24 (0, 0)) ∧ W.heap[Bf]? = some (.cells #[.iface 54 (.pointer (some ⟨B, 0, none⟩))] 74 (0, 0)) ∧ W.heap[Bs]? = some (.cells #[.bool st.stopped] 4 (0, 0)) ∧
    RowAt W b0 B Lp cl c s st.asked ∧ (∀ g, s.ownBlock = some g → g ≠ Bk ∧ g ≠ Bf ∧ g ≠ Bs) ∧ F = (fun b => b = Bs ∨ b = B ∨ s.ownBlock = some b) ∧ st.asked.length ≤ k
theorem row_clo (key : Int) {Bk Bs Bf b0 B base n : Nat} (Lp : Option Addr) (cl : List Nat) (c : Nat) (hn : n ≤ 1000) (hc : cl.length ≤ 1000) (hby : ∀ x ∈ cl, x < 256) (h0 : b0 ≤ Bk ∧ b0 ≤ Bs ∧ b0 ≤ Bf) (hd : Bk ≠ Bs ∧ Bk ≠ B ∧ Bf ≠ Bs ∧ Bf ≠ B ∧ Bs ≠ B) (hl : Bk < base ∧ Bs < base ∧ Bf < base ∧ B < base) :
    Clo 34 #[.pointer (some ⟨Bk, 0, none⟩), .pointer (some ⟨Bs, 0, none⟩), .pointer (some ⟨Bf, 0, none⟩)] (fch key (chl (ints cl))) base n (rowI key Bk Bs Bf b0 B Lp cl c) where
  call := fun k st F W e hk hI hbase => by
    obtain ⟨s, h1, h2, h3, h4, h5, rfl, h6⟩ := hI
    have l1 := (Array.getElem?_eq_some_iff.1 h1).1
    have l2 := (Array.getElem?_eq_some_iff.1 h2).1
    have l3 := (Array.getElem?_eq_some_iff.1 h3).1
    by_cases hq : e.k ≠ key ∨ st.stopped = true
    · rw [fch_not hq]
      refine (not_asked _ e h1 h3 hq).mono fun e' W' ⟨he, hb⟩ => ⟨he, (fun b => b = Bs ∨ b = B ∨ s.ownBlock = some b), ⟨s, (hb.block _ l1).trans h1, (hb.block _ l2).trans h2, (hb.block _ l3).trans h3, h4.keep (Turns.of_below (S := fun _ => False) hb) (fun e => e) (fun _ _ e => e) (fun _ _ e => e), h5, rfl, Nat.le_succ_of_le h6⟩, Turns.of_below hb, fun b hb => .inl hb⟩
    · rw [fch_asked hq]
      obtain ⟨stop, asked⟩ := st
      have hst : stop = false := by cases stop with | true => exact absurd (Or.inr rfl) hq | false => rfl
      have hek : e.k = key := Decidable.of_not_not (fun h => hq (.inl h))
      subst hst; subst hek
      have hb := below1 W (.cells #[.int .i64 e.t, .int .u32 e.k, .int .u64 e.z] 36)
      have h4' := h4.keep (Turns.of_below (S := fun _ => False) hb) (fun e => e) (fun _ _ e => e) (fun _ _ e => e)
      have h6' : asked.length ≤ k := h6
      have hch := choose_any e.z h4' hc (show asked.length ≤ 1000 by omega) hby
      have hown := h4.own.lt
      have hlow := h4.low
      have hcall : Calls Try.prog 53 #[.pointer (some ⟨B, 0, none⟩), .int .u64 e.z] (W.alloc (.cells #[.int .i64 e.t, .int .u32 e.k, .int .u64 e.z] 36)) fun e' W' => e' = .returned (.int .u8 (chl (ints cl) asked.length : Nat)) ∧ W'.heap[Bs]? = some (.cells #[.bool false] 4 (0, 0)) ∧ Chose (W.alloc (.cells #[.int .i64 e.t, .int .u32 e.k, .int .u64 e.z] 36)) b0 B Lp cl c s asked e.z W' := by
        refine hch.mono fun e' W' hh => ⟨hh.1, ?_, hh.2⟩
        obtain ⟨s', _, _, t⟩ := hh.2
        exact (t.block Bs (by simp; omega) (fun h => by
          rcases h with h | h
          · omega
          · exact (h5 Bs h).2.2 rfl)).trans ((hb.block _ l3).trans h3)
      refine (asked_row (Bk := Bk) (Bs := Bs) (Bf := Bf) e (chl (ints cl) asked.length) (chl_lt _ _) _ h1 h3 h2 hcall).mono fun e' W' ⟨he, W2, hW2, ⟨s', hR, ho, ht⟩, hW'⟩ => ?_
      have t2 : Turns (fun b => b = Bs) W2 W' := by rw [hW']; exact (Turns.refl _ _).setCell _ _ rfl
      have hap : ∀ g, s'.ownBlock = some g → g ≠ Bk ∧ g ≠ Bf ∧ g ≠ Bs := fun g hg => by
        rcases ho with ho | ⟨g', ho, hg'⟩
        · exact h5 g (ho ▸ hg)
        · rw [ho] at hg
          injection hg with hg
          simp at hg'
          omega
      have hn1 : ∀ b, b = Bk ∨ b = Bf → ¬ (b = B ∨ s.ownBlock = some b) := fun b hb' h => by
        rcases h with h | h
        · omega
        · have := h5 b h; omega
      have t0 : Turns (fun b => b = B ∨ s.ownBlock = some b) W W2 := ((Turns.refl _ W).alloc _).trans ht (fun _ _ h => h)
      refine ⟨he, (fun b => b = Bs ∨ b = B ∨ s'.ownBlock = some b), ⟨s', ?_, ?_, ?_, ?_, hap, rfl, ?_⟩, (t0.mono (fun _ _ h => .inr h)).trans t2 (fun _ _ h => .inl h), fun b hb' => ?_⟩
      · exact (t2.block Bk (Nat.lt_of_lt_of_le l1 t0.size) (by omega)).trans ((t0.block Bk l1 (hn1 _ (.inl rfl))).trans h1)
      · exact (t2.block Bf (Nat.lt_of_lt_of_le l2 t0.size) (by omega)).trans ((t0.block Bf l2 (hn1 _ (.inr rfl))).trans h2)
      · rw [hW']
        exact row_set hW2 0 _
      · exact hR.keep t2 (by omega) (fun g hg => (hap g hg).2.2) (fun b hb => by omega)
      · simp only [List.length_append, List.length_singleton]; omega
      · rcases hb' with h | h | h
        · exact .inl (.inl h)
        · exact .inl (.inr (.inl h))
        · rcases ho with ho | ⟨g', ho, hg'⟩
          · exact .inl (.inr (.inr (ho ▸ h)))
          · rw [ho] at h
            injection h with h
            simp at hg'
            exact .inr (by omega)
  keep := fun k st F W W' S hI t hS => by
    obtain ⟨s, h1, h2, h3, h4, h5, rfl, h6⟩ := hI
    have l1 := (Array.getElem?_eq_some_iff.1 h1).1
    have l2 := (Array.getElem?_eq_some_iff.1 h2).1
    have l3 := (Array.getElem?_eq_some_iff.1 h3).1
    have hlow := h4.low
    refine ⟨s, (t.block Bk l1 (fun h => by have := (hS _ h).1; omega)).trans h1, (t.block Bf l2 (fun h => by have := (hS _ h).1; omega)).trans h2, (t.block Bs l3 (fun h => by have := (hS _ h).1; omega)).trans h3, h4.keep t (fun h => by have := (hS _ h).1; omega) (fun g hg h => (hS _ h).2 (.inr (.inr hg))) (fun b hb h => by have := (hS _ h).1; omega), h5, rfl, h6⟩
  lt := fun k st F W b hI hF => by
    obtain ⟨s, h1, h2, h3, h4, h5, rfl, h6⟩ := hI
    have l3 := (Array.getElem?_eq_some_iff.1 h3).1
    rcases hF with hF | hF | hF
    · omega
    · have := h4.lt; omega
    · exact (h4.own.lt b hF).2
/-- Behind k calls of one that takes all. -/
def allI (key : Int) (Bk Bs Bf : Nat) (k : Nat) (st : Ch) (F : Nat → Prop) (W : World) : Prop :=
  W.heap[Bk]? = some (.cells #[.int .u32 key] 24 (0, 0)) ∧ W.heap[Bf]? = some (.cells #[.iface 67 (.agg #[])] 74 (0, 0)) ∧ W.heap[Bs]? = some (.cells #[.bool false] 4 (0, 0)) ∧ st.stopped = false ∧ F = (fun b => b = Bs)
theorem all_clo (key : Int) {Bk Bs Bf base n : Nat} (hd : Bk ≠ Bs ∧ Bf ≠ Bs) (hl : Bk < base ∧ Bs < base ∧ Bf < base) :
    Clo 34 #[.pointer (some ⟨Bk, 0, none⟩), .pointer (some ⟨Bs, 0, none⟩), .pointer (some ⟨Bf, 0, none⟩)] (fch key (fun _ => 0)) base n (allI key Bk Bs Bf) where
  call := fun k st F W e hk hI hbase => by
    obtain ⟨h1, h2, h3, h4, rfl⟩ := hI
    have l1 := (Array.getElem?_eq_some_iff.1 h1).1
    have l2 := (Array.getElem?_eq_some_iff.1 h2).1
    have l3 := (Array.getElem?_eq_some_iff.1 h3).1
    by_cases hq : e.k ≠ key ∨ st.stopped = true
    · rw [fch_not hq]
      rw [← h4] at h3
      refine (not_asked _ e h1 h3 hq).mono fun e' W' ⟨he, hb⟩ => ⟨he, (fun b => b = Bs), ⟨(hb.block _ l1).trans h1, (hb.block _ l2).trans h2, by rw [hb.block _ l3, h3, h4], h4, rfl⟩, Turns.of_below hb, fun b hb => .inl hb⟩
    · rw [fch_asked hq]
      have hek : e.k = key := Decidable.of_not_not (fun h => hq (.inl h))
      subst hek
      refine (asked_all (Bk := Bk) (Bs := Bs) (Bf := Bf) e h1 h3 h2).mono fun e' W' ⟨he, W2, hb, hW'⟩ => ?_
      have t2 : Turns (fun b => b = Bs) W2 W' := by rw [hW']; exact (Turns.refl _ _).setCell _ _ rfl
      refine ⟨he, (fun b => b = Bs), ⟨?_, ?_, ?_, rfl, rfl⟩, (Turns.of_below hb).trans t2 (fun _ _ h => h), fun b hb => .inl hb⟩
      · exact (t2.block Bk (Nat.lt_of_lt_of_le l1 hb.size) (by omega)).trans ((hb.block Bk l1).trans h1)
      · exact (t2.block Bf (Nat.lt_of_lt_of_le l2 hb.size) (by omega)).trans ((hb.block Bf l2).trans h2)
      · rw [hW']
        exact row_set ((hb.block Bs l3).trans h3) 0 _
  keep := fun k st F W W' S hI t hS => by
    obtain ⟨h1, h2, h3, h4, rfl⟩ := hI
    have l1 := (Array.getElem?_eq_some_iff.1 h1).1
    have l2 := (Array.getElem?_eq_some_iff.1 h2).1
    have l3 := (Array.getElem?_eq_some_iff.1 h3).1
    exact ⟨(t.block Bk l1 (fun h => by have := (hS _ h).1; omega)).trans h1, (t.block Bf l2 (fun h => by have := (hS _ h).1; omega)).trans h2, (t.block Bs l3 (fun h => by have := (hS _ h).1; omega)).trans h3, h4, rfl⟩
  lt := fun k st F W b hI hF => by
    obtain ⟨h1, h2, h3, h4, rfl⟩ := hI
    have l3 := (Array.getElem?_eq_some_iff.1 h3).1
    have hF' : b = Bs := hF
    omega
/-- Behind k calls of no filter: it stopped ahead of them all. -/
def nilI (key : Int) (Bk Bs : Nat) (k : Nat) (st : Ch) (F : Nat → Prop) (W : World) : Prop :=
  W.heap[Bk]? = some (.cells #[.int .u32 key] 24 (0, 0)) ∧ W.heap[Bs]? = some (.cells #[.bool true] 4 (0, 0)) ∧ st.stopped = true ∧ F = (fun _ => False)
theorem nil_clo (key : Int) {Bk Bs : Nat} (pf : Value) {base n : Nat} (ch : Nat → Nat) (hl : Bk < base ∧ Bs < base) :
    Clo 34 #[.pointer (some ⟨Bk, 0, none⟩), .pointer (some ⟨Bs, 0, none⟩), pf] (fch key ch) base n (nilI key Bk Bs) where
  call := fun k st F W e hk hI hbase => by
    obtain ⟨h1, h3, h4, rfl⟩ := hI
    have l1 := (Array.getElem?_eq_some_iff.1 h1).1
    have l3 := (Array.getElem?_eq_some_iff.1 h3).1
    rw [fch_not (.inr h4)]
    exact (not_asked pf e h1 h3 (.inr rfl)).mono fun e' W' ⟨he, hb⟩ => ⟨he, (fun _ => False), ⟨(hb.block _ l1).trans h1, (hb.block _ l3).trans h3, h4, rfl⟩, Turns.of_below hb, fun b hb => .inl hb⟩
  keep := fun k st F W W' S hI t hS => by
    obtain ⟨h1, h3, h4, rfl⟩ := hI
    have l1 := (Array.getElem?_eq_some_iff.1 h1).1
    have l3 := (Array.getElem?_eq_some_iff.1 h3).1
    exact ⟨(t.block Bk l1 (fun h => by have := (hS _ h).1; omega)).trans h1, (t.block Bs l3 (fun h => by have := (hS _ h).1; omega)).trans h3, h4, rfl⟩
  lt := fun k st F W b hI hF => by
    obtain ⟨h1, h3, h4, rfl⟩ := hI
    exact hF.elim
end Go.Proofs.Ytemdaafnmjenmaa
