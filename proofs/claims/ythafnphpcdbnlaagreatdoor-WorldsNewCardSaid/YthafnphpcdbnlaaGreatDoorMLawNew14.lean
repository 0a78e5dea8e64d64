/- Texts of this seat, one behind the other. -/
import Derived.Test.YthafnphpcdbnlaaGreatDoorMLawNew13
set_option linter.unusedVariables false
set_option linter.unusedSimpArgs false
set_option linter.unusedVariables false
set_option linter.unusedSimpArgs false
namespace Go.Proofs.YthafnphpcdbnlaaGreatDoor.S2
open Go.Proofs.YthafnphpcdbnlaaGreatDoor
open Go.RowKit Go.Maps

set_option maxHeartbeats 1000000 in
theorem rstore_any (w : World) (base R : Nat) (s : Value) (L : LL) (n k0 a0 was is a v : Nat) (h : RefAt w base R s L n k0 a0 was is) (hbase : base ≤ w.heap.size) (ha : a < 4294967296) (hn : n < 4611686018427387904) (hv : v < 18446744073709551616) :
    Calls Tryz.prog 51 #[Pt R, .int .u32 a, .int .u64 v] w fun e w' => e = .returned (.int .u64 (look L a : Nat)) ∧ RLeft w w' base R (putL L a (bring a (v))) (n + 1) 2 a (look L a) (bring a (v)) := by
  have hl := look_lt h.good a

  have hc := racc_any w base R s L n k0 a0 was is 2 a (v) h hbase ha hn (hv)

  generalize look L a = l at *

  have HC := Lib.hid hc
  clear hc h
  go_enter Tryz.func51, Tryz.ntmps51
  go_wp2_with (first
      | (go_at_call 80; refine HC.out.mono ?_; rintro e w' ⟨rfl, hr⟩; (have HR := Lib.hid hr; clear hr)))
  go_ret
  exact ⟨rfl, HR.out⟩
theorem RefAt.kept {S : Nat → Prop} {w w' : World} {base R : Nat} {s : Value} {L : LL} {n k a was is : Nat} (h : RefAt w base R s L n k a was is) (t : Turns S w w') (hR : ¬ S R) (hs : ∀ g, s.ownBlock = some g → ¬ S g) : RefAt w' base R s L n k a was is :=
  ⟨h.good, (t.block R (Array.getElem?_eq_some_iff.1 h.row).1 hR).trans h.row, row_keep h.own t hs, h.ne⟩
theorem RefAt.lt {w : World} {base R : Nat} {s : Value} {L : LL} {n k a was is : Nat} (h : RefAt w base R s L n k a was is) : R < w.heap.size := (Array.getElem?_eq_some_iff.1 h.row).1
/-- The program's cells and the document's, of one content, side by side, in blocks of a call's own. -/
structure Both (w : World) (base B R : Nat) (L : LL) (n k a was is : Nat) : Prop where
  size : base ≤ w.heap.size
  fb : base ≤ B
  fr : base ≤ R
  ne : R ≠ B
  byt : Byt L
  own : ∃ M s, CellsAt w B M L n k a was is ∧ RefAt w base R s L n k a was is ∧ (∀ m, M = some m → base ≤ m ∧ m ≠ R ∧ s.ownBlock ≠ some m) ∧ s.ownBlock ≠ some B
/-- Both went one step on. -/
theorem both_step {w w1 w2 : World} {base B R : Nat} {M : Option Nat} {s : Value} {L L' : LL} {n k a was is n' k' a' was' is' : Nat} (hsz : base ≤ w.heap.size) (fb : base ≤ B) (fr : base ≤ R) (hne : R ≠ B) (c : CellsAt w B M L n k a was is) (r : RefAt w base R s L n k a was is)
    (hm : ∀ m, M = some m → base ≤ m ∧ m ≠ R ∧ s.ownBlock ≠ some m) (hs : s.ownBlock ≠ some B) (byt : Byt L') (l1 : Left w w1 B M L' n' k' a' was' is')
    (l2 : ∃ s', RefAt w2 base R s' L' n' k' a' was' is' ∧ (s'.ownBlock = s.ownBlock ∨ ∀ g, s'.ownBlock = some g → w1.heap.size ≤ g) ∧ Turns (fun j => j = R) w1 w2) : Both w2 base B R L' n' k' a' was' is' ∧ Below base w w2 := by
  obtain ⟨M', c1, same, t1⟩ := l1
  obtain ⟨s', r2, hown, t2⟩ := l2
  have hRlt := r.lt
  have hc1 := c1.lt
  have hm' : ∀ m, M' = some m → base ≤ m ∧ m ≠ R := fun m e => by
    rcases same m e with e | e
    · exact ⟨(hm m e).1, (hm m e).2.1⟩
    · omega
  have hso := r.own.lt
  refine ⟨⟨Nat.le_trans hsz (Nat.le_trans t1.size t2.size), fb, fr, hne, byt, M', s', ?_, r2, fun m e => ⟨(hm' m e).1, (hm' m e).2, ?_⟩, ?_⟩, ?_⟩
  · refine c1.kept t2 ?_
    rintro j (rfl | e) ej
    · exact hne ej.symm
    · exact (hm' j e).2 ej
  · intro eg
    rcases hown with h | h
    · rw [h] at eg
      rcases same m e with e' | e'
      · exact (hm m e').2.2 eg
      · have := (hso m eg).2; omega
    · have := h m eg
      have := hc1 m (.inr e)
      omega
  · intro eg
    rcases hown with h | h
    · rw [h] at eg; exact hs eg
    · have := h B eg
      have := hc1 B (.inl rfl)
      omega
  · have b1 : Below base w w1 := t1.below hsz (fun k hk hf => by
      rcases hf with rfl | e
      · omega
      · have := (hm k e).1; omega)
    exact b1.trans (t2.below (Nat.le_trans hsz t1.size) (fun k hk e => by omega))
/-- The reference, behind the program's access. -/
theorem ref_behind {w w1 : World} {base B R : Nat} {M : Option Nat} {s : Value} {L L' : LL} {n k a was is n' k' a' was' is' : Nat} (hne : R ≠ B) (r : RefAt w base R s L n k a was is)
    (hm : ∀ m, M = some m → base ≤ m ∧ m ≠ R ∧ s.ownBlock ≠ some m) (hs : s.ownBlock ≠ some B) (l1 : Left w w1 B M L' n' k' a' was' is') : RefAt w1 base R s L n k a was is := by
  obtain ⟨M', c1, same, t1⟩ := l1
  refine r.kept t1 ?_ ?_
  · rintro (e | e)
    · exact hne e
    · exact (hm R e).2.1 rfl
  · rintro g hg (e | e)
    · exact hs (e ▸ hg)
    · exact (hm g e).2.2 hg
end Go.Proofs.YthafnphpcdbnlaaGreatDoor.S2
