/- The reference's accesses; both cells side by side. -/
import Derived.Test.YtikjlmlbbjbcmaaE2
import Derived.Test.YtikjlmlbbjbcmaaP2
namespace Go.Proofs.Ytikjlmlbbjbcmaa
open Go.RowKit Go.Maps

set_option maxHeartbeats 1000000 in
theorem rstore_any (w : World) (base R : Nat) (s : Value) (L : LL) (n k0 a0 was is a v : Nat) (h : RefAt w base R s L n k0 a0 was is) (hbase : base ≤ w.heap.size) (ha : a < 4294967296) (hn : n < 4611686018427387904) (hv : v < 18446744073709551616) :
    Calls Try.prog 28 #[Pt R, .int .u32 a, .int .u64 v] w fun e w' => e = .returned (.int .u64 (look L a : Nat)) ∧ RLeft w w' base R (putL L a (bring a (v))) (n + 1) 2 a (look L a) (bring a (v)) := by
  have hl := look_lt h.good a

  have hc := racc_any w base R s L n k0 a0 was is 2 a (v) h hbase ha hn (hv)

  generalize look L a = l at *

  have HC := Lib.hid hc
  clear hc h
  go_enter Try.func28, Try.ntmps28
  go_wp2_with (first
      | (go_at_call 45; refine HC.out.mono ?_; rintro e w' ⟨rfl, hr⟩; (have HR := Lib.hid hr; clear hr)))
  go_ret
  exact ⟨rfl, HR.out⟩
set_option maxHeartbeats 1000000 in
theorem rswap_any (w : World) (base R : Nat) (s : Value) (L : LL) (n k0 a0 was is a v : Nat) (h : RefAt w base R s L n k0 a0 was is) (hbase : base ≤ w.heap.size) (ha : a < 4294967296) (hn : n < 4611686018427387904) (hv : v < 18446744073709551616) :
    Calls Try.prog 31 #[Pt R, .int .u32 a, .int .u64 v] w fun e w' => e = .returned (.int .u64 (look L a : Nat)) ∧ RLeft w w' base R (putL L a (bring a (v))) (n + 1) 4 a (look L a) (bring a (v)) := by
  have hl := look_lt h.good a

  have hc := racc_any w base R s L n k0 a0 was is 4 a (v) h hbase ha hn (hv)

  generalize look L a = l at *

  have HC := Lib.hid hc
  clear hc h
  go_enter Try.func31, Try.ntmps31
  go_wp2_with (first
      | (go_at_call 45; refine HC.out.mono ?_; rintro e w' ⟨rfl, hr⟩; (have HR := Lib.hid hr; clear hr)))
  go_ret
  exact ⟨rfl, HR.out⟩
set_option maxHeartbeats 1000000 in
theorem radd_any (w : World) (base R : Nat) (s : Value) (L : LL) (n k0 a0 was is a v : Nat) (h : RefAt w base R s L n k0 a0 was is) (hbase : base ≤ w.heap.size) (ha : a < 4294967296) (hn : n < 4611686018427387904) (hv : v < 18446744073709551616) :
    Calls Try.prog 32 #[Pt R, .int .u32 a, .int .u64 v] w fun e w' => e = .returned (.int .u64 (look L a : Nat)) ∧ RLeft w w' base R (putL L a (bring a ((look L a + v) % 18446744073709551616))) (n + 1) 5 a (look L a) (bring a ((look L a + v) % 18446744073709551616)) := by
  have hl := look_lt h.good a
  have hp := rpeek_any w base R s L n k0 a0 was is a h
  have hc := racc_any w base R s L n k0 a0 was is 5 a ((look L a + v) % 18446744073709551616) h hbase ha hn (by omega)
  have hw : IntKind.u64.wrap ((look L a : Int) + (v : Int)) = (((look L a + v) % 18446744073709551616 : Nat) : Int) := by rw [← Int.natCast_add, wrap_u64]
  generalize look L a = l at *
  have HP := Lib.hid hp
  have HC := Lib.hid hc
  clear hc h hp
  go_enter Try.func32, Try.ntmps32
  go_wp2_with (first
      | (go_at_call 13; refine HP.out.mono ?_; rintro e w' ⟨rfl, rfl⟩)
      | (go_at_call 45; refine HC.out.mono ?_; rintro e w' ⟨rfl, hr⟩; (have HR := Lib.hid hr; clear hr)))
  go_ret
  exact ⟨rfl, HR.out⟩
set_option maxHeartbeats 1000000 in
theorem rand_any (w : World) (base R : Nat) (s : Value) (L : LL) (n k0 a0 was is a v : Nat) (h : RefAt w base R s L n k0 a0 was is) (hbase : base ≤ w.heap.size) (ha : a < 4294967296) (hn : n < 4611686018427387904) (hv : v < 18446744073709551616) :
    Calls Try.prog 33 #[Pt R, .int .u32 a, .int .u64 v] w fun e w' => e = .returned (.int .u64 (look L a : Nat)) ∧ RLeft w w' base R (putL L a (bring a (look L a &&& v))) (n + 1) 6 a (look L a) (bring a (look L a &&& v)) := by
  have hl := look_lt h.good a
  have hp := rpeek_any w base R s L n k0 a0 was is a h
  have hc := racc_any w base R s L n k0 a0 was is 6 a (look L a &&& v) h hbase ha hn (Nat.lt_of_le_of_lt Nat.and_le_left hl)
  have hw := bits_and_u64_nat (look L a) v hl hv
  generalize look L a = l at *
  have HP := Lib.hid hp
  have HC := Lib.hid hc
  clear hc h hp
  go_enter Try.func33, Try.ntmps33
  go_wp2_with (first
      | (go_at_call 13; refine HP.out.mono ?_; rintro e w' ⟨rfl, rfl⟩)
      | (go_at_call 45; refine HC.out.mono ?_; rintro e w' ⟨rfl, hr⟩; (have HR := Lib.hid hr; clear hr)))
  go_ret
  exact ⟨rfl, HR.out⟩
set_option maxHeartbeats 1000000 in
theorem ror_any (w : World) (base R : Nat) (s : Value) (L : LL) (n k0 a0 was is a v : Nat) (h : RefAt w base R s L n k0 a0 was is) (hbase : base ≤ w.heap.size) (ha : a < 4294967296) (hn : n < 4611686018427387904) (hv : v < 18446744073709551616) :
    Calls Try.prog 34 #[Pt R, .int .u32 a, .int .u64 v] w fun e w' => e = .returned (.int .u64 (look L a : Nat)) ∧ RLeft w w' base R (putL L a (bring a (look L a ||| v))) (n + 1) 7 a (look L a) (bring a (look L a ||| v)) := by
  have hl := look_lt h.good a
  have hp := rpeek_any w base R s L n k0 a0 was is a h
  have hc := racc_any w base R s L n k0 a0 was is 7 a (look L a ||| v) h hbase ha hn (Nat.or_lt_two_pow (n := 64) hl hv)
  have hw := bits_or_u64_nat (look L a) v hl hv
  generalize look L a = l at *
  have HP := Lib.hid hp
  have HC := Lib.hid hc
  clear hc h hp
  go_enter Try.func34, Try.ntmps34
  go_wp2_with (first
      | (go_at_call 13; refine HP.out.mono ?_; rintro e w' ⟨rfl, rfl⟩)
      | (go_at_call 45; refine HC.out.mono ?_; rintro e w' ⟨rfl, hr⟩; (have HR := Lib.hid hr; clear hr)))
  go_ret
  exact ⟨rfl, HR.out⟩
set_option maxHeartbeats 1000000 in
theorem rcas_any (w : World) (base R : Nat) (s : Value) (L : LL) (n k0 a0 was is a u v : Nat) (h : RefAt w base R s L n k0 a0 was is) (hbase : base ≤ w.heap.size) (ha : a < 4294967296) (hn : n < 4611686018427387904) (hv : v < 18446744073709551616) :
    Calls Try.prog 30 #[Pt R, .int .u32 a, .int .u64 u, .int .u64 v] w fun e w' => e = .returned (.tuple #[.int .u64 (look L a : Nat), .bool (decide (look L a = u))]) ∧ RLeft w w' base R (putL L a (bring a (casV (look L a) u v))) (n + 1) 3 a (look L a) (bring a (casV (look L a) u v)) := by
  have hl := look_lt h.good a
  have hp := rpeek_any w base R s L n k0 a0 was is a h
  have hc := racc_any w base R s L n k0 a0 was is 3 a (casV (look L a) u v) h hbase ha hn (casV_lt hl hv)
  generalize look L a = l at *
  have HP := Lib.hid hp
  by_cases e : l = u
  · subst e
    rw [decide_eq_true rfl]
    have ev : casV l l v = v := by unfold casV; rw [if_pos rfl]
    rw [ev] at hc ⊢
    have HC := Lib.hid hc
    clear hc h hp ev
    go_enter Try.func30, Try.ntmps30
    go_wp2_with (first
      | (go_at_call 13; refine HP.out.mono ?_; rintro e w' ⟨rfl, rfl⟩)
      | (go_at_call 45; refine HC.out.mono ?_; rintro e w' ⟨rfl, hr⟩; (have HR := Lib.hid hr; clear hr)))
    go_ret2
    exact ⟨rfl, HR.out⟩
  · have t1 : ((l : Int) == (u : Int)) = false := by rw [beq_eq_false_iff_ne]; omega
    rw [decide_eq_false e]
    have ev : casV l u v = l := by unfold casV; rw [if_neg e]
    rw [ev] at hc ⊢
    have HC := Lib.hid hc
    clear hc h hp ev e
    go_enter Try.func30, Try.ntmps30
    go_wp2_with (first
      | (go_at_call 13; refine HP.out.mono ?_; rintro e w' ⟨rfl, rfl⟩)
      | (go_at_call 45; refine HC.out.mono ?_; rintro e w' ⟨rfl, hr⟩; (have HR := Lib.hid hr; clear hr)))
    go_ret2
    exact ⟨rfl, HR.out⟩
set_option maxHeartbeats 1000000 in
theorem rload_any (w : World) (base R : Nat) (s : Value) (L : LL) (n k0 a0 was is a : Nat) (h : RefAt w base R s L n k0 a0 was is) (hn : n < 4611686018427387904) :
    Calls Try.prog 29 #[Pt R, .int .u32 a] w fun e w' => e = .returned (.int .u64 (look L a : Nat)) ∧ RefAt w' base R s L (n + 1) 1 a (look L a) (look L a) ∧ Turns (fun j => j = R) w w' := by
  have hp := rpeek_any w base R s L n k0 a0 was is a h
  have c1 : w.cell? ⟨R, 1, none⟩ = some (.int .i64 n) := cell_row h.row 1
  have f1 : w.frozen? ⟨R, 1, none⟩ = false := froz_row h.row 1
  have f2 : w.frozen? ⟨R, 2, none⟩ = false := froz_row h.row 2
  have f3 : w.frozen? ⟨R, 3, none⟩ = false := froz_row h.row 3
  have f4 : w.frozen? ⟨R, 4, none⟩ = false := froz_row h.row 4
  have f5 : w.frozen? ⟨R, 5, none⟩ = false := froz_row h.row 5
  have d2 : w.cell? ⟨R, 2, none⟩ = some (.int .u8 k0) := cell_row h.row 2
  have d3 : w.cell? ⟨R, 3, none⟩ = some (.int .u32 a0) := cell_row h.row 3
  have d4 : w.cell? ⟨R, 4, none⟩ = some (.int .u64 was) := cell_row h.row 4
  have d5 : w.cell? ⟨R, 5, none⟩ = some (.int .u64 is) := cell_row h.row 5
  have H := Lib.hid h
  have HP := Lib.hid hp
  clear hp h
  generalize look L a = l at *
  go_enter Try.func29, Try.ntmps29
  go_wp2_with (go_at_call 13; refine HP.out.mono ?_; rintro e w' ⟨rfl, rfl⟩)
  go_ret
  have t5 := ((((((Turns.refl (fun k => k = R) w).setCell ⟨R, 1, none⟩ (.int .i64 ((n : Int) + 1)) rfl).setCell ⟨R, 2, none⟩ (.int .u8 1) rfl).setCell ⟨R, 3, none⟩ (.int .u32 a) rfl).setCell ⟨R, 4, none⟩ (.int .u64 l) rfl).setCell ⟨R, 5, none⟩ (.int .u64 l) rfl)
  have r5 := row_set (row_set (row_set (row_set (row_set H.out.row 1 (.int .i64 ((n : Int) + 1))) 2 (.int .u8 1)) 3 (.int .u32 a)) 4 (.int .u64 l)) 5 (.int .u64 l)
  exact ⟨rfl, ⟨H.out.good, r5, row_keep H.out.own t5 (fun g hg e => H.out.ne (by rw [hg, e])), H.out.ne⟩, t5⟩
theorem RefAt.kept {S : Nat → Prop} {w w' : World} {base R : Nat} {s : Value} {L : LL} {n k a was is : Nat} (h : RefAt w base R s L n k a was is) (t : Turns S w w') (hR : ¬ S R) (hs : ∀ g, s.ownBlock = some g → ¬ S g) : RefAt w' base R s L n k a was is :=
  ⟨h.good, (t.block R (Array.getElem?_eq_some_iff.1 h.row).1 hR).trans h.row, row_keep h.own t hs, h.ne⟩
theorem RefAt.lt {w : World} {base R : Nat} {s : Value} {L : LL} {n k a was is : Nat} (h : RefAt w base R s L n k a was is) : R < w.heap.size := (Array.getElem?_eq_some_iff.1 h.row).1
/-- The program's cells and the document's, of one content, side by side, in blocks of a call's own. -/
structure Both (w : World) (base B R : Nat) (L : LL) (n k a was is : Nat) : Prop where
  size : base ≤ w.heap.size
  fb : base ≤ B
  fr : base ≤ R
  ne : R ≠ B
  byt : Byt L
  own : ∃ M s, CellsAt w B M L n k a was is ∧ RefAt w base R s L n k a was is ∧ (∀ m, M = some m → base ≤ m ∧ m ≠ R ∧ s.ownBlock ≠ some m) ∧ s.ownBlock ≠ some B
/-- Both went one step on. -/
theorem both_step {w w1 w2 : World} {base B R : Nat} {M : Option Nat} {s : Value} {L L' : LL} {n k a was is n' k' a' was' is' : Nat} (hsz : base ≤ w.heap.size) (fb : base ≤ B) (fr : base ≤ R) (hne : R ≠ B) (c : CellsAt w B M L n k a was is) (r : RefAt w base R s L n k a was is)
    (hm : ∀ m, M = some m → base ≤ m ∧ m ≠ R ∧ s.ownBlock ≠ some m) (hs : s.ownBlock ≠ some B) (byt : Byt L') (l1 : Left w w1 B M L' n' k' a' was' is')
    (l2 : ∃ s', RefAt w2 base R s' L' n' k' a' was' is' ∧ (s'.ownBlock = s.ownBlock ∨ ∀ g, s'.ownBlock = some g → w1.heap.size ≤ g) ∧ Turns (fun j => j = R) w1 w2) : Both w2 base B R L' n' k' a' was' is' ∧ Below base w w2 := by
  obtain ⟨M', c1, same, t1⟩ := l1
  obtain ⟨s', r2, hown, t2⟩ := l2
  have hRlt := r.lt
  have hc1 := c1.lt
  have hm' : ∀ m, M' = some m → base ≤ m ∧ m ≠ R := fun m e => by
    rcases same m e with e | e
    · exact ⟨(hm m e).1, (hm m e).2.1⟩
    · omega
  have hso := r.own.lt
  refine ⟨⟨Nat.le_trans hsz (Nat.le_trans t1.size t2.size), fb, fr, hne, byt, M', s', ?_, r2, fun m e => ⟨(hm' m e).1, (hm' m e).2, ?_⟩, ?_⟩, ?_⟩
  · refine c1.kept t2 ?_
    rintro j (rfl | e) ej
    · exact hne ej.symm
    · exact (hm' j e).2 ej
  · intro eg
    rcases hown with h | h
    · rw [h] at eg
      rcases same m e with e' | e'
      · exact (hm m e').2.2 eg
      · have := (hso m eg).2; omega
    · have := h m eg
      have := hc1 m (.inr e)
      omega
  · intro eg
    rcases hown with h | h
    · rw [h] at eg; exact hs eg
    · have := h B eg
      have := hc1 B (.inl rfl)
      omega
  · have b1 : Below base w w1 := t1.below hsz (fun k hk hf => by
      rcases hf with rfl | e
      · omega
      · have := (hm k e).1; omega)
    exact b1.trans (t2.below (Nat.le_trans hsz t1.size) (fun k hk e => by omega))
/-- The reference, behind the program's access. -/
theorem ref_behind {w w1 : World} {base B R : Nat} {M : Option Nat} {s : Value} {L L' : LL} {n k a was is n' k' a' was' is' : Nat} (hne : R ≠ B) (r : RefAt w base R s L n k a was is)
    (hm : ∀ m, M = some m → base ≤ m ∧ m ≠ R ∧ s.ownBlock ≠ some m) (hs : s.ownBlock ≠ some B) (l1 : Left w w1 B M L' n' k' a' was' is') : RefAt w1 base R s L n k a was is := by
  obtain ⟨M', c1, same, t1⟩ := l1
  refine r.kept t1 ?_ ?_
  · rintro (e | e)
    · exact hne e
    · exact (hm R e).2.1 rfl
  · rintro g hg (e | e)
    · exact hs (e ▸ hg)
    · exact (hm g e).2.2 hg
end Go.Proofs.Ytikjlmlbbjbcmaa
