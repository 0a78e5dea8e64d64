/- The accesses. -/
import Derived.Test.YtikjlmlbbjbcmaaC2
import Derived.Shelf.Abstract
namespace Go.Proofs.Ytikjlmlbbjbcmaa
open Go.RowKit Go.Maps Go.ChangeMaps Go.MapKept

theorem CellsAt.look {w : World} {B : Nat} {M : Option Nat} {L : LL} {n k a0 was is : Nat} (h : CellsAt w B M L n k a0 was is) {a : Nat} (ha : a < 4294967296) :
    (Instr.lookup 52 (.map M) (.int .u32 (a : Int)) false).run Try.prog w = .ok (.int .u64 (look L a : Nat)) w := by
  have hkey := keyOf27 ha
  cases M with
  | none =>
    rw [h.non rfl]
    exact look_nil (w := w) false law27 Try.underlying52 (zero28 _) hkey
  | some m =>
    obtain ⟨c, hr, hat, _⟩ := (h.som m rfl).2.lookup_int law27 Try.underlying52 Try.underlying28 (zero28 _) hkey
    rw [DL_at] at hat
    cases hat
    exact hr
theorem CellsAt.other {w w' : World} {B : Nat} {M : Option Nat} {L : LL} {n k a was is n' k' a' was' is' : Nat} (h : CellsAt w B M L n k a was is) (t : Turns (fun k => k = B) w w')
    (hr : w'.heap[B]? = some (.cells #[.map M, .int .i64 n', .int .u8 k', .int .u32 a', .int .u64 was', .int .u64 is'] 54 (0, 0))) : CellsAt w' B M L n' k' a' was' is' := by
  refine ⟨h.good, hr, h.non, fun m e => ⟨(h.som m e).1, ?_⟩⟩
  obtain ⟨es, clock, hb, r⟩ := (h.som m e).2
  exact ⟨es, clock, (t.block m (h.lt m (.inr e)) (h.som m e).1).trans hb, r⟩
set_option maxHeartbeats 2000000 in
theorem access_any (w : World) (B : Nat) (M : Option Nat) (L : LL) (n k0 a0 was is kd a v g : Nat) (hv : Value) (h : CellsAt w B M L n k0 a0 was is) (ha : a < 4294967296) (hvl : v < 18446744073709551616) (hn : n < 4611686018427387904)
    (eg : ∀ args w, (callFunc g args).run Try.prog w = .ok (.enter g args) w)
    (hway : ∀ W, Calls Try.prog g #[hv, .int .u64 (look L a : Nat)] W fun e w' => e = .returned (.int .u64 v) ∧ Below W.heap.size W w') :
    Calls Try.prog 38 #[.pointer (some ⟨B, 0, none⟩), .int .u8 kd, .int .u32 a, .func (.func g) #[hv] #[]] w fun e w' => e = .returned (.int .u64 (look L a : Nat)) ∧ ∃ M', CellsAt w' B M' (putL L a (bring a v)) (n + 1) kd a (look L a) (bring a v) ∧ Same w M M' ∧ Turns (Fp B M) w w' := by
  have c0 : w.cell? ⟨B, 0, none⟩ = some (.map M) := cell_row h.row 0
  have hlk := look_lt h.good a
  have hbr := bring_lt (a := a) hvl
  have hbrg := fun W => brought_any a v ha hvl W
  have hset := fun W (H : CellsAt W B M L n k0 a0 was is) => set_any W B M L n k0 a0 was is a (bring a v) H ha hbr
  have hat := h.look ha
  have H := Lib.hid h
  have HW := Lib.hid hway
  have HB := Lib.hid hbrg
  have HS := Lib.hid hset
  clear h hway hbrg hset
  generalize look L a = x at *
  generalize bring a v = y at *
  go_enter Try.func38, Try.ntmps38
  go_wp2_with (first
    | (go_at_fn g; refine (HW.out _).mono ?_; rintro e w1 ⟨rfl, hb1⟩)
    | (go_at_call 27; refine (HB.out _).mono ?_; rintro e w2 ⟨rfl, rfl⟩))
  have H1 := H.out.kept (Turns.of_below (S := fun _ => False) hb1) (fun _ _ e => e)
  have HH1 := Lib.hid H1
  have HB1 := Lib.hid hb1
  clear hat c0 H1 hb1
  refine (HS.out _ HH1.out).mono ?_
  rintro e w2 ⟨rfl, M', h2, hsame, ht⟩
  have c1 : w2.cell? ⟨B, 1, none⟩ = some (.int .i64 n) := cell_row h2.row 1
  have f1 : w2.frozen? ⟨B, 1, none⟩ = false := froz_row h2.row 1
  have f2 : w2.frozen? ⟨B, 2, none⟩ = false := froz_row h2.row 2
  have f3 : w2.frozen? ⟨B, 3, none⟩ = false := froz_row h2.row 3
  have f4 : w2.frozen? ⟨B, 4, none⟩ = false := froz_row h2.row 4
  have f5 : w2.frozen? ⟨B, 5, none⟩ = false := froz_row h2.row 5
  have d2 : w2.cell? ⟨B, 2, none⟩ = some (.int .u8 k0) := cell_row h2.row 2
  have d3 : w2.cell? ⟨B, 3, none⟩ = some (.int .u32 a0) := cell_row h2.row 3
  have d4 : w2.cell? ⟨B, 4, none⟩ = some (.int .u64 was) := cell_row h2.row 4
  have d5 : w2.cell? ⟨B, 5, none⟩ = some (.int .u64 is) := cell_row h2.row 5
  have H2 := Lib.hid h2
  have HSM := Lib.hid hsame
  have HT := Lib.hid ht
  clear h2 hsame ht
  go_wp2
  go_ret
  have t5 := ((((((Turns.refl (fun k => k = B) w2).setCell ⟨B, 1, none⟩ (.int .i64 ((n : Int) + 1)) rfl).setCell ⟨B, 2, none⟩ (.int .u8 kd) rfl).setCell ⟨B, 3, none⟩ (.int .u32 a) rfl).setCell ⟨B, 4, none⟩ (.int .u64 x) rfl).setCell ⟨B, 5, none⟩ (.int .u64 y) rfl)
  have r5 := row_set (row_set (row_set (row_set (row_set H2.out.row 1 (.int .i64 ((n : Int) + 1))) 2 (.int .u8 kd)) 3 (.int .u32 a)) 4 (.int .u64 x)) 5 (.int .u64 y)
  have T1 := (Turns.of_below (S := Fp B M) HB1.out).trans HT.out (fun _ _ e => e)
  refine ⟨rfl, M', H2.out.other t5 r5, fun m e => ?_, T1.trans t5 (fun k _ e => .inl e)⟩
  rcases HSM.out m e with e | e
  · exact .inl e
  · exact .inr (Nat.le_trans HB1.out.size e)
theorem way40 (u v x : Nat) (W : World) : Calls Try.prog 40 #[.agg #[.int .u64 u, .int .u64 v], .int .u64 x] W fun e w' => e = .returned (.int .u64 x) ∧ Below W.heap.size W w' := by
  go_enter Try.func40, Try.ntmps40
  go_wp2
  go_ret
  exact ⟨rfl, (Below.refl _ _).alloc (Nat.le_refl _) _⟩
theorem way41 (u v x : Nat) (W : World) : Calls Try.prog 41 #[.agg #[.int .u64 u, .int .u64 v], .int .u64 x] W fun e w' => e = .returned (.int .u64 v) ∧ Below W.heap.size W w' := by
  go_enter Try.func41, Try.ntmps41
  go_wp2
  go_ret
  exact ⟨rfl, (Below.refl _ _).alloc (Nat.le_refl _) _⟩
theorem wrap_u64 (n : Nat) : IntKind.u64.wrap (n : Int) = ((n % 18446744073709551616 : Nat) : Int) := by
  simp [IntKind.wrap, IntKind.bits, IntKind.signed]
theorem way42 (u v x : Nat) (W : World) : Calls Try.prog 42 #[.agg #[.int .u64 u, .int .u64 v], .int .u64 x] W fun e w' => e = .returned (.int .u64 ((x + v) % 18446744073709551616 : Nat)) ∧ Below W.heap.size W w' := by
  have hw : IntKind.u64.wrap ((x : Int) + (v : Int)) = (((x + v) % 18446744073709551616 : Nat) : Int) := by
    rw [← Int.natCast_add, wrap_u64]
  go_enter Try.func42, Try.ntmps42
  go_wp2
  go_ret
  exact ⟨rfl, (Below.refl _ _).alloc (Nat.le_refl _) _⟩
theorem way43 (u v x : Nat) (hv : v < 18446744073709551616) (hx : x < 18446744073709551616) (W : World) : Calls Try.prog 43 #[.agg #[.int .u64 u, .int .u64 v], .int .u64 x] W fun e w' => e = .returned (.int .u64 (x &&& v : Nat)) ∧ Below W.heap.size W w' := by
  have hw := bits_and_u64_nat x v hx hv
  go_enter Try.func43, Try.ntmps43
  go_wp2
  go_ret
  exact ⟨rfl, (Below.refl _ _).alloc (Nat.le_refl _) _⟩
theorem way44 (u v x : Nat) (hv : v < 18446744073709551616) (hx : x < 18446744073709551616) (W : World) : Calls Try.prog 44 #[.agg #[.int .u64 u, .int .u64 v], .int .u64 x] W fun e w' => e = .returned (.int .u64 (x ||| v : Nat)) ∧ Below W.heap.size W w' := by
  have hw := bits_or_u64_nat x v hx hv
  go_enter Try.func44, Try.ntmps44
  go_wp2
  go_ret
  exact ⟨rfl, (Below.refl _ _).alloc (Nat.le_refl _) _⟩
theorem way39 (u v x : Nat) (W : World) : Calls Try.prog 39 #[.agg #[.int .u64 u, .int .u64 v], .int .u64 x] W fun e w' => e = .returned (.int .u64 (if x = u then v else x : Nat)) ∧ Below W.heap.size W w' := by
  by_cases h : x = u
  · rw [if_pos h]
    subst h
    go_enter Try.func39, Try.ntmps39
    go_wp2
    go_ret
    exact ⟨rfl, (Below.refl _ _).alloc (Nat.le_refl _) _⟩
  · rw [if_neg h]
    have hne : ((x : Int) == (u : Int)) = false := by rw [beq_eq_false_iff_ne]; omega
    clear h
    go_enter Try.func39, Try.ntmps39
    go_wp2
    go_ret
    exact ⟨rfl, (Below.refl _ _).alloc (Nat.le_refl _) _⟩
end Go.Proofs.Ytikjlmlbbjbcmaa
