/- Texts of this seat, one behind the other. -/
import Derived.Test.YtieiiabbeglmfaaGreatDoorMLawOldest208
import Derived.Shelf.Abstract
set_option linter.unusedVariables false
set_option linter.unusedSimpArgs false
set_option linter.unusedVariables false
set_option linter.unusedSimpArgs false
namespace Go.Proofs.YtieiiabbeglmfaaGreatDoor.S2
set_option maxRecDepth 100000
set_option maxHeartbeats 16000000
open Go.Proofs.YtieiiabbeglmfaaGreatDoor
open Go.RowKit Go.Maps Go.ChangeMaps Go.MapKept
theorem CellsAt.look {w : World} {B : Nat} {M : Option Nat} {L : LL} {n k a0 was is : Nat} (h : CellsAt w B M L n k a0 was is) {a : Nat} (ha : a < 4294967296) :
    (Instr.lookup 222 (.map M) (.int .u32 (a : Int)) false).run Tryz.prog w = .ok (.int .u64 (look L a : Nat)) w := by
  have hkey := keyOf27 ha
  cases M with
  | none =>
    rw [h.non rfl]
    exact look_nil (w := w) false law27 Tryz.underlying222 (zero28 _) hkey
  | some m =>
    obtain ⟨c, hr, hat, _⟩ := (h.som m rfl).2.lookup_int law27 Tryz.underlying222 Tryz.underlying23 (zero28 _) hkey
    rw [DL_at] at hat
    cases hat
    exact hr
theorem CellsAt.other {w w' : World} {B : Nat} {M : Option Nat} {L : LL} {n k a was is n' k' a' was' is' : Nat} (h : CellsAt w B M L n k a was is) (t : Turns (fun k => k = B) w w')
    (hr : w'.heap[B]? = some (.cells #[.map M, .int .i64 n', .int .u8 k', .int .u32 a', .int .u64 was', .int .u64 is'] 227 (0, 0))) : CellsAt w' B M L n' k' a' was' is' := by
  refine ⟨h.good, hr, h.non, fun m e => ⟨(h.som m e).1, ?_⟩⟩
  obtain ⟨es, clock, hb, r⟩ := (h.som m e).2
  exact ⟨es, clock, (t.block m (h.lt m (.inr e)) (h.som m e).1).trans hb, r⟩
theorem access_any (w : World) (B : Nat) (M : Option Nat) (L : LL) (n k0 a0 was is kd a v g : Nat) (hv : Value) (h : CellsAt w B M L n k0 a0 was is) (ha : a < 4294967296) (hvl : v < 18446744073709551616) (hn : n < 4611686018427387904)
    (eg : ∀ args w, (callFunc g args).run Tryz.prog w = .ok (.enter g args) w)
    (hway : ∀ W, Calls Tryz.prog g #[hv, .int .u64 (look L a : Nat)] W fun e w' => e = .returned (.int .u64 v) ∧ Below W.heap.size W w') :
    Calls Tryz.prog 166 #[.pointer (some ⟨B, 0, none⟩), .int .u8 kd, .int .u32 a, .func (.func g) #[hv] #[]] w fun e w' => e = .returned (.int .u64 (look L a : Nat)) ∧ ∃ M', CellsAt w' B M' (putL L a (bring a v)) (n + 1) kd a (look L a) (bring a v) ∧ Same w M M' ∧ Turns (Fp B M) w w' := by
  have c0 : w.cell? ⟨B, 0, none⟩ = some (.map M) := cell_row h.row 0
  have hlk := look_lt h.good a
  have hbr := bring_lt (a := a) hvl
  have hbrg := fun W => brought_any a v ha hvl W
  have hset := fun W (H : CellsAt W B M L n k0 a0 was is) => set_any W B M L n k0 a0 was is a (bring a v) H ha hbr
  have hat := h.look ha
  have H := Lib.hid h
  have HW := Lib.hid hway
  have HB := Lib.hid hbrg
  have HS := Lib.hid hset
  clear h hway hbrg hset
  generalize look L a = x at *
  generalize bring a v = y at *
  go_enter Tryz.func166, Tryz.ntmps166
  go_wp2_with (first
    | (go_at_fn g; refine (HW.out _).mono ?_; rintro e w1 ⟨rfl, hb1⟩)
    | (go_at_call 140; refine (HB.out _).mono ?_; rintro e w2 ⟨rfl, rfl⟩))
  have H1 := H.out.kept (Turns.of_below (S := fun _ => False) hb1) (fun _ _ e => e)
  have HH1 := Lib.hid H1
  have HB1 := Lib.hid hb1
  clear hat c0 H1 hb1
  refine (HS.out _ HH1.out).mono ?_
  rintro e w2 ⟨rfl, M', h2, hsame, ht⟩
  have c1 : w2.cell? ⟨B, 1, none⟩ = some (.int .i64 n) := cell_row h2.row 1
  have f1 : w2.frozen? ⟨B, 1, none⟩ = false := froz_row h2.row 1
  have f2 : w2.frozen? ⟨B, 2, none⟩ = false := froz_row h2.row 2
  have f3 : w2.frozen? ⟨B, 3, none⟩ = false := froz_row h2.row 3
  have f4 : w2.frozen? ⟨B, 4, none⟩ = false := froz_row h2.row 4
  have f5 : w2.frozen? ⟨B, 5, none⟩ = false := froz_row h2.row 5
  have d2 : w2.cell? ⟨B, 2, none⟩ = some (.int .u8 k0) := cell_row h2.row 2
  have d3 : w2.cell? ⟨B, 3, none⟩ = some (.int .u32 a0) := cell_row h2.row 3
  have d4 : w2.cell? ⟨B, 4, none⟩ = some (.int .u64 was) := cell_row h2.row 4
  have d5 : w2.cell? ⟨B, 5, none⟩ = some (.int .u64 is) := cell_row h2.row 5
  have H2 := Lib.hid h2
  have HSM := Lib.hid hsame
  have HT := Lib.hid ht
  clear h2 hsame ht
  go_wp2
  go_ret
  have t5 := ((((((Turns.refl (fun k => k = B) w2).setCell ⟨B, 1, none⟩ (.int .i64 ((n : Int) + 1)) rfl).setCell ⟨B, 2, none⟩ (.int .u8 kd) rfl).setCell ⟨B, 3, none⟩ (.int .u32 a) rfl).setCell ⟨B, 4, none⟩ (.int .u64 x) rfl).setCell ⟨B, 5, none⟩ (.int .u64 y) rfl)
  have r5 := row_set (row_set (row_set (row_set (row_set H2.out.row 1 (.int .i64 ((n : Int) + 1))) 2 (.int .u8 kd)) 3 (.int .u32 a)) 4 (.int .u64 x)) 5 (.int .u64 y)
  have T1 := (Turns.of_below (S := Fp B M) HB1.out).trans HT.out (fun _ _ e => e)
  refine ⟨rfl, M', H2.out.other t5 r5, fun m e => ?_, T1.trans t5 (fun k _ e => .inl e)⟩
  rcases HSM.out m e with e | e
  · exact .inl e
  · exact .inr (Nat.le_trans HB1.out.size e)
theorem way40 (u v x : Nat) (W : World) : Calls Tryz.prog 244 #[.agg #[.int .u64 u, .int .u64 v], .int .u64 x] W fun e w' => e = .returned (.int .u64 x) ∧ Below W.heap.size W w' := by
  go_enter Tryz.func244, Tryz.ntmps244
  go_wp2
  go_ret
  exact ⟨rfl, (Below.refl _ _).alloc (Nat.le_refl _) _⟩
theorem way41 (u v x : Nat) (W : World) : Calls Tryz.prog 167 #[.agg #[.int .u64 u, .int .u64 v], .int .u64 x] W fun e w' => e = .returned (.int .u64 v) ∧ Below W.heap.size W w' := by
  go_enter Tryz.func167, Tryz.ntmps167
  go_wp2
  go_ret
  exact ⟨rfl, (Below.refl _ _).alloc (Nat.le_refl _) _⟩
theorem wrap_u64 (n : Nat) : IntKind.u64.wrap (n : Int) = ((n % 18446744073709551616 : Nat) : Int) := by
  simp [IntKind.wrap, IntKind.bits, IntKind.signed]
theorem way42 (u v x : Nat) (W : World) : Calls Tryz.prog 243 #[.agg #[.int .u64 u, .int .u64 v], .int .u64 x] W fun e w' => e = .returned (.int .u64 ((x + v) % 18446744073709551616 : Nat)) ∧ Below W.heap.size W w' := by
  have hw : IntKind.u64.wrap ((x : Int) + (v : Int)) = (((x + v) % 18446744073709551616 : Nat) : Int) := by
    rw [← Int.natCast_add, wrap_u64]
  go_enter Tryz.func243, Tryz.ntmps243
  go_wp2
  go_ret
  exact ⟨rfl, (Below.refl _ _).alloc (Nat.le_refl _) _⟩
theorem way43 (u v x : Nat) (hv : v < 18446744073709551616) (hx : x < 18446744073709551616) (W : World) : Calls Tryz.prog 246 #[.agg #[.int .u64 u, .int .u64 v], .int .u64 x] W fun e w' => e = .returned (.int .u64 (x &&& v : Nat)) ∧ Below W.heap.size W w' := by
  have hw := bits_and_u64_nat x v hx hv
  go_enter Tryz.func246, Tryz.ntmps246
  go_wp2
  go_ret
  exact ⟨rfl, (Below.refl _ _).alloc (Nat.le_refl _) _⟩
theorem way39 (u v x : Nat) (W : World) : Calls Tryz.prog 257 #[.agg #[.int .u64 u, .int .u64 v], .int .u64 x] W fun e w' => e = .returned (.int .u64 (if x = u then v else x : Nat)) ∧ Below W.heap.size W w' := by
  by_cases h : x = u
  · rw [if_pos h]
    subst h
    go_enter Tryz.func257, Tryz.ntmps257
    go_wp2
    go_ret
    exact ⟨rfl, (Below.refl _ _).alloc (Nat.le_refl _) _⟩
  · rw [if_neg h]
    have hne : ((x : Int) == (u : Int)) = false := by rw [beq_eq_false_iff_ne]; omega
    clear h
    go_enter Tryz.func257, Tryz.ntmps257
    go_wp2
    go_ret
    exact ⟨rfl, (Below.refl _ _).alloc (Nat.le_refl _) _⟩
end Go.Proofs.YtieiiabbeglmfaaGreatDoor.S2
namespace Go.Proofs.YtieiiabbeglmfaaGreatDoor.S2
set_option maxRecDepth 100000
set_option maxHeartbeats 16000000
open Go.Proofs.YtieiiabbeglmfaaGreatDoor
open Go.RowKit Go.Maps Go.ChangeMaps Go.MapKept
def casV (x u v : Nat) : Nat := if x = u then v else x
theorem casV_lt {x u v : Nat} (h : x < 18446744073709551616) (hv : v < 18446744073709551616) : casV x u v < 18446744073709551616 := by unfold casV; split <;> assumption
def Byt (L : LL) : Prop := ∀ p ∈ L, byteB p.1 = true → p.2 < 256
theorem bring_small {a v : Nat} (h : byteB a = true) : bring a v < 256 := by unfold bring; rw [if_pos h]; omega
theorem Byt.put {L : LL} (h : Byt L) (a v : Nat) : Byt (putL L a (bring a v)) := by
  intro p hp hb
  unfold putL at hp
  split at hp
  · exact h p (mem_strike.1 hp).1 hb
  · rcases mem_ins.1 hp with rfl | hp
    · exact bring_small hb
    · exact h p (mem_strike.1 hp).1 hb
theorem load_any (w : World) (B : Nat) (M : Option Nat) (L : LL) (n k0 a0 was is a : Nat) (h : CellsAt w B M L n k0 a0 was is) (ha : a < 4294967296) (hn : n < 4611686018427387904) :
    Calls Tryz.prog 207 #[.pointer (some ⟨B, 0, none⟩), .int .u32 a] w fun e w' => e = .returned (.int .u64 (look L a : Nat)) ∧ ∃ M', CellsAt w' B M' (putL L a (bring a (look L a))) (n + 1) 1 a (look L a) (bring a (look L a)) ∧ Same w M M' ∧ Turns (Fp B M) w w' := by
  have hl := look_lt h.good a
  have hc := access_any w B M L n k0 a0 was is 1 a (look L a) 244 (.agg #[.int .u64 0, .int .u64 0]) h ha hl hn (enters_of Tryz.func244 (by kernel_rfl) rfl) (fun W => way40 0 0 _ W)
  have HC := Lib.hid hc
  clear hc h
  go_enter Tryz.func207, Tryz.ntmps207
  go_wp2_with (go_at_call 166; refine HC.out.mono ?_; rintro e w' ⟨rfl, M', hc, hs, ht⟩; (have HC1 := Lib.hid hc; have HS := Lib.hid hs; have HT := Lib.hid ht; clear hc hs ht))
  go_ret
  exact ⟨rfl, M', HC1.out, HS.out, HT.out⟩
theorem store_any (w : World) (B : Nat) (M : Option Nat) (L : LL) (n k0 a0 was is a v : Nat) (h : CellsAt w B M L n k0 a0 was is) (ha : a < 4294967296) (hv : v < 18446744073709551616) (hn : n < 4611686018427387904) :
    Calls Tryz.prog 114 #[.pointer (some ⟨B, 0, none⟩), .int .u32 a, .int .u64 v] w fun e w' => e = .returned (.int .u64 (look L a : Nat)) ∧ ∃ M', CellsAt w' B M' (putL L a (bring a (v))) (n + 1) 2 a (look L a) (bring a (v)) ∧ Same w M M' ∧ Turns (Fp B M) w w' := by
  have hl := look_lt h.good a
  have hc := access_any w B M L n k0 a0 was is 2 a (v) 167 (.agg #[.int .u64 0, .int .u64 v]) h ha hv hn (enters_of Tryz.func167 (by kernel_rfl) rfl) (fun W => way41 0 v _ W)
  have HC := Lib.hid hc
  clear hc h
  go_enter Tryz.func114, Tryz.ntmps114
  go_wp2_with (go_at_call 166; refine HC.out.mono ?_; rintro e w' ⟨rfl, M', hc, hs, ht⟩; (have HC1 := Lib.hid hc; have HS := Lib.hid hs; have HT := Lib.hid ht; clear hc hs ht))
  go_ret
  exact ⟨rfl, M', HC1.out, HS.out, HT.out⟩
theorem add_any (w : World) (B : Nat) (M : Option Nat) (L : LL) (n k0 a0 was is a v : Nat) (h : CellsAt w B M L n k0 a0 was is) (ha : a < 4294967296) (_hv : v < 18446744073709551616) (hn : n < 4611686018427387904) :
    Calls Tryz.prog 205 #[.pointer (some ⟨B, 0, none⟩), .int .u32 a, .int .u64 v] w fun e w' => e = .returned (.int .u64 (look L a : Nat)) ∧ ∃ M', CellsAt w' B M' (putL L a (bring a ((look L a + v) % 18446744073709551616))) (n + 1) 5 a (look L a) (bring a ((look L a + v) % 18446744073709551616)) ∧ Same w M M' ∧ Turns (Fp B M) w w' := by
  have hl := look_lt h.good a
  have hc := access_any w B M L n k0 a0 was is 5 a ((look L a + v) % 18446744073709551616) 243 (.agg #[.int .u64 0, .int .u64 v]) h ha (by omega) hn (enters_of Tryz.func243 (by kernel_rfl) rfl) (fun W => way42 0 v _ W)
  have HC := Lib.hid hc
  clear hc h
  go_enter Tryz.func205, Tryz.ntmps205
  go_wp2_with (go_at_call 166; refine HC.out.mono ?_; rintro e w' ⟨rfl, M', hc, hs, ht⟩; (have HC1 := Lib.hid hc; have HS := Lib.hid hs; have HT := Lib.hid ht; clear hc hs ht))
  go_ret
  exact ⟨rfl, M', HC1.out, HS.out, HT.out⟩
theorem and_any (w : World) (B : Nat) (M : Option Nat) (L : LL) (n k0 a0 was is a v : Nat) (h : CellsAt w B M L n k0 a0 was is) (ha : a < 4294967296) (hv : v < 18446744073709551616) (hn : n < 4611686018427387904) :
    Calls Tryz.prog 209 #[.pointer (some ⟨B, 0, none⟩), .int .u32 a, .int .u64 v] w fun e w' => e = .returned (.int .u64 (look L a : Nat)) ∧ ∃ M', CellsAt w' B M' (putL L a (bring a (look L a &&& v))) (n + 1) 6 a (look L a) (bring a (look L a &&& v)) ∧ Same w M M' ∧ Turns (Fp B M) w w' := by
  have hl := look_lt h.good a
  have hc := access_any w B M L n k0 a0 was is 6 a (look L a &&& v) 246 (.agg #[.int .u64 0, .int .u64 v]) h ha (Nat.lt_of_le_of_lt Nat.and_le_left hl) hn (enters_of Tryz.func246 (by kernel_rfl) rfl) (fun W => way43 0 v _ hv hl W)
  have HC := Lib.hid hc
  clear hc h
  go_enter Tryz.func209, Tryz.ntmps209
  go_wp2_with (go_at_call 166; refine HC.out.mono ?_; rintro e w' ⟨rfl, M', hc, hs, ht⟩; (have HC1 := Lib.hid hc; have HS := Lib.hid hs; have HT := Lib.hid ht; clear hc hs ht))
  go_ret
  exact ⟨rfl, M', HC1.out, HS.out, HT.out⟩
theorem cas_any (w : World) (B : Nat) (M : Option Nat) (L : LL) (n k0 a0 was is a u v : Nat) (h : CellsAt w B M L n k0 a0 was is) (ha : a < 4294967296) (hv : v < 18446744073709551616) (hn : n < 4611686018427387904) :
    Calls Tryz.prog 245 #[.pointer (some ⟨B, 0, none⟩), .int .u32 a, .int .u64 u, .int .u64 v] w fun e w' => e = .returned (.tuple #[.int .u64 (look L a : Nat), .bool (decide (look L a = u))]) ∧ ∃ M', CellsAt w' B M' (putL L a (bring a (casV (look L a) u v))) (n + 1) 3 a (look L a) (bring a (casV (look L a) u v)) ∧ Same w M M' ∧ Turns (Fp B M) w w' := by
  have hl := look_lt h.good a
  have hc := access_any w B M L n k0 a0 was is 3 a (casV (look L a) u v) 257 (.agg #[.int .u64 u, .int .u64 v]) h ha (casV_lt hl hv) hn (enters_of Tryz.func257 (by kernel_rfl) rfl) (fun W => way39 u v _ W)
  have hb : ((look L a : Int) == (u : Int)) = decide (look L a = u) := by
    by_cases e : look L a = u
    · simp [e]
    · rw [decide_eq_false e, beq_eq_false_iff_ne]; omega
  have HC := Lib.hid hc
  clear hc h
  generalize look L a = x at *
  generalize decide (x = u) = b at *
  go_enter Tryz.func245, Tryz.ntmps245
  go_wp2_with (go_at_call 166; refine HC.out.mono ?_; rintro e w' ⟨rfl, M', hc, hs, ht⟩; (have HC1 := Lib.hid hc; have HS := Lib.hid hs; have HT := Lib.hid ht; clear hc hs ht))
  go_ret2
  exact ⟨rfl, M', HC1.out, HS.out, HT.out⟩
theorem count_any (w : World) (B : Nat) (M : Option Nat) (L : LL) (n k0 a0 was is : Nat) (h : CellsAt w B M L n k0 a0 was is) :
    Calls Tryz.prog 130 #[.pointer (some ⟨B, 0, none⟩)] w fun e w' => e = .returned (.int .i64 n) ∧ w = w' := by
  have c0 : w.cell? ⟨B, 1, none⟩ = some (.int .i64 n) := cell_row h.row 1
  clear h
  go_enter Tryz.func130, Tryz.ntmps130
  go_wp2
  go_ret
  exact ⟨rfl, rfl⟩
end Go.Proofs.YtieiiabbeglmfaaGreatDoor.S2
namespace Go.Proofs.YtieiiabbeglmfaaGreatDoor.S2
set_option maxRecDepth 100000
set_option maxHeartbeats 16000000
open Go.Proofs.YtieiiabbeglmfaaGreatDoor
open Go.RowKit Go.Maps Go.ChangeMaps Go.MapKept
abbrev Pt (B : Nat) : Value := .pointer (some ⟨B, 0, none⟩)
def Left (w w' : World) (B : Nat) (M : Option Nat) (L : LL) (n k a was is : Nat) : Prop := ∃ M', CellsAt w' B M' L n k a was is ∧ Same w M M' ∧ Turns (Fp B M) w w'
theorem Left.below {w w' : World} {B : Nat} {M : Option Nat} {L : LL} {n k a was is base : Nat} (h : Left w w' B M L n k a was is) (hb : base ≤ w.heap.size) (hB : base ≤ B) (hM : ∀ m, M = some m → base ≤ m) :
    ∃ M', CellsAt w' B M' L n k a was is ∧ (∀ m, M' = some m → base ≤ m) ∧ Below base w w' := by
  obtain ⟨M', hc, hs, ht⟩ := h
  refine ⟨M', hc, fun m e => ?_, ht.below hb (fun k hk hf => ?_)⟩
  · rcases hs m e with e | e
    · exact hM m e
    · omega
  · rcases hf with rfl | e
    · omega
    · have := hM k e; omega
end Go.Proofs.YtieiiabbeglmfaaGreatDoor.S2
namespace Go.Proofs.YtieiiabbeglmfaaGreatDoor.S2
set_option maxRecDepth 100000
set_option maxHeartbeats 16000000
open Go.Proofs.YtieiiabbeglmfaaGreatDoor
open Go.RowKit Go.Maps Go.ChangeMaps Go.MapKept
structure St (w : World) (base B : Nat) (L : LL) (n k a was is : Nat) : Prop where
  size : base ≤ w.heap.size
  from_ : base ≤ B
  own : ∃ M, CellsAt w B M L n k a was is ∧ ∀ m, M = some m → base ≤ m
theorem St.good {w : World} {base B : Nat} {L : LL} {n k a was is : Nat} (h : St w base B L n k a was is) : Good L := let ⟨_, c, _⟩ := h.own; c.good
theorem St.lt {w : World} {base B : Nat} {L : LL} {n k a was is : Nat} (h : St w base B L n k a was is) : B < w.heap.size := let ⟨_, c, _⟩ := h.own; c.lt B (.inl rfl)
theorem St.left {w w' : World} {base B : Nat} {M : Option Nat} {L L' : LL} {n k a was is n' k' a' was' is' : Nat} (h : St w base B L n k a was is) (hm : ∀ m, M = some m → base ≤ m) (l : Left w w' B M L' n' k' a' was' is') : St w' base B L' n' k' a' was' is' ∧ Below base w w' := by
  obtain ⟨M', c, m, b⟩ := l.below h.size h.from_ hm
  exact ⟨⟨Nat.le_trans h.size b.size, h.from_, M', c, m⟩, b⟩
theorem St.new {w w' : World} {base B : Nat} {L : LL} {n k a was is : Nat} (h : St w base B L n k a was is) (b : Below w.heap.size w w') : St w' base B L n k a was is := by
  obtain ⟨M, c, m⟩ := h.own
  exact ⟨Nat.le_trans h.size b.size, h.from_, M, c.kept (Turns.of_below (S := fun _ => False) b) (fun _ _ e => e), m⟩
end Go.Proofs.YtieiiabbeglmfaaGreatDoor.S2
