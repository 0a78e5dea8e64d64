/- Texts of this seat, one behind the other. -/
import Derived.Test.YthafnphpcdbnlaaGreatE4
import Derived.Shelf.Abstract
set_option linter.unusedVariables false
set_option linter.unusedSimpArgs false
namespace Go.Proofs.YthafnphpcdbnlaaGreat.S2
open Go.Proofs.YthafnphpcdbnlaaGreat
open Go.RowKit Go.Maps Go.ChangeMaps Go.MapKept

theorem CellsAt.look {w : World} {B : Nat} {M : Option Nat} {L : LL} {n k a0 was is : Nat} (h : CellsAt w B M L n k a0 was is) {a : Nat} (ha : a < 4294967296) :
    (Instr.lookup 87 (.map M) (.int .u32 (a : Int)) false).run Tryz.prog w = .ok (.int .u64 (look L a : Nat)) w := by
  have hkey := keyOf27 ha
  cases M with
  | none =>
    rw [h.non rfl]
    exact look_nil (w := w) false law27 Tryz.underlying87 (zero28 _) hkey
  | some m =>
    obtain ⟨c, hr, hat, _⟩ := (h.som m rfl).2.lookup_int law27 Tryz.underlying87 Tryz.underlying36 (zero28 _) hkey
    rw [DL_at] at hat
    cases hat
    exact hr
theorem CellsAt.other {w w' : World} {B : Nat} {M : Option Nat} {L : LL} {n k a was is n' k' a' was' is' : Nat} (h : CellsAt w B M L n k a was is) (t : Turns (fun k => k = B) w w')
    (hr : w'.heap[B]? = some (.cells #[.map M, .int .i64 n', .int .u8 k', .int .u32 a', .int .u64 was', .int .u64 is'] 91 (0, 0))) : CellsAt w' B M L n' k' a' was' is' := by
  refine ⟨h.good, hr, h.non, fun m e => ⟨(h.som m e).1, ?_⟩⟩
  obtain ⟨es, clock, hb, r⟩ := (h.som m e).2
  exact ⟨es, clock, (t.block m (h.lt m (.inr e)) (h.som m e).1).trans hb, r⟩
set_option maxHeartbeats 2000000 in
theorem access_any (w : World) (B : Nat) (M : Option Nat) (L : LL) (n k0 a0 was is kd a v g : Nat) (hv : Value) (h : CellsAt w B M L n k0 a0 was is) (ha : a < 4294967296) (hvl : v < 18446744073709551616) (hn : n < 4611686018427387904)
    (eg : ∀ args w, (callFunc g args).run Tryz.prog w = .ok (.enter g args) w)
    (hway : ∀ W, Calls Tryz.prog g #[hv, .int .u64 (look L a : Nat)] W fun e w' => e = .returned (.int .u64 v) ∧ Below W.heap.size W w') :
    Calls Tryz.prog 19 #[.pointer (some ⟨B, 0, none⟩), .int .u8 kd, .int .u32 a, .func (.func g) #[hv] #[]] w fun e w' => e = .returned (.int .u64 (look L a : Nat)) ∧ ∃ M', CellsAt w' B M' (putL L a (bring a v)) (n + 1) kd a (look L a) (bring a v) ∧ Same w M M' ∧ Turns (Fp B M) w w' := by
  have c0 : w.cell? ⟨B, 0, none⟩ = some (.map M) := cell_row h.row 0
  have hlk := look_lt h.good a
  have hbr := bring_lt (a := a) hvl
  have hbrg := fun W => brought_any a v ha hvl W
  have hset := fun W (H : CellsAt W B M L n k0 a0 was is) => set_any W B M L n k0 a0 was is a (bring a v) H ha hbr
  have hat := h.look ha
  have H := Lib.hid h
  have HW := Lib.hid hway
  have HB := Lib.hid hbrg
  have HS := Lib.hid hset
  clear h hway hbrg hset
  generalize look L a = x at *
  generalize bring a v = y at *
  go_enter Tryz.func19, Tryz.ntmps19
  go_wp2_with (first
    | (go_at_fn g; refine (HW.out _).mono ?_; rintro e w1 ⟨rfl, hb1⟩)
    | (go_at_call 42; refine (HB.out _).mono ?_; rintro e w2 ⟨rfl, rfl⟩))
  have H1 := H.out.kept (Turns.of_below (S := fun _ => False) hb1) (fun _ _ e => e)
  have HH1 := Lib.hid H1
  have HB1 := Lib.hid hb1
  clear hat c0 H1 hb1
  refine (HS.out _ HH1.out).mono ?_
  rintro e w2 ⟨rfl, M', h2, hsame, ht⟩
  have c1 : w2.cell? ⟨B, 1, none⟩ = some (.int .i64 n) := cell_row h2.row 1
  have f1 : w2.frozen? ⟨B, 1, none⟩ = false := froz_row h2.row 1
  have f2 : w2.frozen? ⟨B, 2, none⟩ = false := froz_row h2.row 2
  have f3 : w2.frozen? ⟨B, 3, none⟩ = false := froz_row h2.row 3
  have f4 : w2.frozen? ⟨B, 4, none⟩ = false := froz_row h2.row 4
  have f5 : w2.frozen? ⟨B, 5, none⟩ = false := froz_row h2.row 5
  have d2 : w2.cell? ⟨B, 2, none⟩ = some (.int .u8 k0) := cell_row h2.row 2
  have d3 : w2.cell? ⟨B, 3, none⟩ = some (.int .u32 a0) := cell_row h2.row 3
  have d4 : w2.cell? ⟨B, 4, none⟩ = some (.int .u64 was) := cell_row h2.row 4
  have d5 : w2.cell? ⟨B, 5, none⟩ = some (.int .u64 is) := cell_row h2.row 5
  have H2 := Lib.hid h2
  have HSM := Lib.hid hsame
  have HT := Lib.hid ht
  clear h2 hsame ht
  go_wp2
  go_ret
  have t5 := ((((((Turns.refl (fun k => k = B) w2).setCell ⟨B, 1, none⟩ (.int .i64 ((n : Int) + 1)) rfl).setCell ⟨B, 2, none⟩ (.int .u8 kd) rfl).setCell ⟨B, 3, none⟩ (.int .u32 a) rfl).setCell ⟨B, 4, none⟩ (.int .u64 x) rfl).setCell ⟨B, 5, none⟩ (.int .u64 y) rfl)
  have r5 := row_set (row_set (row_set (row_set (row_set H2.out.row 1 (.int .i64 ((n : Int) + 1))) 2 (.int .u8 kd)) 3 (.int .u32 a)) 4 (.int .u64 x)) 5 (.int .u64 y)
  have T1 := (Turns.of_below (S := Fp B M) HB1.out).trans HT.out (fun _ _ e => e)
  refine ⟨rfl, M', H2.out.other t5 r5, fun m e => ?_, T1.trans t5 (fun k _ e => .inl e)⟩
  rcases HSM.out m e with e | e
  · exact .inl e
  · exact .inr (Nat.le_trans HB1.out.size e)
theorem way40 (u v x : Nat) (W : World) : Calls Tryz.prog 67 #[.agg #[.int .u64 u, .int .u64 v], .int .u64 x] W fun e w' => e = .returned (.int .u64 x) ∧ Below W.heap.size W w' := by
  go_enter Tryz.func67, Tryz.ntmps67
  go_wp2
  go_ret
  exact ⟨rfl, (Below.refl _ _).alloc (Nat.le_refl _) _⟩
theorem way41 (u v x : Nat) (W : World) : Calls Tryz.prog 20 #[.agg #[.int .u64 u, .int .u64 v], .int .u64 x] W fun e w' => e = .returned (.int .u64 v) ∧ Below W.heap.size W w' := by
  go_enter Tryz.func20, Tryz.ntmps20
  go_wp2
  go_ret
  exact ⟨rfl, (Below.refl _ _).alloc (Nat.le_refl _) _⟩
theorem wrap_u64 (n : Nat) : IntKind.u64.wrap (n : Int) = ((n % 18446744073709551616 : Nat) : Int) := by
  simp [IntKind.wrap, IntKind.bits, IntKind.signed]
theorem way42 (u v x : Nat) (W : World) : Calls Tryz.prog 66 #[.agg #[.int .u64 u, .int .u64 v], .int .u64 x] W fun e w' => e = .returned (.int .u64 ((x + v) % 18446744073709551616 : Nat)) ∧ Below W.heap.size W w' := by
  have hw : IntKind.u64.wrap ((x : Int) + (v : Int)) = (((x + v) % 18446744073709551616 : Nat) : Int) := by
    rw [← Int.natCast_add, wrap_u64]
  go_enter Tryz.func66, Tryz.ntmps66
  go_wp2
  go_ret
  exact ⟨rfl, (Below.refl _ _).alloc (Nat.le_refl _) _⟩
theorem way43 (u v x : Nat) (hv : v < 18446744073709551616) (hx : x < 18446744073709551616) (W : World) : Calls Tryz.prog 69 #[.agg #[.int .u64 u, .int .u64 v], .int .u64 x] W fun e w' => e = .returned (.int .u64 (x &&& v : Nat)) ∧ Below W.heap.size W w' := by
  have hw := bits_and_u64_nat x v hx hv
  go_enter Tryz.func69, Tryz.ntmps69
  go_wp2
  go_ret
  exact ⟨rfl, (Below.refl _ _).alloc (Nat.le_refl _) _⟩
theorem way39 (u v x : Nat) (W : World) : Calls Tryz.prog 73 #[.agg #[.int .u64 u, .int .u64 v], .int .u64 x] W fun e w' => e = .returned (.int .u64 (if x = u then v else x : Nat)) ∧ Below W.heap.size W w' := by
  by_cases h : x = u
  · rw [if_pos h]
    subst h
    go_enter Tryz.func73, Tryz.ntmps73
    go_wp2
    go_ret
    exact ⟨rfl, (Below.refl _ _).alloc (Nat.le_refl _) _⟩
  · rw [if_neg h]
    have hne : ((x : Int) == (u : Int)) = false := by rw [beq_eq_false_iff_ne]; omega
    clear h
    go_enter Tryz.func73, Tryz.ntmps73
    go_wp2
    go_ret
    exact ⟨rfl, (Below.refl _ _).alloc (Nat.le_refl _) _⟩
end Go.Proofs.YthafnphpcdbnlaaGreat.S2
namespace Go.Proofs.YthafnphpcdbnlaaGreat.S2
open Go.Proofs.YthafnphpcdbnlaaGreat
open Go.RowKit Go.Maps Go.ChangeMaps Go.MapKept

def casV (x u v : Nat) : Nat := if x = u then v else x
theorem casV_lt {x u v : Nat} (h : x < 18446744073709551616) (hv : v < 18446744073709551616) : casV x u v < 18446744073709551616 := by unfold casV; split <;> assumption
/-- At bytes what stands is below 256. -/
def Byt (L : LL) : Prop := ∀ p ∈ L, byteB p.1 = true → p.2 < 256
theorem byt_nil : Byt [] := by simp [Byt]
theorem bring_small {a v : Nat} (h : byteB a = true) : bring a v < 256 := by unfold bring; rw [if_pos h]; omega
theorem Byt.put {L : LL} (h : Byt L) (a v : Nat) : Byt (putL L a (bring a v)) := by
  intro p hp hb
  unfold putL at hp
  split at hp
  · exact h p (mem_strike.1 hp).1 hb
  · rcases mem_ins.1 hp with rfl | hp
    · exact bring_small hb
    · exact h p (mem_strike.1 hp).1 hb
theorem look_mem {L : LL} (h : Good L) {p : Nat × Nat} (hp : p ∈ L) : look L p.1 = p.2 := by
  obtain ⟨hs, hv⟩ := h
  induction L with
  | nil => simp at hp
  | cons q r ih =>
    obtain ⟨h1, h2⟩ := List.pairwise_cons.1 hs
    unfold look
    rw [List.find?_cons]
    rcases List.mem_cons.1 hp with rfl | hp
    · simp
    · have := h1 p hp
      rw [show (q.1 == p.1) = false by simp; omega]
      exact ih hp h2 (fun x hx => hv x (by simp [hx]))
theorem mem_look {L : LL} {a : Nat} (h : look L a ≠ 0) : (a, look L a) ∈ L := by
  unfold look at *
  split
  · rename_i p hp
    have e := List.find?_some hp
    simp at e
    subst e
    exact List.mem_of_find?_eq_some hp
  · rename_i hp
    rw [hp] at h
    exact absurd rfl h
theorem look_small {L : LL} (h : Byt L) {a : Nat} (ha : byteB a = true) : look L a < 256 := by
  by_cases h0 : look L a = 0
  · omega
  · exact h _ (mem_look h0) ha
theorem bring_look {L : LL} (h : Byt L) (a : Nat) : bring a (look L a) = look L a := by
  unfold bring
  split
  · rename_i hb; have := look_small h hb; omega
  · rfl
theorem putL_look {L : LL} (h : Good L) {a : Nat} (ha : a < 4294967296) : putL L a (look L a) = L := by
  refine ext_look (h.put ha (look_lt h a)) h (fun p => ?_)
  unfold putL
  split
  · rename_i h0
    rw [mem_strike]
    refine ⟨fun hp => hp.1, fun hp => ⟨hp, fun e => ?_⟩⟩
    have := look_mem h hp
    rw [e, h0] at this
    have := (h.2 p hp).2.1
    omega
  · rename_i h0
    rw [mem_ins, mem_strike]
    refine ⟨fun hp => ?_, fun hp => ?_⟩
    · rcases hp with rfl | hp
      · exact mem_look h0
      · exact hp.1
    · by_cases e : p.1 = a
      · left; rw [← e, look_mem h hp]
      · exact .inr ⟨hp, e⟩

set_option maxHeartbeats 1000000 in
theorem load_any (w : World) (B : Nat) (M : Option Nat) (L : LL) (n k0 a0 was is a : Nat) (h : CellsAt w B M L n k0 a0 was is) (ha : a < 4294967296) (hn : n < 4611686018427387904) :
    Calls Tryz.prog 55 #[.pointer (some ⟨B, 0, none⟩), .int .u32 a] w fun e w' => e = .returned (.int .u64 (look L a : Nat)) ∧ ∃ M', CellsAt w' B M' (putL L a (bring a (look L a))) (n + 1) 1 a (look L a) (bring a (look L a)) ∧ Same w M M' ∧ Turns (Fp B M) w w' := by
  have hl := look_lt h.good a
  have hc := access_any w B M L n k0 a0 was is 1 a (look L a) 67 (.agg #[.int .u64 0, .int .u64 0]) h ha hl hn (enters_of Tryz.func67 (by kernel_rfl) rfl) (fun W => way40 0 0 _ W)
  have HC := Lib.hid hc
  clear hc h
  go_enter Tryz.func55, Tryz.ntmps55
  go_wp2_with (go_at_call 19; refine HC.out.mono ?_; rintro e w' ⟨rfl, M', hc, hs, ht⟩; (have HC1 := Lib.hid hc; have HS := Lib.hid hs; have HT := Lib.hid ht; clear hc hs ht))
  go_ret
  exact ⟨rfl, M', HC1.out, HS.out, HT.out⟩
set_option maxHeartbeats 1000000 in
theorem store_any (w : World) (B : Nat) (M : Option Nat) (L : LL) (n k0 a0 was is a v : Nat) (h : CellsAt w B M L n k0 a0 was is) (ha : a < 4294967296) (hv : v < 18446744073709551616) (hn : n < 4611686018427387904) :
    Calls Tryz.prog 6 #[.pointer (some ⟨B, 0, none⟩), .int .u32 a, .int .u64 v] w fun e w' => e = .returned (.int .u64 (look L a : Nat)) ∧ ∃ M', CellsAt w' B M' (putL L a (bring a (v))) (n + 1) 2 a (look L a) (bring a (v)) ∧ Same w M M' ∧ Turns (Fp B M) w w' := by
  have hl := look_lt h.good a
  have hc := access_any w B M L n k0 a0 was is 2 a (v) 20 (.agg #[.int .u64 0, .int .u64 v]) h ha hv hn (enters_of Tryz.func20 (by kernel_rfl) rfl) (fun W => way41 0 v _ W)
  have HC := Lib.hid hc
  clear hc h
  go_enter Tryz.func6, Tryz.ntmps6
  go_wp2_with (go_at_call 19; refine HC.out.mono ?_; rintro e w' ⟨rfl, M', hc, hs, ht⟩; (have HC1 := Lib.hid hc; have HS := Lib.hid hs; have HT := Lib.hid ht; clear hc hs ht))
  go_ret
  exact ⟨rfl, M', HC1.out, HS.out, HT.out⟩
set_option maxHeartbeats 1000000 in
theorem add_any (w : World) (B : Nat) (M : Option Nat) (L : LL) (n k0 a0 was is a v : Nat) (h : CellsAt w B M L n k0 a0 was is) (ha : a < 4294967296) (_hv : v < 18446744073709551616) (hn : n < 4611686018427387904) :
    Calls Tryz.prog 53 #[.pointer (some ⟨B, 0, none⟩), .int .u32 a, .int .u64 v] w fun e w' => e = .returned (.int .u64 (look L a : Nat)) ∧ ∃ M', CellsAt w' B M' (putL L a (bring a ((look L a + v) % 18446744073709551616))) (n + 1) 5 a (look L a) (bring a ((look L a + v) % 18446744073709551616)) ∧ Same w M M' ∧ Turns (Fp B M) w w' := by
  have hl := look_lt h.good a
  have hc := access_any w B M L n k0 a0 was is 5 a ((look L a + v) % 18446744073709551616) 66 (.agg #[.int .u64 0, .int .u64 v]) h ha (by omega) hn (enters_of Tryz.func66 (by kernel_rfl) rfl) (fun W => way42 0 v _ W)
  have HC := Lib.hid hc
  clear hc h
  go_enter Tryz.func53, Tryz.ntmps53
  go_wp2_with (go_at_call 19; refine HC.out.mono ?_; rintro e w' ⟨rfl, M', hc, hs, ht⟩; (have HC1 := Lib.hid hc; have HS := Lib.hid hs; have HT := Lib.hid ht; clear hc hs ht))
  go_ret
  exact ⟨rfl, M', HC1.out, HS.out, HT.out⟩
set_option maxHeartbeats 1000000 in
theorem and_any (w : World) (B : Nat) (M : Option Nat) (L : LL) (n k0 a0 was is a v : Nat) (h : CellsAt w B M L n k0 a0 was is) (ha : a < 4294967296) (hv : v < 18446744073709551616) (hn : n < 4611686018427387904) :
    Calls Tryz.prog 57 #[.pointer (some ⟨B, 0, none⟩), .int .u32 a, .int .u64 v] w fun e w' => e = .returned (.int .u64 (look L a : Nat)) ∧ ∃ M', CellsAt w' B M' (putL L a (bring a (look L a &&& v))) (n + 1) 6 a (look L a) (bring a (look L a &&& v)) ∧ Same w M M' ∧ Turns (Fp B M) w w' := by
  have hl := look_lt h.good a
  have hc := access_any w B M L n k0 a0 was is 6 a (look L a &&& v) 69 (.agg #[.int .u64 0, .int .u64 v]) h ha (Nat.lt_of_le_of_lt Nat.and_le_left hl) hn (enters_of Tryz.func69 (by kernel_rfl) rfl) (fun W => way43 0 v _ hv hl W)
  have HC := Lib.hid hc
  clear hc h
  go_enter Tryz.func57, Tryz.ntmps57
  go_wp2_with (go_at_call 19; refine HC.out.mono ?_; rintro e w' ⟨rfl, M', hc, hs, ht⟩; (have HC1 := Lib.hid hc; have HS := Lib.hid hs; have HT := Lib.hid ht; clear hc hs ht))
  go_ret
  exact ⟨rfl, M', HC1.out, HS.out, HT.out⟩
set_option maxHeartbeats 1000000 in
theorem cas_any (w : World) (B : Nat) (M : Option Nat) (L : LL) (n k0 a0 was is a u v : Nat) (h : CellsAt w B M L n k0 a0 was is) (ha : a < 4294967296) (hv : v < 18446744073709551616) (hn : n < 4611686018427387904) :
    Calls Tryz.prog 68 #[.pointer (some ⟨B, 0, none⟩), .int .u32 a, .int .u64 u, .int .u64 v] w fun e w' => e = .returned (.tuple #[.int .u64 (look L a : Nat), .bool (decide (look L a = u))]) ∧ ∃ M', CellsAt w' B M' (putL L a (bring a (casV (look L a) u v))) (n + 1) 3 a (look L a) (bring a (casV (look L a) u v)) ∧ Same w M M' ∧ Turns (Fp B M) w w' := by
  have hl := look_lt h.good a
  have hc := access_any w B M L n k0 a0 was is 3 a (casV (look L a) u v) 73 (.agg #[.int .u64 u, .int .u64 v]) h ha (casV_lt hl hv) hn (enters_of Tryz.func73 (by kernel_rfl) rfl) (fun W => way39 u v _ W)
  have hb : ((look L a : Int) == (u : Int)) = decide (look L a = u) := by
    by_cases e : look L a = u
    · simp [e]
    · rw [decide_eq_false e, beq_eq_false_iff_ne]; omega
  have HC := Lib.hid hc
  clear hc h
  generalize look L a = x at *
  generalize decide (x = u) = b at *
  go_enter Tryz.func68, Tryz.ntmps68
  go_wp2_with (go_at_call 19; refine HC.out.mono ?_; rintro e w' ⟨rfl, M', hc, hs, ht⟩; (have HC1 := Lib.hid hc; have HS := Lib.hid hs; have HT := Lib.hid ht; clear hc hs ht))
  go_ret2
  exact ⟨rfl, M', HC1.out, HS.out, HT.out⟩
theorem peek_any (w : World) (B : Nat) (M : Option Nat) (L : LL) (n k0 a0 was is a : Nat) (h : CellsAt w B M L n k0 a0 was is) (ha : a < 4294967296) :
    Calls Tryz.prog 11 #[.pointer (some ⟨B, 0, none⟩), .int .u32 a] w fun e w' => e = .returned (.int .u64 (look L a : Nat)) ∧ w = w' := by
  have c0 : w.cell? ⟨B, 0, none⟩ = some (.map M) := cell_row h.row 0
  have hat := h.look ha
  generalize look L a = x at *
  clear h
  go_enter Tryz.func11, Tryz.ntmps11
  go_wp2
  go_ret
  exact ⟨rfl, rfl⟩
end Go.Proofs.YthafnphpcdbnlaaGreat.S2
namespace Go.Proofs.YthafnphpcdbnlaaGreat.S2
open Go.Proofs.YthafnphpcdbnlaaGreat
open Go.RowKit Go.Maps Go.ChangeMaps Go.MapKept

theorem CellsAt.len {w : World} {B : Nat} {M : Option Nat} {L : LL} {n k a0 was is : Nat} (h : CellsAt w B M L n k a0 was is) (ty : TypeId) :
    (Builtin.len_ #[87] ty #[.map M]).run Tryz.prog w = .ok (.int .i64 (L.length : Nat)) w := by
  cases M with
  | none => rw [h.non rfl]; exact len_nil (w := w) Tryz.underlying87 ty
  | some m => rw [(h.som m rfl).2.len Tryz.underlying87 ty, DL_size]
/-- New cells: no access was made. -/
abbrev Fresh (w : World) (B : Nat) (L : LL) : Prop := ∃ M, CellsAt w B M L 0 0 0 0 0 ∧ B < w.heap.size
set_option maxHeartbeats 1000000 in
theorem new_none (w : World) : Calls Tryz.prog 33 #[.slice none 0 0] w fun e w' => e = .returned (.pointer (some ⟨w.heap.size, 0, none⟩)) ∧ CellsAt w' w.heap.size none [] 0 0 0 0 0 ∧ Below w.heap.size w w' := by
  go_enter Tryz.func33, Tryz.ntmps33
  go_wp2
  refine wp_loop_rounds 1 ?_
  rw [rounds_succ]
  go_wp2
  go_ret
  exact ⟨rfl, ⟨good_nil, heap_alloc_new w _, fun _ => rfl, fun m e => by cases e⟩, (Below.refl _ _).alloc (Nat.le_refl _) _⟩
abbrev Pt (B : Nat) : Value := .pointer (some ⟨B, 0, none⟩)
/-- What every access leaves. -/
def Left (w w' : World) (B : Nat) (M : Option Nat) (L : LL) (n k a was is : Nat) : Prop := ∃ M', CellsAt w' B M' L n k a was is ∧ Same w M M' ∧ Turns (Fp B M) w w'
theorem ex_store (w : World) (B : Nat) (M : Option Nat) (h : CellsAt w B M [] 0 0 0 0 0) : Calls Tryz.prog 6 #[Pt B, .int .u32 1024, .int .u64 258] w fun e w' => e = .returned (.int .u64 0) ∧ Left w w' B M [(1024, 2)] 1 2 1024 0 2 :=
  store_any w B M [] 0 0 0 0 0 1024 258 h (by omega) (by omega) (by omega)
theorem ex_load (w : World) (B : Nat) (M : Option Nat) (h : CellsAt w B M [(1024, 2)] 1 2 1024 0 2) : Calls Tryz.prog 55 #[Pt B, .int .u32 1024] w fun e w' => e = .returned (.int .u64 2) ∧ Left w w' B M [(1024, 2)] 2 1 1024 2 2 :=
  load_any w B M [(1024, 2)] 1 2 1024 0 2 1024 h (by omega) (by omega)
theorem ex_cas (w : World) (B : Nat) (M : Option Nat) (h : CellsAt w B M [(1024, 3)] 3 7 1024 2 3) : Calls Tryz.prog 68 #[Pt B, .int .u32 1024, .int .u64 3, .int .u64 1] w fun e w' => e = .returned (.tuple #[.int .u64 3, .bool true]) ∧ Left w w' B M [(1024, 1)] 4 3 1024 3 1 :=
  cas_any w B M [(1024, 3)] 3 7 1024 2 3 1024 3 1 h (by omega) (by omega) (by omega)
theorem ex_add (w : World) (B : Nat) (M : Option Nat) (h : CellsAt w B M [(1024, 1)] 4 3 1024 3 1) : Calls Tryz.prog 53 #[Pt B, .int .u32 1024, .int .u64 255] w fun e w' => e = .returned (.int .u64 1) ∧ Left w w' B M [] 5 5 1024 1 0 :=
  add_any w B M [(1024, 1)] 4 3 1024 3 1 1024 255 h (by omega) (by omega) (by omega)
/-- Cells of the call's own: all their blocks from base on. -/
theorem Left.below {w w' : World} {B : Nat} {M : Option Nat} {L : LL} {n k a was is base : Nat} (h : Left w w' B M L n k a was is) (hb : base ≤ w.heap.size) (hB : base ≤ B) (hM : ∀ m, M = some m → base ≤ m) :
    ∃ M', CellsAt w' B M' L n k a was is ∧ (∀ m, M' = some m → base ≤ m) ∧ Below base w w' := by
  obtain ⟨M', hc, hs, ht⟩ := h
  refine ⟨M', hc, fun m e => ?_, ht.below hb (fun k hk hf => ?_)⟩
  · rcases hs m e with e | e
    · exact hM m e
    · omega
  · rcases hf with rfl | e
    · omega
    · have := hM k e; omega
end Go.Proofs.YthafnphpcdbnlaaGreat.S2
namespace Go.Proofs.YthafnphpcdbnlaaGreat.S2
open Go.Proofs.YthafnphpcdbnlaaGreat
open Go.RowKit Go.Maps Go.ChangeMaps Go.MapKept

/-- Cells whose blocks all lie from base on. -/
structure St (w : World) (base B : Nat) (L : LL) (n k a was is : Nat) : Prop where
  size : base ≤ w.heap.size
  from_ : base ≤ B
  own : ∃ M, CellsAt w B M L n k a was is ∧ ∀ m, M = some m → base ≤ m
theorem St.good {w : World} {base B : Nat} {L : LL} {n k a was is : Nat} (h : St w base B L n k a was is) : Good L := let ⟨_, c, _⟩ := h.own; c.good
theorem St.lt {w : World} {base B : Nat} {L : LL} {n k a was is : Nat} (h : St w base B L n k a was is) : B < w.heap.size := let ⟨_, c, _⟩ := h.own; c.lt B (.inl rfl)
theorem St.left {w w' : World} {base B : Nat} {M : Option Nat} {L L' : LL} {n k a was is n' k' a' was' is' : Nat} (h : St w base B L n k a was is) (hm : ∀ m, M = some m → base ≤ m) (l : Left w w' B M L' n' k' a' was' is') : St w' base B L' n' k' a' was' is' ∧ Below base w w' := by
  obtain ⟨M', c, m, b⟩ := l.below h.size h.from_ hm
  exact ⟨⟨Nat.le_trans h.size b.size, h.from_, M', c, m⟩, b⟩
/-- New blocks, and blocks that are not these cells', may turn. -/
theorem St.new {w w' : World} {base B : Nat} {L : LL} {n k a was is : Nat} (h : St w base B L n k a was is) (b : Below w.heap.size w w') : St w' base B L n k a was is := by
  obtain ⟨M, c, m⟩ := h.own
  exact ⟨Nat.le_trans h.size b.size, h.from_, M, c.kept (Turns.of_below (S := fun _ => False) b) (fun _ _ e => e), m⟩
theorem row_turns {S : Nat → Prop} {w w' : World} {base e size n : Nat} {v : Value} {xs : List Value} (h : w.ownsRow base e size v n xs) (t : Turns S w w') (hs : ∀ k, base ≤ k → ¬ S k) : w'.ownsRow base e size v n xs := by
  obtain ⟨h1, h2⟩ := h
  refine ⟨h1, ?_⟩
  rcases h2 with h2 | ⟨g, cap, cur, hv, hg, hh, r⟩
  · exact .inl h2
  · exact .inr ⟨g, cap, cur, hv, hg, (t.block g (Array.getElem?_eq_some_iff.1 hh).1 (hs g hg)).trans hh, r⟩
theorem st_new (w : World) : Calls Tryz.prog 33 #[.slice none 0 0] w fun e w' => e = .returned (Pt w.heap.size) ∧ St w' w.heap.size w.heap.size [] 0 0 0 0 0 ∧ Below w.heap.size w w' :=
  (new_none w).mono fun _ _ ⟨he, hc, hb⟩ => ⟨he, ⟨hb.size, Nat.le_refl _, none, hc, fun m e => by cases e⟩, hb⟩
theorem st_load (w : World) (base B : Nat) (L : LL) (n k0 a0 was is a : Nat) (h : St w base B L n k0 a0 was is) (ha : a < 4294967296) (hn : n < 4611686018427387904) :
    Calls Tryz.prog 55 #[Pt B, .int .u32 a] w fun e w' => e = .returned (.int .u64 (look L a : Nat)) ∧ St w' base B (putL L a (bring a (look L a))) (n + 1) 1 a (look L a) (bring a (look L a)) ∧ Below base w w' := by
  obtain ⟨M, c, m⟩ := h.own
  exact (load_any w B M L n k0 a0 was is a c ha hn).mono fun _ _ ⟨he, l⟩ => ⟨he, h.left m l⟩
theorem st_store (w : World) (base B : Nat) (L : LL) (n k0 a0 was is a v : Nat) (h : St w base B L n k0 a0 was is) (ha : a < 4294967296) (hv : v < 18446744073709551616) (hn : n < 4611686018427387904) :
    Calls Tryz.prog 6 #[Pt B, .int .u32 a, .int .u64 v] w fun e w' => e = .returned (.int .u64 (look L a : Nat)) ∧ St w' base B (putL L a (bring a (v))) (n + 1) 2 a (look L a) (bring a (v)) ∧ Below base w w' := by
  obtain ⟨M, c, m⟩ := h.own
  exact (store_any w B M L n k0 a0 was is a v c ha hv hn).mono fun _ _ ⟨he, l⟩ => ⟨he, h.left m l⟩
theorem st_add (w : World) (base B : Nat) (L : LL) (n k0 a0 was is a v : Nat) (h : St w base B L n k0 a0 was is) (ha : a < 4294967296) (hv : v < 18446744073709551616) (hn : n < 4611686018427387904) :
    Calls Tryz.prog 53 #[Pt B, .int .u32 a, .int .u64 v] w fun e w' => e = .returned (.int .u64 (look L a : Nat)) ∧ St w' base B (putL L a (bring a ((look L a + v) % 18446744073709551616))) (n + 1) 5 a (look L a) (bring a ((look L a + v) % 18446744073709551616)) ∧ Below base w w' := by
  obtain ⟨M, c, m⟩ := h.own
  exact (add_any w B M L n k0 a0 was is a v c ha hv hn).mono fun _ _ ⟨he, l⟩ => ⟨he, h.left m l⟩
theorem st_and (w : World) (base B : Nat) (L : LL) (n k0 a0 was is a v : Nat) (h : St w base B L n k0 a0 was is) (ha : a < 4294967296) (hv : v < 18446744073709551616) (hn : n < 4611686018427387904) :
    Calls Tryz.prog 57 #[Pt B, .int .u32 a, .int .u64 v] w fun e w' => e = .returned (.int .u64 (look L a : Nat)) ∧ St w' base B (putL L a (bring a (look L a &&& v))) (n + 1) 6 a (look L a) (bring a (look L a &&& v)) ∧ Below base w w' := by
  obtain ⟨M, c, m⟩ := h.own
  exact (and_any w B M L n k0 a0 was is a v c ha hv hn).mono fun _ _ ⟨he, l⟩ => ⟨he, h.left m l⟩
theorem st_cas (w : World) (base B : Nat) (L : LL) (n k0 a0 was is a u v : Nat) (h : St w base B L n k0 a0 was is) (ha : a < 4294967296) (hv : v < 18446744073709551616) (hn : n < 4611686018427387904) :
    Calls Tryz.prog 68 #[Pt B, .int .u32 a, .int .u64 u, .int .u64 v] w fun e w' => e = .returned (.tuple #[.int .u64 (look L a : Nat), .bool (decide (look L a = u))]) ∧ St w' base B (putL L a (bring a (casV (look L a) u v))) (n + 1) 3 a (look L a) (bring a (casV (look L a) u v)) ∧ Below base w w' := by
  obtain ⟨M, c, m⟩ := h.own
  exact (cas_any w B M L n k0 a0 was is a u v c ha hv hn).mono fun _ _ ⟨he, l⟩ => ⟨he, h.left m l⟩
theorem st_peek (w : World) (base B : Nat) (L : LL) (n k0 a0 was is a : Nat) (h : St w base B L n k0 a0 was is) (ha : a < 4294967296) :
    Calls Tryz.prog 11 #[Pt B, .int .u32 a] w fun e w' => e = .returned (.int .u64 (look L a : Nat)) ∧ w = w' := by
  obtain ⟨M, c, m⟩ := h.own
  exact peek_any w B M L n k0 a0 was is a c ha
end Go.Proofs.YthafnphpcdbnlaaGreat.S2
