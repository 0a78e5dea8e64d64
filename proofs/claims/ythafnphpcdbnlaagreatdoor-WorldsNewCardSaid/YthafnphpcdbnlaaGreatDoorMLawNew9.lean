/- Texts of this seat, one behind the other. -/
import Derived.Test.YthafnphpcdbnlaaGreatDoorMLawNew8
import Derived.Shelf.Abstract
set_option linter.unusedVariables false
set_option linter.unusedSimpArgs false
set_option linter.unusedVariables false
set_option linter.unusedSimpArgs false
namespace Go.Proofs.YthafnphpcdbnlaaGreatDoor.S2
open Go.Proofs.YthafnphpcdbnlaaGreatDoor
open Go.RowKit Go.Maps Go.ChangeMaps Go.MapKept

theorem CellsAt.look {w : World} {B : Nat} {M : Option Nat} {L : LL} {n k a0 was is : Nat} (h : CellsAt w B M L n k a0 was is) {a : Nat} (ha : a < 4294967296) :
    (Instr.lookup 108 (.map M) (.int .u32 (a : Int)) false).run Tryz.prog w = .ok (.int .u64 (look L a : Nat)) w := by
  have hkey := keyOf27 ha
  cases M with
  | none =>
    rw [h.non rfl]
    exact look_nil (w := w) false law27 Tryz.underlying108 (zero28 _) hkey
  | some m =>
    obtain ⟨c, hr, hat, _⟩ := (h.som m rfl).2.lookup_int law27 Tryz.underlying108 Tryz.underlying22 (zero28 _) hkey
    rw [DL_at] at hat
    cases hat
    exact hr
theorem CellsAt.other {w w' : World} {B : Nat} {M : Option Nat} {L : LL} {n k a was is n' k' a' was' is' : Nat} (h : CellsAt w B M L n k a was is) (t : Turns (fun k => k = B) w w')
    (hr : w'.heap[B]? = some (.cells #[.map M, .int .i64 n', .int .u8 k', .int .u32 a', .int .u64 was', .int .u64 is'] 113 (0, 0))) : CellsAt w' B M L n' k' a' was' is' := by
  refine ⟨h.good, hr, h.non, fun m e => ⟨(h.som m e).1, ?_⟩⟩
  obtain ⟨es, clock, hb, r⟩ := (h.som m e).2
  exact ⟨es, clock, (t.block m (h.lt m (.inr e)) (h.som m e).1).trans hb, r⟩
set_option maxHeartbeats 2000000 in
theorem access_any (w : World) (B : Nat) (M : Option Nat) (L : LL) (n k0 a0 was is kd a v g : Nat) (hv : Value) (h : CellsAt w B M L n k0 a0 was is) (ha : a < 4294967296) (hvl : v < 18446744073709551616) (hn : n < 4611686018427387904)
    (eg : ∀ args w, (callFunc g args).run Tryz.prog w = .ok (.enter g args) w)
    (hway : ∀ W, Calls Tryz.prog g #[hv, .int .u64 (look L a : Nat)] W fun e w' => e = .returned (.int .u64 v) ∧ Below W.heap.size W w') :
    Calls Tryz.prog 40 #[.pointer (some ⟨B, 0, none⟩), .int .u8 kd, .int .u32 a, .func (.func g) #[hv] #[]] w fun e w' => e = .returned (.int .u64 (look L a : Nat)) ∧ ∃ M', CellsAt w' B M' (putL L a (bring a v)) (n + 1) kd a (look L a) (bring a v) ∧ Same w M M' ∧ Turns (Fp B M) w w' := by
  have c0 : w.cell? ⟨B, 0, none⟩ = some (.map M) := cell_row h.row 0
  have hlk := look_lt h.good a
  have hbr := bring_lt (a := a) hvl
  have hbrg := fun W => brought_any a v ha hvl W
  have hset := fun W (H : CellsAt W B M L n k0 a0 was is) => set_any W B M L n k0 a0 was is a (bring a v) H ha hbr
  have hat := h.look ha
  have H := Lib.hid h
  have HW := Lib.hid hway
  have HB := Lib.hid hbrg
  have HS := Lib.hid hset
  clear h hway hbrg hset
  generalize look L a = x at *
  generalize bring a v = y at *
  go_enter Tryz.func40, Tryz.ntmps40
  go_wp2_with (first
    | (go_at_fn g; refine (HW.out _).mono ?_; rintro e w1 ⟨rfl, hb1⟩)
    | (go_at_call 46; refine (HB.out _).mono ?_; rintro e w2 ⟨rfl, rfl⟩))
  have H1 := H.out.kept (Turns.of_below (S := fun _ => False) hb1) (fun _ _ e => e)
  have HH1 := Lib.hid H1
  have HB1 := Lib.hid hb1
  clear hat c0 H1 hb1
  refine (HS.out _ HH1.out).mono ?_
  rintro e w2 ⟨rfl, M', h2, hsame, ht⟩
  have c1 : w2.cell? ⟨B, 1, none⟩ = some (.int .i64 n) := cell_row h2.row 1
  have f1 : w2.frozen? ⟨B, 1, none⟩ = false := froz_row h2.row 1
  have f2 : w2.frozen? ⟨B, 2, none⟩ = false := froz_row h2.row 2
  have f3 : w2.frozen? ⟨B, 3, none⟩ = false := froz_row h2.row 3
  have f4 : w2.frozen? ⟨B, 4, none⟩ = false := froz_row h2.row 4
  have f5 : w2.frozen? ⟨B, 5, none⟩ = false := froz_row h2.row 5
  have d2 : w2.cell? ⟨B, 2, none⟩ = some (.int .u8 k0) := cell_row h2.row 2
  have d3 : w2.cell? ⟨B, 3, none⟩ = some (.int .u32 a0) := cell_row h2.row 3
  have d4 : w2.cell? ⟨B, 4, none⟩ = some (.int .u64 was) := cell_row h2.row 4
  have d5 : w2.cell? ⟨B, 5, none⟩ = some (.int .u64 is) := cell_row h2.row 5
  have H2 := Lib.hid h2
  have HSM := Lib.hid hsame
  have HT := Lib.hid ht
  clear h2 hsame ht
  go_wp2
  go_ret
  have t5 := ((((((Turns.refl (fun k => k = B) w2).setCell ⟨B, 1, none⟩ (.int .i64 ((n : Int) + 1)) rfl).setCell ⟨B, 2, none⟩ (.int .u8 kd) rfl).setCell ⟨B, 3, none⟩ (.int .u32 a) rfl).setCell ⟨B, 4, none⟩ (.int .u64 x) rfl).setCell ⟨B, 5, none⟩ (.int .u64 y) rfl)
  have r5 := row_set (row_set (row_set (row_set (row_set H2.out.row 1 (.int .i64 ((n : Int) + 1))) 2 (.int .u8 kd)) 3 (.int .u32 a)) 4 (.int .u64 x)) 5 (.int .u64 y)
  have T1 := (Turns.of_below (S := Fp B M) HB1.out).trans HT.out (fun _ _ e => e)
  refine ⟨rfl, M', H2.out.other t5 r5, fun m e => ?_, T1.trans t5 (fun k _ e => .inl e)⟩
  rcases HSM.out m e with e | e
  · exact .inl e
  · exact .inr (Nat.le_trans HB1.out.size e)
theorem way40 (u v x : Nat) (W : World) : Calls Tryz.prog 41 #[.agg #[.int .u64 u, .int .u64 v], .int .u64 x] W fun e w' => e = .returned (.int .u64 x) ∧ Below W.heap.size W w' := by
  go_enter Tryz.func41, Tryz.ntmps41
  go_wp2
  go_ret
  exact ⟨rfl, (Below.refl _ _).alloc (Nat.le_refl _) _⟩
theorem wrap_u64 (n : Nat) : IntKind.u64.wrap (n : Int) = ((n % 18446744073709551616 : Nat) : Int) := by
  simp [IntKind.wrap, IntKind.bits, IntKind.signed]
end Go.Proofs.YthafnphpcdbnlaaGreatDoor.S2
set_option linter.unusedVariables false
set_option linter.unusedSimpArgs false
namespace Go.Proofs.YthafnphpcdbnlaaGreatDoor.S2
open Go.Proofs.YthafnphpcdbnlaaGreatDoor
open Go.RowKit Go.Maps Go.ChangeMaps Go.MapKept

def casV (x u v : Nat) : Nat := if x = u then v else x
theorem casV_lt {x u v : Nat} (h : x < 18446744073709551616) (hv : v < 18446744073709551616) : casV x u v < 18446744073709551616 := by unfold casV; split <;> assumption
/-- At bytes what stands is below 256. -/
def Byt (L : LL) : Prop := ∀ p ∈ L, byteB p.1 = true → p.2 < 256
theorem byt_nil : Byt [] := by simp [Byt]
theorem bring_small {a v : Nat} (h : byteB a = true) : bring a v < 256 := by unfold bring; rw [if_pos h]; omega
theorem Byt.put {L : LL} (h : Byt L) (a v : Nat) : Byt (putL L a (bring a v)) := by
  intro p hp hb
  unfold putL at hp
  split at hp
  · exact h p (mem_strike.1 hp).1 hb
  · rcases mem_ins.1 hp with rfl | hp
    · exact bring_small hb
    · exact h p (mem_strike.1 hp).1 hb
theorem look_mem {L : LL} (h : Good L) {p : Nat × Nat} (hp : p ∈ L) : look L p.1 = p.2 := by
  obtain ⟨hs, hv⟩ := h
  induction L with
  | nil => simp at hp
  | cons q r ih =>
    obtain ⟨h1, h2⟩ := List.pairwise_cons.1 hs
    unfold look
    rw [List.find?_cons]
    rcases List.mem_cons.1 hp with rfl | hp
    · simp
    · have := h1 p hp
      rw [show (q.1 == p.1) = false by simp; omega]
      exact ih hp h2 (fun x hx => hv x (by simp [hx]))
theorem mem_look {L : LL} {a : Nat} (h : look L a ≠ 0) : (a, look L a) ∈ L := by
  unfold look at *
  split
  · rename_i p hp
    have e := List.find?_some hp
    simp at e
    subst e
    exact List.mem_of_find?_eq_some hp
  · rename_i hp
    rw [hp] at h
    exact absurd rfl h
theorem look_small {L : LL} (h : Byt L) {a : Nat} (ha : byteB a = true) : look L a < 256 := by
  by_cases h0 : look L a = 0
  · omega
  · exact h _ (mem_look h0) ha
theorem bring_look {L : LL} (h : Byt L) (a : Nat) : bring a (look L a) = look L a := by
  unfold bring
  split
  · rename_i hb; have := look_small h hb; omega
  · rfl
theorem putL_look {L : LL} (h : Good L) {a : Nat} (ha : a < 4294967296) : putL L a (look L a) = L := by
  refine ext_look (h.put ha (look_lt h a)) h (fun p => ?_)
  unfold putL
  split
  · rename_i h0
    rw [mem_strike]
    refine ⟨fun hp => hp.1, fun hp => ⟨hp, fun e => ?_⟩⟩
    have := look_mem h hp
    rw [e, h0] at this
    have := (h.2 p hp).2.1
    omega
  · rename_i h0
    rw [mem_ins, mem_strike]
    refine ⟨fun hp => ?_, fun hp => ?_⟩
    · rcases hp with rfl | hp
      · exact mem_look h0
      · exact hp.1
    · by_cases e : p.1 = a
      · left; rw [← e, look_mem h hp]
      · exact .inr ⟨hp, e⟩

set_option maxHeartbeats 1000000 in
theorem load_any (w : World) (B : Nat) (M : Option Nat) (L : LL) (n k0 a0 was is a : Nat) (h : CellsAt w B M L n k0 a0 was is) (ha : a < 4294967296) (hn : n < 4611686018427387904) :
    Calls Tryz.prog 13 #[.pointer (some ⟨B, 0, none⟩), .int .u32 a] w fun e w' => e = .returned (.int .u64 (look L a : Nat)) ∧ ∃ M', CellsAt w' B M' (putL L a (bring a (look L a))) (n + 1) 1 a (look L a) (bring a (look L a)) ∧ Same w M M' ∧ Turns (Fp B M) w w' := by
  have hl := look_lt h.good a
  have hc := access_any w B M L n k0 a0 was is 1 a (look L a) 41 (.agg #[.int .u64 0, .int .u64 0]) h ha hl hn (enters_of Tryz.func41 (by kernel_rfl) rfl) (fun W => way40 0 0 _ W)
  have HC := Lib.hid hc
  clear hc h
  go_enter Tryz.func13, Tryz.ntmps13
  go_wp2_with (go_at_call 40; refine HC.out.mono ?_; rintro e w' ⟨rfl, M', hc, hs, ht⟩; (have HC1 := Lib.hid hc; have HS := Lib.hid hs; have HT := Lib.hid ht; clear hc hs ht))
  go_ret
  exact ⟨rfl, M', HC1.out, HS.out, HT.out⟩
theorem peek_any (w : World) (B : Nat) (M : Option Nat) (L : LL) (n k0 a0 was is a : Nat) (h : CellsAt w B M L n k0 a0 was is) (ha : a < 4294967296) :
    Calls Tryz.prog 11 #[.pointer (some ⟨B, 0, none⟩), .int .u32 a] w fun e w' => e = .returned (.int .u64 (look L a : Nat)) ∧ w = w' := by
  have c0 : w.cell? ⟨B, 0, none⟩ = some (.map M) := cell_row h.row 0
  have hat := h.look ha
  generalize look L a = x at *
  clear h
  go_enter Tryz.func11, Tryz.ntmps11
  go_wp2
  go_ret
  exact ⟨rfl, rfl⟩
theorem count_any (w : World) (B : Nat) (M : Option Nat) (L : LL) (n k0 a0 was is : Nat) (h : CellsAt w B M L n k0 a0 was is) :
    Calls Tryz.prog 38 #[.pointer (some ⟨B, 0, none⟩)] w fun e w' => e = .returned (.int .i64 n) ∧ w = w' := by
  have c0 : w.cell? ⟨B, 1, none⟩ = some (.int .i64 n) := cell_row h.row 1
  clear h
  go_enter Tryz.func38, Tryz.ntmps38
  go_wp2
  go_ret
  exact ⟨rfl, rfl⟩
theorem last_any (w : World) (B : Nat) (M : Option Nat) (L : LL) (n k0 a0 was is : Nat) (h : CellsAt w B M L n k0 a0 was is) :
    Calls Tryz.prog 57 #[.pointer (some ⟨B, 0, none⟩)] w fun e w' => e = .returned (.agg #[.int .u8 k0, .int .u32 a0, .int .u64 was, .int .u64 is]) ∧ Below w.heap.size w w' := by
  have d2 : w.cell? ⟨B, 2, none⟩ = some (.int .u8 k0) := cell_row h.row 2
  have d3 : w.cell? ⟨B, 3, none⟩ = some (.int .u32 a0) := cell_row h.row 3
  have d4 : w.cell? ⟨B, 4, none⟩ = some (.int .u64 was) := cell_row h.row 4
  have d5 : w.cell? ⟨B, 5, none⟩ = some (.int .u64 is) := cell_row h.row 5
  have hlt := h.lt B (.inl rfl)
  clear h
  go_enter Tryz.func57, Tryz.ntmps57
  go_wp2
  refine bodyPost_ret (v := .agg #[.int .u8 k0, .int .u32 a0, .int .u64 was, .int .u64 is]) (by simp [results, Tryz.results57, go_sem]) rfl ⟨rfl, ?_⟩
  exact (Below.refl _ _).alloc (Nat.le_refl _) _
end Go.Proofs.YthafnphpcdbnlaaGreatDoor.S2
set_option linter.unusedVariables false
set_option linter.unusedSimpArgs false
namespace Go.Proofs.YthafnphpcdbnlaaGreatDoor.S2
open Go.Proofs.YthafnphpcdbnlaaGreatDoor
open Go.RowKit Go.Maps Go.ChangeMaps Go.MapKept

theorem CellsAt.len {w : World} {B : Nat} {M : Option Nat} {L : LL} {n k a0 was is : Nat} (h : CellsAt w B M L n k a0 was is) (ty : TypeId) :
    (Builtin.len_ #[108] ty #[.map M]).run Tryz.prog w = .ok (.int .i64 (L.length : Nat)) w := by
  cases M with
  | none => rw [h.non rfl]; exact len_nil (w := w) Tryz.underlying108 ty
  | some m => rw [(h.som m rfl).2.len Tryz.underlying108 ty, DL_size]
/-- New cells: no access was made. -/
abbrev Fresh (w : World) (B : Nat) (L : LL) : Prop := ∃ M, CellsAt w B M L 0 0 0 0 0 ∧ B < w.heap.size
set_option maxHeartbeats 1000000 in
theorem new_none (w : World) : Calls Tryz.prog 18 #[.slice none 0 0] w fun e w' => e = .returned (.pointer (some ⟨w.heap.size, 0, none⟩)) ∧ CellsAt w' w.heap.size none [] 0 0 0 0 0 ∧ Below w.heap.size w w' := by
  go_enter Tryz.func18, Tryz.ntmps18
  go_wp2
  refine wp_loop_rounds 1 ?_
  rw [rounds_succ]
  go_wp2
  go_ret
  exact ⟨rfl, ⟨good_nil, heap_alloc_new w _, fun _ => rfl, fun m e => by cases e⟩, (Below.refl _ _).alloc (Nat.le_refl _) _⟩
set_option maxHeartbeats 1000000 in
theorem words_none (w : World) (B : Nat) (M : Option Nat) (n k0 a0 was is : Nat) (h : CellsAt w B M [] n k0 a0 was is) :
    Calls Tryz.prog 60 #[.pointer (some ⟨B, 0, none⟩)] w fun e w' => e = .returned (.slice none 0 0) ∧ w = w' := by
  have c0 : w.cell? ⟨B, 0, none⟩ = some (.map M) := cell_row h.row 0
  have hl := fun ty => h.len ty
  simp only [List.length_nil] at hl
  clear h
  go_enter Tryz.func60, Tryz.ntmps60
  go_wp2
  go_ret
  exact ⟨rfl, rfl⟩
abbrev Pt (B : Nat) : Value := .pointer (some ⟨B, 0, none⟩)
/-- What every access leaves. -/
def Left (w w' : World) (B : Nat) (M : Option Nat) (L : LL) (n k a was is : Nat) : Prop := ∃ M', CellsAt w' B M' L n k a was is ∧ Same w M M' ∧ Turns (Fp B M) w w'
theorem ex_load (w : World) (B : Nat) (M : Option Nat) (h : CellsAt w B M [(1024, 2)] 1 2 1024 0 2) : Calls Tryz.prog 13 #[Pt B, .int .u32 1024] w fun e w' => e = .returned (.int .u64 2) ∧ Left w w' B M [(1024, 2)] 2 1 1024 2 2 :=
  load_any w B M [(1024, 2)] 1 2 1024 0 2 1024 h (by omega) (by omega)
theorem ex_count (w : World) (B : Nat) (M : Option Nat) (h : CellsAt w B M [] 5 5 1024 1 0) : Calls Tryz.prog 38 #[Pt B] w fun e w' => e = .returned (.int .i64 5) ∧ w = w' :=
  count_any w B M [] 5 5 1024 1 0 h
/-- Cells of the call's own: all their blocks from base on. -/
theorem Left.below {w w' : World} {B : Nat} {M : Option Nat} {L : LL} {n k a was is base : Nat} (h : Left w w' B M L n k a was is) (hb : base ≤ w.heap.size) (hB : base ≤ B) (hM : ∀ m, M = some m → base ≤ m) :
    ∃ M', CellsAt w' B M' L n k a was is ∧ (∀ m, M' = some m → base ≤ m) ∧ Below base w w' := by
  obtain ⟨M', hc, hs, ht⟩ := h
  refine ⟨M', hc, fun m e => ?_, ht.below hb (fun k hk hf => ?_)⟩
  · rcases hs m e with e | e
    · exact hM m e
    · omega
  · rcases hf with rfl | e
    · omega
    · have := hM k e; omega
end Go.Proofs.YthafnphpcdbnlaaGreatDoor.S2
set_option linter.unusedVariables false
set_option linter.unusedSimpArgs false
namespace Go.Proofs.YthafnphpcdbnlaaGreatDoor.S2
open Go.Proofs.YthafnphpcdbnlaaGreatDoor
open Go.RowKit Go.Maps Go.ChangeMaps Go.MapKept

/-- Cells whose blocks all lie from base on. -/
structure St (w : World) (base B : Nat) (L : LL) (n k a was is : Nat) : Prop where
  size : base ≤ w.heap.size
  from_ : base ≤ B
  own : ∃ M, CellsAt w B M L n k a was is ∧ ∀ m, M = some m → base ≤ m
theorem St.good {w : World} {base B : Nat} {L : LL} {n k a was is : Nat} (h : St w base B L n k a was is) : Good L := let ⟨_, c, _⟩ := h.own; c.good
theorem St.lt {w : World} {base B : Nat} {L : LL} {n k a was is : Nat} (h : St w base B L n k a was is) : B < w.heap.size := let ⟨_, c, _⟩ := h.own; c.lt B (.inl rfl)
theorem St.left {w w' : World} {base B : Nat} {M : Option Nat} {L L' : LL} {n k a was is n' k' a' was' is' : Nat} (h : St w base B L n k a was is) (hm : ∀ m, M = some m → base ≤ m) (l : Left w w' B M L' n' k' a' was' is') : St w' base B L' n' k' a' was' is' ∧ Below base w w' := by
  obtain ⟨M', c, m, b⟩ := l.below h.size h.from_ hm
  exact ⟨⟨Nat.le_trans h.size b.size, h.from_, M', c, m⟩, b⟩
/-- New blocks, and blocks that are not these cells', may turn. -/
theorem St.new {w w' : World} {base B : Nat} {L : LL} {n k a was is : Nat} (h : St w base B L n k a was is) (b : Below w.heap.size w w') : St w' base B L n k a was is := by
  obtain ⟨M, c, m⟩ := h.own
  exact ⟨Nat.le_trans h.size b.size, h.from_, M, c.kept (Turns.of_below (S := fun _ => False) b) (fun _ _ e => e), m⟩
theorem row_turns {S : Nat → Prop} {w w' : World} {base e size n : Nat} {v : Value} {xs : List Value} (h : w.ownsRow base e size v n xs) (t : Turns S w w') (hs : ∀ k, base ≤ k → ¬ S k) : w'.ownsRow base e size v n xs := by
  obtain ⟨h1, h2⟩ := h
  refine ⟨h1, ?_⟩
  rcases h2 with h2 | ⟨g, cap, cur, hv, hg, hh, r⟩
  · exact .inl h2
  · exact .inr ⟨g, cap, cur, hv, hg, (t.block g (Array.getElem?_eq_some_iff.1 hh).1 (hs g hg)).trans hh, r⟩
theorem st_new (w : World) : Calls Tryz.prog 18 #[.slice none 0 0] w fun e w' => e = .returned (Pt w.heap.size) ∧ St w' w.heap.size w.heap.size [] 0 0 0 0 0 ∧ Below w.heap.size w w' :=
  (new_none w).mono fun _ _ ⟨he, hc, hb⟩ => ⟨he, ⟨hb.size, Nat.le_refl _, none, hc, fun m e => by cases e⟩, hb⟩
theorem st_load (w : World) (base B : Nat) (L : LL) (n k0 a0 was is a : Nat) (h : St w base B L n k0 a0 was is) (ha : a < 4294967296) (hn : n < 4611686018427387904) :
    Calls Tryz.prog 13 #[Pt B, .int .u32 a] w fun e w' => e = .returned (.int .u64 (look L a : Nat)) ∧ St w' base B (putL L a (bring a (look L a))) (n + 1) 1 a (look L a) (bring a (look L a)) ∧ Below base w w' := by
  obtain ⟨M, c, m⟩ := h.own
  exact (load_any w B M L n k0 a0 was is a c ha hn).mono fun _ _ ⟨he, l⟩ => ⟨he, h.left m l⟩
theorem st_peek (w : World) (base B : Nat) (L : LL) (n k0 a0 was is a : Nat) (h : St w base B L n k0 a0 was is) (ha : a < 4294967296) :
    Calls Tryz.prog 11 #[Pt B, .int .u32 a] w fun e w' => e = .returned (.int .u64 (look L a : Nat)) ∧ w = w' := by
  obtain ⟨M, c, m⟩ := h.own
  exact peek_any w B M L n k0 a0 was is a c ha
theorem st_count (w : World) (base B : Nat) (L : LL) (n k0 a0 was is : Nat) (h : St w base B L n k0 a0 was is) :
    Calls Tryz.prog 38 #[Pt B] w fun e w' => e = .returned (.int .i64 n) ∧ w = w' := by
  obtain ⟨M, c, m⟩ := h.own
  exact count_any w B M L n k0 a0 was is c
theorem st_last (w : World) (base B : Nat) (L : LL) (n k0 a0 was is : Nat) (h : St w base B L n k0 a0 was is) :
    Calls Tryz.prog 57 #[Pt B] w fun e w' => e = .returned (.agg #[.int .u8 k0, .int .u32 a0, .int .u64 was, .int .u64 is]) ∧ Below w.heap.size w w' := by
  obtain ⟨M, c, m⟩ := h.own
  exact last_any w B M L n k0 a0 was is c
end Go.Proofs.YthafnphpcdbnlaaGreatDoor.S2
