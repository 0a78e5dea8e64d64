/- Has a runner a lock; whose? -/
import Derived.Test.YthafnphpcdbnlaaGreatS15Ra
set_option linter.unusedVariables false
set_option linter.unusedSimpArgs false
namespace Go.Proofs.YthafnphpcdbnlaaGreat.S15
open Go.Proofs.YthafnphpcdbnlaaGreat Go.Proofs.YthafnphpcdbnlaaGreat.S11 Go.Proofs.YthafnphpcdbnlaaGreat.S12 Go.Proofs.YthafnphpcdbnlaaGreat.S13 Go.Proofs.YthafnphpcdbnlaaGreat.S14
open Go.RowKit

def Rn.inn (r : Rn) : Bool := decide (r.k = 1 ∧ r.E.ln = 0)
def Rn.ad (r : Rn) : Nat := if r.k = 1 ∧ r.E.ln = 0 then r.E.a else 0
abbrev Pq (B q : Nat) : Value := .pointer (some ⟨B, q, none⟩)
section
variable {w0 w w' : World} {base WB AB j u q : Nat} {M : Sd} {r r' : List Part} {C : Nat → Value} {X : Wm} {i : Nat} {R : Nat → Rn} {E : En} {Z : Wb}
theorem at_end0 (ok : EnOk E) (h : Ew w0 w base WB M r j u E Z X) (h0 : E.ln = 0) : (nPart E.ow : Int) ≤ Z.i := by
  have := at_over ok
  rw [decide_eq_true h0] at this
  rw [h.i]
  exact of_decide_eq_true this
theorem ins_free {U : Nat} (c4 : w.cell? ⟨AB, q + 4, none⟩ = some (Pw U)) : Calls Tryz.prog 8 #[Pq AB q] w fun e w' => e = .returned (.tuple #[.int .u32 0, .bool false]) ∧ Below w.heap.size w w' := by
  go_enter Tryz.func8, Tryz.ntmps8
  go_wp2_with fail
  exact bodyPost_ret (v := .tuple #[.int .u32 0, .bool false]) (by simp [results, Tryz.results8, go_sem]) rfl ⟨rfl, Below.refl _ _⟩
theorem ins_none (c2 : w.cell? ⟨AB, q + 2, none⟩ = some nl) (c3 : w.cell? ⟨AB, q + 3, none⟩ = some nl) (c4 : w.cell? ⟨AB, q + 4, none⟩ = some nl) : Calls Tryz.prog 8 #[Pq AB q] w fun e w' => e = .returned (.tuple #[.int .u32 0, .bool false]) ∧ Below w.heap.size w w' := by
  go_enter Tryz.func8, Tryz.ntmps8
  go_wp2_with fail
  exact bodyPost_ret (v := .tuple #[.int .u32 0, .bool false]) (by simp [results, Tryz.results8, go_sem]) rfl ⟨rfl, Below.refl _ _⟩
set_option maxRecDepth 100000 in
set_option maxHeartbeats 4000000 in
theorem ins_own (h : Ew w0 w base WB M r j u E Z X) (ok : EnOk E) (ho : E.ow = true) (c2 : w.cell? ⟨AB, q + 2, none⟩ = some nl) (c3 : w.cell? ⟨AB, q + 3, none⟩ = some (Pw Z.B)) (c4 : w.cell? ⟨AB, q + 4, none⟩ = some nl) (hab : AB < w.heap.size) :
    Calls Tryz.prog 8 #[Pq AB q] w fun e w' => e = .returned (.tuple #[.int .u32 ((if E.ln = 0 then E.a else 0 : Nat) : Int), .bool (decide (E.ln = 0))]) ∧ Below w.heap.size w w' := by
  have hov := h.oover ok
  by_cases h0 : E.ln = 0
  · rw [decide_eq_true h0] at hov ⊢
    rw [if_pos h0]
    have hz := lok_z h (.inr h0)
    have hgot := fun W (hb : Below w.heap.size w W) => ogot_yes (h.new hb).wy (at_end0 ok (h.new hb) h0)
    have hlk : ∀ W, Calls Tryz.prog 18 #[plV Z.pb Z.pi] W fun e w' => e = .returned (.int .u32 (E.a : Int)) ∧ Below W.heap.size W w' := fun W => by
      have := lockOf_any Z.pb Z.pi W
      rwa [hz] at this
    have hc3 : ∀ W, Below w.heap.size w W → W.cell? ⟨AB, q + 3, none⟩ = some (Pw Z.B) := fun W hb => (hb.cell (p := ⟨AB, q + 3, none⟩) hab).trans c3
    have HOV := Lib.hid hov; have HGOT := Lib.hid hgot; have HLK := Lib.hid hlk; have HC3 := Lib.hid hc3
    clear h ok hov hgot hlk hc3 h0 hz
    generalize Z.pb = pb at *
    generalize Z.pi = pi at *
    generalize Z.B = ZB at *
    generalize E.kw % 4294967296 = kk at *
    generalize E.a = a at *
    go_enter Tryz.func8, Tryz.ntmps8
    go_upto_region 4 with (go_at_call 24; refine HOV.out.mono ?_; rintro e w1 ⟨rfl, hb1⟩; have HB1 := Lib.hid hb1; clear hb1)
    have y3 := HC3.out _ HB1.out
    have HG := Lib.hid (HGOT.out _ HB1.out)
    go_upto_region 5 with (go_at_call 25; refine HG.out.mono ?_; rintro e w2 ⟨rfl, hb2⟩; have HB2 := Lib.hid (HB1.out.trans (hb2.mono HB1.out.size)); clear hb2)
    have z0 : (w2.alloc (.cells #[.int .i64 pb, .int .i64 pi] 64)).cell? ⟨w2.heap.size, 0, none⟩ = some (.int .i64 pb) := cell_row (heap_alloc_new w2 _) 0
    have z1 : (w2.alloc (.cells #[.int .i64 pb, .int .i64 pi] 64)).cell? ⟨w2.heap.size, 1, none⟩ = some (.int .i64 pi) := cell_row (heap_alloc_new w2 _) 1
    have HB3 := Lib.hid (HB2.out.trans ((below1 w2 (.cells #[.int .i64 pb, .int .i64 pi] 64)).mono HB2.out.size))
    obtain ⟨Q, hQ⟩ : ∃ Q, Q = w2.heap.size := ⟨_, rfl⟩
    obtain ⟨w3, hw3⟩ : ∃ w3, w3 = w2.alloc (.cells #[.int .i64 pb, .int .i64 pi] 64) := ⟨_, rfl⟩
    rw [← hw3] at HB3 z0 z1 ⊢
    rw [← hQ] at z0 z1 ⊢
    clear hw3 hQ
    go_wp2_with (go_at_call 18; refine (HLK.out _).mono ?_; rintro e w4 ⟨rfl, hb4⟩; have HB4 := Lib.hid hb4; clear hb4)
    exact bodyPost_ret (v := .tuple #[.int .u32 (a : Int), .bool true]) (by simp [results, Tryz.results8, go_sem]) rfl ⟨rfl, HB3.out.trans (HB4.out.mono HB3.out.size)⟩
  · rw [decide_eq_false h0] at hov ⊢
    rw [if_neg h0]
    have hc2 : ∀ W, Below w.heap.size w W → W.cell? ⟨AB, q + 2, none⟩ = some nl := fun W hb => (hb.cell (p := ⟨AB, q + 2, none⟩) hab).trans c2
    have HOV := Lib.hid hov; have HC2 := Lib.hid hc2
    clear h ok hov h0 hc2
    generalize Z.B = ZB at *
    go_enter Tryz.func8, Tryz.ntmps8
    go_upto_region 6 with (go_at_call 24; refine HOV.out.mono ?_; rintro e w1 ⟨rfl, hb1⟩; have HB1 := Lib.hid hb1; clear hb1)
    have y2 := HC2.out _ HB1.out
    go_wp2_with fail
    exact bodyPost_ret (v := .tuple #[.int .u32 ((0 : Nat) : Int), .bool false]) (by simp [results, Tryz.results8, go_sem]) rfl ⟨rfl, HB1.out⟩
set_option maxRecDepth 100000 in
set_option maxHeartbeats 4000000 in
theorem ins_enter (h : Ew w0 w base WB M r j u E Z X) (ok : EnOk E) (ho : E.ow = false) (c2 : w.cell? ⟨AB, q + 2, none⟩ = some (Pw Z.B)) (c3 : w.cell? ⟨AB, q + 3, none⟩ = some nl) (c4 : w.cell? ⟨AB, q + 4, none⟩ = some nl) (hab : AB < w.heap.size) :
    Calls Tryz.prog 8 #[Pq AB q] w fun e w' => e = .returned (.tuple #[.int .u32 ((if E.ln = 0 then E.a else 0 : Nat) : Int), .bool (decide (E.ln = 0))]) ∧ Below w.heap.size w w' := by
  have hov := h.eover ok
  by_cases h0 : E.ln = 0
  · rw [decide_eq_true h0] at hov ⊢
    rw [if_pos h0]
    have hz := lok_z h (.inr h0)
    have hgot := fun W (hb : Below w.heap.size w W) => egot_yes (h.new hb).wy (at_end0 ok (h.new hb) h0)
    have hlk : ∀ W, Calls Tryz.prog 18 #[plV Z.pb Z.pi] W fun e w' => e = .returned (.int .u32 (E.a : Int)) ∧ Below W.heap.size W w' := fun W => by
      have := lockOf_any Z.pb Z.pi W
      rwa [hz] at this
    have hc2 : ∀ W, Below w.heap.size w W → W.cell? ⟨AB, q + 2, none⟩ = some (Pw Z.B) := fun W hb => (hb.cell (p := ⟨AB, q + 2, none⟩) hab).trans c2
    have HOV := Lib.hid hov; have HGOT := Lib.hid hgot; have HLK := Lib.hid hlk; have HC2 := Lib.hid hc2
    clear h ok hov hgot hlk hc2 h0 hz
    generalize Z.pb = pb at *
    generalize Z.pi = pi at *
    generalize Z.B = ZB at *
    generalize E.a = a at *
    go_enter Tryz.func8, Tryz.ntmps8
    go_upto_region 7 with (go_at_call 26; refine HOV.out.mono ?_; rintro e w1 ⟨rfl, hb1⟩; have HB1 := Lib.hid hb1; clear hb1)
    have y2 := HC2.out _ HB1.out
    have HG := Lib.hid (HGOT.out _ HB1.out)
    go_wp2_with (first
      | (go_at_call 16; refine HG.out.mono ?_; rintro e w2 ⟨rfl, hb2⟩; have HB2 := Lib.hid (HB1.out.trans (hb2.mono HB1.out.size)); clear hb2)
      | (go_at_call 18; refine (HLK.out _).mono ?_; rintro e w4 ⟨rfl, hb4⟩; have HB4 := Lib.hid hb4; clear hb4))
    exact bodyPost_ret (v := .tuple #[.int .u32 (a : Int), .bool true]) (by simp [results, Tryz.results8, go_sem]) rfl ⟨rfl, HB2.out.trans (HB4.out.mono HB2.out.size)⟩
  · rw [decide_eq_false h0] at hov ⊢
    rw [if_neg h0]
    have HOV := Lib.hid hov
    clear h ok hov h0
    generalize Z.B = ZB at *
    go_enter Tryz.func8, Tryz.ntmps8
    go_wp2_with (go_at_call 26; refine HOV.out.mono ?_; rintro e w1 ⟨rfl, hb1⟩; have HB1 := Lib.hid hb1; clear hb1)
    exact bodyPost_ret (v := .tuple #[.int .u32 ((0 : Nat) : Int), .bool false]) (by simp [results, Tryz.results8, go_sem]) rfl ⟨rfl, HB1.out⟩
theorem Rw.ab (h : Rw w0 w base WB AB M r C X) : AB < w.heap.size := by
  obtain ⟨cs, e, _⟩ := h.at
  exact heap_lt e
theorem Rw.c (h : Rw w0 w base WB AB M r C X) {m : Nat} {v : Value} (hm : m < 20) (e : C m = v) : w.cell? ⟨AB, m, none⟩ = some v := by
  rw [← e]; exact h.at.cell hm
/-- Has it a lock; whose? -/
theorem inside_any (h : Runs w0 w base WB AB M R r C X) (hi : i < 4) : Calls Tryz.prog 8 #[Pq AB (5 * i)] w fun e w' => e = .returned (.tuple #[.int .u32 ((R i).ad : Int), .bool (R i).inn]) ∧ Below w.heap.size w w' := by
  obtain ⟨a, b, c⟩ := h.at_ i hi
  have hok := h.eok i hi
  unfold Rn.inn Rn.ad
  have hab := h.rw'.ab
  rcases c with ⟨c1, c2, c3, c4⟩ | ⟨c1, c2, c3, c4, Z, c5, c6⟩ | ⟨c1, c2, c3, c4, Z, c5, c6⟩ | ⟨c1, c2, c3, U, c4, c5⟩
  · rw [if_neg (by omega), decide_eq_false (by omega)]
    exact ins_none (h.rw'.c (by omega) c2) (h.rw'.c (by omega) c3) (h.rw'.c (by omega) c4)
  · have := ins_enter (c6.ew h.rw'.pg (by omega) (by rw [h.rw'.len]; omega)) (hok c1) c2 (h.rw'.c (by omega) c5) (h.rw'.c (by omega) c3) (h.rw'.c (by omega) c4) hab
    simpa [c1] using this
  · have := ins_own (c6.ew h.rw'.pg (by omega) (by rw [h.rw'.len]; omega)) (hok c1) c2 (h.rw'.c (by omega) c3) (h.rw'.c (by omega) c5) (h.rw'.c (by omega) c4) hab
    simpa [c1] using this
  · rw [if_neg (by omega), decide_eq_false (by omega)]
    exact ins_free (h.rw'.c (by omega) c4)
end
end Go.Proofs.YthafnphpcdbnlaaGreat.S15
