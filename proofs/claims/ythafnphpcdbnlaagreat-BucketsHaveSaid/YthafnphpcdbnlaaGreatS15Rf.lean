/- BucketsHave's walk. -/
import Derived.Test.YthafnphpcdbnlaaGreatS15Re
set_option linter.unusedVariables false
set_option linter.unusedSimpArgs false
namespace Go.Proofs.YthafnphpcdbnlaaGreat.S15
open Go.Proofs.YthafnphpcdbnlaaGreat Go.Proofs.YthafnphpcdbnlaaGreat.S11 Go.Proofs.YthafnphpcdbnlaaGreat.S12 Go.Proofs.YthafnphpcdbnlaaGreat.S13 Go.Proofs.YthafnphpcdbnlaaGreat.S14
open Go.RowKit

section
variable {w0 w w' : World} {base WB AB : Nat} {M : Sd} {r : List Part} {C : Nat → Value} {X : Wm} {i : Nat} {R : Nat → Rn}
/-- A runner's step, whatever it does. -/
theorem step_all (h : Runs w0 w base WB AB M R r C X) (hi : i < 4) (hn : M.n ≤ 900000000) (hp : M.pn ≤ 900000000) (b : Bool) {key : Nat} (hkey : key < 65536) :
    Calls Tryz.prog 10 #[Pq AB (5 * i), Pw WB, .bool b, .int .u32 (key : Int)] w fun e w' => e = .returned (.tuple #[]) ∧ SStep w0 w' base WB AB M := by
  have hk := (h.inv.ok i hi).k
  obtain ⟨k, E, F, hr⟩ : ∃ k E F, R i = ⟨k, E, F⟩ := ⟨_, _, _, rfl⟩
  rw [hr] at hk
  have hk' : k ≤ 2 := hk
  rcases (show k = 0 ∨ k = 1 ∨ k = 2 by omega) with rfl | rfl | rfl
  · cases b
    · exact step_ne h hi hn hp false hkey hr
    · exact step_no h hi hn hp true hkey hr
  · by_cases h0 : E.ln = 0
    · exact step_in h hi hn hp b hkey hr h0
    · cases ho : E.ow
      · exact step_e1 h hi hn hp b hkey hr h0 ho
      · exact step_o1 h hi hn hp b hkey hr h0 ho
  · exact step_f2 h hi hn hp b hkey hr
/-- Nobody has begun. -/
def rn0 : Rn := ⟨0, en0 0 0, fr0 0⟩
theorem runs0 (h : Rw w0 w base WB AB M r C X) (hk : ∀ i, i < 4 → S2.look M.L (64 + i) < 65536) (hC : ∀ i, i < 4 → C (5 * i) = .int .i64 (i : Int) ∧ C (5 * i + 1) = .int .u32 ((0 : Nat) : Int) ∧ C (5 * i + 2) = nl ∧ C (5 * i + 3) = nl ∧ C (5 * i + 4) = nl) (ms : 0 ≤ M.sp ∧ M.sp ≤ 16) :
    Runs w0 w base WB AB M (fun _ => rn0) r C X := by
  refine ⟨h, fun i hi => ?_, ⟨fun i hi => ?_, fun i hi hh => ?_, fun i j hi hj hij hh => ?_, fun i hi e => ?_, fun i hi e => ?_, hk⟩, fun i hi e => ?_, fun i hi e => ?_, ms⟩
  · obtain ⟨a, b, c⟩ := hC i hi
    exact ⟨a, ⟨0, b, fun e => (by cases e)⟩, .inl ⟨rfl, c⟩⟩
  · exact ⟨by show 0 ≤ 2; omega, fun e => (by cases e), fun e => (by cases e), fun e => (by cases e), fun e => (by cases e), fun e => (by cases e), fun e => (by cases e), fun e => (by cases e)⟩
  · rcases hh with ⟨e, _⟩ | ⟨e, _⟩ <;> cases e
  · rcases hh with ⟨e, _⟩ | ⟨e, _⟩ <;> cases e
  · cases e
  · cases e
  · cases e
  · cases e
/-- How it stands while all begins. -/
def Ini (w0 : World) (base WB AB i : Nat) (w : World) : Prop := ∃ M r C X, Rw w0 w base WB AB M r C X ∧ M.n ≤ i ∧ M.pn ≤ i ∧ (0 ≤ M.sp ∧ M.sp ≤ 16) ∧ (∀ j, j < 4 → S2.look M.L (64 + j) < 65536) ∧
  ∀ j, j < 4 → (j < i → C (5 * j) = .int .i64 (j : Int)) ∧ C (5 * j + 1) = .int .u32 ((0 : Nat) : Int) ∧ C (5 * j + 2) = nl ∧ C (5 * j + 3) = nl ∧ C (5 * j + 4) = nl
/-- How it stands behind so many of the script. -/
def Lp (w0 : World) (base WB AB i : Nat) (w : World) : Prop := ∃ M R r C X, Runs w0 w base WB AB M R r C X ∧ M.n ≤ 4 + 2 * i ∧ M.pn ≤ 4 + 2 * i
def zC (m : Nat) : Value := if m % 5 = 0 then .int .i64 0 else if m % 5 = 1 then .int .u32 0 else nl
theorem ini_new (h : Pg w0 w base WB M [] X) (hn : M.n = 0) (hp : M.pn = 0) (ms : 0 ≤ M.sp ∧ M.sp ≤ 16) (hk : ∀ j, j < 4 → S2.look M.L (64 + j) = 0) (cs : Array Value) (hcs : cs.size = 20) (hz : ∀ i, i < 20 → cs[i]? = some (zC i)) : Ini w0 base WB w.heap.size 0 (w.alloc (.cells cs 35)) := by
  have hr : RunsAt (w.alloc (.cells cs 35)) w.heap.size zC := ⟨cs, heap_alloc_new w _, hcs, hz⟩
  have g := Pg.push1 h (runP w.heap.size zC) (below1 w _) hr (fun k e => Nat.le_of_eq (show k = w.heap.size from e).symm)
  have p := fun {r : List Part} (g : Pg w0 (w.alloc (.cells cs 35)) base WB M r X) => Pg.push1 g noP (Below.refl _ _) trivial (fun k e => e.elim)
  have g8 := p (p (p (p (p (p (p (p g)))))))
  refine ⟨M, _, zC, X, ⟨g8, rfl, rfl⟩, by omega, by omega, ms, fun j hj => by rw [hk j hj]; omega, fun j hj => ⟨fun e => absurd e (Nat.not_lt_zero _), ?_⟩⟩
  rcases (show j = 0 ∨ j = 1 ∨ j = 2 ∨ j = 3 by omega) with rfl | rfl | rfl | rfl <;> exact ⟨rfl, rfl, rfl, rfl⟩
theorem ini_t (h : Ini w0 base WB AB i w) (hi : i < 4) : ∃ M r C X, Rw w0 w base WB AB M r C X ∧ Rw w0 (w.setCell ⟨AB, 5 * i, none⟩ (.int .i64 (i : Int))) base WB AB M (r.set 0 (runP AB (updC C (5 * i) (.int .i64 (i : Int))))) (updC C (5 * i) (.int .i64 (i : Int))) X ∧ M.n ≤ 100 ∧
    ∀ W X' v, v < 65536 → Pg w0 W base WB (M.acc 2 (64 + i) v) (r.set 0 (runP AB (updC C (5 * i) (.int .i64 (i : Int))))) X' → Ini w0 base WB AB (i + 1) W := by
  obtain ⟨M, r, C, X, h, hn, hp, ms, hk, hC⟩ := h
  have g := h.put (m := 5 * i) (by omega) (.int .i64 (i : Int))
  refine ⟨M, r, C, X, h, g, by omega, fun W X' v hv hp' => ⟨_, _, _, X', ⟨hp', g.len, g.p0⟩, by show M.n + 1 ≤ _; omega, by show M.pn ≤ _; omega, ms, fun j hj => ?_, fun j hj => ?_⟩⟩
  · by_cases e : j = i
    · subst e; rw [acc_same (by omega)]; exact hv
    · rw [acc_other (by omega)]; exact hk j hj
  · obtain ⟨c0, c1, c2, c3, c4⟩ := hC j hj
    refine ⟨fun hl => ?_, (updC_else (by omega)).trans c1, (updC_else (by omega)).trans c2, (updC_else (by omega)).trans c3, (updC_else (by omega)).trans c4⟩
    by_cases e : j = i
    · subst e; exact updC_same _ _ _
    · rw [updC_else (by omega)]; exact c0 (by omega)
theorem ini_end (h : Ini w0 base WB AB 4 w) : Lp w0 base WB AB 0 w := by
  obtain ⟨M, r, C, X, h, hn, hp, ms, hk, hC⟩ := h
  exact ⟨M, _, r, C, X, runs0 h hk (fun j hj => ⟨(hC j hj).1 hj, (hC j hj).2⟩) ms, hn, hp⟩
end
def Z20 : Array Value := #[.int .i64 0, .int .u32 0, nl, nl, nl, .int .i64 0, .int .u32 0, nl, nl, nl, .int .i64 0, .int .u32 0, nl, nl, nl, .int .i64 0, .int .u32 0, nl, nl, nl]
theorem mk4 (W : World) : (Instr.makeSlice 28 (.int .i64 4) (.int .i64 4)).run Tryz.prog W = .ok (.slice (some ⟨W.heap.size, 0, none⟩) 4 4) (W.alloc (.cells Z20 35)) := by kernel_rfl
theorem z20_at (i : Nat) (h : i < 20) : Z20[i]? = some (zC i) := by
  rcases (show i = 0 ∨ i = 1 ∨ i = 2 ∨ i = 3 ∨ i = 4 ∨ i = 5 ∨ i = 6 ∨ i = 7 ∨ i = 8 ∨ i = 9 ∨ i = 10 ∨ i = 11 ∨ i = 12 ∨ i = 13 ∨ i = 14 ∨ i = 15 ∨ i = 16 ∨ i = 17 ∨ i = 18 ∨ i = 19 by omega) with rfl | rfl | rfl | rfl | rfl | rfl | rfl | rfl | rfl | rfl | rfl | rfl | rfl | rfl | rfl | rfl | rfl | rfl | rfl | rfl <;> rfl
theorem wrap_k32 {k : Nat} (h : k < 65536) : IntKind.u32.wrap (k : Int) = (k : Int) := by rw [IntKind.wrap_u32]; omega
theorem few1 {a i n : Nat} (h : a ≤ 5 + 2 * i) (h1 : i < n) (h2 : n ≤ 500) : a ≤ 900000000 := by omega
theorem few2 {a i n : Nat} (h : a ≤ 4 + 2 * i) (h1 : i < n) (h2 : n ≤ 500) : a ≤ 900000000 := by omega
theorem few3 {a b i : Nat} (h : a ≤ b + 1) (g : b ≤ 5 + 2 * i) : a ≤ 4 + 2 * (i + 1) := by omega
theorem few4 {a b i : Nat} (h : a ≤ b + 1) (g : b ≤ 4 + 2 * i) : a ≤ 4 + 2 * (i + 1) := by omega
theorem eq_no2 {a b : Nat} (h : ¬ a = b) : ((a : Int) == (b : Int)) = false := by simp; omega
theorem holds_of {r : Rn} (h : r.inn = true) : r.holds ∧ r.adr = r.ad := by
  obtain ⟨k1, k2⟩ := of_decide_eq_true h
  exact ⟨.inl ⟨k1, .inr (.inr (.inl k2))⟩, by unfold Rn.adr Rn.ad; rw [if_neg (by omega), if_pos ⟨k1, k2⟩]⟩
theorem runs_odd {w0 w : World} {base WB AB : Nat} {M : Sd} {r : List Part} {C : Nat → Value} {X : Wm} {j : Nat} {R : Nat → Rn} (h : Runs w0 w base WB AB M R r C X) (hj : j < 4) (hin : (R j).inn = true) :
    (S2.look M.L (R j).ad : Int).tmod 2 = 1 ∧ (S2.look M.L (R j).ad : Int) % 2 = 1 ∧ S2.look M.L (R j).ad % 2 = 1 ∧ (R j).ad < 4294967296 := by
  obtain ⟨h1, h2⟩ := holds_of hin
  have ho := h.inv.od j hj h1
  rw [h2] at ho
  obtain ⟨k1, k2⟩ := of_decide_eq_true hin
  have ha : (R j).ad < 4294967296 := by
    unfold Rn.ad
    rw [if_pos ⟨k1, k2⟩]
    have := (R j).E.a_in; omega
  generalize S2.look M.L (R j).ad = v at *
  have e : (v : Int) % 2 = 1 := by omega
  exact ⟨(Int.tmod_eq_emod_of_nonneg (Int.natCast_nonneg _)).trans e, e, ho, ha⟩
theorem runs_ne {w0 w : World} {base WB AB : Nat} {M : Sd} {r : List Part} {C : Nat → Value} {X : Wm} {j m : Nat} {R : Nat → Rn} (h : Runs w0 w base WB AB M R r C X) (hm : m < 4) (hj : j < 4) (hne : m ≠ j) (hin : (R j).inn = true) : (R m).inn = false ∨ (R m).ad ≠ (R j).ad := by
  cases hh : (R m).inn
  · exact .inl rfl
  · right
    obtain ⟨h1, h2⟩ := holds_of hin
    obtain ⟨g1, g2⟩ := holds_of hh
    have := h.inv.ne m j hm hj hne g1 h1
    rwa [g2, h2] at this
theorem few6 {k : Nat} (h : k < 4) : 64 + k < 4294967296 := by omega
theorem few7 {k : Nat} (h : k < 65536) : k < 18446744073709551616 := by omega
theorem few8 {a i n : Nat} (h : a ≤ 5 + 2 * i) (h1 : i < n) (h2 : n ≤ 500) : a ≤ 1000000000 := by omega
theorem few9 {k : Nat} (h : k < 4) : 1 + 2 * k < 9 := by omega
theorem few10 {k : Nat} : 1 + 2 * k ≠ 0 := by omega
theorem few11 {k : Nat} (h : k < 4) : 5 * k + 4 < 20 := by omega
theorem few12 {a i : Nat} (h : a + 1 ≤ 4 + 2 * i + 1) : a + 1 ≤ 5 + 2 * i := by omega
theorem leave_store {w0 w w' : World} {base WB AB U v : Nat} {M : Sd} {r : List Part} {C : Nat → Value} {X X' : Wm} {i : Nat} {R : Nat → Rn} {E : En} {F : Fr} (h : Runs w0 w base WB AB M R r C X) (hi : i < 4) (hr : R i = ⟨1, E, F⟩) (h0 : E.ln = 0) (hv : v < 65536)
    (g : Rw w0 w' base WB AB (M.acc 2 (64 + i) v) (((r.set 0 (runP AB (updC C (5 * i + 3) nl))).set (1 + 2 * i) (freeP U (fr0 E.a))).set 0 (runP AB (updC (updC C (5 * i + 3) nl) (5 * i + 4) (Pw U)))) (updC (updC C (5 * i + 3) nl) (5 * i + 4) (Pw U)) X') (d2 : C (5 * i + 2) = nl) :
    Runs w0 w' base WB AB (M.acc 2 (64 + i) v) (updR R i ⟨2, E, fr0 E.a⟩) (((r.set 0 (runP AB (updC C (5 * i + 3) nl))).set (1 + 2 * i) (freeP U (fr0 E.a))).set 0 (runP AB (updC (updC C (5 * i + 3) nl) (5 * i + 4) (Pw U)))) (updC (updC C (5 * i + 3) nl) (5 * i + 4) (Pw U)) X' := by
  have hlen := h.rw'.len
  have hU2 : (((r.set 0 (runP AB (updC C (5 * i + 3) nl))).set (1 + 2 * i) (freeP U (fr0 E.a))).set 0 (runP AB (updC (updC C (5 * i + 3) nl) (5 * i + 4) (Pw U))))[1 + 2 * i]? = some (freeP U (fr0 E.a)) := by
    rw [List.getElem?_set_ne (by omega), List.getElem?_set_self (by simp; omega)]
  exact leave_on h hi hr h0 g (fun a ha => acc_other ha) (by rw [acc_same (by omega)]; exact hv) rfl (fun k e1 e2 e3 => by rw [List.getElem?_set_ne (Ne.symm e1), List.getElem?_set_ne (Ne.symm e2), List.getElem?_set_ne (Ne.symm e1)])
    (fun m hm => by rw [updC_else (by omega), updC_else (by omega)]) (by rw [updC_else (by omega), updC_else (by omega)]) (by rw [updC_else (by omega), updC_else (by omega)]) ⟨by rw [updC_else (by omega), updC_else (by omega)]; exact d2, by rw [updC_else (by omega), updC_same], updC_same _ _ _⟩ hU2
theorem few5 {k : Nat} (h : k < 4) : 5 * k + 3 < 20 := by omega
theorem one_of {b : Nat} (h : b < 2) (h0 : ¬ b = 0) : b = 1 := by omega
theorem step_j (i : Nat) : Value.int .i64 ((i : Int) + 1) = .int .i64 ((i + 1 : Nat) : Int) := rfl
theorem eq_no {k : Nat} (h : ¬ k = 4) : ((k : Int) == 4) = false := by simp; omega
theorem lp_step {w0 w : World} {base WB AB i : Nat} {M : Sd} (h : SStep w0 w base WB AB M) (hn : M.n ≤ 4 + 2 * i) (hp : M.pn ≤ 4 + 2 * i) : Lp w0 base WB AB (i + 1) w := by
  obtain ⟨M', R, r, C, X, g, g1, g2⟩ := h
  exact ⟨M', R, r, C, X, g, by omega, by omega⟩
theorem wr8 (y : Nat) (hy : y < 256) : IntKind.u8.wrap (y : Int) = (y : Int) ∧ IntKind.i64.wrap (y : Int) = (y : Int) ∧ wrap64 (y : Int) = (y : Int) := ⟨by rw [IntKind.wrap_u8]; omega, by rw [IntKind.wrap_i64]; omega, by unfold wrap64; omega⟩
theorem x_facts (x : Nat) (h : x < 256) : ∃ k a b d e : Nat, k < 5 ∧ b < 2 ∧ e < 5 ∧ (x : Int).tmod 5 = (k : Int) ∧ (x : Int) % 5 = (k : Int) ∧ IntKind.u8.wrap (k : Int) = (k : Int) ∧ IntKind.i64.wrap (k : Int) = (k : Int) ∧ wrap64 (k : Int) = (k : Int) ∧
    (x : Int).tdiv 5 = (a : Int) ∧ (x : Int) / 5 = (a : Int) ∧ IntKind.u8.wrap (a : Int) = (a : Int) ∧ (a : Int).tmod 2 = (b : Int) ∧ (a : Int) % 2 = (b : Int) ∧ IntKind.u8.wrap (b : Int) = (b : Int) ∧
    (x : Int).tdiv 10 = (d : Int) ∧ (x : Int) / 10 = (d : Int) ∧ IntKind.u8.wrap (d : Int) = (d : Int) ∧ IntKind.i64.wrap (d : Int) = (d : Int) ∧ (d : Int).tmod 5 = (e : Int) ∧ (d : Int) % 5 = (e : Int) ∧ wrap64 (e : Int) = (e : Int) := by
  have c1 : (x : Int) % 5 = ((x % 5 : Nat) : Int) := by omega
  have c2 : (x : Int) / 5 = ((x / 5 : Nat) : Int) := by omega
  have c3 : ((x / 5 : Nat) : Int) % 2 = ((x / 5 % 2 : Nat) : Int) := by omega
  have c4 : (x : Int) / 10 = ((x / 10 : Nat) : Int) := by omega
  have c5 : ((x / 10 : Nat) : Int) % 5 = ((x / 10 % 5 : Nat) : Int) := by omega
  have v1 : x % 5 < 256 := by omega
  have v2 : x / 5 < 256 := by omega
  have v3 : x / 5 % 2 < 256 := by omega
  have v4 : x / 10 < 256 := by omega
  have v5 : x / 10 % 5 < 256 := by omega
  have hu : ∀ y : Nat, y < 256 → IntKind.u8.wrap (y : Int) = (y : Int) ∧ IntKind.i64.wrap (y : Int) = (y : Int) ∧ wrap64 (y : Int) = (y : Int) := wr8
  have u1 := hu _ v1; have u2 := hu _ v2; have u3 := hu _ v3; have u4 := hu _ v4; have u5 := hu _ v5
  have e1 : (x : Int).tmod 5 = ((x % 5 : Nat) : Int) := (Int.tmod_eq_emod_of_nonneg (Int.natCast_nonneg _)).trans c1
  have e2 : (x : Int).tdiv 5 = ((x / 5 : Nat) : Int) := (Int.tdiv_eq_ediv_of_nonneg (Int.natCast_nonneg _)).trans c2
  have e3 : ((x / 5 : Nat) : Int).tmod 2 = ((x / 5 % 2 : Nat) : Int) := (Int.tmod_eq_emod_of_nonneg (Int.natCast_nonneg _)).trans c3
  have e4 : (x : Int).tdiv 10 = ((x / 10 : Nat) : Int) := (Int.tdiv_eq_ediv_of_nonneg (Int.natCast_nonneg _)).trans c4
  have e5 : ((x / 10 : Nat) : Int).tmod 5 = ((x / 10 % 5 : Nat) : Int) := (Int.tmod_eq_emod_of_nonneg (Int.natCast_nonneg _)).trans c5
  exact ⟨x % 5, x / 5, x / 5 % 2, x / 10, x / 10 % 5, Nat.mod_lt _ (by decide), Nat.mod_lt _ (by decide), Nat.mod_lt _ (by decide), e1, c1, u1.1, u1.2.1, u1.2.2, e2, c2, u2.1, e3, c3, u3.1, e4, c4, u4.1, u4.2.1, e5, c5, u5.2.2⟩
set_option maxRecDepth 100000 in
set_option maxHeartbeats 4000000 in
theorem law_have (sp n c : Nat) (A : Option Addr) (Bf K : Nat → Nat) (hsp : sp < 256) (hK : ∀ j, j < 5 → K j < 65536) (hB : ∀ i, i < n → Bf i < 256) (w : World)
    (hA : 0 < n → ∃ g o, A = some ⟨g, o, none⟩ ∧ g < w.heap.size ∧ ∀ i, i < n → w.cell? ⟨g, o + i, none⟩ = some (.int .u8 (Bf i : Int))) :
    Calls Tryz.prog 3 #[.slice A n c, .agg #[.int .u16 (K 0 : Int), .int .u16 (K 1 : Int), .int .u16 (K 2 : Int), .int .u16 (K 3 : Int), .int .u16 (K 4 : Int)], .int .u8 (sp : Int)] w fun e w' => e = .returned (.bool true) ∧ Below w.heap.size w w' := by
  have HLV := Lib.hid (fun W => lives15 W)
  have HW : Hid (∀ W, Calls Tryz.prog 4 #[.int .u8 (sp : Int)] W fun e w' => ∃ X, e = .returned (Pw X.wB) ∧ PW w' W.heap.size X ∧ At0 X ((sp % 17 : Nat) : Int) 5 [] ∧ Below W.heap.size W w') := Lib.hid (fun W => world_any sp hsp W)
  have hms : 0 ≤ ((sp % 17 : Nat) : Int) ∧ ((sp % 17 : Nat) : Int) ≤ 16 := by omega
  obtain ⟨Q, hQ⟩ : ∃ Q, Q = w.heap.size := ⟨_, rfl⟩
  obtain ⟨w1, hw1⟩ : ∃ w1, w1 = w.alloc (.cells #[.int .u16 (K 0 : Int), .int .u16 (K 1 : Int), .int .u16 (K 2 : Int), .int .u16 (K 3 : Int), .int .u16 (K 4 : Int)] 24) := ⟨_, rfl⟩
  have hb1 : Below w.heap.size w w1 := by rw [hw1]; exact below1 _ _
  have hq1 : w1.heap[Q]? = some (.cells #[.int .u16 (K 0 : Int), .int .u16 (K 1 : Int), .int .u16 (K 2 : Int), .int .u16 (K 3 : Int), .int .u16 (K 4 : Int)] 24 (0, 0)) := by rw [hw1, hQ]; exact heap_alloc_new _ _
  have hkc : ∀ W, Below w1.heap.size w1 W → ∀ j, j < 5 → W.cell? ⟨Q, j, none⟩ = some (.int .u16 (K j : Int)) := fun W hb j hj => by
    rw [cell_row ((hb.block Q (heap_lt hq1)).trans hq1)]
    rcases (show j = 0 ∨ j = 1 ∨ j = 2 ∨ j = 3 ∨ j = 4 by omega) with rfl | rfl | rfl | rfl | rfl <;> rfl
  have hlc : ∀ W, Below w1.heap.size w1 W → 0 < n → ∃ g o, A = some ⟨g, o, none⟩ ∧ ∀ i, i < n → W.cell? ⟨g, o + i, none⟩ = some (.int .u8 (Bf i : Int)) := fun W hb h0 => by
    obtain ⟨g, o, e, hg, hl⟩ := hA h0
    exact ⟨g, o, e, fun i hi => (hb.cell (p := ⟨g, o + i, none⟩) (Nat.lt_of_lt_of_le hg hb1.size)).trans ((hb1.cell (p := ⟨g, o + i, none⟩) hg).trans (hl i hi))⟩
  have HKC := Lib.hid hkc; have HLC := Lib.hid hlc; have HB1 := Lib.hid hb1; have HBF := Lib.hid hB; have HKF := Lib.hid hK; have HMS := Lib.hid hms; have HW1 := Lib.hid hw1; have HQ := Lib.hid hQ
  clear hkc hlc hb1 hB hK hms hA hw1 hQ hq1 hsp
  go_enter Tryz.func3, Tryz.ntmps3
  go_upto_region 1 with fail
  rw [← HW1.out, ← HQ.out]
  by_cases hn5 : 500 < n
  · have d5 : decide (500 < n) = true := decide_eq_true hn5
    have d5' : (500 : Int) < (n : Int) := by omega
    go_wp2_with (first
      | (go_at_call 4; refine (HW.out _).mono ?_; rintro e w2 ⟨X, rfl, hp, h0, hb⟩; have HB2 := Lib.hid hb; clear hp h0 hb)
      | (go_at_call 5; refine (HLV.out _).mono ?_; rintro e w3 ⟨rfl, hb3⟩; have HB3 := Lib.hid hb3; clear hb3))
    go_ret
    exact ⟨rfl, HB1.out.trans ((HB2.out.trans (HB3.out.mono HB2.out.size)).mono HB1.out.size)⟩
  · have d5 : decide (500 < n) = false := decide_eq_false hn5
    have d5' : decide ((500 : Int) < (n : Int)) = false := by simp; omega
    go_upto_region 4 with (go_at_call 4; refine (HW.out _).mono ?_; rintro e w2 ⟨X, rfl, hp, h0, hb⟩; have HP := Lib.hid (at0_sd h0 ▸ pg_of hp hb); have HB2 := Lib.hid hb; clear hp h0 hb)
    obtain ⟨WB, hWB⟩ : ∃ WB, WB = X.wB := ⟨_, rfl⟩
    rw [← hWB] at HP ⊢
    clear hWB
    have hmk := mk4 w2
    go_upto_region 6 with fail
    have hini : Ini w1 w1.heap.size WB w2.heap.size 0 (w2.alloc (.cells Z20 35)) := ini_new HP.out rfl rfl HMS.out (fun j hj => (look02 _).trans (if_neg (by omega))) Z20 rfl z20_at
    obtain ⟨AB, hAB⟩ : ∃ AB, AB = w2.heap.size := ⟨_, rfl⟩
    obtain ⟨w3, hw3⟩ : ∃ w3, w3 = w2.alloc (.cells Z20 35) := ⟨_, rfl⟩
    rw [← hw3, ← hAB] at hini ⊢
    have HINI := Lib.hid hini
    clear hmk hini hAB hw3
    go_loopg [9] 5 (fun q s9 wx => ∃ i : Nat, i ≤ 4 ∧ q = 5 - i ∧ s9 = .int .i64 (i : Int) ∧ Ini w1 w1.heap.size WB AB i wx)
    case atStart => exact ⟨0, by omega, rfl, rfl, HINI.out⟩
    case round =>
      obtain ⟨i, hi, rfl, rfl, hin⟩ := hrel
      by_cases he : i < 4
      · have d6 : decide (i < 4) = true := decide_eq_true he
        have d6' : (i : Int) < 4 := by omega
        have d6n : (i : Int) < 5 := by omega
        have wi := wrap_few he
        have wi1 := wi.1
        have wi2 := wi.2
        have wk := wrap_key (HKF.out i (by omega))
        obtain ⟨M, r, C, X1, h, g, hmn, hfin⟩ := ini_t hin he
        have x0 := h.at.cell (i := 5 * i) (by omega)
        have f0 : wr.frozen? ⟨AB, 5 * i, none⟩ = false := h.at.froz
        rw [Nat.mul_comm] at x0 f0
        have G := Lib.hid g; have HFIN := Lib.hid hfin; have HMN := Lib.hid hmn; have HE := Lib.hid he
        clear h g hfin hmn hin hi
        go_upto_region 9 with fail
        rw [show i * 5 = 5 * i from Nat.mul_comm _ _]
        obtain ⟨w4, hw4⟩ : ∃ w4, w4 = wr.setCell ⟨AB, 5 * i, none⟩ (.int .i64 (i : Int)) := ⟨_, rfl⟩
        rw [← hw4] at G ⊢
        have gd := G.out.pg.new (Below.refl _ _).drew
        have HST := Lib.hid (Pg.store gd (a := 64 + i) (v := K i) (by omega) (by have := HKF.out i (by omega); omega) (by have := HMN.out; omega))
        have y0 : w4.drew.cell? ⟨WB, 0, none⟩ = some (Pw X1.cB) := gd.c.1
        have y1 : w4.drew.cell? ⟨Q, i, none⟩ = some (.int .u16 (K i : Int)) := HKC.out _ gd.bl i (by omega)
        have hclose : ∀ {W : World} {X6 : Wm}, Pg w1 W w1.heap.size WB (M.acc 2 (64 + i) (K i)) (r.set 0 (runP AB (updC C (5 * i) (.int .i64 (i : Int))))) X6 → X6.cB = X1.cB → W.cell? ⟨WB, 0, none⟩ = some (Pw X1.cB) ∧ W.cell? ⟨Q, i, none⟩ = some (.int .u16 (K i : Int)) := fun hp hc => ⟨hc ▸ hp.c.1, HKC.out _ hp.bl i (by have := HE.out; omega)⟩
        clear gd hw4 x0 f0 he
        refine wp_region_held_drew (S := fun w' => w'.cell? ⟨WB, 0, none⟩ = some (Pw X1.cB) ∧ w'.cell? ⟨Q, i, none⟩ = some (.int .u16 (K i : Int))) (by kernel_rfl) ?_ (fun hHeld => ?_)
        · exact ⟨y0, y1⟩
        refine wpAnyH_take (i := 0) (oi := ({ dst := some 45, op := Op.move (Operand.tmp 7), type := 25, pos := "outright.go:96", after := #[], guard := none } : Oper)) (v := ?vra0) rfl (by kernel_rfl) (by kernel_rfl) (by kernel_rfl) (fun _ _ _ h => h) (Or.inl ⟨by rfl, fun w hSw => ?hyra0⟩) (by assumption) ?rra0
        case hyra0 => (try dsimp only at hSw); go_simp; (try with_reducible rfl)
        (try simp only [Act.put, List.setIfInBounds_toArray, List.set_cons_zero, List.set_cons_succ])
        refine wpAnyH_take (i := 1) (oi := ({ dst := some 46, op := Op.nilCheck (Operand.tmp 45), type := 0, pos := "outright.go:96", after := #[{ on := 0, ground := Ground.data }], guard := none } : Oper)) (v := ?vra1) rfl (by kernel_rfl) (by kernel_rfl) (by kernel_rfl) (fun _ _ _ h => h) (Or.inl ⟨by rfl, fun w hSw => ?hyra1⟩) (by assumption) ?rra1
        case hyra1 => (try dsimp only at hSw); go_simp; (try with_reducible rfl)
        (try simp only [Act.put, List.setIfInBounds_toArray, List.set_cons_zero, List.set_cons_succ])
        refine wpAnyH_take (i := 2) (oi := ({ dst := some 47, op := Op.fieldAddr 45 (Operand.tmp 46) 0, type := 0, pos := "outright.go:96", after := #[{ on := 1, ground := Ground.data }], guard := none } : Oper)) (v := ?vra2) rfl (by kernel_rfl) (by kernel_rfl) (by kernel_rfl) (fun _ _ _ h => h) (Or.inl ⟨by rfl, fun w hSw => ?hyra2⟩) (by assumption) ?rra2
        case hyra2 => (try dsimp only at hSw); go_simp; (try with_reducible rfl)
        (try simp only [Act.put, List.setIfInBounds_toArray, List.set_cons_zero, List.set_cons_succ])
        refine wpAnyH_take (i := 3) (oi := ({ dst := some 48, op := Op.load 37 (Operand.tmp 47), type := 37, pos := "outright.go:96", after := #[{ on := 2, ground := Ground.data }], guard := none } : Oper)) (v := ?vra3) rfl (by kernel_rfl) (by kernel_rfl) (by kernel_rfl) (fun _ _ _ h => h) (Or.inl ⟨by rfl, fun w hSw => ?hyra3⟩) (by assumption) ?rra3
        case hyra3 => (try dsimp only at hSw); go_simp; (try with_reducible rfl)
        (try simp only [Act.put, List.setIfInBounds_toArray, List.set_cons_zero, List.set_cons_succ])
        refine wpAnyH_take (i := 4) (oi := ({ dst := some 49, op := Op.move (Operand.tmp 9), type := 3, pos := "outright.go:96", after := #[], guard := none } : Oper)) (v := ?vra4) rfl (by kernel_rfl) (by kernel_rfl) (by kernel_rfl) (fun _ _ _ h => h) (Or.inl ⟨by rfl, fun w hSw => ?hyra4⟩) (by assumption) ?rra4
        case hyra4 => (try dsimp only at hSw); go_simp; (try with_reducible rfl)
        (try simp only [Act.put, List.setIfInBounds_toArray, List.set_cons_zero, List.set_cons_succ])
        refine wpAnyH_take (i := 5) (oi := ({ dst := some 50, op := Op.convert 3 30 (Operand.tmp 49), type := 30, pos := "outright.go:96", after := #[{ on := 4, ground := Ground.data }], guard := none } : Oper)) (v := ?vra5) rfl (by kernel_rfl) (by kernel_rfl) (by kernel_rfl) (fun _ _ _ h => h) (Or.inl ⟨by rfl, fun w hSw => ?hyra5⟩) (by assumption) ?rra5
        case hyra5 => (try dsimp only at hSw); go_simp; (try with_reducible rfl)
        (try simp only [Act.put, List.setIfInBounds_toArray, List.set_cons_zero, List.set_cons_succ])
        refine wpAnyH_take (i := 6) (oi := ({ dst := some 51, op := Op.binOp BinOp.add 30 (Operand.const (Value.int IntKind.u32 64)) (Operand.tmp 50) 30, type := 30, pos := "outright.go:96", after := #[{ on := 5, ground := Ground.data }], guard := none } : Oper)) (v := ?vra6) rfl (by kernel_rfl) (by kernel_rfl) (by kernel_rfl) (fun _ _ _ h => h) (Or.inl ⟨by rfl, fun w hSw => ?hyra6⟩) (by assumption) ?rra6
        case hyra6 => (try dsimp only at hSw); go_simp; (try with_reducible rfl)
        (try simp only [Act.put, List.setIfInBounds_toArray, List.set_cons_zero, List.set_cons_succ])
        refine wpAnyH_take (i := 7) (oi := ({ dst := some 52, op := Op.move (Operand.tmp 9), type := 3, pos := "outright.go:96", after := #[], guard := none } : Oper)) (v := ?vra7) rfl (by kernel_rfl) (by kernel_rfl) (by kernel_rfl) (fun _ _ _ h => h) (Or.inl ⟨by rfl, fun w hSw => ?hyra7⟩) (by assumption) ?rra7
        case hyra7 => (try dsimp only at hSw); go_simp; (try with_reducible rfl)
        (try simp only [Act.put, List.setIfInBounds_toArray, List.set_cons_zero, List.set_cons_succ])
        refine wpAnyH_take (i := 8) (oi := ({ dst := some 53, op := Op.indexAddr 24 (Operand.tmp 4) (Operand.tmp 52), type := 0, pos := "outright.go:96", after := #[{ on := 7, ground := Ground.data }], guard := none } : Oper)) (v := ?vra8) rfl (by kernel_rfl) (by kernel_rfl) (by kernel_rfl) (fun _ _ _ h => h) (Or.inl ⟨by rfl, fun w hSw => ?hyra8⟩) (by assumption) ?rra8
        case hyra8 => (try dsimp only at hSw); go_simp; (try with_reducible rfl)
        (try simp only [Act.put, List.setIfInBounds_toArray, List.set_cons_zero, List.set_cons_succ])
        refine wpAnyH_take (i := 9) (oi := ({ dst := some 54, op := Op.load 23 (Operand.tmp 53), type := 23, pos := "outright.go:96", after := #[{ on := 8, ground := Ground.data }], guard := none } : Oper)) (v := ?vra9) rfl (by kernel_rfl) (by kernel_rfl) (by kernel_rfl) (fun _ _ _ h => h) (Or.inl ⟨by rfl, fun w hSw => ?hyra9⟩) (by assumption) ?rra9
        case hyra9 => (try dsimp only at hSw); go_simp; (try with_reducible rfl)
        (try simp only [Act.put, List.setIfInBounds_toArray, List.set_cons_zero, List.set_cons_succ])
        refine wpAnyH_take (i := 10) (oi := ({ dst := some 55, op := Op.convert 23 36 (Operand.tmp 54), type := 36, pos := "outright.go:96", after := #[{ on := 9, ground := Ground.data }], guard := none } : Oper)) (v := ?vra10) rfl (by kernel_rfl) (by kernel_rfl) (by kernel_rfl) (fun _ _ _ h => h) (Or.inl ⟨by rfl, fun w hSw => ?hyra10⟩) (by assumption) ?rra10
        case hyra10 => (try dsimp only at hSw); go_simp; (try with_reducible rfl)
        (try simp only [Act.put, List.setIfInBounds_toArray, List.set_cons_zero, List.set_cons_succ])
        refine wpAnyH_ready (rs := [11]) (by kernel_rfl) (by simp) ?_
        refine AllReadyH.cons (o := ({ dst := some 56, op := Op.call { callee := Callee.value (Operand.func 6), args := #[Operand.tmp 48, Operand.tmp 51, Operand.tmp 55], argTypes := #[37, 30, 36] }, type := 36, pos := "outright.go:96", after := #[{ on := 3, ground := Ground.data }, { on := 6, ground := Ground.data }, { on := 10, ground := Ground.data }], guard := none } : Oper)) rfl (fun Kq hKq => ?_) AllReadyH.nil
        go_simp
        (refine HST.out.mono ?_; rintro e w6 ⟨rfl, X6, hp6, hc6⟩)
        refine hKq.out _ _ ?_ (fun hHeld => ?_)
        · exact hclose hp6 hc6
        clear hKq Kq
        (try simp only [Act.put, List.setIfInBounds_toArray, List.set_cons_zero, List.set_cons_succ])
        refine wpAnyH_done (by kernel_rfl) ?_ _
        go_wp2_with fail
        go_roundg (5 - (i + 1))
        case measure => have := HE.out; omega
        case rel => exact ⟨i + 1, HE.out, rfl, congrArg (Value.int .i64) (by have := HE.out; first | omega | (unfold wrap64; omega)), HFIN.out _ _ _ (HKF.out i (by have := HE.out; omega)) hp6⟩
      · obtain rfl : i = 4 := by omega
        have HLP := Lib.hid (ini_end hin)
        clear hin hi he
        go_upto_region 11 with fail
        have HN5 : Hid (n ≤ 500) := Lib.hid (by omega)
        clear d5 d5' hn5
        go_loopg [10] (n + 1) (fun q s10 wx => ∃ i : Nat, i ≤ n ∧ q = n + 1 - i ∧ s10 = .int .i64 (i : Int) ∧ Lp w1 w1.heap.size WB AB i wx)
        case atStart => exact ⟨0, Nat.zero_le _, rfl, rfl, HLP.out⟩
        case round =>
          obtain ⟨i, hi, rfl, rfl, hlp⟩ := hrel
          by_cases he : i < n
          · have d11 : decide (i < n) = true := decide_eq_true he
            have HE := Lib.hid he
            obtain ⟨M, R, r, C, X1, h1, hmn, hmp⟩ := hlp
            obtain ⟨g, o, hAe, hl⟩ := HLC.out wr h1.rw'.pg.bl (by omega)
            subst hAe
            have hx := hl i he
            obtain ⟨x, hxe⟩ : ∃ x, x = Bf i := ⟨_, rfl⟩
            rw [← hxe] at hx
            have hx256 : x < 256 := by rw [hxe]; exact HBF.out i he
            obtain ⟨k, a, b, d, e, hk5, hb2, he5, f1, f2, f3, f4, f5, f6, f7, f8, f9, f10, f11, f12, f13, f14, f15, f16, f17, f18⟩ := x_facts x hx256
            have HX := Lib.hid (And.intro hk5 (And.intro hb2 he5))
            have HLX : Hid (∀ W, Below w1.heap.size w1 W → W.cell? ⟨g, o + i, none⟩ = some (.int .u8 (x : Int))) := Lib.hid (fun W hb => by
              obtain ⟨g', o', e1, hl'⟩ := HLC.out W hb (Nat.lt_of_le_of_lt (Nat.zero_le _) HE.out)
              injection e1 with e1; injection e1 with e1 e2; subst e1 e2
              have := hl' i HE.out; rw [← hxe] at this; exact this)
            have H1 := Lib.hid (And.intro h1 (And.intro hmn hmp))
            clear h1 hmn hmp hl hxe hx256 he hi hk5 hb2 he5
            go_upto_region 14 with fail
            by_cases hk4 : k = 4
            · subst hk4
              have HRP := Lib.hid (replace_any H1.out.1 (by have := H1.out; have := HE.out; have := HN5.out; omega) (.slice (some ⟨AB, 0, none⟩) 4 4) ⟨_, _, _, rfl⟩)
              go_wp2_with (go_at_call 7; refine HRP.out.mono ?_; rintro e w5 ⟨rfl, hs5⟩; have HS5 := Lib.hid hs5; clear hs5)
              go_roundg (n + 1 - (i + 1))
              case measure => exact Nat.sub_lt_sub_left (Nat.lt_succ_of_lt HE.out) (Nat.lt_succ_self i)
              case rel => exact ⟨i + 1, HE.out, rfl, step_i (Nat.lt_of_lt_of_le HE.out (Nat.le_trans HN5.out (by decide))), lp_step HS5.out H1.out.2.1 H1.out.2.2⟩
            · have hk : k < 4 := Nat.lt_of_le_of_ne (Nat.le_of_lt_succ HX.out.1) hk4
              have d14 : decide (k = 4) = false := decide_eq_false hk4
              have d14' : ((k : Int) == 4) = false := eq_no hk4
              have dk : (k : Int) < 4 := Int.ofNat_lt.2 hk
              have HK := Lib.hid hk
              clear hk4 hk
              have HIN := Lib.hid (inside_any H1.out.1 HK.out)
              go_upto_region 16 with fail
              go_upto_region 17 with (go_at_call 8; rw [Nat.mul_comm]; refine HIN.out.mono ?_; rintro e5 w5 ⟨rfl, hb5⟩; have HB5 := Lib.hid hb5; clear hb5)
              have h5 := H1.out.1.new HB5.out
              have hlb : ∀ W, Below w1.heap.size w1 W → W.cell? ⟨g, o + i, none⟩ = some (.int .u8 (x : Int)) := fun W hb => HLX.out W hb
              have HLB := Lib.hid hlb
              have x5 := HLB.out _ h5.rw'.pg.bl
              have H8 : Hid (Runs w1 w5 w1.heap.size WB AB M R r C X1 ∧ M.n ≤ 5 + 2 * i ∧ M.pn ≤ 4 + 2 * i) := Lib.hid ⟨h5, Nat.le_trans H1.out.2.1 (by omega), H1.out.2.2⟩
              by_cases hin : (R k).inn = true
              · rw [hin]
                obtain ⟨k1, k0⟩ := of_decide_eq_true hin
                obtain ⟨kk, E, F, hr⟩ : ∃ kk E F, R k = ⟨kk, E, F⟩ := ⟨_, _, _, rfl⟩
                rw [hr] at k1 k0
                have k1' : kk = 1 := k1
                have k0' : E.ln = 0 := k0
                subst k1'
                have had : (R k).ad = E.a := by unfold Rn.ad; rw [hr]; exact if_pos ⟨rfl, k0'⟩
                rw [had]
                obtain ⟨ra, rb, rc⟩ := h5.at_ k HK.out
                rw [hr] at rc
                cases ho : E.ow
                · obtain ⟨d3, d2⟩ : C (5 * k + 3) = nl ∧ True := by
                    rcases rc with ⟨c1, _⟩ | ⟨c1, c2, c3, c4, Z, c5, c6⟩ | ⟨c1, c2, _⟩ | ⟨c1, _⟩
                    · cases c1
                    · exact ⟨c3, trivial⟩
                    · exact absurd c2 (by rw [show (⟨1, E, F⟩ : Rn).E.ow = E.ow from rfl, ho]; decide)
                    · cases c1
                  have z3 := h5.rw'.c (m := 5 * k + 3) (few5 HK.out) d3
                  rw [Nat.mul_comm 5 k] at z3
                  clear hin h5 hlb hx k1 k0 k0' had ra rb rc ho d3 hr
                  go_upto_region 21 with fail
                  have h8d := H8.out.1.new (Below.refl _ _).drew
                  have u0 := HLB.out _ h8d.rw'.pg.bl
                  have u1 := HKC.out _ h8d.rw'.pg.bl e HX.out.2.2
                  have HST := Lib.hid (fun bb => step_all h8d HK.out (few1 H8.out.2.1 HE.out HN5.out) (few2 H8.out.2.2 HE.out HN5.out) bb (HKF.out e HX.out.2.2))
                  have de : (e : Int) < 5 := Int.ofNat_lt.2 HX.out.2.2
                  have wke := wrap_k32 (HKF.out e HX.out.2.2)
                  have hclose : ∀ {W : World} {M8 : Sd}, SStep w1 W w1.heap.size WB AB M8 → W.cell? ⟨g, o + i, none⟩ = some (.int .u8 (x : Int)) ∧ W.cell? ⟨Q, e, none⟩ = some (.int .u16 (K e : Int)) := fun h => by
                    obtain ⟨_, _, _, _, _, h', _⟩ := h
                    exact ⟨HLB.out _ h'.rw'.pg.bl, HKC.out _ h'.rw'.pg.bl e HX.out.2.2⟩
                  clear h8d
                  refine wp_region_held_drew (S := fun w' => w'.cell? ⟨g, o + i, none⟩ = some (.int .u8 (x : Int)) ∧ w'.cell? ⟨Q, e, none⟩ = some (.int .u16 (K e : Int))) (by kernel_rfl) ?_ (fun hHeld => ?_)
                  · exact ⟨u0, u1⟩
                  refine wpAnyH_take (i := 0) (oi := ({ dst := some 127, op := Op.move (Operand.tmp 8), type := 28, pos := "outright.go:111", after := #[], guard := none } : Oper)) (v := ?vre0) rfl (by kernel_rfl) (by kernel_rfl) (by kernel_rfl) (fun _ _ _ h => h) (Or.inl ⟨by rfl, fun w hSw => ?hyre0⟩) (by assumption) ?rre0
                  case hyre0 => (try dsimp only at hSw); go_simp; (try with_reducible rfl)
                  (try simp only [Act.put, List.setIfInBounds_toArray, List.set_cons_zero, List.set_cons_succ])
                  refine wpAnyH_take (i := 1) (oi := ({ dst := some 128, op := Op.move (Operand.tmp 11), type := 3, pos := "outright.go:111", after := #[], guard := none } : Oper)) (v := ?vre1) rfl (by kernel_rfl) (by kernel_rfl) (by kernel_rfl) (fun _ _ _ h => h) (Or.inl ⟨by rfl, fun w hSw => ?hyre1⟩) (by assumption) ?rre1
                  case hyre1 => (try dsimp only at hSw); go_simp; (try with_reducible rfl)
                  (try simp only [Act.put, List.setIfInBounds_toArray, List.set_cons_zero, List.set_cons_succ])
                  refine wpAnyH_take (i := 2) (oi := ({ dst := some 129, op := Op.indexAddr 28 (Operand.tmp 127) (Operand.tmp 128), type := 0, pos := "outright.go:111", after := #[{ on := 0, ground := Ground.data }, { on := 1, ground := Ground.data }], guard := none } : Oper)) (v := ?vre2) rfl (by kernel_rfl) (by kernel_rfl) (by kernel_rfl) (fun _ _ _ h => h) (Or.inl ⟨by rfl, fun w hSw => ?hyre2⟩) (by assumption) ?rre2
                  case hyre2 => (try dsimp only at hSw); go_simp; (try with_reducible rfl)
                  (try simp only [Act.put, List.setIfInBounds_toArray, List.set_cons_zero, List.set_cons_succ])
                  refine wpAnyH_take (i := 3) (oi := ({ dst := some 130, op := Op.move (Operand.tmp 7), type := 25, pos := "outright.go:111", after := #[], guard := none } : Oper)) (v := ?vre3) rfl (by kernel_rfl) (by kernel_rfl) (by kernel_rfl) (fun _ _ _ h => h) (Or.inl ⟨by rfl, fun w hSw => ?hyre3⟩) (by assumption) ?rre3
                  case hyre3 => (try dsimp only at hSw); go_simp; (try with_reducible rfl)
                  (try simp only [Act.put, List.setIfInBounds_toArray, List.set_cons_zero, List.set_cons_succ])
                  refine wpAnyH_take (i := 4) (oi := ({ dst := some 131, op := Op.move (Operand.tmp 0), type := 22, pos := "outright.go:111", after := #[], guard := none } : Oper)) (v := ?vre4) rfl (by kernel_rfl) (by kernel_rfl) (by kernel_rfl) (fun _ _ _ h => h) (Or.inl ⟨by rfl, fun w hSw => ?hyre4⟩) (by assumption) ?rre4
                  case hyre4 => (try dsimp only at hSw); go_simp; (try with_reducible rfl)
                  (try simp only [Act.put, List.setIfInBounds_toArray, List.set_cons_zero, List.set_cons_succ])
                  refine wpAnyH_take (i := 5) (oi := ({ dst := some 132, op := Op.move (Operand.tmp 10), type := 3, pos := "outright.go:111", after := #[], guard := none } : Oper)) (v := ?vre5) rfl (by kernel_rfl) (by kernel_rfl) (by kernel_rfl) (fun _ _ _ h => h) (Or.inl ⟨by rfl, fun w hSw => ?hyre5⟩) (by assumption) ?rre5
                  case hyre5 => (try dsimp only at hSw); go_simp; (try with_reducible rfl)
                  (try simp only [Act.put, List.setIfInBounds_toArray, List.set_cons_zero, List.set_cons_succ])
                  refine wpAnyH_take (i := 6) (oi := ({ dst := some 133, op := Op.indexAddr 22 (Operand.tmp 131) (Operand.tmp 132), type := 0, pos := "outright.go:111", after := #[{ on := 4, ground := Ground.data }, { on := 5, ground := Ground.data }], guard := none } : Oper)) (v := ?vre6) rfl (by kernel_rfl) (by kernel_rfl) (by kernel_rfl) (fun _ _ _ h => h) (Or.inl ⟨by rfl, fun w hSw => ?hyre6⟩) (by assumption) ?rre6
                  case hyre6 => (try dsimp only at hSw); go_simp; (try with_reducible rfl)
                  (try simp only [Act.put, List.setIfInBounds_toArray, List.set_cons_zero, List.set_cons_succ])
                  refine wpAnyH_take (i := 7) (oi := ({ dst := some 134, op := Op.load 5 (Operand.tmp 133), type := 5, pos := "outright.go:111", after := #[{ on := 6, ground := Ground.data }], guard := none } : Oper)) (v := ?vre7) rfl (by kernel_rfl) (by kernel_rfl) (by kernel_rfl) (fun _ _ _ h => h) (Or.inl ⟨by rfl, fun w hSw => ?hyre7⟩) (by assumption) ?rre7
                  case hyre7 => (try dsimp only at hSw); go_simp; (try with_reducible rfl)
                  (try simp only [Act.put, List.setIfInBounds_toArray, List.set_cons_zero, List.set_cons_succ])
                  refine wpAnyH_take (i := 8) (oi := ({ dst := some 135, op := Op.binOp BinOp.quo 5 (Operand.tmp 134) (Operand.const (Value.int IntKind.u8 5)) 5, type := 5, pos := "outright.go:111", after := #[{ on := 7, ground := Ground.data }], guard := none } : Oper)) (v := ?vre8) rfl (by kernel_rfl) (by kernel_rfl) (by kernel_rfl) (fun _ _ _ h => h) (Or.inl ⟨by rfl, fun w hSw => ?hyre8⟩) (by assumption) ?rre8
                  case hyre8 => (try dsimp only at hSw); go_simp; (try with_reducible rfl)
                  (try simp only [Act.put, List.setIfInBounds_toArray, List.set_cons_zero, List.set_cons_succ])
                  refine wpAnyH_take (i := 9) (oi := ({ dst := some 136, op := Op.binOp BinOp.rem 5 (Operand.tmp 135) (Operand.const (Value.int IntKind.u8 2)) 5, type := 5, pos := "outright.go:111", after := #[{ on := 8, ground := Ground.data }], guard := none } : Oper)) (v := ?vre9) rfl (by kernel_rfl) (by kernel_rfl) (by kernel_rfl) (fun _ _ _ h => h) (Or.inl ⟨by rfl, fun w hSw => ?hyre9⟩) (by assumption) ?rre9
                  case hyre9 => (try dsimp only at hSw); go_simp; (try with_reducible rfl)
                  (try simp only [Act.put, List.setIfInBounds_toArray, List.set_cons_zero, List.set_cons_succ])
                  refine wpAnyH_take (i := 10) (oi := ({ dst := some 137, op := Op.binOp BinOp.eql 5 (Operand.tmp 136) (Operand.const (Value.int IntKind.u8 1)) 5, type := 4, pos := "outright.go:111", after := #[{ on := 9, ground := Ground.data }], guard := none } : Oper)) (v := ?vre10) rfl (by kernel_rfl) (by kernel_rfl) (by kernel_rfl) (fun _ _ _ h => h) (Or.inl ⟨by rfl, fun w hSw => ?hyre10⟩) (by assumption) ?rre10
                  case hyre10 => (try dsimp only at hSw); go_simp; (try with_reducible rfl)
                  (try simp only [Act.put, List.setIfInBounds_toArray, List.set_cons_zero, List.set_cons_succ])
                  refine wpAnyH_take (i := 11) (oi := ({ dst := some 138, op := Op.move (Operand.tmp 0), type := 22, pos := "outright.go:111", after := #[], guard := none } : Oper)) (v := ?vre11) rfl (by kernel_rfl) (by kernel_rfl) (by kernel_rfl) (fun _ _ _ h => h) (Or.inl ⟨by rfl, fun w hSw => ?hyre11⟩) (by assumption) ?rre11
                  case hyre11 => (try dsimp only at hSw); go_simp; (try with_reducible rfl)
                  (try simp only [Act.put, List.setIfInBounds_toArray, List.set_cons_zero, List.set_cons_succ])
                  refine wpAnyH_take (i := 12) (oi := ({ dst := some 139, op := Op.move (Operand.tmp 10), type := 3, pos := "outright.go:111", after := #[], guard := none } : Oper)) (v := ?vre12) rfl (by kernel_rfl) (by kernel_rfl) (by kernel_rfl) (fun _ _ _ h => h) (Or.inl ⟨by rfl, fun w hSw => ?hyre12⟩) (by assumption) ?rre12
                  case hyre12 => (try dsimp only at hSw); go_simp; (try with_reducible rfl)
                  (try simp only [Act.put, List.setIfInBounds_toArray, List.set_cons_zero, List.set_cons_succ])
                  refine wpAnyH_take (i := 13) (oi := ({ dst := some 140, op := Op.indexAddr 22 (Operand.tmp 138) (Operand.tmp 139), type := 0, pos := "outright.go:111", after := #[{ on := 11, ground := Ground.data }, { on := 12, ground := Ground.data }], guard := none } : Oper)) (v := ?vre13) rfl (by kernel_rfl) (by kernel_rfl) (by kernel_rfl) (fun _ _ _ h => h) (Or.inl ⟨by rfl, fun w hSw => ?hyre13⟩) (by assumption) ?rre13
                  case hyre13 => (try dsimp only at hSw); go_simp; (try with_reducible rfl)
                  (try simp only [Act.put, List.setIfInBounds_toArray, List.set_cons_zero, List.set_cons_succ])
                  refine wpAnyH_take (i := 14) (oi := ({ dst := some 141, op := Op.load 5 (Operand.tmp 140), type := 5, pos := "outright.go:111", after := #[{ on := 13, ground := Ground.data }], guard := none } : Oper)) (v := ?vre14) rfl (by kernel_rfl) (by kernel_rfl) (by kernel_rfl) (fun _ _ _ h => h) (Or.inl ⟨by rfl, fun w hSw => ?hyre14⟩) (by assumption) ?rre14
                  case hyre14 => (try dsimp only at hSw); go_simp; (try with_reducible rfl)
                  (try simp only [Act.put, List.setIfInBounds_toArray, List.set_cons_zero, List.set_cons_succ])
                  refine wpAnyH_take (i := 15) (oi := ({ dst := some 142, op := Op.binOp BinOp.quo 5 (Operand.tmp 141) (Operand.const (Value.int IntKind.u8 10)) 5, type := 5, pos := "outright.go:111", after := #[{ on := 14, ground := Ground.data }], guard := none } : Oper)) (v := ?vre15) rfl (by kernel_rfl) (by kernel_rfl) (by kernel_rfl) (fun _ _ _ h => h) (Or.inl ⟨by rfl, fun w hSw => ?hyre15⟩) (by assumption) ?rre15
                  case hyre15 => (try dsimp only at hSw); go_simp; (try with_reducible rfl)
                  (try simp only [Act.put, List.setIfInBounds_toArray, List.set_cons_zero, List.set_cons_succ])
                  refine wpAnyH_take (i := 16) (oi := ({ dst := some 143, op := Op.convert 5 3 (Operand.tmp 142), type := 3, pos := "outright.go:111", after := #[{ on := 15, ground := Ground.data }], guard := none } : Oper)) (v := ?vre16) rfl (by kernel_rfl) (by kernel_rfl) (by kernel_rfl) (fun _ _ _ h => h) (Or.inl ⟨by rfl, fun w hSw => ?hyre16⟩) (by assumption) ?rre16
                  case hyre16 => (try dsimp only at hSw); go_simp; (try with_reducible rfl)
                  (try simp only [Act.put, List.setIfInBounds_toArray, List.set_cons_zero, List.set_cons_succ])
                  refine wpAnyH_take (i := 17) (oi := ({ dst := some 144, op := Op.binOp BinOp.rem 3 (Operand.tmp 143) (Operand.const (Value.int IntKind.i64 5)) 3, type := 3, pos := "outright.go:111", after := #[{ on := 16, ground := Ground.data }], guard := none } : Oper)) (v := ?vre17) rfl (by kernel_rfl) (by kernel_rfl) (by kernel_rfl) (fun _ _ _ h => h) (Or.inl ⟨by rfl, fun w hSw => ?hyre17⟩) (by assumption) ?rre17
                  case hyre17 => (try dsimp only at hSw); go_simp; (try with_reducible rfl)
                  (try simp only [Act.put, List.setIfInBounds_toArray, List.set_cons_zero, List.set_cons_succ])
                  refine wpAnyH_take (i := 18) (oi := ({ dst := some 145, op := Op.indexAddr 24 (Operand.tmp 4) (Operand.tmp 144), type := 0, pos := "outright.go:111", after := #[{ on := 17, ground := Ground.data }], guard := none } : Oper)) (v := ?vre18) rfl (by kernel_rfl) (by kernel_rfl) (by kernel_rfl) (fun _ _ _ h => h) (Or.inl ⟨by rfl, fun w hSw => ?hyre18⟩) (by assumption) ?rre18
                  case hyre18 => (try dsimp only at hSw); go_simp; (try with_reducible rfl)
                  (try simp only [Act.put, List.setIfInBounds_toArray, List.set_cons_zero, List.set_cons_succ])
                  refine wpAnyH_take (i := 19) (oi := ({ dst := some 146, op := Op.load 23 (Operand.tmp 145), type := 23, pos := "outright.go:111", after := #[{ on := 18, ground := Ground.data }], guard := none } : Oper)) (v := ?vre19) rfl (by kernel_rfl) (by kernel_rfl) (by kernel_rfl) (fun _ _ _ h => h) (Or.inl ⟨by rfl, fun w hSw => ?hyre19⟩) (by assumption) ?rre19
                  case hyre19 => (try dsimp only at hSw); go_simp; (try with_reducible rfl)
                  (try simp only [Act.put, List.setIfInBounds_toArray, List.set_cons_zero, List.set_cons_succ])
                  refine wpAnyH_take (i := 20) (oi := ({ dst := some 147, op := Op.convert 23 30 (Operand.tmp 146), type := 30, pos := "outright.go:111", after := #[{ on := 19, ground := Ground.data }], guard := none } : Oper)) (v := ?vre20) rfl (by kernel_rfl) (by kernel_rfl) (by kernel_rfl) (fun _ _ _ h => h) (Or.inl ⟨by rfl, fun w hSw => ?hyre20⟩) (by assumption) ?rre20
                  case hyre20 => (try dsimp only at hSw); go_simp; (try with_reducible rfl)
                  (try simp only [Act.put, List.setIfInBounds_toArray, List.set_cons_zero, List.set_cons_succ])
                  refine wpAnyH_ready (rs := [21]) (by kernel_rfl) (by simp) ?_
                  refine AllReadyH.cons (o := ({ dst := some 148, op := Op.call { callee := Callee.value (Operand.func 10), args := #[Operand.tmp 129, Operand.tmp 130, Operand.tmp 137, Operand.tmp 147], argTypes := #[35, 25, 4, 30] }, type := 0, pos := "outright.go:111", after := #[{ on := 2, ground := Ground.data }, { on := 3, ground := Ground.data }, { on := 10, ground := Ground.data }, { on := 20, ground := Ground.data }], guard := none } : Oper)) rfl (fun Kq hKq => ?_) AllReadyH.nil
                  go_simp
                  (rw [Nat.mul_comm k 5]; refine (HST.out _).mono ?_; rintro e6 w6 ⟨rfl, hs6⟩)
                  refine hKq.out _ _ ?_ (fun hHeld => ?_)
                  · exact hclose hs6
                  clear hKq Kq
                  (try simp only [Act.put, List.setIfInBounds_toArray, List.set_cons_zero, List.set_cons_succ])
                  refine wpAnyH_done (by kernel_rfl) ?_ _
                  obtain ⟨M6, R6, r6, C6, X6, h6, hm6, hp6⟩ := hs6
                  have H6 := Lib.hid (And.intro h6 (And.intro hm6 hp6))
                  clear h6 hm6 hp6 hHeld u0 u1 de wke hclose
                  go_upto_region 23 with fail
                  go_loopg [14] 5 (fun q s14 wx => ∃ j : Nat, j ≤ 4 ∧ q = 5 - j ∧ s14 = .int .i64 (j : Int) ∧ Below w6.heap.size w6 wx)
                  case atStart => exact ⟨0, by decide, rfl, rfl, Below.refl _ _⟩
                  case round =>
                    obtain ⟨j, hj, rfl, rfl, hbj⟩ := hrel
                    by_cases hj4 : j < 4
                    · have dj : decide (j < 4) = true := decide_eq_true hj4
                      have dj' : (j : Int) < 4 := Int.ofNat_lt.2 hj4
                      have HJ := Lib.hid hj4; have HBJ := Lib.hid hbj
                      have hins := inside_any (H6.out.1.new hbj) hj4
                      by_cases hin : (R6 j).inn = true
                      · rw [hin] at hins
                        have HIJ := Lib.hid hins
                        have hod := runs_odd H6.out.1 hj4 hin
                        obtain ⟨ad, had⟩ : ∃ ad, ad = (R6 j).ad := ⟨_, rfl⟩
                        rw [← had] at HIJ hod
                        obtain ⟨v, hv⟩ : ∃ v, v = S2.look M6.L ad := ⟨_, rfl⟩
                        rw [← hv] at hod
                        obtain ⟨o1, o2, o3, o4⟩ := hod
                        have HV := Lib.hid hv; have HAD := Lib.hid had; have HIN6 := Lib.hid hin; have HAL := Lib.hid o4
                        clear hj hbj hj4 hins hin had hv o4
                        go_upto_region 27 with (go_at_call 8; rw [Nat.mul_comm]; refine HIJ.out.mono ?_; rintro e7 w7 ⟨rfl, hb7⟩; have HB7 := Lib.hid (HBJ.out.trans (hb7.mono HBJ.out.size)); clear hb7)
                        have h7 := H6.out.1.new HB7.out
                        have y7 := h7.rw'.pg.c.1
                        have HPK := Lib.hid (show Calls Tryz.prog 11 #[Pw X6.cB, .int .u32 (ad : Int)] w7 fun e w' => e = .returned (.int .u64 (v : Int)) ∧ w7 = w' by rw [HV.out]; exact pg_peek h7.rw'.pg HAL.out)
                        have HFT := Lib.hid (fits_any h7 HJ.out HIN6.out)
                        clear h7
                        go_upto_region 29 with (first
                          | (go_at_call 11; refine HPK.out.mono ?_; rintro e8 w8 ⟨rfl, rfl⟩)
                          | (go_at_call 12; rw [Nat.mul_comm]; refine HFT.out.mono ?_; rintro e8 w8 ⟨rfl, hb8⟩; have HB8 := Lib.hid (HB7.out.trans (hb8.mono HB7.out.size)); clear hb8))
                        go_upto_region 30 with fail
                        go_loopg [17] (j + 1) (fun q s17 wx => ∃ m : Nat, m ≤ j ∧ q = j + 1 - m ∧ s17 = .int .i64 (m : Int) ∧ Below w6.heap.size w6 wx)
                        case atStart => exact ⟨0, Nat.zero_le _, rfl, rfl, HB8.out⟩
                        case round =>
                          obtain ⟨m, hm, rfl, rfl, hbm⟩ := hrel
                          by_cases hmj : m < j
                          · have dm : decide (m < j) = true := decide_eq_true hmj
                            have hm4 : m < 4 := Nat.lt_trans hmj HJ.out
                            have dm4 : (m : Int) < 4 := Int.ofNat_lt.2 hm4
                            have HBM := Lib.hid hbm; have HMJ := Lib.hid hmj
                            have HIM := Lib.hid (inside_any (H6.out.1.new hbm) hm4)
                            have hne := runs_ne H6.out.1 hm4 HJ.out (Nat.ne_of_lt hmj) HIN6.out
                            rw [← HAD.out] at hne
                            have HNE := Lib.hid hne
                            clear hbm hmj hm hne hm4
                            go_upto_region 33 with (go_at_call 8; rw [Nat.mul_comm]; refine HIM.out.mono ?_; rintro e9 w9 ⟨rfl, hb9⟩; have HB9 := Lib.hid (HBM.out.trans (hb9.mono HBM.out.size)); clear hb9)
                            rcases HNE.out with hq | hq
                            · rw [hq]
                              go_wp2_with fail
                              go_roundg (j + 1 - (m + 1))
                              case measure => exact Nat.sub_lt_sub_left (Nat.lt_succ_of_lt HMJ.out) (Nat.lt_succ_self m)
                              case rel => exact ⟨m + 1, HMJ.out, rfl, (by first | exact step_j m | exact step_i (Nat.lt_of_lt_of_le (Nat.lt_trans HMJ.out HJ.out) (by decide))), HB9.out⟩
                            · generalize (R6 m).ad = adm at *
                              have q1 : decide (adm = ad) = false := decide_eq_false hq
                              have q2 : ((adm : Int) == (ad : Int)) = false := eq_no2 hq
                              clear hq
                              generalize (R6 m).inn = im at *
                              cases im
                              · go_wp2_with fail
                                go_roundg (j + 1 - (m + 1))
                                case measure => exact Nat.sub_lt_sub_left (Nat.lt_succ_of_lt HMJ.out) (Nat.lt_succ_self m)
                                case rel => exact ⟨m + 1, HMJ.out, rfl, (by first | exact step_j m | exact step_i (Nat.lt_of_lt_of_le (Nat.lt_trans HMJ.out HJ.out) (by decide))), HB9.out⟩
                              · go_wp2_with fail
                                go_roundg (j + 1 - (m + 1))
                                case measure => exact Nat.sub_lt_sub_left (Nat.lt_succ_of_lt HMJ.out) (Nat.lt_succ_self m)
                                case rel => exact ⟨m + 1, HMJ.out, rfl, (by first | exact step_j m | exact step_i (Nat.lt_of_lt_of_le (Nat.lt_trans HMJ.out HJ.out) (by decide))), HB9.out⟩
                          · obtain rfl : m = j := Nat.le_antisymm hm (Nat.le_of_not_lt hmj)
                            have HBM := Lib.hid hbm
                            clear hm hmj hbm
                            go_wp2_with fail
                            go_roundg (5 - (m + 1))
                            case measure => exact Nat.sub_lt_sub_left (Nat.lt_succ_of_lt HJ.out) (Nat.lt_succ_self m)
                            case rel => exact ⟨m + 1, HJ.out, rfl, (by first | exact step_j m | exact step_i (Nat.lt_trans HJ.out (by decide))), HBM.out⟩
                      · have hin' : (R6 j).inn = false := by cases hh : (R6 j).inn; rfl; exact absurd hh hin
                        rw [hin'] at hins
                        have HIJ := Lib.hid hins
                        clear hj hbj hj4 hins hin hin'
                        go_wp2_with (go_at_call 8; rw [Nat.mul_comm]; refine HIJ.out.mono ?_; rintro e7 w7 ⟨rfl, hb7⟩; have HB7 := Lib.hid (HBJ.out.trans (hb7.mono HBJ.out.size)); clear hb7)
                        go_roundg (5 - (j + 1))
                        case measure => exact Nat.sub_lt_sub_left (Nat.lt_succ_of_lt HJ.out) (Nat.lt_succ_self j)
                        case rel => exact ⟨j + 1, HJ.out, rfl, (by first | exact step_j j | exact step_i (Nat.lt_trans HJ.out (by decide))), HB7.out⟩
                    · obtain rfl : j = 4 := by omega
                      have HBJ := Lib.hid hbj
                      clear hj hj4 hbj
                      go_wp2_with fail
                      go_roundg (n + 1 - (i + 1))
                      case measure => exact Nat.sub_lt_sub_left (Nat.lt_succ_of_lt HE.out) (Nat.lt_succ_self i)
                      case rel => exact ⟨i + 1, HE.out, rfl, step_i (Nat.lt_of_lt_of_le HE.out (Nat.le_trans HN5.out (by decide))), _, _, _, _, _, H6.out.1.new HBJ.out, few3 H6.out.2.1 H8.out.2.1, few4 H6.out.2.2 H8.out.2.2⟩
                · obtain ⟨Z, d2, d3, d4⟩ : ∃ Z : Wb, C (5 * k + 2) = nl ∧ C (5 * k + 3) = Pw Z.B ∧ C (5 * k + 4) = nl := by
                    rcases rc with ⟨c1, _⟩ | ⟨c1, c2, _⟩ | ⟨c1, c2, c3, c4, Z, c5, c6⟩ | ⟨c1, _⟩
                    · cases c1
                    · exact absurd c2 (by rw [show (⟨1, E, F⟩ : Rn).E.ow = E.ow from rfl, ho]; decide)
                    · exact ⟨Z, c3, c5, c4⟩
                    · cases c1
                  have z3 := h5.rw'.c (m := 5 * k + 3) (few5 HK.out) d3
                  rw [Nat.mul_comm 5 k] at z3
                  by_cases hb0 : b = 0
                  · subst hb0
                    have hw := wrap_few HK.out
                    have hw1 := hw.1
                    have hw2 := hw.2
                    have wke := wrap_key (HKF.out e HX.out.2.2)
                    have de : (e : Int) < 5 := Int.ofNat_lt.2 HX.out.2.2
                    have h5d := h5.new (Below.refl _ _).drew
                    have s0 := h5d.rw'.pg.c.1
                    have s1 := HLB.out _ h5d.rw'.pg.bl
                    have s2 := HKC.out _ h5d.rw'.pg.bl e HX.out.2.2
                    have HST8 := Lib.hid (Pg.store h5d.rw'.pg (a := 64 + k) (v := K e) (few6 HK.out) (few7 (HKF.out e HX.out.2.2)) (few8 H8.out.2.1 HE.out HN5.out))
                    have hclo : ∀ {W : World} {X6 : Wm}, Pg w1 W w1.heap.size WB (M.acc 2 (64 + k) (K e)) r X6 → X6.cB = X1.cB → W.cell? ⟨WB, 0, none⟩ = some (Pw X1.cB) ∧ W.cell? ⟨g, o + i, none⟩ = some (.int .u8 (x : Int)) ∧ W.cell? ⟨Q, e, none⟩ = some (.int .u16 (K e : Int)) := fun hp hc => ⟨hc ▸ hp.c.1, HLB.out _ hp.bl, HKC.out _ hp.bl e HX.out.2.2⟩
                    have H5 := Lib.hid (And.intro h5 (And.intro hr (And.intro k0' (And.intro d2 (And.intro d3 d4)))))
                    have HNF := Lib.hid (fun W => new_free E.a W)
                    clear h5d hin h5 hlb hx k1 k0 k0' had ra rb rc ho d2 d3 d4 hr
                    go_upto_region 18 with fail
                    refine wp_region_held_drew (S := fun w' => w'.cell? ⟨WB, 0, none⟩ = some (Pw X1.cB) ∧ w'.cell? ⟨g, o + i, none⟩ = some (.int .u8 (x : Int)) ∧ w'.cell? ⟨Q, e, none⟩ = some (.int .u16 (K e : Int))) (by kernel_rfl) ?_ (fun hHeld => ?_)
                    · exact ⟨s0, s1, s2⟩
                    refine wpAnyH_take (i := 0) (oi := ({ dst := some 99, op := Op.move (Operand.tmp 7), type := 25, pos := "outright.go:107", after := #[], guard := none } : Oper)) (v := ?vrs80) rfl (by kernel_rfl) (by kernel_rfl) (by kernel_rfl) (fun _ _ _ h => h) (Or.inl ⟨by rfl, fun w hSw => ?hyrs80⟩) (by assumption) ?rrs80
                    case hyrs80 => (try dsimp only at hSw); go_simp; (try with_reducible rfl)
                    (try simp only [Act.put, List.setIfInBounds_toArray, List.set_cons_zero, List.set_cons_succ])
                    refine wpAnyH_take (i := 1) (oi := ({ dst := some 100, op := Op.nilCheck (Operand.tmp 99), type := 0, pos := "outright.go:107", after := #[{ on := 0, ground := Ground.data }], guard := none } : Oper)) (v := ?vrs81) rfl (by kernel_rfl) (by kernel_rfl) (by kernel_rfl) (fun _ _ _ h => h) (Or.inl ⟨by rfl, fun w hSw => ?hyrs81⟩) (by assumption) ?rrs81
                    case hyrs81 => (try dsimp only at hSw); go_simp; (try with_reducible rfl)
                    (try simp only [Act.put, List.setIfInBounds_toArray, List.set_cons_zero, List.set_cons_succ])
                    refine wpAnyH_take (i := 2) (oi := ({ dst := some 101, op := Op.fieldAddr 45 (Operand.tmp 100) 0, type := 0, pos := "outright.go:107", after := #[{ on := 1, ground := Ground.data }], guard := none } : Oper)) (v := ?vrs82) rfl (by kernel_rfl) (by kernel_rfl) (by kernel_rfl) (fun _ _ _ h => h) (Or.inl ⟨by rfl, fun w hSw => ?hyrs82⟩) (by assumption) ?rrs82
                    case hyrs82 => (try dsimp only at hSw); go_simp; (try with_reducible rfl)
                    (try simp only [Act.put, List.setIfInBounds_toArray, List.set_cons_zero, List.set_cons_succ])
                    refine wpAnyH_take (i := 3) (oi := ({ dst := some 102, op := Op.load 37 (Operand.tmp 101), type := 37, pos := "outright.go:107", after := #[{ on := 2, ground := Ground.data }], guard := none } : Oper)) (v := ?vrs83) rfl (by kernel_rfl) (by kernel_rfl) (by kernel_rfl) (fun _ _ _ h => h) (Or.inl ⟨by rfl, fun w hSw => ?hyrs83⟩) (by assumption) ?rrs83
                    case hyrs83 => (try dsimp only at hSw); go_simp; (try with_reducible rfl)
                    (try simp only [Act.put, List.setIfInBounds_toArray, List.set_cons_zero, List.set_cons_succ])
                    refine wpAnyH_take (i := 4) (oi := ({ dst := some 103, op := Op.move (Operand.tmp 11), type := 3, pos := "outright.go:107", after := #[], guard := none } : Oper)) (v := ?vrs84) rfl (by kernel_rfl) (by kernel_rfl) (by kernel_rfl) (fun _ _ _ h => h) (Or.inl ⟨by rfl, fun w hSw => ?hyrs84⟩) (by assumption) ?rrs84
                    case hyrs84 => (try dsimp only at hSw); go_simp; (try with_reducible rfl)
                    (try simp only [Act.put, List.setIfInBounds_toArray, List.set_cons_zero, List.set_cons_succ])
                    refine wpAnyH_take (i := 5) (oi := ({ dst := some 104, op := Op.convert 3 30 (Operand.tmp 103), type := 30, pos := "outright.go:107", after := #[{ on := 4, ground := Ground.data }], guard := none } : Oper)) (v := ?vrs85) rfl (by kernel_rfl) (by kernel_rfl) (by kernel_rfl) (fun _ _ _ h => h) (Or.inl ⟨by rfl, fun w hSw => ?hyrs85⟩) (by assumption) ?rrs85
                    case hyrs85 => (try dsimp only at hSw); go_simp; (try with_reducible rfl)
                    (try simp only [Act.put, List.setIfInBounds_toArray, List.set_cons_zero, List.set_cons_succ])
                    refine wpAnyH_take (i := 6) (oi := ({ dst := some 105, op := Op.binOp BinOp.add 30 (Operand.const (Value.int IntKind.u32 64)) (Operand.tmp 104) 30, type := 30, pos := "outright.go:107", after := #[{ on := 5, ground := Ground.data }], guard := none } : Oper)) (v := ?vrs86) rfl (by kernel_rfl) (by kernel_rfl) (by kernel_rfl) (fun _ _ _ h => h) (Or.inl ⟨by rfl, fun w hSw => ?hyrs86⟩) (by assumption) ?rrs86
                    case hyrs86 => (try dsimp only at hSw); go_simp; (try with_reducible rfl)
                    (try simp only [Act.put, List.setIfInBounds_toArray, List.set_cons_zero, List.set_cons_succ])
                    refine wpAnyH_take (i := 7) (oi := ({ dst := some 106, op := Op.move (Operand.tmp 0), type := 22, pos := "outright.go:107", after := #[], guard := none } : Oper)) (v := ?vrs87) rfl (by kernel_rfl) (by kernel_rfl) (by kernel_rfl) (fun _ _ _ h => h) (Or.inl ⟨by rfl, fun w hSw => ?hyrs87⟩) (by assumption) ?rrs87
                    case hyrs87 => (try dsimp only at hSw); go_simp; (try with_reducible rfl)
                    (try simp only [Act.put, List.setIfInBounds_toArray, List.set_cons_zero, List.set_cons_succ])
                    refine wpAnyH_take (i := 8) (oi := ({ dst := some 107, op := Op.move (Operand.tmp 10), type := 3, pos := "outright.go:107", after := #[], guard := none } : Oper)) (v := ?vrs88) rfl (by kernel_rfl) (by kernel_rfl) (by kernel_rfl) (fun _ _ _ h => h) (Or.inl ⟨by rfl, fun w hSw => ?hyrs88⟩) (by assumption) ?rrs88
                    case hyrs88 => (try dsimp only at hSw); go_simp; (try with_reducible rfl)
                    (try simp only [Act.put, List.setIfInBounds_toArray, List.set_cons_zero, List.set_cons_succ])
                    refine wpAnyH_take (i := 9) (oi := ({ dst := some 108, op := Op.indexAddr 22 (Operand.tmp 106) (Operand.tmp 107), type := 0, pos := "outright.go:107", after := #[{ on := 7, ground := Ground.data }, { on := 8, ground := Ground.data }], guard := none } : Oper)) (v := ?vrs89) rfl (by kernel_rfl) (by kernel_rfl) (by kernel_rfl) (fun _ _ _ h => h) (Or.inl ⟨by rfl, fun w hSw => ?hyrs89⟩) (by assumption) ?rrs89
                    case hyrs89 => (try dsimp only at hSw); go_simp; (try with_reducible rfl)
                    (try simp only [Act.put, List.setIfInBounds_toArray, List.set_cons_zero, List.set_cons_succ])
                    refine wpAnyH_take (i := 10) (oi := ({ dst := some 109, op := Op.load 5 (Operand.tmp 108), type := 5, pos := "outright.go:107", after := #[{ on := 9, ground := Ground.data }], guard := none } : Oper)) (v := ?vrs810) rfl (by kernel_rfl) (by kernel_rfl) (by kernel_rfl) (fun _ _ _ h => h) (Or.inl ⟨by rfl, fun w hSw => ?hyrs810⟩) (by assumption) ?rrs810
                    case hyrs810 => (try dsimp only at hSw); go_simp; (try with_reducible rfl)
                    (try simp only [Act.put, List.setIfInBounds_toArray, List.set_cons_zero, List.set_cons_succ])
                    refine wpAnyH_take (i := 11) (oi := ({ dst := some 110, op := Op.binOp BinOp.quo 5 (Operand.tmp 109) (Operand.const (Value.int IntKind.u8 10)) 5, type := 5, pos := "outright.go:107", after := #[{ on := 10, ground := Ground.data }], guard := none } : Oper)) (v := ?vrs811) rfl (by kernel_rfl) (by kernel_rfl) (by kernel_rfl) (fun _ _ _ h => h) (Or.inl ⟨by rfl, fun w hSw => ?hyrs811⟩) (by assumption) ?rrs811
                    case hyrs811 => (try dsimp only at hSw); go_simp; (try with_reducible rfl)
                    (try simp only [Act.put, List.setIfInBounds_toArray, List.set_cons_zero, List.set_cons_succ])
                    refine wpAnyH_take (i := 12) (oi := ({ dst := some 111, op := Op.convert 5 3 (Operand.tmp 110), type := 3, pos := "outright.go:107", after := #[{ on := 11, ground := Ground.data }], guard := none } : Oper)) (v := ?vrs812) rfl (by kernel_rfl) (by kernel_rfl) (by kernel_rfl) (fun _ _ _ h => h) (Or.inl ⟨by rfl, fun w hSw => ?hyrs812⟩) (by assumption) ?rrs812
                    case hyrs812 => (try dsimp only at hSw); go_simp; (try with_reducible rfl)
                    (try simp only [Act.put, List.setIfInBounds_toArray, List.set_cons_zero, List.set_cons_succ])
                    refine wpAnyH_take (i := 13) (oi := ({ dst := some 112, op := Op.binOp BinOp.rem 3 (Operand.tmp 111) (Operand.const (Value.int IntKind.i64 5)) 3, type := 3, pos := "outright.go:107", after := #[{ on := 12, ground := Ground.data }], guard := none } : Oper)) (v := ?vrs813) rfl (by kernel_rfl) (by kernel_rfl) (by kernel_rfl) (fun _ _ _ h => h) (Or.inl ⟨by rfl, fun w hSw => ?hyrs813⟩) (by assumption) ?rrs813
                    case hyrs813 => (try dsimp only at hSw); go_simp; (try with_reducible rfl)
                    (try simp only [Act.put, List.setIfInBounds_toArray, List.set_cons_zero, List.set_cons_succ])
                    refine wpAnyH_take (i := 14) (oi := ({ dst := some 113, op := Op.indexAddr 24 (Operand.tmp 4) (Operand.tmp 112), type := 0, pos := "outright.go:107", after := #[{ on := 13, ground := Ground.data }], guard := none } : Oper)) (v := ?vrs814) rfl (by kernel_rfl) (by kernel_rfl) (by kernel_rfl) (fun _ _ _ h => h) (Or.inl ⟨by rfl, fun w hSw => ?hyrs814⟩) (by assumption) ?rrs814
                    case hyrs814 => (try dsimp only at hSw); go_simp; (try with_reducible rfl)
                    (try simp only [Act.put, List.setIfInBounds_toArray, List.set_cons_zero, List.set_cons_succ])
                    refine wpAnyH_take (i := 15) (oi := ({ dst := some 114, op := Op.load 23 (Operand.tmp 113), type := 23, pos := "outright.go:107", after := #[{ on := 14, ground := Ground.data }], guard := none } : Oper)) (v := ?vrs815) rfl (by kernel_rfl) (by kernel_rfl) (by kernel_rfl) (fun _ _ _ h => h) (Or.inl ⟨by rfl, fun w hSw => ?hyrs815⟩) (by assumption) ?rrs815
                    case hyrs815 => (try dsimp only at hSw); go_simp; (try with_reducible rfl)
                    (try simp only [Act.put, List.setIfInBounds_toArray, List.set_cons_zero, List.set_cons_succ])
                    refine wpAnyH_take (i := 16) (oi := ({ dst := some 115, op := Op.convert 23 36 (Operand.tmp 114), type := 36, pos := "outright.go:107", after := #[{ on := 15, ground := Ground.data }], guard := none } : Oper)) (v := ?vrs816) rfl (by kernel_rfl) (by kernel_rfl) (by kernel_rfl) (fun _ _ _ h => h) (Or.inl ⟨by rfl, fun w hSw => ?hyrs816⟩) (by assumption) ?rrs816
                    case hyrs816 => (try dsimp only at hSw); go_simp; (try with_reducible rfl)
                    (try simp only [Act.put, List.setIfInBounds_toArray, List.set_cons_zero, List.set_cons_succ])
                    refine wpAnyH_ready (rs := [17]) (by kernel_rfl) (by simp) ?_
                    refine AllReadyH.cons (o := ({ dst := some 116, op := Op.call { callee := Callee.value (Operand.func 6), args := #[Operand.tmp 102, Operand.tmp 105, Operand.tmp 115], argTypes := #[37, 30, 36] }, type := 36, pos := "outright.go:107", after := #[{ on := 3, ground := Ground.data }, { on := 6, ground := Ground.data }, { on := 16, ground := Ground.data }], guard := none } : Oper)) rfl (fun Kq hKq => ?_) AllReadyH.nil
                    go_simp
                    (refine HST8.out.mono ?_; rintro e6 w6 ⟨rfl, X6, hp6, hc6⟩)
                    refine hKq.out _ _ ?_ (fun hHeld => ?_)
                    · exact hclo hp6 hc6
                    clear hKq Kq
                    (try simp only [Act.put, List.setIfInBounds_toArray, List.set_cons_zero, List.set_cons_succ])
                    refine wpAnyH_done (by kernel_rfl) ?_ _
                    have G6 := Lib.hid (Rw.mk hp6 H5.out.1.rw'.len H5.out.1.rw'.p0)
                    have x3 := G6.out.at.cell (i := 5 * k + 3) (few5 HK.out)
                    have g3 : w6.frozen? ⟨AB, 5 * k + 3, none⟩ = false := G6.out.at.froz
                    rw [Nat.mul_comm 5 k] at x3 g3
                    have G7 := Lib.hid (G6.out.put (m := 5 * k + 3) (few5 HK.out) nl)
                    clear hHeld s0 s1 s2 hclo z3 x5 hw hw1 hw2 wke de
                    go_upto_region 20 with fail
                    rw [show k * 5 = 5 * k from Nat.mul_comm _ _]
                    obtain ⟨w7, hw7⟩ : ∃ w7, w7 = w6.setCell ⟨AB, 5 * k + 3, none⟩ nl := ⟨_, rfl⟩
                    rw [← hw7] at G7 ⊢
                    clear hw7 x3 g3
                    have G8' := Lib.hid (Pg.freeAt (j := 1 + 2 * k) G7.out.pg (fr0 E.a) (by rw [G7.out.len]; exact few9 HK.out))
                    have G8 := Lib.hid (Rw.mk G8'.out (by rw [List.length_set]; exact G7.out.len) ((List.getElem?_set_ne few10).trans G7.out.p0))
                    have x4 := G8.out.at.cell (i := 5 * k + 4) (few11 HK.out)
                    have g4 : (w7.alloc (.cells (fr0 E.a).cs 85)).frozen? ⟨AB, 5 * k + 4, none⟩ = false := G8.out.at.froz
                    rw [Nat.mul_comm 5 k] at x4 g4
                    have G9 := Lib.hid (G8.out.put (m := 5 * k + 4) (few11 HK.out) (Pw w7.heap.size))
                    clear G8'
                    go_upto_region 21 with (go_at_call 9; refine (HNF.out _).mono ?_; rintro e8 w8 ⟨rfl, rfl⟩)
                    rw [show k * 5 = 5 * k from Nat.mul_comm _ _]
                    obtain ⟨w9, hw9⟩ : ∃ w9, w9 = (w7.alloc (.cells (fr0 E.a).cs 85)).setCell ⟨AB, 5 * k + 4, none⟩ (Pw w7.heap.size) := ⟨_, rfl⟩
                    rw [← hw9] at G9 ⊢
                    clear hw9 x4 g4
                    have hleave := leave_store H5.out.1 HK.out H5.out.2.1 H5.out.2.2.1 (HKF.out e HX.out.2.2) G9.out H5.out.2.2.2.1
                    have H8' := Lib.hid (And.intro hleave (And.intro (Nat.succ_le_succ (Nat.le_trans H1.out.2.1 (Nat.le_refl _))) H8.out.2.2))
                    clear hleave H8
                    obtain ⟨r9, C9, R9, X9, M9, H8⟩ : ∃ r9 C9 R9 X9 M9, Hid (Runs w1 w9 w1.heap.size WB AB M9 R9 r9 C9 X9 ∧ M9.n ≤ 5 + 2 * i ∧ M9.pn ≤ 4 + 2 * i) := ⟨_, _, _, _, _, Lib.hid ⟨H8'.out.1, few12 H8'.out.2.1, H8'.out.2.2⟩⟩
                    clear H8'
                    have h8d := H8.out.1.new (Below.refl _ _).drew
                    have u0 := HLB.out _ h8d.rw'.pg.bl
                    have u1 := HKC.out _ h8d.rw'.pg.bl e HX.out.2.2
                    have HST := Lib.hid (fun bb => step_all h8d HK.out (few1 H8.out.2.1 HE.out HN5.out) (few2 H8.out.2.2 HE.out HN5.out) bb (HKF.out e HX.out.2.2))
                    have de : (e : Int) < 5 := Int.ofNat_lt.2 HX.out.2.2
                    have wke := wrap_k32 (HKF.out e HX.out.2.2)
                    have hclose : ∀ {W : World} {M8 : Sd}, SStep w1 W w1.heap.size WB AB M8 → W.cell? ⟨g, o + i, none⟩ = some (.int .u8 (x : Int)) ∧ W.cell? ⟨Q, e, none⟩ = some (.int .u16 (K e : Int)) := fun h => by
                      obtain ⟨_, _, _, _, _, h', _⟩ := h
                      exact ⟨HLB.out _ h'.rw'.pg.bl, HKC.out _ h'.rw'.pg.bl e HX.out.2.2⟩
                    clear h8d
                    refine wp_region_held_drew (S := fun w' => w'.cell? ⟨g, o + i, none⟩ = some (.int .u8 (x : Int)) ∧ w'.cell? ⟨Q, e, none⟩ = some (.int .u16 (K e : Int))) (by kernel_rfl) ?_ (fun hHeld => ?_)
                    · exact ⟨u0, u1⟩
                    refine wpAnyH_take (i := 0) (oi := ({ dst := some 127, op := Op.move (Operand.tmp 8), type := 28, pos := "outright.go:111", after := #[], guard := none } : Oper)) (v := ?vrs0) rfl (by kernel_rfl) (by kernel_rfl) (by kernel_rfl) (fun _ _ _ h => h) (Or.inl ⟨by rfl, fun w hSw => ?hyrs0⟩) (by assumption) ?rrs0
                    case hyrs0 => (try dsimp only at hSw); go_simp; (try with_reducible rfl)
                    (try simp only [Act.put, List.setIfInBounds_toArray, List.set_cons_zero, List.set_cons_succ])
                    refine wpAnyH_take (i := 1) (oi := ({ dst := some 128, op := Op.move (Operand.tmp 11), type := 3, pos := "outright.go:111", after := #[], guard := none } : Oper)) (v := ?vrs1) rfl (by kernel_rfl) (by kernel_rfl) (by kernel_rfl) (fun _ _ _ h => h) (Or.inl ⟨by rfl, fun w hSw => ?hyrs1⟩) (by assumption) ?rrs1
                    case hyrs1 => (try dsimp only at hSw); go_simp; (try with_reducible rfl)
                    (try simp only [Act.put, List.setIfInBounds_toArray, List.set_cons_zero, List.set_cons_succ])
                    refine wpAnyH_take (i := 2) (oi := ({ dst := some 129, op := Op.indexAddr 28 (Operand.tmp 127) (Operand.tmp 128), type := 0, pos := "outright.go:111", after := #[{ on := 0, ground := Ground.data }, { on := 1, ground := Ground.data }], guard := none } : Oper)) (v := ?vrs2) rfl (by kernel_rfl) (by kernel_rfl) (by kernel_rfl) (fun _ _ _ h => h) (Or.inl ⟨by rfl, fun w hSw => ?hyrs2⟩) (by assumption) ?rrs2
                    case hyrs2 => (try dsimp only at hSw); go_simp; (try with_reducible rfl)
                    (try simp only [Act.put, List.setIfInBounds_toArray, List.set_cons_zero, List.set_cons_succ])
                    refine wpAnyH_take (i := 3) (oi := ({ dst := some 130, op := Op.move (Operand.tmp 7), type := 25, pos := "outright.go:111", after := #[], guard := none } : Oper)) (v := ?vrs3) rfl (by kernel_rfl) (by kernel_rfl) (by kernel_rfl) (fun _ _ _ h => h) (Or.inl ⟨by rfl, fun w hSw => ?hyrs3⟩) (by assumption) ?rrs3
                    case hyrs3 => (try dsimp only at hSw); go_simp; (try with_reducible rfl)
                    (try simp only [Act.put, List.setIfInBounds_toArray, List.set_cons_zero, List.set_cons_succ])
                    refine wpAnyH_take (i := 4) (oi := ({ dst := some 131, op := Op.move (Operand.tmp 0), type := 22, pos := "outright.go:111", after := #[], guard := none } : Oper)) (v := ?vrs4) rfl (by kernel_rfl) (by kernel_rfl) (by kernel_rfl) (fun _ _ _ h => h) (Or.inl ⟨by rfl, fun w hSw => ?hyrs4⟩) (by assumption) ?rrs4
                    case hyrs4 => (try dsimp only at hSw); go_simp; (try with_reducible rfl)
                    (try simp only [Act.put, List.setIfInBounds_toArray, List.set_cons_zero, List.set_cons_succ])
                    refine wpAnyH_take (i := 5) (oi := ({ dst := some 132, op := Op.move (Operand.tmp 10), type := 3, pos := "outright.go:111", after := #[], guard := none } : Oper)) (v := ?vrs5) rfl (by kernel_rfl) (by kernel_rfl) (by kernel_rfl) (fun _ _ _ h => h) (Or.inl ⟨by rfl, fun w hSw => ?hyrs5⟩) (by assumption) ?rrs5
                    case hyrs5 => (try dsimp only at hSw); go_simp; (try with_reducible rfl)
                    (try simp only [Act.put, List.setIfInBounds_toArray, List.set_cons_zero, List.set_cons_succ])
                    refine wpAnyH_take (i := 6) (oi := ({ dst := some 133, op := Op.indexAddr 22 (Operand.tmp 131) (Operand.tmp 132), type := 0, pos := "outright.go:111", after := #[{ on := 4, ground := Ground.data }, { on := 5, ground := Ground.data }], guard := none } : Oper)) (v := ?vrs6) rfl (by kernel_rfl) (by kernel_rfl) (by kernel_rfl) (fun _ _ _ h => h) (Or.inl ⟨by rfl, fun w hSw => ?hyrs6⟩) (by assumption) ?rrs6
                    case hyrs6 => (try dsimp only at hSw); go_simp; (try with_reducible rfl)
                    (try simp only [Act.put, List.setIfInBounds_toArray, List.set_cons_zero, List.set_cons_succ])
                    refine wpAnyH_take (i := 7) (oi := ({ dst := some 134, op := Op.load 5 (Operand.tmp 133), type := 5, pos := "outright.go:111", after := #[{ on := 6, ground := Ground.data }], guard := none } : Oper)) (v := ?vrs7) rfl (by kernel_rfl) (by kernel_rfl) (by kernel_rfl) (fun _ _ _ h => h) (Or.inl ⟨by rfl, fun w hSw => ?hyrs7⟩) (by assumption) ?rrs7
                    case hyrs7 => (try dsimp only at hSw); go_simp; (try with_reducible rfl)
                    (try simp only [Act.put, List.setIfInBounds_toArray, List.set_cons_zero, List.set_cons_succ])
                    refine wpAnyH_take (i := 8) (oi := ({ dst := some 135, op := Op.binOp BinOp.quo 5 (Operand.tmp 134) (Operand.const (Value.int IntKind.u8 5)) 5, type := 5, pos := "outright.go:111", after := #[{ on := 7, ground := Ground.data }], guard := none } : Oper)) (v := ?vrs8) rfl (by kernel_rfl) (by kernel_rfl) (by kernel_rfl) (fun _ _ _ h => h) (Or.inl ⟨by rfl, fun w hSw => ?hyrs8⟩) (by assumption) ?rrs8
                    case hyrs8 => (try dsimp only at hSw); go_simp; (try with_reducible rfl)
                    (try simp only [Act.put, List.setIfInBounds_toArray, List.set_cons_zero, List.set_cons_succ])
                    refine wpAnyH_take (i := 9) (oi := ({ dst := some 136, op := Op.binOp BinOp.rem 5 (Operand.tmp 135) (Operand.const (Value.int IntKind.u8 2)) 5, type := 5, pos := "outright.go:111", after := #[{ on := 8, ground := Ground.data }], guard := none } : Oper)) (v := ?vrs9) rfl (by kernel_rfl) (by kernel_rfl) (by kernel_rfl) (fun _ _ _ h => h) (Or.inl ⟨by rfl, fun w hSw => ?hyrs9⟩) (by assumption) ?rrs9
                    case hyrs9 => (try dsimp only at hSw); go_simp; (try with_reducible rfl)
                    (try simp only [Act.put, List.setIfInBounds_toArray, List.set_cons_zero, List.set_cons_succ])
                    refine wpAnyH_take (i := 10) (oi := ({ dst := some 137, op := Op.binOp BinOp.eql 5 (Operand.tmp 136) (Operand.const (Value.int IntKind.u8 1)) 5, type := 4, pos := "outright.go:111", after := #[{ on := 9, ground := Ground.data }], guard := none } : Oper)) (v := ?vrs10) rfl (by kernel_rfl) (by kernel_rfl) (by kernel_rfl) (fun _ _ _ h => h) (Or.inl ⟨by rfl, fun w hSw => ?hyrs10⟩) (by assumption) ?rrs10
                    case hyrs10 => (try dsimp only at hSw); go_simp; (try with_reducible rfl)
                    (try simp only [Act.put, List.setIfInBounds_toArray, List.set_cons_zero, List.set_cons_succ])
                    refine wpAnyH_take (i := 11) (oi := ({ dst := some 138, op := Op.move (Operand.tmp 0), type := 22, pos := "outright.go:111", after := #[], guard := none } : Oper)) (v := ?vrs11) rfl (by kernel_rfl) (by kernel_rfl) (by kernel_rfl) (fun _ _ _ h => h) (Or.inl ⟨by rfl, fun w hSw => ?hyrs11⟩) (by assumption) ?rrs11
                    case hyrs11 => (try dsimp only at hSw); go_simp; (try with_reducible rfl)
                    (try simp only [Act.put, List.setIfInBounds_toArray, List.set_cons_zero, List.set_cons_succ])
                    refine wpAnyH_take (i := 12) (oi := ({ dst := some 139, op := Op.move (Operand.tmp 10), type := 3, pos := "outright.go:111", after := #[], guard := none } : Oper)) (v := ?vrs12) rfl (by kernel_rfl) (by kernel_rfl) (by kernel_rfl) (fun _ _ _ h => h) (Or.inl ⟨by rfl, fun w hSw => ?hyrs12⟩) (by assumption) ?rrs12
                    case hyrs12 => (try dsimp only at hSw); go_simp; (try with_reducible rfl)
                    (try simp only [Act.put, List.setIfInBounds_toArray, List.set_cons_zero, List.set_cons_succ])
                    refine wpAnyH_take (i := 13) (oi := ({ dst := some 140, op := Op.indexAddr 22 (Operand.tmp 138) (Operand.tmp 139), type := 0, pos := "outright.go:111", after := #[{ on := 11, ground := Ground.data }, { on := 12, ground := Ground.data }], guard := none } : Oper)) (v := ?vrs13) rfl (by kernel_rfl) (by kernel_rfl) (by kernel_rfl) (fun _ _ _ h => h) (Or.inl ⟨by rfl, fun w hSw => ?hyrs13⟩) (by assumption) ?rrs13
                    case hyrs13 => (try dsimp only at hSw); go_simp; (try with_reducible rfl)
                    (try simp only [Act.put, List.setIfInBounds_toArray, List.set_cons_zero, List.set_cons_succ])
                    refine wpAnyH_take (i := 14) (oi := ({ dst := some 141, op := Op.load 5 (Operand.tmp 140), type := 5, pos := "outright.go:111", after := #[{ on := 13, ground := Ground.data }], guard := none } : Oper)) (v := ?vrs14) rfl (by kernel_rfl) (by kernel_rfl) (by kernel_rfl) (fun _ _ _ h => h) (Or.inl ⟨by rfl, fun w hSw => ?hyrs14⟩) (by assumption) ?rrs14
                    case hyrs14 => (try dsimp only at hSw); go_simp; (try with_reducible rfl)
                    (try simp only [Act.put, List.setIfInBounds_toArray, List.set_cons_zero, List.set_cons_succ])
                    refine wpAnyH_take (i := 15) (oi := ({ dst := some 142, op := Op.binOp BinOp.quo 5 (Operand.tmp 141) (Operand.const (Value.int IntKind.u8 10)) 5, type := 5, pos := "outright.go:111", after := #[{ on := 14, ground := Ground.data }], guard := none } : Oper)) (v := ?vrs15) rfl (by kernel_rfl) (by kernel_rfl) (by kernel_rfl) (fun _ _ _ h => h) (Or.inl ⟨by rfl, fun w hSw => ?hyrs15⟩) (by assumption) ?rrs15
                    case hyrs15 => (try dsimp only at hSw); go_simp; (try with_reducible rfl)
                    (try simp only [Act.put, List.setIfInBounds_toArray, List.set_cons_zero, List.set_cons_succ])
                    refine wpAnyH_take (i := 16) (oi := ({ dst := some 143, op := Op.convert 5 3 (Operand.tmp 142), type := 3, pos := "outright.go:111", after := #[{ on := 15, ground := Ground.data }], guard := none } : Oper)) (v := ?vrs16) rfl (by kernel_rfl) (by kernel_rfl) (by kernel_rfl) (fun _ _ _ h => h) (Or.inl ⟨by rfl, fun w hSw => ?hyrs16⟩) (by assumption) ?rrs16
                    case hyrs16 => (try dsimp only at hSw); go_simp; (try with_reducible rfl)
                    (try simp only [Act.put, List.setIfInBounds_toArray, List.set_cons_zero, List.set_cons_succ])
                    refine wpAnyH_take (i := 17) (oi := ({ dst := some 144, op := Op.binOp BinOp.rem 3 (Operand.tmp 143) (Operand.const (Value.int IntKind.i64 5)) 3, type := 3, pos := "outright.go:111", after := #[{ on := 16, ground := Ground.data }], guard := none } : Oper)) (v := ?vrs17) rfl (by kernel_rfl) (by kernel_rfl) (by kernel_rfl) (fun _ _ _ h => h) (Or.inl ⟨by rfl, fun w hSw => ?hyrs17⟩) (by assumption) ?rrs17
                    case hyrs17 => (try dsimp only at hSw); go_simp; (try with_reducible rfl)
                    (try simp only [Act.put, List.setIfInBounds_toArray, List.set_cons_zero, List.set_cons_succ])
                    refine wpAnyH_take (i := 18) (oi := ({ dst := some 145, op := Op.indexAddr 24 (Operand.tmp 4) (Operand.tmp 144), type := 0, pos := "outright.go:111", after := #[{ on := 17, ground := Ground.data }], guard := none } : Oper)) (v := ?vrs18) rfl (by kernel_rfl) (by kernel_rfl) (by kernel_rfl) (fun _ _ _ h => h) (Or.inl ⟨by rfl, fun w hSw => ?hyrs18⟩) (by assumption) ?rrs18
                    case hyrs18 => (try dsimp only at hSw); go_simp; (try with_reducible rfl)
                    (try simp only [Act.put, List.setIfInBounds_toArray, List.set_cons_zero, List.set_cons_succ])
                    refine wpAnyH_take (i := 19) (oi := ({ dst := some 146, op := Op.load 23 (Operand.tmp 145), type := 23, pos := "outright.go:111", after := #[{ on := 18, ground := Ground.data }], guard := none } : Oper)) (v := ?vrs19) rfl (by kernel_rfl) (by kernel_rfl) (by kernel_rfl) (fun _ _ _ h => h) (Or.inl ⟨by rfl, fun w hSw => ?hyrs19⟩) (by assumption) ?rrs19
                    case hyrs19 => (try dsimp only at hSw); go_simp; (try with_reducible rfl)
                    (try simp only [Act.put, List.setIfInBounds_toArray, List.set_cons_zero, List.set_cons_succ])
                    refine wpAnyH_take (i := 20) (oi := ({ dst := some 147, op := Op.convert 23 30 (Operand.tmp 146), type := 30, pos := "outright.go:111", after := #[{ on := 19, ground := Ground.data }], guard := none } : Oper)) (v := ?vrs20) rfl (by kernel_rfl) (by kernel_rfl) (by kernel_rfl) (fun _ _ _ h => h) (Or.inl ⟨by rfl, fun w hSw => ?hyrs20⟩) (by assumption) ?rrs20
                    case hyrs20 => (try dsimp only at hSw); go_simp; (try with_reducible rfl)
                    (try simp only [Act.put, List.setIfInBounds_toArray, List.set_cons_zero, List.set_cons_succ])
                    refine wpAnyH_ready (rs := [21]) (by kernel_rfl) (by simp) ?_
                    refine AllReadyH.cons (o := ({ dst := some 148, op := Op.call { callee := Callee.value (Operand.func 10), args := #[Operand.tmp 129, Operand.tmp 130, Operand.tmp 137, Operand.tmp 147], argTypes := #[35, 25, 4, 30] }, type := 0, pos := "outright.go:111", after := #[{ on := 2, ground := Ground.data }, { on := 3, ground := Ground.data }, { on := 10, ground := Ground.data }, { on := 20, ground := Ground.data }], guard := none } : Oper)) rfl (fun Kq hKq => ?_) AllReadyH.nil
                    go_simp
                    (rw [Nat.mul_comm k 5]; refine (HST.out _).mono ?_; rintro e6 w6 ⟨rfl, hs6⟩)
                    refine hKq.out _ _ ?_ (fun hHeld => ?_)
                    · exact hclose hs6
                    clear hKq Kq
                    (try simp only [Act.put, List.setIfInBounds_toArray, List.set_cons_zero, List.set_cons_succ])
                    refine wpAnyH_done (by kernel_rfl) ?_ _
                    obtain ⟨M6, R6, r6, C6, X6, h6, hm6, hp6⟩ := hs6
                    have H6 := Lib.hid (And.intro h6 (And.intro hm6 hp6))
                    clear h6 hm6 hp6 hHeld u0 u1 de wke hclose
                    go_upto_region 23 with fail
                    go_loopg [14] 5 (fun q s14 wx => ∃ j : Nat, j ≤ 4 ∧ q = 5 - j ∧ s14 = .int .i64 (j : Int) ∧ Below w6.heap.size w6 wx)
                    case atStart => exact ⟨0, by decide, rfl, rfl, Below.refl _ _⟩
                    case round =>
                      obtain ⟨j, hj, rfl, rfl, hbj⟩ := hrel
                      by_cases hj4 : j < 4
                      · have dj : decide (j < 4) = true := decide_eq_true hj4
                        have dj' : (j : Int) < 4 := Int.ofNat_lt.2 hj4
                        have HJ := Lib.hid hj4; have HBJ := Lib.hid hbj
                        have hins := inside_any (H6.out.1.new hbj) hj4
                        by_cases hin : (R6 j).inn = true
                        · rw [hin] at hins
                          have HIJ := Lib.hid hins
                          have hod := runs_odd H6.out.1 hj4 hin
                          obtain ⟨ad, had⟩ : ∃ ad, ad = (R6 j).ad := ⟨_, rfl⟩
                          rw [← had] at HIJ hod
                          obtain ⟨v, hv⟩ : ∃ v, v = S2.look M6.L ad := ⟨_, rfl⟩
                          rw [← hv] at hod
                          obtain ⟨o1, o2, o3, o4⟩ := hod
                          have HV := Lib.hid hv; have HAD := Lib.hid had; have HIN6 := Lib.hid hin; have HAL := Lib.hid o4
                          clear hj hbj hj4 hins hin had hv o4
                          go_upto_region 27 with (go_at_call 8; rw [Nat.mul_comm]; refine HIJ.out.mono ?_; rintro e7 w7 ⟨rfl, hb7⟩; have HB7 := Lib.hid (HBJ.out.trans (hb7.mono HBJ.out.size)); clear hb7)
                          have h7 := H6.out.1.new HB7.out
                          have y7 := h7.rw'.pg.c.1
                          have HPK := Lib.hid (show Calls Tryz.prog 11 #[Pw X6.cB, .int .u32 (ad : Int)] w7 fun e w' => e = .returned (.int .u64 (v : Int)) ∧ w7 = w' by rw [HV.out]; exact pg_peek h7.rw'.pg HAL.out)
                          have HFT := Lib.hid (fits_any h7 HJ.out HIN6.out)
                          clear h7
                          go_upto_region 29 with (first
                            | (go_at_call 11; refine HPK.out.mono ?_; rintro e8 w8 ⟨rfl, rfl⟩)
                            | (go_at_call 12; rw [Nat.mul_comm]; refine HFT.out.mono ?_; rintro e8 w8 ⟨rfl, hb8⟩; have HB8 := Lib.hid (HB7.out.trans (hb8.mono HB7.out.size)); clear hb8))
                          go_upto_region 30 with fail
                          go_loopg [17] (j + 1) (fun q s17 wx => ∃ m : Nat, m ≤ j ∧ q = j + 1 - m ∧ s17 = .int .i64 (m : Int) ∧ Below w6.heap.size w6 wx)
                          case atStart => exact ⟨0, Nat.zero_le _, rfl, rfl, HB8.out⟩
                          case round =>
                            obtain ⟨m, hm, rfl, rfl, hbm⟩ := hrel
                            by_cases hmj : m < j
                            · have dm : decide (m < j) = true := decide_eq_true hmj
                              have hm4 : m < 4 := Nat.lt_trans hmj HJ.out
                              have dm4 : (m : Int) < 4 := Int.ofNat_lt.2 hm4
                              have HBM := Lib.hid hbm; have HMJ := Lib.hid hmj
                              have HIM := Lib.hid (inside_any (H6.out.1.new hbm) hm4)
                              have hne := runs_ne H6.out.1 hm4 HJ.out (Nat.ne_of_lt hmj) HIN6.out
                              rw [← HAD.out] at hne
                              have HNE := Lib.hid hne
                              clear hbm hmj hm hne hm4
                              go_upto_region 33 with (go_at_call 8; rw [Nat.mul_comm]; refine HIM.out.mono ?_; rintro e9 w9 ⟨rfl, hb9⟩; have HB9 := Lib.hid (HBM.out.trans (hb9.mono HBM.out.size)); clear hb9)
                              rcases HNE.out with hq | hq
                              · rw [hq]
                                go_wp2_with fail
                                go_roundg (j + 1 - (m + 1))
                                case measure => exact Nat.sub_lt_sub_left (Nat.lt_succ_of_lt HMJ.out) (Nat.lt_succ_self m)
                                case rel => exact ⟨m + 1, HMJ.out, rfl, (by first | exact step_j m | exact step_i (Nat.lt_of_lt_of_le (Nat.lt_trans HMJ.out HJ.out) (by decide))), HB9.out⟩
                              · generalize (R6 m).ad = adm at *
                                have q1 : decide (adm = ad) = false := decide_eq_false hq
                                have q2 : ((adm : Int) == (ad : Int)) = false := eq_no2 hq
                                clear hq
                                generalize (R6 m).inn = im at *
                                cases im
                                · go_wp2_with fail
                                  go_roundg (j + 1 - (m + 1))
                                  case measure => exact Nat.sub_lt_sub_left (Nat.lt_succ_of_lt HMJ.out) (Nat.lt_succ_self m)
                                  case rel => exact ⟨m + 1, HMJ.out, rfl, (by first | exact step_j m | exact step_i (Nat.lt_of_lt_of_le (Nat.lt_trans HMJ.out HJ.out) (by decide))), HB9.out⟩
                                · go_wp2_with fail
                                  go_roundg (j + 1 - (m + 1))
                                  case measure => exact Nat.sub_lt_sub_left (Nat.lt_succ_of_lt HMJ.out) (Nat.lt_succ_self m)
                                  case rel => exact ⟨m + 1, HMJ.out, rfl, (by first | exact step_j m | exact step_i (Nat.lt_of_lt_of_le (Nat.lt_trans HMJ.out HJ.out) (by decide))), HB9.out⟩
                            · obtain rfl : m = j := Nat.le_antisymm hm (Nat.le_of_not_lt hmj)
                              have HBM := Lib.hid hbm
                              clear hm hmj hbm
                              go_wp2_with fail
                              go_roundg (5 - (m + 1))
                              case measure => exact Nat.sub_lt_sub_left (Nat.lt_succ_of_lt HJ.out) (Nat.lt_succ_self m)
                              case rel => exact ⟨m + 1, HJ.out, rfl, (by first | exact step_j m | exact step_i (Nat.lt_trans HJ.out (by decide))), HBM.out⟩
                        · have hin' : (R6 j).inn = false := by cases hh : (R6 j).inn; rfl; exact absurd hh hin
                          rw [hin'] at hins
                          have HIJ := Lib.hid hins
                          clear hj hbj hj4 hins hin hin'
                          go_wp2_with (go_at_call 8; rw [Nat.mul_comm]; refine HIJ.out.mono ?_; rintro e7 w7 ⟨rfl, hb7⟩; have HB7 := Lib.hid (HBJ.out.trans (hb7.mono HBJ.out.size)); clear hb7)
                          go_roundg (5 - (j + 1))
                          case measure => exact Nat.sub_lt_sub_left (Nat.lt_succ_of_lt HJ.out) (Nat.lt_succ_self j)
                          case rel => exact ⟨j + 1, HJ.out, rfl, (by first | exact step_j j | exact step_i (Nat.lt_trans HJ.out (by decide))), HB7.out⟩
                      · obtain rfl : j = 4 := by omega
                        have HBJ := Lib.hid hbj
                        clear hj hj4 hbj
                        go_wp2_with fail
                        go_roundg (n + 1 - (i + 1))
                        case measure => exact Nat.sub_lt_sub_left (Nat.lt_succ_of_lt HE.out) (Nat.lt_succ_self i)
                        case rel => exact ⟨i + 1, HE.out, rfl, step_i (Nat.lt_of_lt_of_le HE.out (Nat.le_trans HN5.out (by decide))), _, _, _, _, _, H6.out.1.new HBJ.out, few3 H6.out.2.1 H8.out.2.1, few4 H6.out.2.2 H8.out.2.2⟩
                  · obtain rfl : b = 1 := one_of HX.out.2.1 hb0
                    clear hin h5 hlb hx k1 k0 k0' had ra rb rc ho d2 d3 d4 hr hb0
                    go_upto_region 21 with fail
                    have h8d := H8.out.1.new (Below.refl _ _).drew
                    have u0 := HLB.out _ h8d.rw'.pg.bl
                    have u1 := HKC.out _ h8d.rw'.pg.bl e HX.out.2.2
                    have HST := Lib.hid (fun bb => step_all h8d HK.out (few1 H8.out.2.1 HE.out HN5.out) (few2 H8.out.2.2 HE.out HN5.out) bb (HKF.out e HX.out.2.2))
                    have de : (e : Int) < 5 := Int.ofNat_lt.2 HX.out.2.2
                    have wke := wrap_k32 (HKF.out e HX.out.2.2)
                    have hclose : ∀ {W : World} {M8 : Sd}, SStep w1 W w1.heap.size WB AB M8 → W.cell? ⟨g, o + i, none⟩ = some (.int .u8 (x : Int)) ∧ W.cell? ⟨Q, e, none⟩ = some (.int .u16 (K e : Int)) := fun h => by
                      obtain ⟨_, _, _, _, _, h', _⟩ := h
                      exact ⟨HLB.out _ h'.rw'.pg.bl, HKC.out _ h'.rw'.pg.bl e HX.out.2.2⟩
                    clear h8d
                    refine wp_region_held_drew (S := fun w' => w'.cell? ⟨g, o + i, none⟩ = some (.int .u8 (x : Int)) ∧ w'.cell? ⟨Q, e, none⟩ = some (.int .u16 (K e : Int))) (by kernel_rfl) ?_ (fun hHeld => ?_)
                    · exact ⟨u0, u1⟩
                    refine wpAnyH_take (i := 0) (oi := ({ dst := some 127, op := Op.move (Operand.tmp 8), type := 28, pos := "outright.go:111", after := #[], guard := none } : Oper)) (v := ?vro0) rfl (by kernel_rfl) (by kernel_rfl) (by kernel_rfl) (fun _ _ _ h => h) (Or.inl ⟨by rfl, fun w hSw => ?hyro0⟩) (by assumption) ?rro0
                    case hyro0 => (try dsimp only at hSw); go_simp; (try with_reducible rfl)
                    (try simp only [Act.put, List.setIfInBounds_toArray, List.set_cons_zero, List.set_cons_succ])
                    refine wpAnyH_take (i := 1) (oi := ({ dst := some 128, op := Op.move (Operand.tmp 11), type := 3, pos := "outright.go:111", after := #[], guard := none } : Oper)) (v := ?vro1) rfl (by kernel_rfl) (by kernel_rfl) (by kernel_rfl) (fun _ _ _ h => h) (Or.inl ⟨by rfl, fun w hSw => ?hyro1⟩) (by assumption) ?rro1
                    case hyro1 => (try dsimp only at hSw); go_simp; (try with_reducible rfl)
                    (try simp only [Act.put, List.setIfInBounds_toArray, List.set_cons_zero, List.set_cons_succ])
                    refine wpAnyH_take (i := 2) (oi := ({ dst := some 129, op := Op.indexAddr 28 (Operand.tmp 127) (Operand.tmp 128), type := 0, pos := "outright.go:111", after := #[{ on := 0, ground := Ground.data }, { on := 1, ground := Ground.data }], guard := none } : Oper)) (v := ?vro2) rfl (by kernel_rfl) (by kernel_rfl) (by kernel_rfl) (fun _ _ _ h => h) (Or.inl ⟨by rfl, fun w hSw => ?hyro2⟩) (by assumption) ?rro2
                    case hyro2 => (try dsimp only at hSw); go_simp; (try with_reducible rfl)
                    (try simp only [Act.put, List.setIfInBounds_toArray, List.set_cons_zero, List.set_cons_succ])
                    refine wpAnyH_take (i := 3) (oi := ({ dst := some 130, op := Op.move (Operand.tmp 7), type := 25, pos := "outright.go:111", after := #[], guard := none } : Oper)) (v := ?vro3) rfl (by kernel_rfl) (by kernel_rfl) (by kernel_rfl) (fun _ _ _ h => h) (Or.inl ⟨by rfl, fun w hSw => ?hyro3⟩) (by assumption) ?rro3
                    case hyro3 => (try dsimp only at hSw); go_simp; (try with_reducible rfl)
                    (try simp only [Act.put, List.setIfInBounds_toArray, List.set_cons_zero, List.set_cons_succ])
                    refine wpAnyH_take (i := 4) (oi := ({ dst := some 131, op := Op.move (Operand.tmp 0), type := 22, pos := "outright.go:111", after := #[], guard := none } : Oper)) (v := ?vro4) rfl (by kernel_rfl) (by kernel_rfl) (by kernel_rfl) (fun _ _ _ h => h) (Or.inl ⟨by rfl, fun w hSw => ?hyro4⟩) (by assumption) ?rro4
                    case hyro4 => (try dsimp only at hSw); go_simp; (try with_reducible rfl)
                    (try simp only [Act.put, List.setIfInBounds_toArray, List.set_cons_zero, List.set_cons_succ])
                    refine wpAnyH_take (i := 5) (oi := ({ dst := some 132, op := Op.move (Operand.tmp 10), type := 3, pos := "outright.go:111", after := #[], guard := none } : Oper)) (v := ?vro5) rfl (by kernel_rfl) (by kernel_rfl) (by kernel_rfl) (fun _ _ _ h => h) (Or.inl ⟨by rfl, fun w hSw => ?hyro5⟩) (by assumption) ?rro5
                    case hyro5 => (try dsimp only at hSw); go_simp; (try with_reducible rfl)
                    (try simp only [Act.put, List.setIfInBounds_toArray, List.set_cons_zero, List.set_cons_succ])
                    refine wpAnyH_take (i := 6) (oi := ({ dst := some 133, op := Op.indexAddr 22 (Operand.tmp 131) (Operand.tmp 132), type := 0, pos := "outright.go:111", after := #[{ on := 4, ground := Ground.data }, { on := 5, ground := Ground.data }], guard := none } : Oper)) (v := ?vro6) rfl (by kernel_rfl) (by kernel_rfl) (by kernel_rfl) (fun _ _ _ h => h) (Or.inl ⟨by rfl, fun w hSw => ?hyro6⟩) (by assumption) ?rro6
                    case hyro6 => (try dsimp only at hSw); go_simp; (try with_reducible rfl)
                    (try simp only [Act.put, List.setIfInBounds_toArray, List.set_cons_zero, List.set_cons_succ])
                    refine wpAnyH_take (i := 7) (oi := ({ dst := some 134, op := Op.load 5 (Operand.tmp 133), type := 5, pos := "outright.go:111", after := #[{ on := 6, ground := Ground.data }], guard := none } : Oper)) (v := ?vro7) rfl (by kernel_rfl) (by kernel_rfl) (by kernel_rfl) (fun _ _ _ h => h) (Or.inl ⟨by rfl, fun w hSw => ?hyro7⟩) (by assumption) ?rro7
                    case hyro7 => (try dsimp only at hSw); go_simp; (try with_reducible rfl)
                    (try simp only [Act.put, List.setIfInBounds_toArray, List.set_cons_zero, List.set_cons_succ])
                    refine wpAnyH_take (i := 8) (oi := ({ dst := some 135, op := Op.binOp BinOp.quo 5 (Operand.tmp 134) (Operand.const (Value.int IntKind.u8 5)) 5, type := 5, pos := "outright.go:111", after := #[{ on := 7, ground := Ground.data }], guard := none } : Oper)) (v := ?vro8) rfl (by kernel_rfl) (by kernel_rfl) (by kernel_rfl) (fun _ _ _ h => h) (Or.inl ⟨by rfl, fun w hSw => ?hyro8⟩) (by assumption) ?rro8
                    case hyro8 => (try dsimp only at hSw); go_simp; (try with_reducible rfl)
                    (try simp only [Act.put, List.setIfInBounds_toArray, List.set_cons_zero, List.set_cons_succ])
                    refine wpAnyH_take (i := 9) (oi := ({ dst := some 136, op := Op.binOp BinOp.rem 5 (Operand.tmp 135) (Operand.const (Value.int IntKind.u8 2)) 5, type := 5, pos := "outright.go:111", after := #[{ on := 8, ground := Ground.data }], guard := none } : Oper)) (v := ?vro9) rfl (by kernel_rfl) (by kernel_rfl) (by kernel_rfl) (fun _ _ _ h => h) (Or.inl ⟨by rfl, fun w hSw => ?hyro9⟩) (by assumption) ?rro9
                    case hyro9 => (try dsimp only at hSw); go_simp; (try with_reducible rfl)
                    (try simp only [Act.put, List.setIfInBounds_toArray, List.set_cons_zero, List.set_cons_succ])
                    refine wpAnyH_take (i := 10) (oi := ({ dst := some 137, op := Op.binOp BinOp.eql 5 (Operand.tmp 136) (Operand.const (Value.int IntKind.u8 1)) 5, type := 4, pos := "outright.go:111", after := #[{ on := 9, ground := Ground.data }], guard := none } : Oper)) (v := ?vro10) rfl (by kernel_rfl) (by kernel_rfl) (by kernel_rfl) (fun _ _ _ h => h) (Or.inl ⟨by rfl, fun w hSw => ?hyro10⟩) (by assumption) ?rro10
                    case hyro10 => (try dsimp only at hSw); go_simp; (try with_reducible rfl)
                    (try simp only [Act.put, List.setIfInBounds_toArray, List.set_cons_zero, List.set_cons_succ])
                    refine wpAnyH_take (i := 11) (oi := ({ dst := some 138, op := Op.move (Operand.tmp 0), type := 22, pos := "outright.go:111", after := #[], guard := none } : Oper)) (v := ?vro11) rfl (by kernel_rfl) (by kernel_rfl) (by kernel_rfl) (fun _ _ _ h => h) (Or.inl ⟨by rfl, fun w hSw => ?hyro11⟩) (by assumption) ?rro11
                    case hyro11 => (try dsimp only at hSw); go_simp; (try with_reducible rfl)
                    (try simp only [Act.put, List.setIfInBounds_toArray, List.set_cons_zero, List.set_cons_succ])
                    refine wpAnyH_take (i := 12) (oi := ({ dst := some 139, op := Op.move (Operand.tmp 10), type := 3, pos := "outright.go:111", after := #[], guard := none } : Oper)) (v := ?vro12) rfl (by kernel_rfl) (by kernel_rfl) (by kernel_rfl) (fun _ _ _ h => h) (Or.inl ⟨by rfl, fun w hSw => ?hyro12⟩) (by assumption) ?rro12
                    case hyro12 => (try dsimp only at hSw); go_simp; (try with_reducible rfl)
                    (try simp only [Act.put, List.setIfInBounds_toArray, List.set_cons_zero, List.set_cons_succ])
                    refine wpAnyH_take (i := 13) (oi := ({ dst := some 140, op := Op.indexAddr 22 (Operand.tmp 138) (Operand.tmp 139), type := 0, pos := "outright.go:111", after := #[{ on := 11, ground := Ground.data }, { on := 12, ground := Ground.data }], guard := none } : Oper)) (v := ?vro13) rfl (by kernel_rfl) (by kernel_rfl) (by kernel_rfl) (fun _ _ _ h => h) (Or.inl ⟨by rfl, fun w hSw => ?hyro13⟩) (by assumption) ?rro13
                    case hyro13 => (try dsimp only at hSw); go_simp; (try with_reducible rfl)
                    (try simp only [Act.put, List.setIfInBounds_toArray, List.set_cons_zero, List.set_cons_succ])
                    refine wpAnyH_take (i := 14) (oi := ({ dst := some 141, op := Op.load 5 (Operand.tmp 140), type := 5, pos := "outright.go:111", after := #[{ on := 13, ground := Ground.data }], guard := none } : Oper)) (v := ?vro14) rfl (by kernel_rfl) (by kernel_rfl) (by kernel_rfl) (fun _ _ _ h => h) (Or.inl ⟨by rfl, fun w hSw => ?hyro14⟩) (by assumption) ?rro14
                    case hyro14 => (try dsimp only at hSw); go_simp; (try with_reducible rfl)
                    (try simp only [Act.put, List.setIfInBounds_toArray, List.set_cons_zero, List.set_cons_succ])
                    refine wpAnyH_take (i := 15) (oi := ({ dst := some 142, op := Op.binOp BinOp.quo 5 (Operand.tmp 141) (Operand.const (Value.int IntKind.u8 10)) 5, type := 5, pos := "outright.go:111", after := #[{ on := 14, ground := Ground.data }], guard := none } : Oper)) (v := ?vro15) rfl (by kernel_rfl) (by kernel_rfl) (by kernel_rfl) (fun _ _ _ h => h) (Or.inl ⟨by rfl, fun w hSw => ?hyro15⟩) (by assumption) ?rro15
                    case hyro15 => (try dsimp only at hSw); go_simp; (try with_reducible rfl)
                    (try simp only [Act.put, List.setIfInBounds_toArray, List.set_cons_zero, List.set_cons_succ])
                    refine wpAnyH_take (i := 16) (oi := ({ dst := some 143, op := Op.convert 5 3 (Operand.tmp 142), type := 3, pos := "outright.go:111", after := #[{ on := 15, ground := Ground.data }], guard := none } : Oper)) (v := ?vro16) rfl (by kernel_rfl) (by kernel_rfl) (by kernel_rfl) (fun _ _ _ h => h) (Or.inl ⟨by rfl, fun w hSw => ?hyro16⟩) (by assumption) ?rro16
                    case hyro16 => (try dsimp only at hSw); go_simp; (try with_reducible rfl)
                    (try simp only [Act.put, List.setIfInBounds_toArray, List.set_cons_zero, List.set_cons_succ])
                    refine wpAnyH_take (i := 17) (oi := ({ dst := some 144, op := Op.binOp BinOp.rem 3 (Operand.tmp 143) (Operand.const (Value.int IntKind.i64 5)) 3, type := 3, pos := "outright.go:111", after := #[{ on := 16, ground := Ground.data }], guard := none } : Oper)) (v := ?vro17) rfl (by kernel_rfl) (by kernel_rfl) (by kernel_rfl) (fun _ _ _ h => h) (Or.inl ⟨by rfl, fun w hSw => ?hyro17⟩) (by assumption) ?rro17
                    case hyro17 => (try dsimp only at hSw); go_simp; (try with_reducible rfl)
                    (try simp only [Act.put, List.setIfInBounds_toArray, List.set_cons_zero, List.set_cons_succ])
                    refine wpAnyH_take (i := 18) (oi := ({ dst := some 145, op := Op.indexAddr 24 (Operand.tmp 4) (Operand.tmp 144), type := 0, pos := "outright.go:111", after := #[{ on := 17, ground := Ground.data }], guard := none } : Oper)) (v := ?vro18) rfl (by kernel_rfl) (by kernel_rfl) (by kernel_rfl) (fun _ _ _ h => h) (Or.inl ⟨by rfl, fun w hSw => ?hyro18⟩) (by assumption) ?rro18
                    case hyro18 => (try dsimp only at hSw); go_simp; (try with_reducible rfl)
                    (try simp only [Act.put, List.setIfInBounds_toArray, List.set_cons_zero, List.set_cons_succ])
                    refine wpAnyH_take (i := 19) (oi := ({ dst := some 146, op := Op.load 23 (Operand.tmp 145), type := 23, pos := "outright.go:111", after := #[{ on := 18, ground := Ground.data }], guard := none } : Oper)) (v := ?vro19) rfl (by kernel_rfl) (by kernel_rfl) (by kernel_rfl) (fun _ _ _ h => h) (Or.inl ⟨by rfl, fun w hSw => ?hyro19⟩) (by assumption) ?rro19
                    case hyro19 => (try dsimp only at hSw); go_simp; (try with_reducible rfl)
                    (try simp only [Act.put, List.setIfInBounds_toArray, List.set_cons_zero, List.set_cons_succ])
                    refine wpAnyH_take (i := 20) (oi := ({ dst := some 147, op := Op.convert 23 30 (Operand.tmp 146), type := 30, pos := "outright.go:111", after := #[{ on := 19, ground := Ground.data }], guard := none } : Oper)) (v := ?vro20) rfl (by kernel_rfl) (by kernel_rfl) (by kernel_rfl) (fun _ _ _ h => h) (Or.inl ⟨by rfl, fun w hSw => ?hyro20⟩) (by assumption) ?rro20
                    case hyro20 => (try dsimp only at hSw); go_simp; (try with_reducible rfl)
                    (try simp only [Act.put, List.setIfInBounds_toArray, List.set_cons_zero, List.set_cons_succ])
                    refine wpAnyH_ready (rs := [21]) (by kernel_rfl) (by simp) ?_
                    refine AllReadyH.cons (o := ({ dst := some 148, op := Op.call { callee := Callee.value (Operand.func 10), args := #[Operand.tmp 129, Operand.tmp 130, Operand.tmp 137, Operand.tmp 147], argTypes := #[35, 25, 4, 30] }, type := 0, pos := "outright.go:111", after := #[{ on := 2, ground := Ground.data }, { on := 3, ground := Ground.data }, { on := 10, ground := Ground.data }, { on := 20, ground := Ground.data }], guard := none } : Oper)) rfl (fun Kq hKq => ?_) AllReadyH.nil
                    go_simp
                    (rw [Nat.mul_comm k 5]; refine (HST.out _).mono ?_; rintro e6 w6 ⟨rfl, hs6⟩)
                    refine hKq.out _ _ ?_ (fun hHeld => ?_)
                    · exact hclose hs6
                    clear hKq Kq
                    (try simp only [Act.put, List.setIfInBounds_toArray, List.set_cons_zero, List.set_cons_succ])
                    refine wpAnyH_done (by kernel_rfl) ?_ _
                    obtain ⟨M6, R6, r6, C6, X6, h6, hm6, hp6⟩ := hs6
                    have H6 := Lib.hid (And.intro h6 (And.intro hm6 hp6))
                    clear h6 hm6 hp6 hHeld u0 u1 de wke hclose
                    go_upto_region 23 with fail
                    go_loopg [14] 5 (fun q s14 wx => ∃ j : Nat, j ≤ 4 ∧ q = 5 - j ∧ s14 = .int .i64 (j : Int) ∧ Below w6.heap.size w6 wx)
                    case atStart => exact ⟨0, by decide, rfl, rfl, Below.refl _ _⟩
                    case round =>
                      obtain ⟨j, hj, rfl, rfl, hbj⟩ := hrel
                      by_cases hj4 : j < 4
                      · have dj : decide (j < 4) = true := decide_eq_true hj4
                        have dj' : (j : Int) < 4 := Int.ofNat_lt.2 hj4
                        have HJ := Lib.hid hj4; have HBJ := Lib.hid hbj
                        have hins := inside_any (H6.out.1.new hbj) hj4
                        by_cases hin : (R6 j).inn = true
                        · rw [hin] at hins
                          have HIJ := Lib.hid hins
                          have hod := runs_odd H6.out.1 hj4 hin
                          obtain ⟨ad, had⟩ : ∃ ad, ad = (R6 j).ad := ⟨_, rfl⟩
                          rw [← had] at HIJ hod
                          obtain ⟨v, hv⟩ : ∃ v, v = S2.look M6.L ad := ⟨_, rfl⟩
                          rw [← hv] at hod
                          obtain ⟨o1, o2, o3, o4⟩ := hod
                          have HV := Lib.hid hv; have HAD := Lib.hid had; have HIN6 := Lib.hid hin; have HAL := Lib.hid o4
                          clear hj hbj hj4 hins hin had hv o4
                          go_upto_region 27 with (go_at_call 8; rw [Nat.mul_comm]; refine HIJ.out.mono ?_; rintro e7 w7 ⟨rfl, hb7⟩; have HB7 := Lib.hid (HBJ.out.trans (hb7.mono HBJ.out.size)); clear hb7)
                          have h7 := H6.out.1.new HB7.out
                          have y7 := h7.rw'.pg.c.1
                          have HPK := Lib.hid (show Calls Tryz.prog 11 #[Pw X6.cB, .int .u32 (ad : Int)] w7 fun e w' => e = .returned (.int .u64 (v : Int)) ∧ w7 = w' by rw [HV.out]; exact pg_peek h7.rw'.pg HAL.out)
                          have HFT := Lib.hid (fits_any h7 HJ.out HIN6.out)
                          clear h7
                          go_upto_region 29 with (first
                            | (go_at_call 11; refine HPK.out.mono ?_; rintro e8 w8 ⟨rfl, rfl⟩)
                            | (go_at_call 12; rw [Nat.mul_comm]; refine HFT.out.mono ?_; rintro e8 w8 ⟨rfl, hb8⟩; have HB8 := Lib.hid (HB7.out.trans (hb8.mono HB7.out.size)); clear hb8))
                          go_upto_region 30 with fail
                          go_loopg [17] (j + 1) (fun q s17 wx => ∃ m : Nat, m ≤ j ∧ q = j + 1 - m ∧ s17 = .int .i64 (m : Int) ∧ Below w6.heap.size w6 wx)
                          case atStart => exact ⟨0, Nat.zero_le _, rfl, rfl, HB8.out⟩
                          case round =>
                            obtain ⟨m, hm, rfl, rfl, hbm⟩ := hrel
                            by_cases hmj : m < j
                            · have dm : decide (m < j) = true := decide_eq_true hmj
                              have hm4 : m < 4 := Nat.lt_trans hmj HJ.out
                              have dm4 : (m : Int) < 4 := Int.ofNat_lt.2 hm4
                              have HBM := Lib.hid hbm; have HMJ := Lib.hid hmj
                              have HIM := Lib.hid (inside_any (H6.out.1.new hbm) hm4)
                              have hne := runs_ne H6.out.1 hm4 HJ.out (Nat.ne_of_lt hmj) HIN6.out
                              rw [← HAD.out] at hne
                              have HNE := Lib.hid hne
                              clear hbm hmj hm hne hm4
                              go_upto_region 33 with (go_at_call 8; rw [Nat.mul_comm]; refine HIM.out.mono ?_; rintro e9 w9 ⟨rfl, hb9⟩; have HB9 := Lib.hid (HBM.out.trans (hb9.mono HBM.out.size)); clear hb9)
                              rcases HNE.out with hq | hq
                              · rw [hq]
                                go_wp2_with fail
                                go_roundg (j + 1 - (m + 1))
                                case measure => exact Nat.sub_lt_sub_left (Nat.lt_succ_of_lt HMJ.out) (Nat.lt_succ_self m)
                                case rel => exact ⟨m + 1, HMJ.out, rfl, (by first | exact step_j m | exact step_i (Nat.lt_of_lt_of_le (Nat.lt_trans HMJ.out HJ.out) (by decide))), HB9.out⟩
                              · generalize (R6 m).ad = adm at *
                                have q1 : decide (adm = ad) = false := decide_eq_false hq
                                have q2 : ((adm : Int) == (ad : Int)) = false := eq_no2 hq
                                clear hq
                                generalize (R6 m).inn = im at *
                                cases im
                                · go_wp2_with fail
                                  go_roundg (j + 1 - (m + 1))
                                  case measure => exact Nat.sub_lt_sub_left (Nat.lt_succ_of_lt HMJ.out) (Nat.lt_succ_self m)
                                  case rel => exact ⟨m + 1, HMJ.out, rfl, (by first | exact step_j m | exact step_i (Nat.lt_of_lt_of_le (Nat.lt_trans HMJ.out HJ.out) (by decide))), HB9.out⟩
                                · go_wp2_with fail
                                  go_roundg (j + 1 - (m + 1))
                                  case measure => exact Nat.sub_lt_sub_left (Nat.lt_succ_of_lt HMJ.out) (Nat.lt_succ_self m)
                                  case rel => exact ⟨m + 1, HMJ.out, rfl, (by first | exact step_j m | exact step_i (Nat.lt_of_lt_of_le (Nat.lt_trans HMJ.out HJ.out) (by decide))), HB9.out⟩
                            · obtain rfl : m = j := Nat.le_antisymm hm (Nat.le_of_not_lt hmj)
                              have HBM := Lib.hid hbm
                              clear hm hmj hbm
                              go_wp2_with fail
                              go_roundg (5 - (m + 1))
                              case measure => exact Nat.sub_lt_sub_left (Nat.lt_succ_of_lt HJ.out) (Nat.lt_succ_self m)
                              case rel => exact ⟨m + 1, HJ.out, rfl, (by first | exact step_j m | exact step_i (Nat.lt_trans HJ.out (by decide))), HBM.out⟩
                        · have hin' : (R6 j).inn = false := by cases hh : (R6 j).inn; rfl; exact absurd hh hin
                          rw [hin'] at hins
                          have HIJ := Lib.hid hins
                          clear hj hbj hj4 hins hin hin'
                          go_wp2_with (go_at_call 8; rw [Nat.mul_comm]; refine HIJ.out.mono ?_; rintro e7 w7 ⟨rfl, hb7⟩; have HB7 := Lib.hid (HBJ.out.trans (hb7.mono HBJ.out.size)); clear hb7)
                          go_roundg (5 - (j + 1))
                          case measure => exact Nat.sub_lt_sub_left (Nat.lt_succ_of_lt HJ.out) (Nat.lt_succ_self j)
                          case rel => exact ⟨j + 1, HJ.out, rfl, (by first | exact step_j j | exact step_i (Nat.lt_trans HJ.out (by decide))), HB7.out⟩
                      · obtain rfl : j = 4 := by omega
                        have HBJ := Lib.hid hbj
                        clear hj hj4 hbj
                        go_wp2_with fail
                        go_roundg (n + 1 - (i + 1))
                        case measure => exact Nat.sub_lt_sub_left (Nat.lt_succ_of_lt HE.out) (Nat.lt_succ_self i)
                        case rel => exact ⟨i + 1, HE.out, rfl, step_i (Nat.lt_of_lt_of_le HE.out (Nat.le_trans HN5.out (by decide))), _, _, _, _, _, H6.out.1.new HBJ.out, few3 H6.out.2.1 H8.out.2.1, few4 H6.out.2.2 H8.out.2.2⟩
              · have hin' : (R k).inn = false := by cases hh : (R k).inn; rfl; exact absurd hh hin
                rw [hin']
                clear hin hin' h5 hlb hx
                go_upto_region 21 with fail
                have h8d := H8.out.1.new (Below.refl _ _).drew
                have u0 := HLB.out _ h8d.rw'.pg.bl
                have u1 := HKC.out _ h8d.rw'.pg.bl e HX.out.2.2
                have HST := Lib.hid (fun bb => step_all h8d HK.out (few1 H8.out.2.1 HE.out HN5.out) (few2 H8.out.2.2 HE.out HN5.out) bb (HKF.out e HX.out.2.2))
                have de : (e : Int) < 5 := Int.ofNat_lt.2 HX.out.2.2
                have wke := wrap_k32 (HKF.out e HX.out.2.2)
                have hclose : ∀ {W : World} {M8 : Sd}, SStep w1 W w1.heap.size WB AB M8 → W.cell? ⟨g, o + i, none⟩ = some (.int .u8 (x : Int)) ∧ W.cell? ⟨Q, e, none⟩ = some (.int .u16 (K e : Int)) := fun h => by
                  obtain ⟨_, _, _, _, _, h', _⟩ := h
                  exact ⟨HLB.out _ h'.rw'.pg.bl, HKC.out _ h'.rw'.pg.bl e HX.out.2.2⟩
                clear h8d
                refine wp_region_held_drew (S := fun w' => w'.cell? ⟨g, o + i, none⟩ = some (.int .u8 (x : Int)) ∧ w'.cell? ⟨Q, e, none⟩ = some (.int .u16 (K e : Int))) (by kernel_rfl) ?_ (fun hHeld => ?_)
                · exact ⟨u0, u1⟩
                refine wpAnyH_take (i := 0) (oi := ({ dst := some 127, op := Op.move (Operand.tmp 8), type := 28, pos := "outright.go:111", after := #[], guard := none } : Oper)) (v := ?vrn0) rfl (by kernel_rfl) (by kernel_rfl) (by kernel_rfl) (fun _ _ _ h => h) (Or.inl ⟨by rfl, fun w hSw => ?hyrn0⟩) (by assumption) ?rrn0
                case hyrn0 => (try dsimp only at hSw); go_simp; (try with_reducible rfl)
                (try simp only [Act.put, List.setIfInBounds_toArray, List.set_cons_zero, List.set_cons_succ])
                refine wpAnyH_take (i := 1) (oi := ({ dst := some 128, op := Op.move (Operand.tmp 11), type := 3, pos := "outright.go:111", after := #[], guard := none } : Oper)) (v := ?vrn1) rfl (by kernel_rfl) (by kernel_rfl) (by kernel_rfl) (fun _ _ _ h => h) (Or.inl ⟨by rfl, fun w hSw => ?hyrn1⟩) (by assumption) ?rrn1
                case hyrn1 => (try dsimp only at hSw); go_simp; (try with_reducible rfl)
                (try simp only [Act.put, List.setIfInBounds_toArray, List.set_cons_zero, List.set_cons_succ])
                refine wpAnyH_take (i := 2) (oi := ({ dst := some 129, op := Op.indexAddr 28 (Operand.tmp 127) (Operand.tmp 128), type := 0, pos := "outright.go:111", after := #[{ on := 0, ground := Ground.data }, { on := 1, ground := Ground.data }], guard := none } : Oper)) (v := ?vrn2) rfl (by kernel_rfl) (by kernel_rfl) (by kernel_rfl) (fun _ _ _ h => h) (Or.inl ⟨by rfl, fun w hSw => ?hyrn2⟩) (by assumption) ?rrn2
                case hyrn2 => (try dsimp only at hSw); go_simp; (try with_reducible rfl)
                (try simp only [Act.put, List.setIfInBounds_toArray, List.set_cons_zero, List.set_cons_succ])
                refine wpAnyH_take (i := 3) (oi := ({ dst := some 130, op := Op.move (Operand.tmp 7), type := 25, pos := "outright.go:111", after := #[], guard := none } : Oper)) (v := ?vrn3) rfl (by kernel_rfl) (by kernel_rfl) (by kernel_rfl) (fun _ _ _ h => h) (Or.inl ⟨by rfl, fun w hSw => ?hyrn3⟩) (by assumption) ?rrn3
                case hyrn3 => (try dsimp only at hSw); go_simp; (try with_reducible rfl)
                (try simp only [Act.put, List.setIfInBounds_toArray, List.set_cons_zero, List.set_cons_succ])
                refine wpAnyH_take (i := 4) (oi := ({ dst := some 131, op := Op.move (Operand.tmp 0), type := 22, pos := "outright.go:111", after := #[], guard := none } : Oper)) (v := ?vrn4) rfl (by kernel_rfl) (by kernel_rfl) (by kernel_rfl) (fun _ _ _ h => h) (Or.inl ⟨by rfl, fun w hSw => ?hyrn4⟩) (by assumption) ?rrn4
                case hyrn4 => (try dsimp only at hSw); go_simp; (try with_reducible rfl)
                (try simp only [Act.put, List.setIfInBounds_toArray, List.set_cons_zero, List.set_cons_succ])
                refine wpAnyH_take (i := 5) (oi := ({ dst := some 132, op := Op.move (Operand.tmp 10), type := 3, pos := "outright.go:111", after := #[], guard := none } : Oper)) (v := ?vrn5) rfl (by kernel_rfl) (by kernel_rfl) (by kernel_rfl) (fun _ _ _ h => h) (Or.inl ⟨by rfl, fun w hSw => ?hyrn5⟩) (by assumption) ?rrn5
                case hyrn5 => (try dsimp only at hSw); go_simp; (try with_reducible rfl)
                (try simp only [Act.put, List.setIfInBounds_toArray, List.set_cons_zero, List.set_cons_succ])
                refine wpAnyH_take (i := 6) (oi := ({ dst := some 133, op := Op.indexAddr 22 (Operand.tmp 131) (Operand.tmp 132), type := 0, pos := "outright.go:111", after := #[{ on := 4, ground := Ground.data }, { on := 5, ground := Ground.data }], guard := none } : Oper)) (v := ?vrn6) rfl (by kernel_rfl) (by kernel_rfl) (by kernel_rfl) (fun _ _ _ h => h) (Or.inl ⟨by rfl, fun w hSw => ?hyrn6⟩) (by assumption) ?rrn6
                case hyrn6 => (try dsimp only at hSw); go_simp; (try with_reducible rfl)
                (try simp only [Act.put, List.setIfInBounds_toArray, List.set_cons_zero, List.set_cons_succ])
                refine wpAnyH_take (i := 7) (oi := ({ dst := some 134, op := Op.load 5 (Operand.tmp 133), type := 5, pos := "outright.go:111", after := #[{ on := 6, ground := Ground.data }], guard := none } : Oper)) (v := ?vrn7) rfl (by kernel_rfl) (by kernel_rfl) (by kernel_rfl) (fun _ _ _ h => h) (Or.inl ⟨by rfl, fun w hSw => ?hyrn7⟩) (by assumption) ?rrn7
                case hyrn7 => (try dsimp only at hSw); go_simp; (try with_reducible rfl)
                (try simp only [Act.put, List.setIfInBounds_toArray, List.set_cons_zero, List.set_cons_succ])
                refine wpAnyH_take (i := 8) (oi := ({ dst := some 135, op := Op.binOp BinOp.quo 5 (Operand.tmp 134) (Operand.const (Value.int IntKind.u8 5)) 5, type := 5, pos := "outright.go:111", after := #[{ on := 7, ground := Ground.data }], guard := none } : Oper)) (v := ?vrn8) rfl (by kernel_rfl) (by kernel_rfl) (by kernel_rfl) (fun _ _ _ h => h) (Or.inl ⟨by rfl, fun w hSw => ?hyrn8⟩) (by assumption) ?rrn8
                case hyrn8 => (try dsimp only at hSw); go_simp; (try with_reducible rfl)
                (try simp only [Act.put, List.setIfInBounds_toArray, List.set_cons_zero, List.set_cons_succ])
                refine wpAnyH_take (i := 9) (oi := ({ dst := some 136, op := Op.binOp BinOp.rem 5 (Operand.tmp 135) (Operand.const (Value.int IntKind.u8 2)) 5, type := 5, pos := "outright.go:111", after := #[{ on := 8, ground := Ground.data }], guard := none } : Oper)) (v := ?vrn9) rfl (by kernel_rfl) (by kernel_rfl) (by kernel_rfl) (fun _ _ _ h => h) (Or.inl ⟨by rfl, fun w hSw => ?hyrn9⟩) (by assumption) ?rrn9
                case hyrn9 => (try dsimp only at hSw); go_simp; (try with_reducible rfl)
                (try simp only [Act.put, List.setIfInBounds_toArray, List.set_cons_zero, List.set_cons_succ])
                refine wpAnyH_take (i := 10) (oi := ({ dst := some 137, op := Op.binOp BinOp.eql 5 (Operand.tmp 136) (Operand.const (Value.int IntKind.u8 1)) 5, type := 4, pos := "outright.go:111", after := #[{ on := 9, ground := Ground.data }], guard := none } : Oper)) (v := ?vrn10) rfl (by kernel_rfl) (by kernel_rfl) (by kernel_rfl) (fun _ _ _ h => h) (Or.inl ⟨by rfl, fun w hSw => ?hyrn10⟩) (by assumption) ?rrn10
                case hyrn10 => (try dsimp only at hSw); go_simp; (try with_reducible rfl)
                (try simp only [Act.put, List.setIfInBounds_toArray, List.set_cons_zero, List.set_cons_succ])
                refine wpAnyH_take (i := 11) (oi := ({ dst := some 138, op := Op.move (Operand.tmp 0), type := 22, pos := "outright.go:111", after := #[], guard := none } : Oper)) (v := ?vrn11) rfl (by kernel_rfl) (by kernel_rfl) (by kernel_rfl) (fun _ _ _ h => h) (Or.inl ⟨by rfl, fun w hSw => ?hyrn11⟩) (by assumption) ?rrn11
                case hyrn11 => (try dsimp only at hSw); go_simp; (try with_reducible rfl)
                (try simp only [Act.put, List.setIfInBounds_toArray, List.set_cons_zero, List.set_cons_succ])
                refine wpAnyH_take (i := 12) (oi := ({ dst := some 139, op := Op.move (Operand.tmp 10), type := 3, pos := "outright.go:111", after := #[], guard := none } : Oper)) (v := ?vrn12) rfl (by kernel_rfl) (by kernel_rfl) (by kernel_rfl) (fun _ _ _ h => h) (Or.inl ⟨by rfl, fun w hSw => ?hyrn12⟩) (by assumption) ?rrn12
                case hyrn12 => (try dsimp only at hSw); go_simp; (try with_reducible rfl)
                (try simp only [Act.put, List.setIfInBounds_toArray, List.set_cons_zero, List.set_cons_succ])
                refine wpAnyH_take (i := 13) (oi := ({ dst := some 140, op := Op.indexAddr 22 (Operand.tmp 138) (Operand.tmp 139), type := 0, pos := "outright.go:111", after := #[{ on := 11, ground := Ground.data }, { on := 12, ground := Ground.data }], guard := none } : Oper)) (v := ?vrn13) rfl (by kernel_rfl) (by kernel_rfl) (by kernel_rfl) (fun _ _ _ h => h) (Or.inl ⟨by rfl, fun w hSw => ?hyrn13⟩) (by assumption) ?rrn13
                case hyrn13 => (try dsimp only at hSw); go_simp; (try with_reducible rfl)
                (try simp only [Act.put, List.setIfInBounds_toArray, List.set_cons_zero, List.set_cons_succ])
                refine wpAnyH_take (i := 14) (oi := ({ dst := some 141, op := Op.load 5 (Operand.tmp 140), type := 5, pos := "outright.go:111", after := #[{ on := 13, ground := Ground.data }], guard := none } : Oper)) (v := ?vrn14) rfl (by kernel_rfl) (by kernel_rfl) (by kernel_rfl) (fun _ _ _ h => h) (Or.inl ⟨by rfl, fun w hSw => ?hyrn14⟩) (by assumption) ?rrn14
                case hyrn14 => (try dsimp only at hSw); go_simp; (try with_reducible rfl)
                (try simp only [Act.put, List.setIfInBounds_toArray, List.set_cons_zero, List.set_cons_succ])
                refine wpAnyH_take (i := 15) (oi := ({ dst := some 142, op := Op.binOp BinOp.quo 5 (Operand.tmp 141) (Operand.const (Value.int IntKind.u8 10)) 5, type := 5, pos := "outright.go:111", after := #[{ on := 14, ground := Ground.data }], guard := none } : Oper)) (v := ?vrn15) rfl (by kernel_rfl) (by kernel_rfl) (by kernel_rfl) (fun _ _ _ h => h) (Or.inl ⟨by rfl, fun w hSw => ?hyrn15⟩) (by assumption) ?rrn15
                case hyrn15 => (try dsimp only at hSw); go_simp; (try with_reducible rfl)
                (try simp only [Act.put, List.setIfInBounds_toArray, List.set_cons_zero, List.set_cons_succ])
                refine wpAnyH_take (i := 16) (oi := ({ dst := some 143, op := Op.convert 5 3 (Operand.tmp 142), type := 3, pos := "outright.go:111", after := #[{ on := 15, ground := Ground.data }], guard := none } : Oper)) (v := ?vrn16) rfl (by kernel_rfl) (by kernel_rfl) (by kernel_rfl) (fun _ _ _ h => h) (Or.inl ⟨by rfl, fun w hSw => ?hyrn16⟩) (by assumption) ?rrn16
                case hyrn16 => (try dsimp only at hSw); go_simp; (try with_reducible rfl)
                (try simp only [Act.put, List.setIfInBounds_toArray, List.set_cons_zero, List.set_cons_succ])
                refine wpAnyH_take (i := 17) (oi := ({ dst := some 144, op := Op.binOp BinOp.rem 3 (Operand.tmp 143) (Operand.const (Value.int IntKind.i64 5)) 3, type := 3, pos := "outright.go:111", after := #[{ on := 16, ground := Ground.data }], guard := none } : Oper)) (v := ?vrn17) rfl (by kernel_rfl) (by kernel_rfl) (by kernel_rfl) (fun _ _ _ h => h) (Or.inl ⟨by rfl, fun w hSw => ?hyrn17⟩) (by assumption) ?rrn17
                case hyrn17 => (try dsimp only at hSw); go_simp; (try with_reducible rfl)
                (try simp only [Act.put, List.setIfInBounds_toArray, List.set_cons_zero, List.set_cons_succ])
                refine wpAnyH_take (i := 18) (oi := ({ dst := some 145, op := Op.indexAddr 24 (Operand.tmp 4) (Operand.tmp 144), type := 0, pos := "outright.go:111", after := #[{ on := 17, ground := Ground.data }], guard := none } : Oper)) (v := ?vrn18) rfl (by kernel_rfl) (by kernel_rfl) (by kernel_rfl) (fun _ _ _ h => h) (Or.inl ⟨by rfl, fun w hSw => ?hyrn18⟩) (by assumption) ?rrn18
                case hyrn18 => (try dsimp only at hSw); go_simp; (try with_reducible rfl)
                (try simp only [Act.put, List.setIfInBounds_toArray, List.set_cons_zero, List.set_cons_succ])
                refine wpAnyH_take (i := 19) (oi := ({ dst := some 146, op := Op.load 23 (Operand.tmp 145), type := 23, pos := "outright.go:111", after := #[{ on := 18, ground := Ground.data }], guard := none } : Oper)) (v := ?vrn19) rfl (by kernel_rfl) (by kernel_rfl) (by kernel_rfl) (fun _ _ _ h => h) (Or.inl ⟨by rfl, fun w hSw => ?hyrn19⟩) (by assumption) ?rrn19
                case hyrn19 => (try dsimp only at hSw); go_simp; (try with_reducible rfl)
                (try simp only [Act.put, List.setIfInBounds_toArray, List.set_cons_zero, List.set_cons_succ])
                refine wpAnyH_take (i := 20) (oi := ({ dst := some 147, op := Op.convert 23 30 (Operand.tmp 146), type := 30, pos := "outright.go:111", after := #[{ on := 19, ground := Ground.data }], guard := none } : Oper)) (v := ?vrn20) rfl (by kernel_rfl) (by kernel_rfl) (by kernel_rfl) (fun _ _ _ h => h) (Or.inl ⟨by rfl, fun w hSw => ?hyrn20⟩) (by assumption) ?rrn20
                case hyrn20 => (try dsimp only at hSw); go_simp; (try with_reducible rfl)
                (try simp only [Act.put, List.setIfInBounds_toArray, List.set_cons_zero, List.set_cons_succ])
                refine wpAnyH_ready (rs := [21]) (by kernel_rfl) (by simp) ?_
                refine AllReadyH.cons (o := ({ dst := some 148, op := Op.call { callee := Callee.value (Operand.func 10), args := #[Operand.tmp 129, Operand.tmp 130, Operand.tmp 137, Operand.tmp 147], argTypes := #[35, 25, 4, 30] }, type := 0, pos := "outright.go:111", after := #[{ on := 2, ground := Ground.data }, { on := 3, ground := Ground.data }, { on := 10, ground := Ground.data }, { on := 20, ground := Ground.data }], guard := none } : Oper)) rfl (fun Kq hKq => ?_) AllReadyH.nil
                go_simp
                (rw [Nat.mul_comm k 5]; refine (HST.out _).mono ?_; rintro e6 w6 ⟨rfl, hs6⟩)
                refine hKq.out _ _ ?_ (fun hHeld => ?_)
                · exact hclose hs6
                clear hKq Kq
                (try simp only [Act.put, List.setIfInBounds_toArray, List.set_cons_zero, List.set_cons_succ])
                refine wpAnyH_done (by kernel_rfl) ?_ _
                obtain ⟨M6, R6, r6, C6, X6, h6, hm6, hp6⟩ := hs6
                have H6 := Lib.hid (And.intro h6 (And.intro hm6 hp6))
                clear h6 hm6 hp6 hHeld u0 u1 de wke hclose
                go_upto_region 23 with fail
                go_loopg [14] 5 (fun q s14 wx => ∃ j : Nat, j ≤ 4 ∧ q = 5 - j ∧ s14 = .int .i64 (j : Int) ∧ Below w6.heap.size w6 wx)
                case atStart => exact ⟨0, by decide, rfl, rfl, Below.refl _ _⟩
                case round =>
                  obtain ⟨j, hj, rfl, rfl, hbj⟩ := hrel
                  by_cases hj4 : j < 4
                  · have dj : decide (j < 4) = true := decide_eq_true hj4
                    have dj' : (j : Int) < 4 := Int.ofNat_lt.2 hj4
                    have HJ := Lib.hid hj4; have HBJ := Lib.hid hbj
                    have hins := inside_any (H6.out.1.new hbj) hj4
                    by_cases hin : (R6 j).inn = true
                    · rw [hin] at hins
                      have HIJ := Lib.hid hins
                      have hod := runs_odd H6.out.1 hj4 hin
                      obtain ⟨ad, had⟩ : ∃ ad, ad = (R6 j).ad := ⟨_, rfl⟩
                      rw [← had] at HIJ hod
                      obtain ⟨v, hv⟩ : ∃ v, v = S2.look M6.L ad := ⟨_, rfl⟩
                      rw [← hv] at hod
                      obtain ⟨o1, o2, o3, o4⟩ := hod
                      have HV := Lib.hid hv; have HAD := Lib.hid had; have HIN6 := Lib.hid hin; have HAL := Lib.hid o4
                      clear hj hbj hj4 hins hin had hv o4
                      go_upto_region 27 with (go_at_call 8; rw [Nat.mul_comm]; refine HIJ.out.mono ?_; rintro e7 w7 ⟨rfl, hb7⟩; have HB7 := Lib.hid (HBJ.out.trans (hb7.mono HBJ.out.size)); clear hb7)
                      have h7 := H6.out.1.new HB7.out
                      have y7 := h7.rw'.pg.c.1
                      have HPK := Lib.hid (show Calls Tryz.prog 11 #[Pw X6.cB, .int .u32 (ad : Int)] w7 fun e w' => e = .returned (.int .u64 (v : Int)) ∧ w7 = w' by rw [HV.out]; exact pg_peek h7.rw'.pg HAL.out)
                      have HFT := Lib.hid (fits_any h7 HJ.out HIN6.out)
                      clear h7
                      go_upto_region 29 with (first
                        | (go_at_call 11; refine HPK.out.mono ?_; rintro e8 w8 ⟨rfl, rfl⟩)
                        | (go_at_call 12; rw [Nat.mul_comm]; refine HFT.out.mono ?_; rintro e8 w8 ⟨rfl, hb8⟩; have HB8 := Lib.hid (HB7.out.trans (hb8.mono HB7.out.size)); clear hb8))
                      go_upto_region 30 with fail
                      go_loopg [17] (j + 1) (fun q s17 wx => ∃ m : Nat, m ≤ j ∧ q = j + 1 - m ∧ s17 = .int .i64 (m : Int) ∧ Below w6.heap.size w6 wx)
                      case atStart => exact ⟨0, Nat.zero_le _, rfl, rfl, HB8.out⟩
                      case round =>
                        obtain ⟨m, hm, rfl, rfl, hbm⟩ := hrel
                        by_cases hmj : m < j
                        · have dm : decide (m < j) = true := decide_eq_true hmj
                          have hm4 : m < 4 := Nat.lt_trans hmj HJ.out
                          have dm4 : (m : Int) < 4 := Int.ofNat_lt.2 hm4
                          have HBM := Lib.hid hbm; have HMJ := Lib.hid hmj
                          have HIM := Lib.hid (inside_any (H6.out.1.new hbm) hm4)
                          have hne := runs_ne H6.out.1 hm4 HJ.out (Nat.ne_of_lt hmj) HIN6.out
                          rw [← HAD.out] at hne
                          have HNE := Lib.hid hne
                          clear hbm hmj hm hne hm4
                          go_upto_region 33 with (go_at_call 8; rw [Nat.mul_comm]; refine HIM.out.mono ?_; rintro e9 w9 ⟨rfl, hb9⟩; have HB9 := Lib.hid (HBM.out.trans (hb9.mono HBM.out.size)); clear hb9)
                          rcases HNE.out with hq | hq
                          · rw [hq]
                            go_wp2_with fail
                            go_roundg (j + 1 - (m + 1))
                            case measure => exact Nat.sub_lt_sub_left (Nat.lt_succ_of_lt HMJ.out) (Nat.lt_succ_self m)
                            case rel => exact ⟨m + 1, HMJ.out, rfl, (by first | exact step_j m | exact step_i (Nat.lt_of_lt_of_le (Nat.lt_trans HMJ.out HJ.out) (by decide))), HB9.out⟩
                          · generalize (R6 m).ad = adm at *
                            have q1 : decide (adm = ad) = false := decide_eq_false hq
                            have q2 : ((adm : Int) == (ad : Int)) = false := eq_no2 hq
                            clear hq
                            generalize (R6 m).inn = im at *
                            cases im
                            · go_wp2_with fail
                              go_roundg (j + 1 - (m + 1))
                              case measure => exact Nat.sub_lt_sub_left (Nat.lt_succ_of_lt HMJ.out) (Nat.lt_succ_self m)
                              case rel => exact ⟨m + 1, HMJ.out, rfl, (by first | exact step_j m | exact step_i (Nat.lt_of_lt_of_le (Nat.lt_trans HMJ.out HJ.out) (by decide))), HB9.out⟩
                            · go_wp2_with fail
                              go_roundg (j + 1 - (m + 1))
                              case measure => exact Nat.sub_lt_sub_left (Nat.lt_succ_of_lt HMJ.out) (Nat.lt_succ_self m)
                              case rel => exact ⟨m + 1, HMJ.out, rfl, (by first | exact step_j m | exact step_i (Nat.lt_of_lt_of_le (Nat.lt_trans HMJ.out HJ.out) (by decide))), HB9.out⟩
                        · obtain rfl : m = j := Nat.le_antisymm hm (Nat.le_of_not_lt hmj)
                          have HBM := Lib.hid hbm
                          clear hm hmj hbm
                          go_wp2_with fail
                          go_roundg (5 - (m + 1))
                          case measure => exact Nat.sub_lt_sub_left (Nat.lt_succ_of_lt HJ.out) (Nat.lt_succ_self m)
                          case rel => exact ⟨m + 1, HJ.out, rfl, (by first | exact step_j m | exact step_i (Nat.lt_trans HJ.out (by decide))), HBM.out⟩
                    · have hin' : (R6 j).inn = false := by cases hh : (R6 j).inn; rfl; exact absurd hh hin
                      rw [hin'] at hins
                      have HIJ := Lib.hid hins
                      clear hj hbj hj4 hins hin hin'
                      go_wp2_with (go_at_call 8; rw [Nat.mul_comm]; refine HIJ.out.mono ?_; rintro e7 w7 ⟨rfl, hb7⟩; have HB7 := Lib.hid (HBJ.out.trans (hb7.mono HBJ.out.size)); clear hb7)
                      go_roundg (5 - (j + 1))
                      case measure => exact Nat.sub_lt_sub_left (Nat.lt_succ_of_lt HJ.out) (Nat.lt_succ_self j)
                      case rel => exact ⟨j + 1, HJ.out, rfl, (by first | exact step_j j | exact step_i (Nat.lt_trans HJ.out (by decide))), HB7.out⟩
                  · obtain rfl : j = 4 := by omega
                    have HBJ := Lib.hid hbj
                    clear hj hj4 hbj
                    go_wp2_with fail
                    go_roundg (n + 1 - (i + 1))
                    case measure => exact Nat.sub_lt_sub_left (Nat.lt_succ_of_lt HE.out) (Nat.lt_succ_self i)
                    case rel => exact ⟨i + 1, HE.out, rfl, step_i (Nat.lt_of_lt_of_le HE.out (Nat.le_trans HN5.out (by decide))), _, _, _, _, _, H6.out.1.new HBJ.out, few3 H6.out.2.1 H8.out.2.1, few4 H6.out.2.2 H8.out.2.2⟩
          · obtain rfl : i = n := Nat.le_antisymm hi (Nat.le_of_not_lt he)
            obtain ⟨M, R, r, C, X1, h1, _, _⟩ := hlp
            have HBE := Lib.hid (HB1.out.trans (h1.rw'.pg.bl.mono HB1.out.size))
            clear hi he h1
            go_wp2_with (go_at_call 5; refine (HLV.out _).mono ?_; rintro e w3 ⟨rfl, hb3⟩; have HB3 := Lib.hid hb3; clear hb3)
            go_ret
            exact ⟨rfl, HBE.out.trans (HB3.out.mono HBE.out.size)⟩
end Go.Proofs.YthafnphpcdbnlaaGreat.S15
