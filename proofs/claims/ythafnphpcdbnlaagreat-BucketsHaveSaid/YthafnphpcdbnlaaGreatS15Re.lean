/- The table is replaced, where no lock of it is had. -/
import Derived.Test.YthafnphpcdbnlaaGreatS15Rd
import Derived.LoopTactic
import Derived.Deep.LoopGhost
set_option linter.unusedVariables false
set_option linter.unusedSimpArgs false
namespace Go.Proofs.YthafnphpcdbnlaaGreat.S15
open Go.Proofs.YthafnphpcdbnlaaGreat Go.Proofs.YthafnphpcdbnlaaGreat.S11 Go.Proofs.YthafnphpcdbnlaaGreat.S12 Go.Proofs.YthafnphpcdbnlaaGreat.S13 Go.Proofs.YthafnphpcdbnlaaGreat.S14
open Go.RowKit

theorem lock_adr {b i : Nat} (h1 : 2 ≤ b) (h2 : b ≤ 8) (hi : i < 2 ^ b) (W : World) : Calls Tryz.prog 23 #[.int .i64 (b : Int), .int .i64 (i : Int)] W fun e w' => e = .returned (.int .u32 ((256 + (2 ^ b + i) : Nat) : Int)) ∧ W = w' := by
  have := S10.lock_any (b : Int) (i : Int) W
  rwa [show S10.lockZ (b : Int) (i : Int) = ((256 + (2 ^ b + i) : Nat) : Int) by
    have e : S10.sizeN (b : Int) = 2 ^ b := by unfold S10.sizeN; rw [if_pos (by omega)]; rfl
    unfold S10.lockZ; rw [e, if_neg (by omega)]; omega] at this
theorem size_adr {b : Nat} (h1 : 2 ≤ b) (h2 : b ≤ 8) (W : World) : Calls Tryz.prog 22 #[.int .i64 (b : Int)] W fun e w' => e = .returned (.int .i64 ((2 ^ b : Nat) : Int)) ∧ W = w' := by
  have := S10.size_any (b : Int) W
  rwa [show S10.sizeN (b : Int) = 2 ^ b by unfold S10.sizeN; rw [if_pos (by omega)]; rfl] at this
theorem step_i {i : Nat} (h : i < 100000) : Value.int .i64 (wrap64 ((i : Int) + 1)) = .int .i64 ((i + 1 : Nat) : Int) := by rw [show wrap64 ((i : Int) + 1) = ((i + 1 : Nat) : Int) by unfold wrap64; omega]
section
variable {w0 w w' : World} {base WB AB : Nat} {M : Sd} {r : List Part} {C : Nat → Value} {X : Wm} {i : Nat} {R : Nat → Rn}
theorem Runs.same (h : Runs w0 w base WB AB M R r C X) : SStep w0 w base WB AB M := ⟨_, _, _, _, _, h, Nat.le_succ _, Nat.le_succ _⟩
/-- Where all its locks are 0, another table may count. -/
theorem repl_on (h : Runs w0 w base WB AB M R r C X) {v : Nat} {X' : Wm} (hz : ∀ m, m < 2 ^ bitsN (S2.look M.L 0) → S2.look M.L (256 + (2 ^ bitsN (S2.look M.L 0) + m)) = 0) (g : Pg w0 w' base WB (M.acc 2 0 v) r X') : SStep w0 w' base WB AB M := by
  have hv : Inv (M.acc 2 0 v) R := h.inv.table (fun key => hz _ (bkt_lt _ _)) (fun a ha => acc_other ha)
  exact ⟨_, R, r, C, X', ⟨⟨g, h.rw'.len, h.rw'.p0⟩, h.at_, hv, h.eok, h.fok, h.ms⟩, Nat.le_refl _, Nat.le_succ _⟩
set_option maxRecDepth 100000 in
set_option maxHeartbeats 4000000 in
theorem replace_any (h : Runs w0 w base WB AB M R r C X) (hn : M.n ≤ 900000000) (v : Value) (hv : ∃ a n c, v = .slice a n c) : Calls Tryz.prog 7 #[Pw WB, v] w fun e w' => e = .returned (.tuple #[]) ∧ SStep w0 w' base WB AB M := by
  obtain ⟨va, vn, vc, rfl⟩ := hv
  obtain ⟨u, hu⟩ : ∃ u, u = S2.look M.L 0 := ⟨_, rfl⟩
  have hul : u < 18446744073709551616 := by rw [hu]; exact look_of h.rw'.pg 0
  have hpk := fun (a : Nat) (ha : a < 4294967296) => pg_peek h.rw'.pg ha
  have hp0 := hpk 0 (by omega)
  rw [← hu] at hp0
  have hbt := fun W => bits_any u hul W
  have hq := bits_in u
  have hre := fun W X' (hz : ∀ m, m < 2 ^ bitsN u → S2.look M.L (256 + (2 ^ bitsN u + m)) = 0) (g : Pg w0 W base WB (M.acc 2 0 (bitsN u + 1)) r X') => repl_on h (by rw [← hu]; exact hz) g
  have hst := Pg.store h.rw'.pg (a := 0) (v := bitsN u + 1) (by omega) (by omega) (by omega)
  have c0 := h.rw'.pg.c.1
  have c0d := (h.rw'.pg.new (Below.refl _ _).drew).c.1
  have hsm := h.same
  have hla := fun (i : Nat) (hi : i < 2 ^ bitsN u) W => lock_adr hq.1 hq.2 hi W
  have hsz := fun W => size_adr hq.1 hq.2 W
  have hS : 2 ^ bitsN u ≤ 256 := Nat.pow_le_pow_right (by decide : 0 < 2) hq.2
  have wu : IntKind.u64.wrap ((bitsN u : Int) + 1) = ((bitsN u + 1 : Nat) : Int) := by rw [IntKind.wrap_u64]; omega
  have w8 : wrap64 ((bitsN u : Int) + 1) = (bitsN u : Int) + 1 := by unfold wrap64; omega
  generalize hbe : bitsN u = b at *
  have HP0 := Lib.hid hp0; have HPK := Lib.hid hpk; have HBT := Lib.hid hbt; have HRE := Lib.hid hre; have HST := Lib.hid hst; have HSM := Lib.hid hsm; have HLA := Lib.hid hla; have HSZ := Lib.hid hsz; have HS := Lib.hid hS; have HH := Lib.hid h; have HQ := Lib.hid hq
  clear h hp0 hpk hbt hre hst hsm hla hsz hS hu hul hq hbe
  go_enter Tryz.func7, Tryz.ntmps7
  go_upto_region 1 with (first
    | (go_at_call 11; refine HP0.out.mono ?_; rintro e w1 ⟨rfl, rfl⟩)
    | (go_at_call 21; refine (HBT.out _).mono ?_; rintro e w1 ⟨rfl, rfl⟩))
  by_cases h8 : b = 8
  · subst h8
    go_wp2_with fail
    exact bodyPost_ret (v := .tuple #[]) (by simp [results, Tryz.results7, go_sem]) rfl ⟨rfl, HSM.out⟩
  · have d8 : ((b : Int) == 8) = false := by simp; omega
    have e8 : decide ((b : Int) = 8) = false := by simp; omega
    have f8 : decide (b = 8) = false := decide_eq_false h8
    go_upto_region 3 with fail
    generalize hSe : 2 ^ b = S at *
    clear hSe
    go_loopg [5] (S + 1) (fun q s5 wx => ∃ i : Nat, i ≤ S ∧ q = S + 1 - i ∧ s5 = .int .i64 (i : Int) ∧ Below w.heap.size w wx ∧ ∀ m, m < i → S2.look M.L (256 + (S + m)) = 0)
    case atStart => exact ⟨0, Nat.zero_le _, rfl, rfl, Below.refl _ _, fun m hm => absurd hm (Nat.not_lt_zero m)⟩
    case round =>
      obtain ⟨i, hi, rfl, rfl, hb, hz⟩ := hrel
      have HB := Lib.hid hb; have HZ := Lib.hid hz; have HI := Lib.hid hi
      have g := HH.out.new hb
      have cr := g.rw'.pg.c.1
      have crd := (g.rw'.pg.new (Below.refl _ _).drew).c.1
      have HSR := Lib.hid (Runs.same g)
      by_cases he : i < S
      · have d14 : decide (i < S) = true := decide_eq_true he
        have HLA2 := Lib.hid (fun W => HLA.out i he W)
        have HE := Lib.hid he
        have HP1 := Lib.hid (pg_peek (g.new (Below.refl _ _).drew).rw'.pg (a := 256 + (S + i)) (by have := HS.out; omega))
        have HSD := Lib.hid (Runs.same (g.new (Below.refl _ _).drew))
        obtain ⟨x, hx⟩ : ∃ x, x = S2.look M.L (256 + (S + i)) := ⟨_, rfl⟩
        rw [← hx] at HP1
        have HX := Lib.hid hx
        clear hb hz hi g he hx
        go_upto_region 5 with (go_at_call 22; refine (HSZ.out _).mono ?_; rintro e w2 ⟨rfl, rfl⟩)
        by_cases hx0 : x = 0
        · have dx : decide (x = 0) = true := decide_eq_true hx0
          have ex : ((x : Int) == 0) = true := by rw [hx0]; rfl
          have HX0 := Lib.hid hx0
          go_region_law (first
            | (go_simp; go_at_call 23; refine (HLA2.out _).mono ?_; rintro e w3 ⟨rfl, rfl⟩)
            | (go_simp; go_at_call 11; refine HP1.out.mono ?_; rintro e w4 ⟨rfl, rfl⟩))
          all_goals
            go_wp2_with fail
            go_roundg (S + 1 - (i + 1))
            case measure => exact Nat.sub_lt_sub_left (Nat.lt_succ_of_lt HE.out) (Nat.lt_succ_self i)
            case rel => exact ⟨i + 1, HE.out, rfl, step_i (Nat.lt_of_lt_of_le HE.out (Nat.le_trans HS.out (by decide))), HB.out.drew, fun m hm => by
              rcases Nat.lt_or_ge m i with h | h
              · exact HZ.out m h
              · have e : m = i := Nat.le_antisymm (Nat.le_of_lt_succ hm) h
                rw [e, ← HX.out]; exact HX0.out⟩
        · have dx : decide (x = 0) = false := decide_eq_false hx0
          have ex : ((x : Int) == 0) = false := by simp; omega
          go_region_law (first
            | (go_simp; go_at_call 23; refine (HLA2.out _).mono ?_; rintro e w3 ⟨rfl, rfl⟩)
            | (go_simp; go_at_call 11; refine HP1.out.mono ?_; rintro e w4 ⟨rfl, rfl⟩))
          all_goals
            go_wp2_with fail
            exact bodyPost_ret (v := .tuple #[]) (by simp [results, Tryz.results7, go_sem]) rfl ⟨rfl, HSD.out⟩
      · have d14 : decide (i < S) = false := decide_eq_false he
        have HST2 := Lib.hid (Pg.store g.rw'.pg (a := 0) (v := b + 1) (by decide) (by have := HQ.out; omega) (by omega))
        have hall : ∀ m, m < S → S2.look M.L (256 + (S + m)) = 0 := fun m hm => hz m (by omega)
        have HALL := Lib.hid hall
        clear hb hz hi g hall
        go_wp2_with (first
          | (go_at_call 22; refine (HSZ.out _).mono ?_; rintro e w2 ⟨rfl, rfl⟩)
          | (go_at_call 6; refine HST2.out.mono ?_; rintro e w5 ⟨rfl, X5, hp5, -⟩; have HP5 := Lib.hid hp5; clear hp5))
        go_end0
        exact ⟨rfl, HRE.out _ _ HALL.out HP5.out⟩
end
end Go.Proofs.YthafnphpcdbnlaaGreat.S15
