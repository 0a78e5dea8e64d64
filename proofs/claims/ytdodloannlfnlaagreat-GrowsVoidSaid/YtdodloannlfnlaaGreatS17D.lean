/- All locks of a table, to be taken; all of them, to be given back. -/
import Derived.Test.YtdodloannlfnlaaGreatS17C
set_option linter.unusedVariables false
set_option linter.unusedSimpArgs false
namespace Go.Proofs.YtdodloannlfnlaaGreat.S17
open Go.Proofs.YtdodloannlfnlaaGreat Go.Proofs.YtdodloannlfnlaaGreat.S11 Go.Proofs.YtdodloannlfnlaaGreat.S12 Go.Proofs.YtdodloannlfnlaaGreat.S13 Go.Proofs.YtdodloannlfnlaaGreat.S14 Go.Proofs.YtdodloannlfnlaaGreat.S15
open Go.RowKit

/-- Locks that begin, one a bucket: where they stand, what stands there. -/
structure Lks (t S : Nat) (Us : List Nat) (ps : List Part) : Prop where
  len : ps.length = Us.length
  at_ : ∀ i, i < Us.length → ps[i]? = some (lockP Us[i]! (lk1 t (256 + (S + i))))
structure Frs (S : Nat) (Us : List Nat) (ps : List Part) : Prop where
  len : ps.length = Us.length
  at_ : ∀ i, i < Us.length → ps[i]? = some (freeP Us[i]! (fr0 (256 + (S + i))))
theorem get_app {Us : List Nat} {U i : Nat} (h : i < (Us ++ [U]).length) : (i < Us.length ∧ (Us ++ [U])[i]! = Us[i]!) ∨ (i = Us.length ∧ (Us ++ [U])[i]! = U) := by
  rw [List.length_append, List.length_singleton] at h
  by_cases hi : i < Us.length
  · left
    refine ⟨hi, ?_⟩
    rw [getElem!_pos _ i (by rw [List.length_append]; omega), getElem!_pos _ i hi, List.getElem_append_left hi]
  · right
    have e : i = Us.length := by omega
    subst e
    refine ⟨rfl, ?_⟩
    rw [getElem!_pos _ _ (by simp), List.getElem_append_right (Nat.le_refl _)]
    simp
theorem Lks.snoc {t S U : Nat} {Us : List Nat} {ps : List Part} (h : Lks t S Us ps) : Lks t S (Us ++ [U]) (ps ++ [lockP U (lk1 t (256 + (S + Us.length)))]) := by
  refine ⟨by simp [h.len], fun i hi => ?_⟩
  rcases get_app hi with ⟨hl, e⟩ | ⟨rfl, e⟩
  · rw [e, List.getElem?_append_left (by rw [h.len]; exact hl)]; exact h.at_ i hl
  · rw [e, List.getElem?_append_right (by rw [h.len]; exact Nat.le_refl _), h.len, Nat.sub_self]; rfl
theorem Frs.snoc {S U : Nat} {Us : List Nat} {ps : List Part} (h : Frs S Us ps) : Frs S (Us ++ [U]) (ps ++ [freeP U (fr0 (256 + (S + Us.length)))]) := by
  refine ⟨by simp [h.len], fun i hi => ?_⟩
  rcases get_app hi with ⟨hl, e⟩ | ⟨rfl, e⟩
  · rw [e, List.getElem?_append_left (by rw [h.len]; exact hl)]; exact h.at_ i hl
  · rw [e, List.getElem?_append_right (by rw [h.len]; exact Nat.le_refl _), h.len, Nat.sub_self]; rfl
theorem lock_adr {b i : Nat} (h1 : 2 ≤ b) (h2 : b ≤ 8) (hi : i < 2 ^ b) (W : World) : Calls Tryz.prog 167 #[.int .i64 (b : Int), .int .i64 (i : Int)] W fun e w' => e = .returned (.int .u32 ((256 + (2 ^ b + i) : Nat) : Int)) ∧ W = w' := by
  have := S10.lock_any (b : Int) (i : Int) W
  rwa [show S10.lockZ (b : Int) (i : Int) = ((256 + (2 ^ b + i) : Nat) : Int) by
    have e : S10.sizeN (b : Int) = 2 ^ b := by unfold S10.sizeN; rw [if_pos (by omega)]; rfl
    unfold S10.lockZ; rw [e, if_neg (by omega)]; omega] at this
theorem size_adr {b : Nat} (h1 : 2 ≤ b) (h2 : b ≤ 8) (W : World) : Calls Tryz.prog 88 #[.int .i64 (b : Int)] W fun e w' => e = .returned (.int .i64 ((2 ^ b : Nat) : Int)) ∧ W = w' := by
  have := S10.size_any (b : Int) W
  rwa [show S10.sizeN (b : Int) = 2 ^ b by unfold S10.sizeN; rw [if_pos (by omega)]; rfl] at this
section
variable {w0 w w' : World} {base WB : Nat} {M : Sd} {r : List Part} {j B m U : Nat} {t : Nat} {b : Int} {s : Value} {L : List Value} {X : Wm}
theorem Jw.push (h : Jw w0 w base WB M r j B (t : Int) b s L X) (ob : Obj) : Jw w0 (w.alloc ob) base WB M (r ++ [blockP w.heap.size ob]) j B (t : Int) b s L X := by
  have hp := Pg.push1 h.pg (blockP w.heap.size ob) (below1 w ob) (heap_alloc_new w ob) (fun k e => Nat.le_of_eq (show k = w.heap.size from e).symm)
  rw [← List.set_append_left _ _ h.hj] at hp
  exact ⟨hp, by rw [List.length_append]; have := h.hj; omega⟩
set_option maxRecDepth 100000 in
set_option maxHeartbeats 8000000 in
/-- All locks of a table. -/
theorem take_all (h : Jw w0 w base WB M r j B (t : Int) b s L X) (ht : t < 64) {k : Nat} (h1 : 2 ≤ k) (h2 : k ≤ 8) (hl : L.length ≤ 900000) :
    Calls Tryz.prog 163 #[Pw B, .int .i64 (k : Int)] w fun e w' => e = .returned (.tuple #[]) ∧ ∃ Us ps s', Us.length = 2 ^ k ∧ Lks t (2 ^ k) Us ps ∧ Jw w0 w' base WB M (r ++ ps) j B (t : Int) b s' (L ++ Us.map lockV) X := by
  have hS : 2 ^ k ≤ 256 := Nat.pow_le_pow_right (by decide : 0 < 2) h2
  have hadr : ∀ (i : Nat) W, i < 2 ^ k → Calls Tryz.prog 167 #[.int .i64 (k : Int), .int .i64 (i : Int)] W fun e w' => e = .returned (.int .u32 ((256 + (2 ^ k + i) : Nat) : Int)) ∧ W = w' := fun i W hi => lock_adr h1 h2 hi W
  have hsz := fun W => size_adr h1 h2 W
  have hnl : ∀ (a : Nat) W, Calls Tryz.prog 166 #[.int .i64 (t : Int), .int .u32 (a : Int)] W fun e w' => e = .returned (Pw W.heap.size) ∧ w' = W.alloc (.cells (lk1 t a).cs 292) := fun a W => by
    have := new_lock (t : Int) a W
    rwa [show newK (t : Int) a = lk1 t a by unfold newK; rw [if_pos ⟨by omega, by omega⟩]; rfl] at this
  generalize 2 ^ k = S at *
  have H := Lib.hid h; have HS := Lib.hid hS; have HADR := Lib.hid hadr; have HSZ := Lib.hid hsz; have HNL := Lib.hid hnl; have HL := Lib.hid hl
  clear h hS hadr hsz hnl hl ht h1 h2
  go_enter Tryz.func163, Tryz.ntmps163
  go_upto_region 1 with (go_at_call 88; refine (HSZ.out _).mono ?_; rintro e w' ⟨rfl, rfl⟩)
  go_loopg [7] (S + 1) (fun q s7 wx => ∃ (i : Nat) (Us : List Nat) (ps : List Part) (s' : Value), i ≤ S ∧ q = S + 1 - i ∧ s7 = .int .i64 (i : Int) ∧ Us.length = i ∧ Lks t S Us ps ∧ Jw w0 wx base WB M (r ++ ps) j B (t : Int) b s' (L ++ Us.map lockV) X)
  case atStart => exact ⟨0, [], [], s, Nat.zero_le _, rfl, rfl, rfl, ⟨rfl, fun i hi => absurd hi (Nat.not_lt_zero i)⟩, by simpa using H.out⟩
  case round =>
    obtain ⟨i, Us, ps, s', hi, rfl, rfl, hUs, hps, hw⟩ := hrel
    by_cases he : i < S
    · have d0 : decide ((i : Int) < (S : Int)) = true := by simp; omega
      have hnd := hw.new (Below.refl _ _).drew
      have hnp := hnd.push (.cells (lk1 t (256 + (S + i))).cs 292)
      have hadd := jadd hnp 286 (.agg #[.iface 281 (Pw wr.drew.heap.size)]) (by rw [List.length_append, List.length_map, hUs]; have := HL.out; have := HS.out; omega)
      have c0 := hw.c0
      have c0' := hnd.c0
      have HADD := Lib.hid hadd; have HPS := Lib.hid hps; have HUS := Lib.hid hUs; have HI := Lib.hid he
      have HA := Lib.hid (fun W => HADR.out i W he)
      clear hnd hnp hadd hps hUs hw
      go_upto_region 3 with fail
      go_region_law (first
        | (go_simp; go_at_call 167; refine (HA.out _).mono ?_; rintro e w4 ⟨rfl, rfl⟩)
        | (go_simp; go_at_call 166; refine (HNL.out _ _).mono ?_; rintro e w5 ⟨rfl, rfl⟩)
        | (go_simp; go_at_call 164; refine HADD.out.mono ?_; rintro e w6 ⟨rfl, s2, hj2⟩; have HJ2 := Lib.hid hj2; clear hj2))
      all_goals
        go_wp2_with fail
        go_roundg (S + 1 - (i + 1))
        case measure => have := HI.out; omega
        case rel =>
          have hj3 := HJ2.out
          have hps := (HPS.out).snoc (U := wr.drew.heap.size)
          rw [HUS.out] at hps
          refine ⟨i + 1, Us ++ [wr.drew.heap.size], ps ++ [lockP wr.drew.heap.size (lk1 t (256 + (S + i)))], s2, by have := HI.out; omega, rfl, by have h1 := HI.out; have h2 := HS.out; rw [show wrap64 ((i : Int) + 1) = ((i + 1 : Nat) : Int) by unfold wrap64; omega], by rw [List.length_append, HUS.out]; rfl, hps, ?_⟩
          rw [List.append_assoc, List.append_assoc] at hj3
          rw [List.map_append]
          exact hj3
    · have hiS : i = S := by omega
      subst hiS
      have d0 : decide ((i : Int) < (i : Int)) = false := by simp
      have HF := Lib.hid (And.intro hUs (And.intro hps hw))
      clear hw hps hUs he
      go_wp2_with fail
      go_end0
      exact ⟨rfl, Us, ps, s', HF.out.1, HF.out.2.1, HF.out.2.2⟩
set_option maxRecDepth 100000 in
set_option maxHeartbeats 8000000 in
/-- All of them, given back. -/
theorem leave_all (h : Jw w0 w base WB M r j B (t : Int) b s L X) {k : Nat} (h1 : 2 ≤ k) (h2 : k ≤ 8) (hl : L.length ≤ 900000) :
    Calls Tryz.prog 190 #[Pw B, .int .i64 (k : Int)] w fun e w' => e = .returned (.tuple #[]) ∧ ∃ Us ps s', Us.length = 2 ^ k ∧ Frs (2 ^ k) Us ps ∧ Jw w0 w' base WB M (r ++ ps) j B (t : Int) b s' (L ++ Us.map freeV) X := by
  have hS : 2 ^ k ≤ 256 := Nat.pow_le_pow_right (by decide : 0 < 2) h2
  have hadr : ∀ (i : Nat) W, i < 2 ^ k → Calls Tryz.prog 167 #[.int .i64 (k : Int), .int .i64 (i : Int)] W fun e w' => e = .returned (.int .u32 ((256 + (2 ^ k + i) : Nat) : Int)) ∧ W = w' := fun i W hi => lock_adr h1 h2 hi W
  have hsz := fun W => size_adr h1 h2 W
  have hnl := fun (a : Nat) W => new_free a W
  generalize 2 ^ k = S at *
  have H := Lib.hid h; have HS := Lib.hid hS; have HADR := Lib.hid hadr; have HSZ := Lib.hid hsz; have HNL := Lib.hid hnl; have HL := Lib.hid hl
  clear h hS hadr hsz hnl hl h1 h2
  go_enter Tryz.func190, Tryz.ntmps190
  go_upto_region 1 with (go_at_call 88; refine (HSZ.out _).mono ?_; rintro e w' ⟨rfl, rfl⟩)
  go_loopg [7] (S + 1) (fun q s7 wx => ∃ (i : Nat) (Us : List Nat) (ps : List Part) (s' : Value), i ≤ S ∧ q = S + 1 - i ∧ s7 = .int .i64 (i : Int) ∧ Us.length = i ∧ Frs S Us ps ∧ Jw w0 wx base WB M (r ++ ps) j B (t : Int) b s' (L ++ Us.map freeV) X)
  case atStart => exact ⟨0, [], [], s, Nat.zero_le _, rfl, rfl, rfl, ⟨rfl, fun i hi => absurd hi (Nat.not_lt_zero i)⟩, by simpa using H.out⟩
  case round =>
    obtain ⟨i, Us, ps, s', hi, rfl, rfl, hUs, hps, hw⟩ := hrel
    by_cases he : i < S
    · have d0 : decide ((i : Int) < (S : Int)) = true := by simp; omega
      have hnd := hw
      have hnp := hnd.push (.cells (fr0 (256 + (S + i))).cs 318)
      have hadd := jadd hnp 286 (.agg #[.iface 312 (Pw wr.heap.size)]) (by rw [List.length_append, List.length_map, hUs]; have := HL.out; have := HS.out; omega)
      have HADD := Lib.hid hadd; have HPS := Lib.hid hps; have HUS := Lib.hid hUs; have HI := Lib.hid he
      have HA := Lib.hid (fun W => HADR.out i W he)
      clear hnd hnp hadd hps hUs hw
      go_wp2_with (first
        | (go_at_call 167; refine (HA.out _).mono ?_; rintro e w4 ⟨rfl, rfl⟩)
        | (go_at_call 191; refine (HNL.out _ _).mono ?_; rintro e w5 ⟨rfl, rfl⟩)
        | (go_at_call 164; refine HADD.out.mono ?_; rintro e w6 ⟨rfl, s2, hj2⟩; have HJ2 := Lib.hid hj2; clear hj2))
      go_roundg (S + 1 - (i + 1))
      case measure => have := HI.out; omega
      case rel =>
        have hj3 := HJ2.out
        have hps := (HPS.out).snoc (U := wr.heap.size)
        rw [HUS.out] at hps
        refine ⟨i + 1, Us ++ [wr.heap.size], ps ++ [freeP wr.heap.size (fr0 (256 + (S + i)))], s2, by have := HI.out; omega, rfl, by have h1 := HI.out; have h2 := HS.out; rw [show wrap64 ((i : Int) + 1) = ((i + 1 : Nat) : Int) by unfold wrap64; omega], by rw [List.length_append, HUS.out]; rfl, hps, ?_⟩
        rw [List.append_assoc, List.append_assoc] at hj3
        rw [List.map_append]
        exact hj3
    · have hiS : i = S := by omega
      subst hiS
      have d0 : decide ((i : Int) < (i : Int)) = false := by simp
      have HF := Lib.hid (And.intro hUs (And.intro hps hw))
      clear hw hps hUs he
      go_wp2_with fail
      go_end0
      exact ⟨rfl, Us, ps, s', HF.out.1, HF.out.2.1, HF.out.2.2⟩
end
end Go.Proofs.YtdodloannlfnlaaGreat.S17
