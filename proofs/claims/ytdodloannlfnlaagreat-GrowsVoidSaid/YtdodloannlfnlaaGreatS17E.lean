/- A Join's look, and what it asks again. -/
import Derived.Test.YtdodloannlfnlaaGreatS17D
set_option linter.unusedVariables false
set_option linter.unusedSimpArgs false
namespace Go.Proofs.YtdodloannlfnlaaGreat.S17
open Go.Proofs.YtdodloannlfnlaaGreat Go.Proofs.YtdodloannlfnlaaGreat.S11 Go.Proofs.YtdodloannlfnlaaGreat.S12 Go.Proofs.YtdodloannlfnlaaGreat.S13 Go.Proofs.YtdodloannlfnlaaGreat.S14 Go.Proofs.YtdodloannlfnlaaGreat.S15
open Go.RowKit

section
variable {w0 w w' : World} {base WB : Nat} {M : Sd} {r : List Part} {j B m U : Nat} {t : Nat} {b : Int} {s : Value} {L : List Value} {X : Wm}
set_option maxRecDepth 100000 in
set_option maxHeartbeats 4000000 in
/-- The table is great enough. -/
theorem look_over (h : Jw w0 w base WB M r j B (t : Int) b s L X) (hn : M.n ≤ 1000000000) {u : Nat} (hu : S2.look M.L 0 = u) (hb : b ≤ (bitsN u : Int)) :
    Calls Tryz.prog 160 #[.agg #[], Pw B, Pw WB] w fun e w' => e = .returned (.bool true) ∧ ∃ X', Jw w0 w' base WB (M.acc 1 0 u) r j B (t : Int) b s L X' := by
  have hul : u < 18446744073709551616 := by rw [← hu]; exact h.look 0
  have h1 := h.new (below1 w (.cells #[] 94))
  have hc0 := h1.pg.c.1
  have HLD := Lib.hid (h1.load (a := 0) (by omega) hn)
  rw [hu] at HLD
  have HB := Lib.hid (fun W => bits_any u hul W)
  have d0 : decide ((bitsN u : Int) < b) = false := by simp; omega
  clear h h1 hu hul hb
  generalize (bitsN u : Int) = q at *
  obtain ⟨w1, hw1⟩ : ∃ w1, w1 = w.alloc (.cells #[] 94) := ⟨_, rfl⟩
  rw [← hw1] at hc0 HLD
  have HW1 := Lib.hid hw1
  clear hw1
  go_enter Tryz.func160, Tryz.ntmps160
  go_upto_region 1 with fail
  rw [← HW1.out]
  go_wp2_with (first
    | (go_at_call 161; refine HLD.out.mono ?_; rintro e w2 ⟨rfl, X', hp, -⟩; have H2 := Lib.hid hp; have c1 := hp.c1; clear hp)
    | (go_at_call 162; refine (HB.out _).mono ?_; rintro e w3 ⟨rfl, rfl⟩))
  go_ret
  exact ⟨rfl, X', H2.out⟩
set_option maxRecDepth 100000 in
set_option maxHeartbeats 4000000 in
/-- The table is too small: all its locks are to be taken. -/
theorem look_take (h : Jw w0 w base WB M r j B (t : Int) b s L X) (ht : t < 64) (hl : L.length ≤ 800000) (hn : M.n ≤ 1000000000) {u : Nat} (hu : S2.look M.L 0 = u) (hb : (bitsN u : Int) < b) :
    Calls Tryz.prog 160 #[.agg #[], Pw B, Pw WB] w fun e w' => e = .returned (.bool true) ∧ ∃ Us ps s' X', Us.length = 2 ^ bitsN u ∧ Lks t (2 ^ bitsN u) Us ps ∧ Jw w0 w' base WB (M.acc 1 0 u) (r ++ ps) j B (t : Int) b s' (L ++ Us.map lockV ++ [askJ u]) X' := by
  have hul : u < 18446744073709551616 := by rw [← hu]; exact h.look 0
  have h1 := h.new (below1 w (.cells #[] 94))
  have hc0 := h1.pg.c.1
  have HLD := Lib.hid (h1.load (a := 0) (by omega) hn)
  rw [hu] at HLD
  have HB := Lib.hid (fun W => bits_any u hul W)
  have d0 : decide ((bitsN u : Int) < b) = true := by simp; omega
  have hq := bits_in u
  have hS : 2 ^ bitsN u ≤ 256 := Nat.pow_le_pow_right (by decide : 0 < 2) hq.2
  have htake : ∀ W X, Jw w0 W base WB (M.acc 1 0 u) r j B (t : Int) b s L X → Calls Tryz.prog 163 #[Pw B, .int .i64 (bitsN u : Int)] W fun e w' => e = .returned (.tuple #[]) ∧ ∃ Us ps s', Us.length = 2 ^ bitsN u ∧ Lks t (2 ^ bitsN u) Us ps ∧ Jw w0 w' base WB (M.acc 1 0 u) (r ++ ps) j B (t : Int) b s' (L ++ Us.map lockV) X := fun W X hw => take_all hw ht hq.1 hq.2 (by omega)
  have HT := Lib.hid htake; have HS := Lib.hid hS; have HL := Lib.hid hl
  clear h h1 hu hul hb htake hq hS hl
  generalize bitsN u = q at *
  obtain ⟨w1, hw1⟩ : ∃ w1, w1 = w.alloc (.cells #[] 94) := ⟨_, rfl⟩
  rw [← hw1] at hc0 HLD
  have HW1 := Lib.hid hw1
  clear hw1
  go_enter Tryz.func160, Tryz.ntmps160
  go_upto_region 1 with fail
  rw [← HW1.out]
  go_upto_region 4 with (first
    | (go_at_call 161; refine HLD.out.mono ?_; rintro e w2 ⟨rfl, X', hp, -⟩; have H2 := Lib.hid hp; have c1 := hp.c1; clear hp)
    | (go_at_call 162; refine (HB.out _).mono ?_; rintro e w3 ⟨rfl, rfl⟩))
  have HT2 := Lib.hid (HT.out _ _ H2.out)
  go_upto_region 5 with (go_at_call 163; refine HT2.out.mono ?_; rintro e w4 ⟨rfl, Us, ps, s2, hU1, hU2, hj4⟩; have HU := Lib.hid (And.intro hU1 (And.intro hU2 hj4)); clear hU1 hU2 hj4)
  have HADD := Lib.hid (jadd HU.out.2.2 280 (.agg #[.int .u64 (u : Int)]) (by rw [List.length_append, List.length_map, HU.out.1]; have := HL.out; have := HS.out; omega))
  go_wp2_with (go_at_call 164; refine HADD.out.mono ?_; rintro e w5 ⟨rfl, s3, hj5⟩; have H5 := Lib.hid hj5; clear hj5)
  go_ret
  exact ⟨rfl, Us, ps, s3, X', HU.out.1, HU.out.2.1, H5.out⟩
set_option maxRecDepth 100000 in
set_option maxHeartbeats 4000000 in
/-- It is still that table. -/
theorem ask_yes (h : Jw w0 w base WB M r j B (t : Int) b s L X) (hl : L.length ≤ 800000) (hn : M.n ≤ 1000000000) {u : Nat} (hu : S2.look M.L 0 = u) :
    Calls Tryz.prog 189 #[.agg #[.int .u64 (u : Int)], Pw B, Pw WB] w fun e w' => e = .returned (.bool true) ∧ ∃ p0 Us ps s' X', Us.length = 2 ^ bitsN u ∧ Frs (2 ^ bitsN u) Us ps ∧ Jw w0 w' base WB (M.acc 1 0 u) (r ++ [p0] ++ ps) j B (t : Int) b s' (L ++ [replV (bitsN u : Int)] ++ Us.map freeV) X' := by
  have hul : u < 18446744073709551616 := by rw [← hu]; exact h.look 0
  have h1 := h.push (.cells #[.int .u64 (u : Int)] 280)
  have k0 : (w.alloc (.cells #[.int .u64 (u : Int)] 280)).cell? ⟨w.heap.size, 0, none⟩ = some (.int .u64 (u : Int)) := cell_row (heap_alloc_new w _) 0
  have hc0 := h1.pg.c.1
  have HB := Lib.hid (fun W => bits_any u hul W)
  have hd := h1.new (Below.refl _ _).drew
  have hcd := hd.pg.c.1
  have HLD := Lib.hid (hd.load (a := 0) (by omega) hn)
  rw [hu] at HLD
  have hq := bits_in u
  have hS : 2 ^ bitsN u ≤ 256 := Nat.pow_le_pow_right (by decide : 0 < 2) hq.2
  have hlv : ∀ W r L s X, L.length ≤ 900000 → Jw w0 W base WB (M.acc 1 0 u) r j B (t : Int) b s L X → Calls Tryz.prog 190 #[Pw B, .int .i64 (bitsN u : Int)] W fun e w' => e = .returned (.tuple #[]) ∧ ∃ Us ps s', Us.length = 2 ^ bitsN u ∧ Frs (2 ^ bitsN u) Us ps ∧ Jw w0 w' base WB (M.acc 1 0 u) (r ++ ps) j B (t : Int) b s' (L ++ Us.map freeV) X := fun W r L s X hL hw => leave_all hw hq.1 hq.2 hL
  have HV := Lib.hid hlv; have HL := Lib.hid hl
  have hget : ∀ W M' Q X', Jw w0 W base WB M' (r ++ [blockP Q (.cells #[.int .u64 (u : Int)] 280)]) j B (t : Int) b s L X' → W.cell? ⟨Q, 0, none⟩ = some (.int .u64 (u : Int)) := fun W M' Q X' hw => by
    have e : ((r ++ [blockP Q (.cells #[.int .u64 (u : Int)] 280)]).set j (joinP B (t : Int) b s L))[r.length]? = some (blockP Q (.cells #[.int .u64 (u : Int)] 280)) := by
      rw [List.getElem?_set_ne (by have := h.hj; omega), List.getElem?_append_right (Nat.le_refl _), Nat.sub_self]; rfl
    exact cell_row (hw.pg.ps.ok _ _ (hw.pg.part e)) 0
  have HG := Lib.hid hget
  have k0d : (w.alloc (.cells #[.int .u64 (u : Int)] 280)).drew.cell? ⟨w.heap.size, 0, none⟩ = some (.int .u64 (u : Int)) := k0
  clear h h1 hd hu hul hlv hq hS hl hget
  generalize bitsN u = q at *
  obtain ⟨w1, hw1⟩ : ∃ w1, w1 = w.alloc (.cells #[.int .u64 (u : Int)] 280) := ⟨_, rfl⟩
  obtain ⟨Q, hQ⟩ : ∃ Q, Q = w.heap.size := ⟨_, rfl⟩
  rw [← hw1] at hc0 HLD k0 hcd k0d
  rw [← hQ] at k0 k0d HLD
  have HW1 := Lib.hid hw1; have HQ := Lib.hid hQ
  clear hw1 hQ
  go_enter Tryz.func189, Tryz.ntmps189
  go_upto_region 1 with fail
  rw [← HW1.out, ← HQ.out]
  go_upto_region 2 with (go_at_call 162; refine (HB.out _).mono ?_; rintro e w3 ⟨rfl, rfl⟩)
  go_region_law (go_simp; go_at_call 161; refine HLD.out.mono ?_; rintro e w2 ⟨rfl, X', hp, -⟩; have H2 := Lib.hid hp; have k2 := HG.out _ _ _ _ hp; have c1 := hp.c1; clear hp)
  all_goals
    have HADD := Lib.hid (jadd H2.out 311 (.agg #[.int .i64 (q : Int)]) (by have := HL.out; omega))
    go_upto_region 4 with (go_at_call 164; refine HADD.out.mono ?_; rintro e w5 ⟨rfl, s3, hj5⟩; have H5 := Lib.hid hj5; clear hj5)
    have HLV := Lib.hid (HV.out _ _ _ _ _ (by rw [List.length_append]; have := HL.out; simp; omega) H5.out)
    go_wp2_with (go_at_call 190; refine HLV.out.mono ?_; rintro e w6 ⟨rfl, Us, ps, s4, hU1, hU2, hj6⟩; have HU := Lib.hid (And.intro hU1 (And.intro hU2 hj6)); clear hU1 hU2 hj6)
    go_ret
    exact ⟨rfl, _, Us, ps, s4, X', HU.out.1, HU.out.2.1, HU.out.2.2⟩
end
end Go.Proofs.YtdodloannlfnlaaGreat.S17
