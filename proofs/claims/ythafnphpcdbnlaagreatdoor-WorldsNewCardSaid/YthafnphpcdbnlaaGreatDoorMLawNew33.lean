/- Texts of this seat, one behind the other. -/
import Derived.Test.YthafnphpcdbnlaaGreatDoorMLawNew32
set_option linter.unusedVariables false
set_option linter.unusedSimpArgs false
set_option linter.unusedVariables false
set_option linter.unusedSimpArgs false
namespace Go.Proofs.YthafnphpcdbnlaaGreatDoor.S12
open Go.Proofs.YthafnphpcdbnlaaGreatDoor Go.Proofs.YthafnphpcdbnlaaGreatDoor.S11
open Go.RowKit

/-- What a call leaves: so many accesses and calls more, these notes; tables and the rest as they were. -/
structure Nx (X X' : Wm) (dn dp : Nat) (F : List Nt) : Prop where
  wB : X'.wB = X.wB
  n : X'.n = X.n + dn
  pn : X'.pn = X.pn + dp
  nD : X'.nD = F
  tM : X'.tM = X.tM
  tn : X'.tn = X.tn
def Stp (w w' : World) (base : Nat) (X : Wm) (dn dp : Nat) (F : List Nt) : Prop := ∃ X', PW w' base X' ∧ Nx X X' dn dp F ∧ Below base w w'
section
variable {w : World} {base : Nat} {X : Wm}
theorem left_w (h : PW w base X) {w' : World} {L : S2.LL} {k a was is : Nat} (l : S2.Left w w' X.cB X.cM L (X.n + 1) k a was is) : Stp w w' base X 1 0 X.nD := by
  obtain ⟨M', hp, hb⟩ := t_cells (i := 0) h rfl l
  exact ⟨{ X with cM := M', L := L, n := X.n + 1, k := k, a := a, was := was, is := is }, hp, ⟨rfl, rfl, rfl, rfl, rfl, rfl⟩, hb⟩
theorem load_w (h : PW w base X) {a : Nat} (ha : a < 4294967296) (hn : X.n ≤ 1000000000) :
    Calls Tryz.prog 13 #[Pw X.cB, .int .u32 a] w fun e w' => e = .returned (.int .u64 (S2.look X.L a : Nat)) ∧ Stp w w' base X 1 0 X.nD := by
  refine (S2.load_any w X.cB X.cM X.L X.n X.k X.a X.was X.is a h.cells ha (by omega)).mono ?_
  rintro e w' ⟨rfl, hl⟩
  exact ⟨rfl, left_w h hl⟩
theorem unpark_w (h : PW w base X) {i : Nat} (hi : i < 128) (hn : X.pn ≤ 1000000000) :
    Calls Tryz.prog 14 #[Pw X.pB, .int .i64 (i : Int)] w fun e w' => e = .returned (.tuple #[]) ∧ Stp w w' base X 0 1 X.nD := by
  refine (S4.unpark_yes h.permits (by omega) hi).mono ?_
  rintro e w' ⟨rfl, hl⟩
  obtain ⟨hp, hb⟩ := t_permits (i := 2) h rfl hl
  exact ⟨rfl, { X with pf := _, pn := X.pn + 1, pk := _, pp := _ }, hp, ⟨rfl, rfl, rfl, rfl, rfl, rfl⟩, hb⟩
end
theorem eql94 (d : Nt) (w : World) : (binOp .eql 67 (ag .u8 d) (ag .u8 d)).run Tryz.prog w = .ok (.bool true) w := by
  obtain ⟨s, t, k, a, o, b, v⟩ := d
  simp [go_sem, Tryz.underlying67]
/-- The note of the examples. -/
abbrev nt5 : Nt := ⟨2, 5, 16, 1024, -1, 0, 0⟩
set_option maxRecDepth 100000 in
set_option maxHeartbeats 4000000 in
theorem lives_any (w : World) (hT : Tab w) : Calls Tryz.prog 4 #[] w fun e w' => e = .returned (.bool true) ∧ Below w.heap.size w w' := by
  have hck : ∀ W, Below w.heap.size w W → Calls Tryz.prog 19 #[.slice none 0 0, .int .u64 ((0 : Nat) : Int)] W (S3.Made W 0 0 []) := fun W _ => S3.new_any (D := []) (b2 := 0) 0 0 (Nat.le_refl _) (by omega) (by omega) S3.Rd.nil (Nat.zero_le _) (fun d hd => by cases hd)
  have hnew : Calls Tryz.prog 5 #[.agg #[.int .i64 3, .int .u64 0, .slice none 0 0]] w fun e w' => NewW w w' 3 0 [] e := new_yes 3 0 0 0 none (by decide) hck
  have hnot : ∀ W, Calls Tryz.prog 5 #[.agg #[.int .i64 17, .int .u64 0, .slice none 0 0]] W fun e w' => e = .returned (.tuple #[.pointer none, .int .i64 1]) ∧ Below W.heap.size W w' := fun W => new_no 17 0 0 0 none (by decide) W
  have heq := eql94 nt5
  have HT := Lib.hid hT; have HNOT := Lib.hid hnot
  clear hck hnot hT
  go_enter Tryz.func4, Tryz.ntmps4
  go_upto_region 2 with (go_at_call 5; refine hnew.mono ?_; rintro e w1 ⟨X, rfl, hp, h0, hb⟩)
  go_upto_region 3 with (go_at_call 5; refine (HNOT.out _).mono ?_; rintro e w2 ⟨rfl, hb2⟩)
  have hp2 := hp.new hb2
  have HB2 := Lib.hid (hb.trans (hb2.mono hb.size))
  have hpk : Calls Tryz.prog 11 #[Pw X.cB, .int .u32 0] w2 fun e w' => e = .returned (.int .u64 2) ∧ w2 = w' := by
    have h := S2.peek_any w2 X.cB X.cM X.L X.n X.k X.a X.was X.is 0 hp2.cells (by omega)
    rw [h0.L, show S2.look L02 0 = 2 by decide] at h
    exact h
  have hst : Calls Tryz.prog 12 #[Pw X.wB] w2 fun e w' => e = .returned (.int .i64 0) ∧ Below w2.heap.size w2 w' := by
    have h := steps_any hp2 (by rw [h0.n]; omega) (by rw [h0.pn]; omega)
    rw [h0.n, h0.pn] at h
    exact h
  have c0 := hp2.c0
  have HPK := Lib.hid hpk; have HST := Lib.hid hst; have HP2 := Lib.hid hp2; have H0 := Lib.hid h0
  clear hnew hp hb hb2 hp2 hpk hst h0
  go_upto_region 5 with (first
    | (go_at_call 11; refine HPK.out.mono ?_; rintro e w3 ⟨rfl, rfl⟩)
    | (go_at_call 12; refine HST.out.mono ?_; rintro e w3 ⟨rfl, hb3⟩))
  have hp3 := HP2.out.new hb3
  have HB3 := Lib.hid (HB2.out.trans (hb3.mono HB2.out.size))
  have c0 := hp3.c0
  have hld := load_w hp3 (a := 0) (by omega) (by rw [H0.out.n]; omega)
  have HP3 := Lib.hid hp3; have HLD := Lib.hid hld
  clear hp3 hld hb3 HPK HST HP2
  go_upto_region 6 with (go_at_call 13; refine HLD.out.mono ?_; rintro e w4 ⟨rfl, X4, hp4, hx4, hb4⟩)
  have hst : Calls Tryz.prog 12 #[Pw X.wB] w4 fun e w' => e = .returned (.int .i64 1) ∧ Below w4.heap.size w4 w' := by
    have h := steps_any hp4 (by rw [hx4.n, H0.out.n]; omega) (by rw [hx4.pn, H0.out.pn]; omega)
    rw [hx4.n, hx4.pn, hx4.wB, H0.out.n, H0.out.pn] at h
    exact h
  have HP4 := Lib.hid hp4; have HX4 := Lib.hid hx4; have HB4 := Lib.hid (HB3.out.trans hb4); have HST := Lib.hid hst
  clear hp4 hx4 hb4 hst HLD HP3 c0
  go_upto_region 7 with (go_at_call 12; refine HST.out.mono ?_; rintro e w5 ⟨rfl, hb5⟩)
  have hp5 := HP4.out.new hb5
  have HB5 := Lib.hid (HB4.out.trans (hb5.mono (PW.size HP4.out)))
  have c2 := hp5.c2
  rw [HX4.out.wB] at c2
  have hup := unpark_w hp5 (i := 0) (by omega) (by rw [HX4.out.pn, H0.out.pn]; omega)
  have hup' : Calls Tryz.prog 14 #[Pw X4.pB, .int .i64 0] w5 fun e w' => e = .returned (.tuple #[]) ∧ Stp w5 w' w.heap.size X4 0 1 X4.nD := hup
  have HUP := Lib.hid hup'
  clear hp5 hb5 HST hup hup'
  go_upto_region 8 with (go_at_call 14; refine HUP.out.mono ?_; rintro e w6 ⟨rfl, X6, hp6, hx6, hb6⟩)
  have e1 : X6.n = 1 := by rw [hx6.n, HX4.out.n, H0.out.n]
  have e2 : X6.pn = 1 := by rw [hx6.pn, HX4.out.pn, H0.out.pn]
  have e3 : X6.nD = [] := by rw [hx6.nD, HX4.out.nD, H0.out.nD]
  have e4 : X6.wB = X.wB := by rw [hx6.wB, HX4.out.wB]
  have hst : Calls Tryz.prog 12 #[Pw X.wB] w6 fun e w' => e = .returned (.int .i64 2) ∧ Below w6.heap.size w6 w' := by
    have h := steps_any hp6 (by rw [e1]; omega) (by rw [e2]; omega)
    rw [e1, e2, e4] at h
    exact h
  have HE := Lib.hid (And.intro e1 (And.intro e2 (And.intro e3 e4)))
  have HP6 := Lib.hid hp6; have HB6 := Lib.hid (HB5.out.trans hb6); have HST := Lib.hid hst
  clear e1 e2 e3 e4 hp6 hx6 hb6 hst HUP c2 HP4
  go_upto_region 9 with (go_at_call 12; refine HST.out.mono ?_; rintro e w7 ⟨rfl, hb7⟩)
  have hp7 := HP6.out.new hb7
  have HB7 := Lib.hid (HB6.out.trans (hb7.mono (PW.size HP6.out)))
  have hnt : Calls Tryz.prog 15 #[Pw X.wB, .int .i64 5, .int .u8 16, .int .u32 1024] w7 fun e w' => e = .returned (.tuple #[]) ∧ Noted w7 w' w.heap.size X6 nt5 := by
    have h := note_any hp7 (by rw [HE.out.1]; omega) (by rw [HE.out.2.1]; omega) (by rw [HE.out.2.2.1]; simp) (HT.out.below HB7.out HT.out.1) 5 1024 16 (by omega)
    rw [HE.out.1, HE.out.2.1, HE.out.2.2.2] at h
    exact h
  have HNT := Lib.hid hnt
  clear hp7 hb7 hnt HST HP6
  go_upto_region 10 with (go_at_call 15; refine HNT.out.mono ?_; rintro e w8 ⟨rfl, s8, hp8, hb8⟩)
  have hD : addD X6.nD nt5 = [nt5] := by rw [HE.out.2.2.1]; decide
  rw [hD] at hp8
  have c5 := hp8.c5
  dsimp only at c5
  rw [HE.out.2.2.2] at c5
  have hal : Calls Tryz.prog 16 #[Pw X6.nB] w8 fun e w' => S11.Told w8 w' [nt5] e := S11.all_any hp8.notes (by simp)
  have HB8 := Lib.hid (HB7.out.trans hb8); have HAL := Lib.hid hal
  clear hp8 hb8 hD hal HNT
  go_upto_region 11 with (go_at_call 16; refine HAL.out.mono ?_; rintro e w9 ⟨A9, rfl, hr9, hb9⟩)
  have HB9 := Lib.hid (HB8.out.trans (hb9.mono HB8.out.size))
  obtain ⟨g, o, rfl, hg, hN⟩ := hr9.rd.note (i := 0) (by simp)
  have hN' : S11.NtAt w9 .u8 g o nt5 := by simpa using hN
  obtain ⟨d0, d1, d2, d3, d4, d5, d6⟩ := hN'
  clear hr9 hb9 hN HAL c5
  go_wp2_with fail
  go_ret
  exact ⟨rfl, HB9.out⟩
end Go.Proofs.YthafnphpcdbnlaaGreatDoor.S12
set_option linter.unusedVariables false
set_option linter.unusedSimpArgs false
namespace Go.Proofs.YthafnphpcdbnlaaGreatDoor.S3
open Go.Proofs.YthafnphpcdbnlaaGreatDoor
open Go.RowKit

theorem brt_same {x most : Nat} (h : x ≤ most) : brt x most = x := Nat.mod_eq_of_lt (by omega)
structure RefAt (w : World) (base R T most : Nat) (s : Value) (D : List Nat) : Prop where
  nums : Nums T most D
  row : w.heap[R]? = some (.cells #[.int .u64 T, s, .int .u64 most] 98 (0, 0))
  own : Row w base s D
  ne : s.ownBlock ≠ some R
section
variable {w w' : World} {base R T most : Nat} {s : Value} {D : List Nat}
theorem RefAt.lt (h : RefAt w base R T most s D) : R < w.heap.size := (Array.getElem?_eq_some_iff.1 h.row).1
theorem RefAt.kept {S : Nat → Prop} (h : RefAt w base R T most s D) (t : Turns S w w') (hR : ¬ S R) (hs : ∀ g, s.ownBlock = some g → ¬ S g) : RefAt w' base R T most s D :=
  ⟨h.nums, (t.block R h.lt hR).trans h.row, h.own.keep t hs, h.ne⟩
theorem RefAt.new (h : RefAt w base R T most s D) (b : Below w.heap.size w w') : RefAt w' base R T most s D :=
  h.kept (Turns.of_below (S := fun _ => False) b) (fun e => e) (fun _ _ e => e)
theorem rdraw_none (h : RefAt w base R T most s []) : Calls Tryz.prog 10 #[Pt R] w fun e w' => e = .returned (.int .u64 0) ∧ w = w' := by
  have c0 : w.cell? ⟨R, 1, none⟩ = some s := cell_row h.row 1
  obtain ⟨A, cap, rfl, _⟩ := h.own
  simp only [List.length_nil] at c0
  clear h
  go_enter Tryz.func10, Tryz.ntmps10
  go_wp2
  go_ret
  exact ⟨rfl, rfl⟩
/-- What the document's clock is behind a call that turned it. -/
def RLeaves (w w' : World) (base R T most : Nat) (s : Value) (D : List Nat) : Prop := ∃ s', RefAt w' base R T most s' D ∧ (∀ g, s'.ownBlock = some g → s.ownBlock = some g ∨ w.heap.size ≤ g) ∧ Turns (fun k => k = R) w w'
set_option maxHeartbeats 1000000 in
set_option maxRecDepth 100000 in
theorem rdraw_some {d : Nat} (h : RefAt w base R T most s (d :: D)) : Calls Tryz.prog 10 #[Pt R] w fun e w' => e = .returned (.int .u64 (brt d most : Nat)) ∧ RLeaves w w' base R T most s D := by
  have c2 : w.cell? ⟨R, 1, none⟩ = some s := cell_row h.row 1
  have c1 : w.cell? ⟨R, 2, none⟩ = some (.int .u64 most) := cell_row h.row 2
  have f2 : w.frozen? ⟨R, 1, none⟩ = false := froz_row h.row 1
  obtain ⟨g, o, cap, rfl, cg, hc1, hc2, ht⟩ := h.own.tail
  unfold uv at cg
  have hd := h.nums.all d (by simp)
  have hmo := h.nums.m
  have hlen := h.nums.len
  simp only [List.length_cons] at hlen
  unfold maxLen at hc2
  have hc3 : cap ≤ 9223372036854775807 := by omega
  clear hc2
  have t0 : ((D.length : Int) + 1 == 0) = false := by rw [beq_eq_false_iff_ne]; omega
  have H := Lib.hid h; have HT := Lib.hid ht
  clear h ht
  have hfin : ∀ o', Row w base (.slice (some ⟨g, o', none⟩) D.length (cap - 1)) D → RLeaves w (w.setCell ⟨R, 1, none⟩ (.slice (some ⟨g, o', none⟩) D.length (cap - 1))) base R T most (.slice (some ⟨g, o, none⟩) (D.length + 1) cap) D := fun o' hr => by
    have t : Turns (fun k => k = R) w (w.setCell ⟨R, 1, none⟩ (.slice (some ⟨g, o', none⟩) D.length (cap - 1))) := (Turns.refl _ w).setCell _ _ rfl
    have hne : g ≠ R := fun e => H.out.ne (by rw [← e]; rfl)
    refine ⟨_, ⟨⟨H.out.nums.t, H.out.nums.m, by omega, fun x hx => H.out.nums.all x (by simp [hx])⟩, row_set H.out.row 1 _, hr.keep t ?_, ?_⟩, fun g' hg => .inl hg, t⟩
    · intro g' hg e
      have : g = g' := by simpa [Value.ownBlock] using hg
      exact hne (this.trans e)
    · intro e
      exact hne (by simpa [Value.ownBlock] using e)
  have HF := Lib.hid hfin
  clear hfin
  by_cases hmx : most = 18446744073709551615
  · have hbx : brt d most = d := brt_same (by omega)
    rw [hbx]
    have t1 : decide ((most : Int) < 18446744073709551615) = false := by simp; omega
    have TT := Lib.hid t1
    clear hbx hd hmo t1
    by_cases hcap : cap = 1
    · subst hcap
      rw [if_pos rfl] at HT
      obtain rfl : D = [] := List.eq_nil_of_length_eq_zero (by omega)
      clear hmx
      go_enter Tryz.func10, Tryz.ntmps10
      go_upto_region 5 with (fail)
      have t1 := TT.out
      go_wp2_with fail
      go_ret
      exact ⟨rfl, HF.out _ HT.out⟩
    · rw [if_neg hcap] at HT
      clear hmx
      go_enter Tryz.func10, Tryz.ntmps10
      go_upto_region 5 with (fail)
      have t1 := TT.out
      go_wp2_with fail
      go_ret
      exact ⟨rfl, HF.out _ HT.out⟩
  · have hrem : (d : Int) % ((most : Int) + 1) = ((brt d most : Nat) : Int) := by unfold brt; rw [Int.natCast_emod]; rfl
    have t1 : decide ((most : Int) < 18446744073709551615) = true := by simp; omega
    have t2 : ((most : Int) + 1 == 0) = false := by rw [beq_eq_false_iff_ne]; omega
    have hb : (most : Int) + 1 ≤ 18446744073709551615 := by omega
    have TT := Lib.hid t1; have T2 := Lib.hid t2; have HB := Lib.hid hb
    clear hd hmo t1 t2 hb
    generalize brt d most = x at *
    have HREM := Lib.hid hrem
    clear hrem
    by_cases hcap : cap = 1
    · subst hcap
      rw [if_pos rfl] at HT
      obtain rfl : D = [] := List.eq_nil_of_length_eq_zero (by omega)
      clear hmx
      go_enter Tryz.func10, Tryz.ntmps10
      go_upto_region 5 with (fail)
      have t1 := TT.out; have t2 := T2.out; have hb := HB.out
      go_wp2_with fail
      go_ret
      exact ⟨ret_int HREM.out, HF.out _ HT.out⟩
    · rw [if_neg hcap] at HT
      clear hmx
      go_enter Tryz.func10, Tryz.ntmps10
      go_upto_region 5 with (fail)
      have t1 := TT.out; have t2 := T2.out; have hb := HB.out
      go_wp2_with fail
      go_ret
      exact ⟨ret_int HREM.out, HF.out _ HT.out⟩
end
end Go.Proofs.YthafnphpcdbnlaaGreatDoor.S3
set_option linter.unusedVariables false
set_option linter.unusedSimpArgs false
namespace Go.Proofs.YthafnphpcdbnlaaGreatDoor.S3
open Go.Proofs.YthafnphpcdbnlaaGreatDoor
open Go.RowKit

theorem rleaves_more {w w3 w4 : World} {base R T most : Nat} {s s3 s4 : Value} {D F : List Nat} (h : RefAt w base R T most s D) (hN : Nums T most F) (ht3 : Turns (fun k => (Value.slice none 0 0).ownBlock = some k) w.drew w3) (ho3 : s3.ownBlock = (Value.slice none 0 0).ownBlock ∨ s3.ownBlock = some w.drew.heap.size)
    (hr4 : Row w4 base s4 F) (ht4 : Turns (fun k => s3.ownBlock = some k) w3 w4) (ho4 : s4.ownBlock = s3.ownBlock ∨ s4.ownBlock = some w3.heap.size) :
    RLeaves w (w4.setCell ⟨R, 1, none⟩ s4) base R T most s F := by
  have hz : w.drew.heap.size = w.heap.size := rfl
  have h3 : ∀ g, s3.ownBlock = some g → w.heap.size ≤ g := fun g e => by
    rcases ho3 with e' | e'
    · rw [e'] at e; simp [Value.ownBlock] at e
    · rw [e'] at e; injection e with e; omega
  have h4 : ∀ g, s4.ownBlock = some g → w.heap.size ≤ g := fun g e => by
    rcases ho4 with e' | e'
    · exact h3 g (e' ▸ e)
    · rw [e'] at e; injection e with e; have := ht3.size; omega
  have t3 : Turns (fun _ => False) w w3 := ⟨ht3.os, ht3.tape, ht3.output, ht3.size, fun k hk _ => ht3.block k hk (by simp [Value.ownBlock])⟩
  have t4 : Turns (fun _ => False) w w4 := t3.trans ht4 (fun k hk e => by have := h3 k e; omega)
  have t1 : Turns (fun k => k = R) w4 (w4.setCell ⟨R, 1, none⟩ s4) := (Turns.refl _ _).setCell _ _ rfl
  have hne4 : s4.ownBlock ≠ some R := fun e => by have := h4 R e; have := h.lt; omega
  refine ⟨s4, ⟨hN, ?_, hr4.keep t1 (fun g hg e => hne4 (by rw [hg, e])), hne4⟩, fun g hg => .inr (h4 g hg), (t4.mono (fun _ _ e => e.elim)).trans t1 (fun k _ e => e)⟩
  exact row_set ((t4.block R h.lt (fun e => e)).trans h.row) 1 _
theorem own_not {w : World} {s3 : Value} {R : Nat} (ho3 : s3.ownBlock = (Value.slice none 0 0).ownBlock ∨ s3.ownBlock = some w.drew.heap.size) (h : R < w.heap.size) : ¬ s3.ownBlock = some R := fun e => by
  have hz : w.drew.heap.size = w.heap.size := rfl
  rcases ho3 with e' | e'
  · rw [e'] at e; simp [Value.ownBlock] at e
  · rw [e'] at e; injection e with e; omega
attribute [local go_sem ↓] Go.wp_at_zero Go.wp_at_succ
set_option maxHeartbeats 4000000 in
set_option maxRecDepth 100000 in
theorem rmore_any {w : World} {base R T most : Nat} {s : Value} {D : List Nat} (h : RefAt w base R T most s D) (hbase : base ≤ w.heap.size) {b2 : Nat} {A : Option Addr} {E : List Nat} (c : Nat) (hn : E.length ≤ c) (hc : c ≤ 9223372036854775807) (hr : Rd w b2 A E) (hb2 : b2 ≤ w.heap.size) (hE : ∀ d ∈ E, d ≤ 18446744073709551615) :
    Calls Tryz.prog 52 #[Pt R, .slice A E.length c] w fun e w' => e = .returned (.tuple #[]) ∧ RLeaves w w' base R T most s (D ++ E.take (65536 - D.length)) := by
  have c2 : w.cell? ⟨R, 1, none⟩ = some s := cell_row h.row 1
  have f2 : w.frozen? ⟨R, 1, none⟩ = false := froz_row h.row 1
  have hlen := h.nums.len
  have hlt := h.lt
  obtain ⟨K, hK⟩ : ∃ K, K = (E.take (65536 - D.length)).length := ⟨_, rfl⟩
  have hKE : K = min E.length (65536 - D.length) := by rw [hK, List.length_take, Nat.min_comm]
  have hKc : K ≤ c := by omega
  have hl2 : D.length + (E.take (65536 - D.length)).length ≤ 1000000 := by rw [← hK]; omega
  have hl1 : ([] : List Nat).length + D.length ≤ 1000000 := by simp; omega
  have hrd := hr.take (65536 - D.length)
  have hN := h.nums.more hE
  obtain ⟨F, hF⟩ : ∃ F, F = D ++ E.take (65536 - D.length) := ⟨_, rfl⟩
  rw [← hF] at hN ⊢
  have HF := Lib.hid hF
  clear hF
  have hfin := fun w3 w4 s3 s4 => rleaves_more (w3 := w3) (w4 := w4) (s3 := s3) (s4 := s4) h hN
  obtain ⟨A0, cap, hs⟩ := h.own.shape
  subst hs
  have hrow := h.own.rd
  have HDD := Lib.hid (rfl : D.length = D.length)
  have HFIN := Lib.hid hfin; have HK := Lib.hid hK; have HKE := Lib.hid hKE; have HL2 := Lib.hid hl2; have HL1 := Lib.hid hl1; have HRD := Lib.hid hrd; have HROW := Lib.hid hrow; have HBS := Lib.hid hbase; have HB2 := Lib.hid hb2
  have hwr : IntKind.i64.wrap (65536 - (D.length : Int)) = 65536 - (D.length : Int) := by rw [IntKind.wrap_i64]; omega
  clear hfin hK hKE hl2 hl1 hrd hN hrow hbase hb2 h hr hE
  go_enter Tryz.func52, Tryz.ntmps52
  go_upto_region 0 with (fail)
  go_cut [4] from 5 to 13 (fun s wx => s = .int .i64 (K : Nat) ∧ w = wx)
  case first =>
    by_cases hle : E.length ≤ 65536 - D.length
    · go_wp2_with fail
      go_meet
      refine ⟨?_, rfl⟩
      have := HKE.out
      show Value.int _ _ = _
      congr 1
      omega
    · go_wp2_with fail
      go_meet
      refine ⟨?_, rfl⟩
      have := HKE.out
      show Value.int _ _ = _
      congr 1
      omega
  case rest =>
    obtain ⟨rfl, rfl⟩ := hcut
    have hk0 : (0 : Int) ≤ (K : Int) := by omega
    have hkc : (K : Int) ≤ (c : Int) := by omega
    go_upto_region 1 with (fail)
    go_region_law (first
      | ((refine step_append_row (base := base) (v := .slice none 0 0) (D := []) rfl _ _ rfl (by rfl) (row_nil _ _) HBS.out _ (by rfl) HDD.out HROW.out.drew HL1.out ?_; intro v3 w3 hr3 ht3 ho3; rw [List.nil_append] at hr3; obtain ⟨A3, cap3, hv3⟩ := hr3.shape; subst hv3; (have c3 : w3.cell? ⟨R, 1, none⟩ = some (.slice A0 D.length cap) := (ht3.cell hlt (by simp [Value.ownBlock])).trans c2); (have f3 : w3.frozen? ⟨R, 1, none⟩ = false := (ht3.frozen hlt (by simp [Value.ownBlock])).trans f2)))
      | ((refine step_append_row (base := base) (v := .slice A3 D.length cap3) (D := D) rfl _ _ rfl (by rfl) hr3 (Nat.le_trans HBS.out ht3.size) _ (by rfl) HK.out (HRD.out.drew.kept ht3 HB2.out (fun k _ => by simp [Value.ownBlock])) HL2.out ?_; intro v4 w4 hr4 ht4 ho4; rw [← HF.out] at hr4; obtain ⟨A4, cap4, hv4⟩ := hr4.shape; subst hv4; (have hn3 := own_not ho3 hlt); (have hl3 := Nat.lt_of_lt_of_le hlt ht3.size); (have c4 : w4.cell? ⟨R, 1, none⟩ = some (.slice A0 D.length cap) := (ht4.cell hl3 hn3).trans c3); (have f4 : w4.frozen? ⟨R, 1, none⟩ = false := (ht4.frozen hl3 hn3).trans f3))))
    all_goals
      go_end0
      exact ⟨rfl, HFIN.out _ _ _ _ ht3 ho3 hr4 ht4 ho4⟩
def RMade (w : World) (T most : Nat) (D : List Nat) (e : Ending) (w' : World) : Prop := ∃ R s, e = .returned (Pt R) ∧ w.heap.size ≤ R ∧ RefAt w' w.heap.size R T most s D ∧ Below w.heap.size w w'
theorem rmade_new {w w' : World} {most : Nat} {F : List Nat} {s : Value} (l : RLeaves (w.alloc (.cells #[.int .u64 0, .slice none 0 0, .int .u64 most] 98)) w' w.heap.size w.heap.size 0 most s F) : RMade w 0 most F (.returned (Pt w.heap.size)) w' := by
  obtain ⟨s', h, _, t⟩ := l
  exact ⟨_, s', rfl, Nat.le_refl _, h, ((Below.refl _ _).alloc (Nat.le_refl _) _).trans (t.below (by simp) (fun k hk e => by omega))⟩
set_option maxHeartbeats 1000000 in
theorem rnew_any {w : World} {b2 : Nat} {A : Option Addr} {D : List Nat} (c most : Nat) (hn : D.length ≤ c) (hc : c ≤ 9223372036854775807) (hm : most ≤ 18446744073709551615) (hr : Rd w b2 A D) (hb2 : b2 ≤ w.heap.size) (hD : ∀ d ∈ D, d ≤ 18446744073709551615) :
    Calls Tryz.prog 25 #[.slice A D.length c, .int .u64 most] w (RMade w 0 most (D.take 65536)) := by
  have ba : Below w.heap.size w (w.alloc (.cells #[.int .u64 0, .slice none 0 0, .int .u64 most] 98)) := (Below.refl _ _).alloc (Nat.le_refl _) _
  have r0 : RefAt (w.alloc (.cells #[.int .u64 0, .slice none 0 0, .int .u64 most] 98)) w.heap.size w.heap.size 0 most (.slice none 0 0) [] :=
    ⟨⟨by omega, hm, by simp, by simp⟩, heap_alloc_new w _, row_nil _ _, by simp [Value.ownBlock]⟩
  have hmo := rmore_any r0 (by simp) c hn hc (hr.below ba hb2) (Nat.le_trans hb2 ba.size) hD
  simp only [List.nil_append, List.length_nil, Nat.sub_zero] at hmo
  have hfin := fun w' s => rmade_new (w := w) (w' := w') (most := most) (F := D.take 65536) (s := s)
  have HMO := Lib.hid hmo; have HFIN := Lib.hid hfin
  clear hmo hfin ba r0 hr hD
  generalize D.take 65536 = F at *
  go_enter Tryz.func25, Tryz.ntmps25
  go_wp2_with (first
    | (go_at_call 52; refine HMO.out.mono ?_; rintro e w1 ⟨rfl, hl⟩))
  go_ret
  exact HFIN.out _ _ hl
end Go.Proofs.YthafnphpcdbnlaaGreatDoor.S3
set_option linter.unusedVariables false
set_option linter.unusedSimpArgs false
namespace Go.Proofs.YthafnphpcdbnlaaGreatDoor.S10
open Go.Proofs.YthafnphpcdbnlaaGreatDoor
open Go.RowKit

section
variable {w : World} {s : Value} {F : Int → Value} {M : Int → List Bk}
end
open Classical in
/-- Who owns what, behind: some new blocks, some old ones let go. -/
theorem own_new (own : Nat → Option Role) (New : Nat → Role → Prop) (Drop : Nat → Prop) (X : Nat) (hfun : ∀ x r r', New x r → New x r' → r = r') (hnew : ∀ x r, New x r → X ≤ x) (hold : ∀ x r, own x = some r → x < X) :
    ∃ own' : Nat → Option Role, (∀ x r, New x r → own' x = some r) ∧ (∀ x r, own x = some r → ¬ Drop x → own' x = some r) ∧ (∀ x r, own' x = some r → own x = some r ∨ New x r) := by
  refine ⟨fun x => if h : ∃ r, New x r then some h.choose else if Drop x then none else own x, fun x r h => ?_, fun x r h hd => ?_, fun x r h => ?_⟩
  · have hx : ∃ r, New x r := ⟨r, h⟩
    dsimp only
    rw [dif_pos hx, hfun x _ _ hx.choose_spec h]
  · have hx : ¬ ∃ r, New x r := fun ⟨r', h'⟩ => by
      have := hnew x r' h'; have := hold x r h; omega
    dsimp only
    rw [dif_neg hx, if_neg hd, h]
  · dsimp only at h
    by_cases hx : ∃ r, New x r
    · rw [dif_pos hx] at h
      cases h
      exact .inr hx.choose_spec
    · rw [dif_neg hx] at h
      split at h
      · cases h
      · exact .inl h
section
variable {w : World} {base : Nat} {own : Nat → Option Role} {s : Value} {n : Nat} {M : Int → List Bk}
/-- What growing makes of the model. -/
def grown (M : Int → List Bk) (h : Nat → Nat) (N : Nat) (fr tg now : Int) : Int → List Bk :=
  upd (upd M fr (hollow (M fr))) tg (fresh now (reh h N ((M fr).map Bk.q).flatten))
end
end Go.Proofs.YthafnphpcdbnlaaGreatDoor.S10
set_option linter.unusedVariables false
set_option linter.unusedSimpArgs false
namespace Go.Proofs.YthafnphpcdbnlaaGreatDoor.S10
open Go.Proofs.YthafnphpcdbnlaaGreatDoor
open Go.RowKit

/-- Places of a thread in a queue, in a table's first buckets, in the first tables. -/
def plQ (b i t : Int) (q : List Ent) : List (Int × Int) := (q.filter fun e => decide (e.t = t)).map fun _ => (b, i)
def plT (b t : Int) (L : List Bk) (k : Nat) : List (Int × Int) := (List.range k).flatMap fun i => plQ b (i : Nat) t L[i]!.q
def plM (M : Int → List Bk) (t : Int) (k : Nat) : List (Int × Int) := (List.range k).flatMap fun j => plT ((j + 2 : Nat) : Int) t (M ((j + 2 : Nat) : Int)) (M ((j + 2 : Nat) : Int)).length
def pcs (p : Int × Int) : List Value := [.int .i64 p.1, .int .i64 p.2]
def pflat (D : List (Int × Int)) : List Value := D.flatMap pcs
theorem pflat_app (D E : List (Int × Int)) : pflat (D ++ E) = pflat D ++ pflat E := by simp [pflat]
theorem pflat_len (D : List (Int × Int)) : (pflat D).length = D.length * 2 := by
  induction D with
  | nil => rfl
  | cons e r ih =>
    have : pflat (e :: r) = pcs e ++ pflat r := rfl
    rw [this, List.length_append, ih]
    simp [pcs]
    omega
theorem pflat_one (D : List (Int × Int)) : ∀ u ∈ pflat D, u.oneCell' = true := fun u hu => by
  simp only [pflat, List.mem_flatMap] at hu
  obtain ⟨e, _, hu⟩ := hu
  simp [pcs] at hu
  rcases hu with rfl | rfl <;> rfl
theorem plQ_len (b i t : Int) (q : List Ent) : (plQ b i t q).length ≤ q.length := by
  unfold plQ
  rw [List.length_map]
  exact List.length_filter_le _ _
theorem plQ_snoc (b i t : Int) (q : List Ent) (e : Ent) : plQ b i t (q ++ [e]) = if e.t = t then plQ b i t q ++ [(b, i)] else plQ b i t q := by
  unfold plQ
  rw [List.filter_append, List.map_append]
  by_cases h : e.t = t
  · simp [h]
  · simp [h]
theorem plT_succ (b t : Int) (L : List Bk) (k : Nat) : plT b t L (k + 1) = plT b t L k ++ plQ b (k : Nat) t L[k]!.q := by
  unfold plT
  rw [List.range_succ, List.flatMap_append]
  simp
theorem plM_succ (M : Int → List Bk) (t : Int) (k : Nat) : plM M t (k + 1) = plM M t k ++ plT ((k + 2 : Nat) : Int) t (M ((k + 2 : Nat) : Int)) (M ((k + 2 : Nat) : Int)).length := by
  unfold plM
  rw [List.range_succ, List.flatMap_append]
  simp
theorem map_at (L : List Bk) {i : Nat} (h : i < L.length) : (L.map Bk.q)[i]! = L[i]!.q := by
  rw [getElem!_pos _ i (by rw [List.length_map]; exact h), getElem!_pos _ i h]
  simp
theorem plT_len (b t : Int) (L : List Bk) : ∀ k, k ≤ L.length → (plT b t L k).length ≤ cum (L.map Bk.q) k
  | 0, _ => by simp [plT]
  | k + 1, h => by
    rw [plT_succ, List.length_append, cum_succ (by rw [List.length_map]; omega), map_at L (by omega)]
    have := plT_len b t L k (by omega)
    have := plQ_len b (k : Nat) t L[k]!.q
    omega
theorem cum_le (Ls : List (List Ent)) : ∀ k, k ≤ Ls.length → cum Ls k ≤ Ls.flatten.length := fun k hk => by
  unfold cum
  have h1 : Ls.flatten = (Ls.take k).flatten ++ (Ls.drop k).flatten := by rw [← List.flatten_append, List.take_append_drop]
  rw [h1, List.length_append]
  omega
theorem plM_len (M : Int → List Bk) (t : Int) (X : Nat) (h : ∀ b, ((M b).map Bk.q).flatten.length ≤ X) : ∀ k, (plM M t k).length ≤ k * X
  | 0 => by simp [plM]
  | k + 1 => by
    rw [plM_succ, List.length_append, Nat.add_mul]
    have h1 := plM_len M t X h k
    have h2 := plT_len ((k + 2 : Nat) : Int) t (M ((k + 2 : Nat) : Int)) _ (Nat.le_refl _)
    have h3 := cum_le ((M ((k + 2 : Nat) : Int)).map Bk.q) (M ((k + 2 : Nat) : Int)).length (by rw [List.length_map]; exact Nat.le_refl _)
    have h4 := h ((k + 2 : Nat) : Int)
    omega
theorem info30 : ∃ i, Tryz.prog.info? 169 = some i ∧ i.zero = some (.agg #[.int .i64 0, .int .i64 0]) ∧ i.size = 2 ∧ i.bytes = 16 := info_of (by kernel_rfl)
/-- One place, in new memory. -/
theorem rd_pair (w : World) (b i : Int) (T : TypeId) : Rd (w.alloc (.cells #[.int .i64 b, .int .i64 i] T)) (w.heap.size + 1) (some ⟨w.heap.size, 0, none⟩) (pflat [(b, i)]) := fun _ => by
  refine ⟨w.heap.size, 0, rfl, by omega, fun j u e => ?_⟩
  have hnew := heap_alloc_new w (.cells #[.int .i64 b, .int .i64 i] T)
  rw [cell_row hnew, Nat.zero_add]
  simpa [pflat, pcs] using e
theorem rd_pair' (w : World) (b i : Int) (T : TypeId) {X : Nat} (h : w.heap.size = X) : Rd (w.alloc (.cells #[.int .i64 b, .int .i64 i] T)) (X + 1) (some ⟨X, 0, none⟩) (pflat [(b, i)]) := h ▸ rd_pair w b i T
abbrev RowP (w : World) (base : Nat) (s : Value) (D : List (Int × Int)) : Prop := Row w base 2 s D.length (pflat D)
end Go.Proofs.YthafnphpcdbnlaaGreatDoor.S10
