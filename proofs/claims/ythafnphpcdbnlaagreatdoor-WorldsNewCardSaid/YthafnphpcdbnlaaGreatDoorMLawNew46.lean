/- Texts of this seat, one behind the other. -/
import Derived.Test.YthafnphpcdbnlaaGreatDoorMLawNew33
import Derived.Test.YthafnphpcdbnlaaGreatDoorMLawNew45
import Derived.Deep.CutRange
import Derived.Deep.CutBlock
set_option linter.unusedVariables false
set_option linter.unusedSimpArgs false
set_option linter.unusedVariables false
set_option linter.unusedSimpArgs false
namespace Go.Proofs.YthafnphpcdbnlaaGreatDoor.S12
open Go.Proofs.YthafnphpcdbnlaaGreatDoor Go.Proofs.YthafnphpcdbnlaaGreatDoor.S11
open Go.RowKit

/-- How it stands where the draws are what they are to be: the config's block bears them. -/
def NCut (w wx : World) (Q : Nat) (sp : Int) (mo : Nat) (F : List Nat) : Prop := ∃ (A : Option Addr) (c : Nat), wx.heap[Q]? = some (.cells #[.int .i64 sp, .int .u64 (mo : Int), .slice A F.length c] 25 (0, 0)) ∧ F.length ≤ c ∧ c ≤ 9223372036854775807 ∧ S3.Rd wx wx.heap.size A F ∧ Below w.heap.size w wx
theorem more_facts (more : Nat) (h : more < 4294967296) : ∃ (r d b : Nat), b ≤ 1 ∧ (more : Int).tmod 16 = (r : Int) ∧ (more : Int) % 16 = (r : Int) ∧ (more : Int).tdiv 16 = (d : Int) ∧ (more : Int) / 16 = (d : Int) ∧ (d : Int).tmod 2 = (b : Int) ∧ (d : Int) % 2 = (b : Int) ∧ IntKind.u32.wrap (r : Int) = (r : Int) ∧ IntKind.u32.wrap (d : Int) = (d : Int) ∧ IntKind.u32.wrap (b : Int) = (b : Int) ∧ wrap64 (b : Int) = (b : Int) ∧ IntKind.i64.wrap (b : Int) = (b : Int) := by
  have e1 : (more : Int) % 16 = ((more % 16 : Nat) : Int) := by omega
  have e2 : (more : Int) / 16 = ((more / 16 : Nat) : Int) := by omega
  have e3 : ((more / 16 : Nat) : Int) % 2 = ((more / 16 % 2 : Nat) : Int) := by omega
  have h1 : more % 16 < 16 := Nat.mod_lt _ (by omega)
  have h2 : more / 16 < 4294967296 := by omega
  have h3 : more / 16 % 2 < 2 := Nat.mod_lt _ (by omega)
  refine ⟨more % 16, more / 16, more / 16 % 2, by omega, ?_, e1, ?_, e2, ?_, e3, ?_, ?_, ?_, ?_, ?_⟩
  · rw [Int.tmod_eq_emod_of_nonneg (by omega)]; exact e1
  · rw [Int.tdiv_eq_ediv_of_nonneg (by omega)]; exact e2
  · rw [Int.tmod_eq_emod_of_nonneg (by omega)]; exact e3
  · rw [IntKind.wrap_u32]; omega
  · rw [IntKind.wrap_u32]; omega
  · rw [IntKind.wrap_u32]; omega
  · unfold wrap64; omega
  · rw [IntKind.wrap_i64]; omega
theorem nz_facts (n b : Nat) (hn : n ≤ 300) (hb : b ≤ 1) : ∃ nz : Nat, nz ≠ 0 ∧ n + nz ≤ 65537 ∧ wrap64 (65536 - (n : Int)) = 65536 - (n : Int) ∧ wrap64 (65536 - (n : Int) + (b : Int)) = (nz : Int) ∧ IntKind.i64.wrap (IntKind.i64.wrap (65536 - (n : Int)) + (b : Int)) = (nz : Int) :=
  ⟨65536 - n + b, by omega, by omega, by unfold wrap64; omega, by unfold wrap64; omega, by
    have e1 : IntKind.i64.wrap (65536 - (n : Int)) = 65536 - (n : Int) := by rw [IntKind.wrap_i64]; omega
    rw [e1, IntKind.wrap_i64]; omega⟩
theorem f_facts {D F : List Nat} {r nz : Nat} (hF : F = if r = 0 then D ++ List.replicate nz 0 else D) (hnz : D.length + nz ≤ 65537) (hl : D.length ≤ 300) (hD : ∀ d ∈ D, d ≤ 18446744073709551615) : F.length ≤ 65537 ∧ ∀ d ∈ F, d ≤ 18446744073709551615 := by
  rw [hF]
  split
  · refine ⟨by simp; omega, fun d hd => ?_⟩
    rw [List.mem_append] at hd
    rcases hd with hd | hd
    · exact hD d hd
    · rw [List.eq_of_mem_replicate hd]; omega
  · exact ⟨by omega, hD⟩
theorem le_big {D : List Nat} (h : D.length ≤ 300) : ([] : List Nat).length + D.length ≤ 1000000 := by simp; omega
theorem is_zero (r : Nat) : ∃ z : Bool, ((r : Int) == 0) = z ∧ (z = true → r = 0) ∧ (z = false → r ≠ 0) := ⟨_, rfl, fun h => by rw [beq_iff_eq] at h; omega, fun h e => by rw [e] at h; cases h⟩
theorem ne_int {r : Nat} (h : ¬ r = 0) : ((r : Int) == 0) = false := by rw [beq_eq_false_iff_ne]; omega
theorem grown {w w1 w3 w4 : World} {sp : Int} {mo nz c0 cap3 cap4 Q : Nat} {A A3 A4 : Option Addr} {D F : List Nat} (hF : F = D ++ List.replicate nz 0) (hQ : Q = w.heap.size) (ha : w1.heap[Q]? = some (.cells #[.int .i64 sp, .int .u64 (mo : Int), .slice A D.length c0] 25 (0, 0))) (hb : Below w.heap.size w w1) (hq : Q < w1.heap.size) (t3 : S3.Turns (fun k => (Value.slice none 0 0).ownBlock = some k) w1.drew w3) (r3 : S3.Row w3 w1.heap.size (.slice A3 D.length cap3) D) (t4 : S3.Turns (fun k => (Value.slice A3 D.length cap3).ownBlock = some k) w3 w4) (r4 : S3.Row w4 w1.heap.size (.slice A4 (D ++ List.replicate nz 0).length cap4) (D ++ List.replicate nz 0)) : NCut w (w4.setCell ⟨Q, 2, none⟩ (.slice A4 (D.length + nz) cap4)) Q sp mo F := by
  have hl : (D ++ List.replicate nz 0).length = D.length + nz := by simp
  have n3 : ¬ ((Value.slice none 0 0).ownBlock = some Q) := by simp [Value.ownBlock]
  have n4 : ¬ ((Value.slice A3 D.length cap3).ownBlock = some Q) := fun e => absurd (r3.lt _ e).1 (Nat.not_le_of_lt hq)
  have b1 : w3.heap[Q]? = w1.heap[Q]? := t3.block Q hq n3
  have b2 : w4.heap[Q]? = w3.heap[Q]? := t4.block Q (Nat.lt_of_lt_of_le hq t3.size) n4
  have h4 := b2.trans (b1.trans ha)
  have hs := S3.row_set h4 2 (.slice A4 (D.length + nz) cap4)
  have ts : S3.Turns (fun k => k = Q) w4 (w4.setCell ⟨Q, 2, none⟩ (.slice A4 (D.length + nz) cap4)) := (S3.Turns.refl _ w4).setCell _ _ rfl
  have r5 := r4.keep ts (fun g hg e => absurd (r4.lt _ hg).1 (by rw [e]; exact Nat.not_le_of_lt hq))
  have hc := r5.capsN
  have hb3 : Below w.heap.size w1.drew w3 := t3.below (by show _ ≤ w1.heap.size; exact hb.size) (fun k hk e => by simp [Value.ownBlock] at e)
  have hb4 : Below w.heap.size w3 w4 := t4.below (Nat.le_trans hb.size t3.size) (fun k hk e => absurd (r3.lt _ e).1 (Nat.not_le_of_lt (Nat.lt_of_lt_of_le hk hb.size)))
  have hb5 : Below w.heap.size w4 (w4.setCell ⟨Q, 2, none⟩ (.slice A4 (D.length + nz) cap4)) := ts.below (Nat.le_trans hb.size (Nat.le_trans t3.size t4.size)) (fun k hk e => by omega)
  have hb0 : Below w.heap.size w w1.drew := hb.trans (Below.refl _ _).drew
  subst hF
  rw [hl] at r5 hc
  refine ⟨A4, cap4, ?_, by rw [hl]; exact hc.2.1, hc.2.2, ?_, ((hb0.trans hb3).trans hb4).trans hb5⟩
  · rw [hs, hl]; rfl
  · exact r5.rd
theorem wr_set {w : World} {A : Option Addr} {n : Nat} (h : S3.Wr w A n) (p : Addr) (v : Value) : S3.Wr (w.setCell p v) A n := fun hp => by
  obtain ⟨g, o, e, hc⟩ := h hp
  refine ⟨g, o, e, fun j hj => ⟨?_, by rw [World.frozen?_setCell]; exact (hc j hj).2⟩⟩
  by_cases e : p = ⟨g, o + j, none⟩
  · subst e
    obtain ⟨u, hu⟩ := Option.isSome_iff_exists.1 (hc j hj).1
    rw [World.cell?_setCell_same _ _ _ hu]; rfl
  · rw [World.cell?_setCell_other _ _ _ _ e]; exact (hc j hj).1
theorem wr_below {w w' : World} {B cap n base : Nat} {A : Option Addr} {D : List Nat} (h : S3.Wr w A n) (hr : S3.Row w base (.slice A n cap) D) (hb : Below w.heap.size w w') : S3.Wr w' A n := fun hp => by
  obtain ⟨g, o, e, hc⟩ := h hp
  have hl : g < w.heap.size := (hr.lt g (by rw [e]; rfl)).2
  exact ⟨g, o, e, fun j hj => ⟨by rw [hb.cell (p := ⟨g, o + j, none⟩) hl]; exact (hc j hj).1, by rw [World.frozen?_of_block (a := ⟨g, o + j, none⟩) (hb.block g hl)]; exact (hc j hj).2⟩⟩
theorem wnewE_kept {w6 w7 wr : World} {S : Nat → Prop} {sp : Int} {mo : Nat} {F : List Nat} {v : Value} {er : Int} (h : WNewE w6 w7 sp mo F v er) (t : S3.Turns S w7 wr) (hs : ∀ k, S k → k < w6.heap.size) : WNewE w6 wr sp mo F v er := by
  rcases h with ⟨h1, h2, X, h3, h4, h5⟩ | h
  · exact .inl ⟨h1, h2, X, h3, Parts.kept h4 (S := S) ⟨t.os, t.tape, t.output, t.size, t.block⟩ (fun i p hp k hk e => absurd (h4.low i p hp k hk) (Nat.not_le_of_lt (hs k e))), h5⟩
  · exact .inr h
/-- What a clock that is drawn from at first answers. -/
def dv (D : List Nat) (mo : Nat) : Nat := match D with | [] => 0 | d :: _ => S3.brt d mo
theorem drw {w : World} {base B T mo : Nat} {s : Value} {D : List Nat} (h : S3.ClockAt w base B T mo s D) : Calls Tryz.prog 9 #[Pw B] w fun e w' => e = .returned (.int .u64 (dv D mo : Nat)) ∧ S3.Turns (fun k => k = B) w w' := by
  cases D with
  | nil => exact (S3.draw_none h).mono fun e w' q => ⟨q.1, q.2 ▸ S3.Turns.refl _ _⟩
  | cons d D => exact (S3.draw_some h).mono fun e w' q => ⟨q.1, let ⟨_, _, _, t⟩ := q.2; t⟩
theorem rdrw {w : World} {base B T mo : Nat} {s : Value} {D : List Nat} (h : S3.RefAt w base B T mo s D) : Calls Tryz.prog 10 #[Pw B] w fun e w' => e = .returned (.int .u64 (dv D mo : Nat)) ∧ S3.Turns (fun k => k = B) w w' := by
  cases D with
  | nil => exact (S3.rdraw_none h).mono fun e w' q => ⟨q.1, q.2 ▸ S3.Turns.refl _ _⟩
  | cons d D => exact (S3.rdraw_some h).mono fun e w' q => ⟨q.1, let ⟨_, _, _, t⟩ := q.2; t⟩
/-- Behind the world's draw: the reference's clock as it stood. -/
def Aft (w9 W : World) (base : Nat) (Y : Rm) : Prop := S3.RefAt W Y.kb Y.kB Y.T Y.most Y.ks Y.D ∧ W.cell? ⟨Y.wB, 1, none⟩ = some (Pw Y.kB) ∧ base ≤ Y.kB ∧ Below base w9 W
theorem last_facts {w0 w9 : World} {base : Nat} {X : Wm} {Y : Rm} {sp : Int} {mo : Nat} {F : List Nat} (h : Bg w0 w9 base X.wB Y.wB 0 0 1 (sd0 sp mo F) (sd0 sp mo F) [] X Y) (hx : At0 X sp mo F) (hy : RAt0 Y sp mo F) :
    (∀ W, Below w9.heap.size w9 W → W.cell? ⟨X.wB, 6, none⟩ = some (.int .i64 sp) ∧ W.cell? ⟨Y.wB, 6, none⟩ = some (.int .i64 sp) ∧ W.cell? ⟨X.wB, 1, none⟩ = some (Pw X.kB) ∧ W.cell? ⟨Y.wB, 1, none⟩ = some (Pw Y.kB)) ∧
    (∀ W, Below w9.heap.size w9 W → Calls Tryz.prog 9 #[Pw X.kB] W fun e w' => e = .returned (.int .u64 (dv F mo : Nat)) ∧ Aft w9 w' base Y ∧ Turns (fun k => k = X.kB) W w') ∧
    (∀ W, Aft w9 W base Y → Calls Tryz.prog 10 #[Pw Y.kB] W fun e w' => e = .returned (.int .u64 (dv F mo : Nat)) ∧ Below base w9 w' ∧ Turns (fun k => k = Y.kB) W w') ∧
    (X.wB ≠ X.kB ∧ Y.wB ≠ X.kB ∧ X.wB ≠ Y.kB ∧ Y.wB ≠ Y.kB ∧ X.wB < w9.heap.size ∧ Y.wB < w9.heap.size) := by
  refine ⟨fun W b => ?_, fun W b => ?_, fun W a => ?_, ?_⟩
  · have hp := (h.new b).pr
    refine ⟨by rw [hp.pw.c6, hx.sp], ?_, hp.pw.c1, hp.r1⟩
    rw [← hy.sp]
    exact (cell_row hp.rown 6).trans (rc6 _ _ _ _ _ _ _)
  · have hp := (h.new b).pr
    have hc := drw hp.pw.clock
    rw [hx.D, hx.most] at hc
    refine hc.mono fun e w' q => ⟨q.1, ?_⟩
    have t : Turns (fun k => k = X.kB) W w' := ⟨q.2.os, q.2.tape, q.2.output, q.2.size, q.2.block⟩
    have lowX : base ≤ X.kB := hp.low 1 _ rfl X.kB (.inl rfl)
    have k8 := Part.kept _ _ _ _ (hp.ok 8 _ rfl) t (fun k hk e => hp.apart 8 1 _ _ rfl rfl (by decide) k hk (by rw [e]; exact .inl rfl))
    have k13 := Part.kept _ _ _ _ (hp.ok 13 _ rfl) t (fun k hk e => hp.apart 13 1 _ _ rfl rfl (by decide) k hk (by rw [e]; exact .inl rfl))
    have hr : w'.heap[Y.wB]? = some (.cells Y.cs 55) := k13
    refine ⟨⟨k8, (cell_row hr 1).trans (rc1 _ _ _ _ _ _ _), hp.low 8 _ rfl Y.kB (.inl rfl), (b.mono h.pr.size).trans (q.2.below hp.size (fun k hk e => by omega))⟩, t⟩
  · have hc := rdrw a.1
    rw [hy.D, hy.most] at hc
    refine hc.mono fun e w' q => ⟨q.1, a.2.2.2.trans (q.2.below (Nat.le_trans h.pr.size a.2.2.2.size) (fun k hk e => ?_)), ⟨q.2.os, q.2.tape, q.2.output, q.2.size, q.2.block⟩⟩
    have := a.2.2.1
    omega
  · have hp := h.pr
    exact ⟨fun e => hp.apart 6 1 _ _ rfl rfl (by decide) X.wB rfl (.inl e), fun e => hp.apart 13 1 _ _ rfl rfl (by decide) Y.wB rfl (.inl e), fun e => hp.apart 6 8 _ _ rfl rfl (by decide) X.wB rfl (.inl e), fun e => hp.apart 13 8 _ _ rfl rfl (by decide) Y.wB rfl (.inl e), (hp.ok 6 _ rfl |> fun q => (Array.getElem?_eq_some_iff.1 q).1), (Array.getElem?_eq_some_iff.1 hp.rown).1⟩
set_option maxRecDepth 100000 in
set_option maxHeartbeats 16000000 in
theorem law_new {w : World} {sp : Int} {mo c0 more : Nat} {A : Option Addr} {D : List Nat} (hn : D.length ≤ c0) (hc : c0 ≤ 9223372036854775807) (hmo : mo ≤ 18446744073709551615) (hmr : more < 4294967296) (hr : S3.Rd w w.heap.size A D) (hD : ∀ d ∈ D, d ≤ 18446744073709551615) (hT : Tab w) :
    Calls Tryz.prog 3 #[.agg #[.int .i64 sp, .int .u64 (mo : Int), .slice A D.length c0], .int .u32 (more : Int)] w fun e w' => e = .returned (.bool true) ∧ Below w.heap.size w w' := by
  have HT := Lib.hid hT; have HR := Lib.hid hr; have HDD := Lib.hid hD; have HMO := Lib.hid hmo; have HN := Lib.hid (And.intro hn hc)
  have hb0 := below1 w (.cells #[.int .i64 sp, .int .u64 (mo : Int), .slice A D.length c0] 25)
  obtain ⟨Q, hQ⟩ : ∃ Q, Q = w.heap.size := ⟨_, rfl⟩
  have ha := heap_alloc_new w (.cells #[.int .i64 sp, .int .u64 (mo : Int), .slice A D.length c0] 25)
  rw [← hQ] at ha
  have HB0 := Lib.hid hb0; have HQ := Lib.hid hQ; have HA := Lib.hid ha
  clear hb0 hQ ha hT hr hD hn hc hmo
  by_cases hbig : 300 < D.length
  · have d1 : decide ((300 : Int) < (D.length : Int)) = true := by simp; omega
    have d2 : (300 : Int) < (D.length : Int) := by omega
    clear hmr hbig
    go_enter Tryz.func3, Tryz.ntmps3
    go_upto_region 1 with (fail)
    rw [← HQ.out]
    generalize w.alloc (.cells #[.int .i64 sp, .int .u64 (mo : Int), .slice A D.length c0] 25) = w1 at *
    have q2 : w1.cell? ⟨Q, 2, none⟩ = some (.slice A D.length c0) := cell_row HA.out 2
    have HLV := Lib.hid (lives_any w1 (HT.out.below HB0.out HT.out.1))
    go_wp2_with (go_at_call 4; refine HLV.out.mono ?_; rintro e w2 ⟨rfl, hb2⟩)
    go_ret
    exact ⟨rfl, HB0.out.trans (hb2.mono HB0.out.size)⟩
  have d1 : decide ((300 : Int) < (D.length : Int)) = false := by simp; omega
  have d2 : ¬ (300 : Int) < (D.length : Int) := by omega
  obtain ⟨r, d, b, hb1, m1, m1', m2, m2', m3, m3', u1, u2, u3, u4, u5⟩ := more_facts more hmr
  have HL := Lib.hid (show D.length ≤ 300 by omega)
  clear hmr hbig
  obtain ⟨z, e0, hz1, hz2⟩ := is_zero r
  have HZ1 := Lib.hid hz1; have HZ2 := Lib.hid hz2
  clear hz1 hz2
  obtain ⟨nz, hnz0, hnz1, s1, s2, s3⟩ := nz_facts D.length b HL.out hb1
  obtain ⟨F, hF⟩ : ∃ F, F = if r = 0 then D ++ List.replicate nz 0 else D := ⟨_, rfl⟩
  have hFF := f_facts hF hnz1 HL.out HDD.out
  have HNZ := Lib.hid (And.intro hnz1 hnz0); have HF := Lib.hid hF; have HFL := Lib.hid hFF.1; have HFD := Lib.hid hFF.2
  have hl0 : ([] : List Nat).length + D.length ≤ 1000000 := le_big HL.out
  have hl1 : D.length + nz ≤ 1000000 := Nat.le_trans hnz1 (by decide)
  have HL0 := Lib.hid hl0; have HL1 := Lib.hid hl1
  clear hF hFF hnz1 hb1 hnz0 hl0 hl1
  go_enter Tryz.func3, Tryz.ntmps3
  go_upto_region 1 with (fail)
  rw [← HQ.out]
  generalize w.alloc (.cells #[.int .i64 sp, .int .u64 (mo : Int), .slice A D.length c0] 25) = w1 at *
  have q2 : w1.cell? ⟨Q, 2, none⟩ = some (.slice A D.length c0) := cell_row HA.out 2
  have f2 : w1.frozen? ⟨Q, 2, none⟩ = false := froz_row HA.out 2
  go_upto_if 19 with (fail)
  go_cut [] from 20 to 33 (fun wx => NCut w wx Q sp mo F)
  case first =>
    cases z with
    | true =>
      have hr0 := HZ1.out rfl
      have hQl : Q < w1.heap.size := (Array.getElem?_eq_some_iff.1 HA.out).1
      have hrd1 : S3.Rd w1.drew w.heap.size A D := HR.out.below (HB0.out.trans (Below.refl _ _).drew) (Nat.le_refl _)
      have HRD := Lib.hid hrd1; have HDL := Lib.hid (rfl : D.length = D.length); have HQL := Lib.hid hQl; have HR0 := Lib.hid hr0
      clear hrd1 hQl hr0
      have hlt := HQL.out
      go_upto_region 4 with (fail)
      go_region_law (first
        | ((refine S3.step_append_row (base := w1.heap.size) (v := .slice none 0 0) (D := []) rfl _ _ rfl (by rfl) (S3.row_nil _ _) (Nat.le_refl _) _ (by rfl) HDL.out HRD.out HL0.out ?_; intro v3 w3 hr3 ht3 ho3; rw [List.nil_append] at hr3; obtain ⟨A3, cap3, hv3⟩ := hr3.shape; subst hv3; (have c3 : w3.cell? ⟨Q, 2, none⟩ = some (.slice A D.length c0) := (ht3.cell hlt (by simp [Value.ownBlock])).trans q2); (have f3 : w3.frozen? ⟨Q, 2, none⟩ = false := (ht3.frozen hlt (by simp [Value.ownBlock])).trans f2)))
        | ((refine S3.step_zeros_row (base := w1.heap.size) (v := .slice A3 D.length cap3) (D := D) rfl _ _ rfl (by rfl) hr3 ht3.size (n := nz) (by simp [go_sem, s1, s2, s3]) HNZ.out.2 HL1.out ?_; intro v4 w4 hr4 ht4 ho4; obtain ⟨A4, cap4, hv4⟩ := hr4.shape; subst hv4; (have c4 : w4.cell? ⟨Q, 2, none⟩ = some (.slice A D.length c0) := (ht4.cell (Nat.lt_of_lt_of_le hlt ht3.size) (fun e => absurd (hr3.lt _ e).1 (Nat.not_le_of_lt hlt))).trans c3); (have f4 : w4.frozen? ⟨Q, 2, none⟩ = false := (ht4.frozen (Nat.lt_of_lt_of_le hlt ht3.size) (fun e => absurd (hr3.lt _ e).1 (Nat.not_le_of_lt hlt))).trans f3))))
      all_goals (have hFr := HF.out; rw [if_pos HR0.out] at hFr; have HG := Lib.hid (grown (sp := sp) (mo := mo) hFr HQ.out HA.out HB0.out HQL.out ht3 hr3 ht4 hr4); clear hFr ht3 hr3 ho3 ht4 hr4 ho4 c3 f3 c4 f4)
      all_goals (go_wp2_with fail; go_meet; exact HG.out)
    | false =>
      have hr0 := HZ2.out rfl
      go_wp2_with fail
      go_meet
      refine ⟨A, c0, ?_, ?_, HN.out.2, ?_, HB0.out⟩
      · rw [HF.out, if_neg hr0]; exact HA.out
      · rw [HF.out, if_neg hr0]; exact HN.out.1
      · rw [HF.out, if_neg hr0]; exact (HR.out.below HB0.out (Nat.le_refl _)).more HB0.out.size
  case rest =>
    obtain ⟨Af, cf, hq, hfc, hcm, hrf, hbf⟩ := hcut
    clear q2 f2
    have x0 : wc.cell? ⟨Q, 0, none⟩ = some (.int .i64 sp) := cell_row hq 0
    have x1 : wc.cell? ⟨Q, 1, none⟩ = some (.int .u64 (mo : Int)) := cell_row hq 1
    have x2 : wc.cell? ⟨Q, 2, none⟩ = some (.slice Af F.length cf) := cell_row hq 2
    have hql : Q < wc.heap.size := (Array.getElem?_eq_some_iff.1 hq).1
    have hle : ([] : List Nat).length + F.length ≤ 1000000 := Nat.le_trans (by simp) (Nat.le_trans HFL.out (by decide))
    have HRF := Lib.hid hrf; have HFC := Lib.hid (And.intro hfc hcm); have HBF := Lib.hid hbf; have HLE := Lib.hid hle; have HQL := Lib.hid hql; have HCQ := Lib.hid hq; have HDL := Lib.hid (rfl : F.length = F.length)
    clear hrf hfc hcm hbf hle hql hq
    go_upto_region 6 with (first
      | (at_builtin; refine S3.wpList_append_row (base := wc.heap.size) (v := .slice none 0 0) (D := []) rfl _ _ rfl (by rfl) (S3.row_nil _ _) (Nat.le_refl _) _ (by rfl) HDL.out HRF.out HLE.out ?_; intro v5 w5 hr5 ht5 ho5; rw [List.nil_append] at hr5; obtain ⟨A5, cap5, hv5⟩ := hr5.shape; subst hv5; skip))
    have b5 : Below wc.heap.size wc w5 := ht5.below (Nat.le_refl _) (fun k hk e => by simp [Value.ownBlock] at e)
    have y0 := (b5.cell (p := ⟨Q, 0, none⟩) HQL.out).trans x0
    have y1 := (b5.cell (p := ⟨Q, 1, none⟩) HQL.out).trans x1
    have y2 := (b5.cell (p := ⟨Q, 2, none⟩) HQL.out).trans x2
    have ha6 := heap_alloc_new w5 (.cells #[.int .i64 sp, .int .u64 (mo : Int), .slice A5 F.length cap5] 25)
    have b6 := below1 w5 (.cells #[.int .i64 sp, .int .u64 (mo : Int), .slice A5 F.length cap5] 25)
    obtain ⟨G, hG⟩ : ∃ G, G = w5.heap.size := ⟨_, rfl⟩
    rw [← hG] at ha6
    have HA6 := Lib.hid ha6; have B5 := Lib.hid b5; have B6 := Lib.hid b6; have HG := Lib.hid hG; have HR5 := Lib.hid hr5
    clear ha6 b5 b6 hG hr5 ht5 ho5 x0 x1 x2
    go_upto_region 7 with (fail)
    rw [← HG.out]
    generalize w5.alloc (.cells #[.int .i64 sp, .int .u64 (mo : Int), .slice A5 F.length cap5] 25) = w6 at *
    have z0 : w6.cell? ⟨G, 0, none⟩ = some (.int .i64 sp) := cell_row HA6.out 0
    have z1 : w6.cell? ⟨G, 1, none⟩ = some (.int .u64 (mo : Int)) := cell_row HA6.out 1
    have z2 : w6.cell? ⟨G, 2, none⟩ = some (.slice A5 F.length cap5) := cell_row HA6.out 2
    have hc5 := HR5.out.capsN
    have hwn := wnew_any (w := w6) sp mo cap5 hc5.2.1 hc5.2.2 HMO.out (HR5.out.rd.below B6.out (Nat.le_refl _)) B6.out.size HFD.out
    have HWN := Lib.hid hwn
    clear hwn hc5
    go_wp2_with (go_at_call 5; refine HWN.out.mono ?_; rintro e w7 ⟨v7, er7, rfl, hW7, hb7⟩)
    have hwr7 := wr_below (B := 0) HR5.out.wr HR5.out (B6.out.trans (hb7.mono B6.out.size))
    have b67 : Below wc.heap.size wc w7 := (B5.out.trans (B6.out.mono B5.out.size)).trans (hb7.mono (Nat.le_trans B5.out.size B6.out.size))
    have WR7 := Lib.hid hwr7; have B7 := Lib.hid b67; have HW7 := Lib.hid hW7
    have hlo : ∀ g, (Value.slice A5 F.length cap5).ownBlock = some g → wc.heap.size ≤ g ∧ g < w6.heap.size := fun g hg => ⟨(HR5.out.lt g hg).1, Nat.lt_of_lt_of_le (HR5.out.lt g hg).2 B6.out.size⟩
    have HLO := Lib.hid hlo
    clear hwr7 b67 hW7 hlo hb7 z0 z1 z2 y0 y1 y2
    go_wp2_with fail
    go_loopg [9] F.length (fun q s9 wx => ∃ k : Nat, k ≤ F.length ∧ q = F.length - k ∧ s9 = .int .i64 (k : Int) ∧ S3.Wr wx A5 F.length ∧ S3.Turns (fun j => (Value.slice A5 F.length cap5).ownBlock = some j) w7 wx)
    case atStart => exact ⟨0, Nat.zero_le _, rfl, rfl, WR7.out, S3.Turns.refl _ _⟩
    case round =>
      obtain ⟨k, hk, rfl, rfl, hwr, ht⟩ := hrel
      by_cases hkn : k < F.length
      · have hwr2 := hwr
        obtain ⟨g, o, rfl, hc⟩ := hwr (by omega)
        obtain ⟨hc1, hf⟩ := hc k hkn
        have hk2 : k < 65537 := Nat.lt_of_lt_of_le hkn HFL.out
        obtain ⟨u, hu⟩ := Option.isSome_iff_exists.1 hc1
        have hw2 := wr_set hwr2 ⟨g, o + k, none⟩ (.int .u64 7)
        have ht2 := ht.setCell ⟨g, o + k, none⟩ (.int .u64 7) rfl
        have HW2 := Lib.hid hw2; have HT2 := Lib.hid ht2; have HK := Lib.hid hkn
        clear hwr hwr2 hc hc1 hw2 ht2 ht
        go_wp2_with fail
        go_roundg (F.length - (k + 1))
        case measure => omega
        case rel => exact ⟨k + 1, HK.out, rfl, by go_num, HW2.out, HT2.out⟩
      · have hbr : Below wc.heap.size w7 wr := ht.below B7.out.size (fun k hk e => absurd (HLO.out _ e).1 (Nat.not_le_of_lt hk))
        have hb8 : Below wc.heap.size wc wr := B7.out.trans hbr
        have x0 : wr.cell? ⟨Q, 0, none⟩ = some (.int .i64 sp) := (hb8.cell (p := ⟨Q, 0, none⟩) HQL.out).trans (cell_row HCQ.out 0)
        have x1 : wr.cell? ⟨Q, 1, none⟩ = some (.int .u64 (mo : Int)) := (hb8.cell (p := ⟨Q, 1, none⟩) HQL.out).trans (cell_row HCQ.out 1)
        have x2 : wr.cell? ⟨Q, 2, none⟩ = some (.slice Af F.length cf) := (hb8.cell (p := ⟨Q, 2, none⟩) HQL.out).trans (cell_row HCQ.out 2)
        have hoc := S3.otherC_any (w := wr) sp (mo : Int) cf (HRF.out.below hb8 (Nat.le_refl _)) hb8.size (Nat.le_trans HFL.out (by decide))
        have HW8 := Lib.hid (wnewE_kept HW7.out ht (fun k e => (HLO.out k e).2))
        have HOC := Lib.hid hoc; have HB8 := Lib.hid hb8
        clear hbr hb8 hoc ht hwr
        go_upto_region 13 with (first
          | (go_at_call 7; refine HOC.out.mono ?_; rintro e w8 ⟨A8, c8, rfl, hn8, hc8, hr8, hb8⟩; have HRN := Lib.hid (rnew_any (w := w8) sp mo c8 hn8 hc8 HMO.out hr8.rd (Nat.le_refl _) HFD.out); have HB89 := Lib.hid hb8; clear hn8 hc8 hr8 hb8)
          | (go_at_call 6; refine HRN.out.mono ?_; rintro e w9 ⟨v9, er9, rfl, hR9, hb9⟩; skip))
        have HR9 := Lib.hid hR9; have B9 := Lib.hid hb9
        clear hR9 hb9
        have b29 : Below wc.heap.size wc w9 := (HB8.out.trans (HB89.out.mono HB8.out.size)).trans (B9.out.mono (Nat.le_trans HB8.out.size HB89.out.size))
        have b09 : Below w.heap.size w w9 := HBF.out.trans (b29.mono HBF.out.size)
        have B09 := Lib.hid b09
        clear b29 b09
        rcases HW8.out with ⟨k1, rfl, X, hX, hPX, hAX⟩ | ⟨k1, hX, rfl⟩
        · rcases HR9.out with ⟨j1, rfl, Y, hY, hPY, hAY, hrb⟩ | ⟨j1, hY, rfl⟩
          · obtain rfl : v7 = some ⟨X.wB, 0, none⟩ := by injection hX
            obtain rfl : v9 = some ⟨Y.wB, 0, none⟩ := by injection hY
            have hsp : 0 ≤ sp ∧ sp ≤ 16 := by simp [okC] at k1; omega
            have hbg := bg_second (w0 := w9) (hPX.new HB89.out) hAX hPY hAY hrb B9.out (Below.refl _ _) hsp
            have hbd := hbg.new (Below.refl w9.heap.size w9).drew
            have hpa := pair_all hbd (by omega) (by omega)
            have hlf := last_facts hbd hAX hAY
            have h06 : w.heap.size ≤ w6.heap.size := Nat.le_trans HBF.out.size (Nat.le_trans B5.out.size B6.out.size)
            have b9d : Below w.heap.size w w9.drew := B09.out.trans (Below.refl _ _).drew
            have HPA := Lib.hid hpa; have HC := Lib.hid hlf.1; have HD9 := Lib.hid hlf.2.1; have HD10 := Lib.hid hlf.2.2.1; have HNE := Lib.hid hlf.2.2.2
            have HLV := Lib.hid (fun (W : World) (b : Below w6.heap.size w9.drew W) => lives_any W (HT.out.below (b9d.trans (b.mono h06)) HT.out.1))
            have HFI := Lib.hid (fun (W : World) (b : Below w6.heap.size w9.drew W) => b9d.trans (b.mono h06))
            have H69 : Hid (w6.heap.size ≤ w9.drew.heap.size) := Lib.hid hbd.pr.size
            clear hX hY hPX hPY hAX hAY hrb hbg hbd hpa hlf hsp k1 j1 HW8 HR9 h06 b9d
            go_upto_region 17 with (fail)
            have hS0 : ∀ {W}, Below w9.drew.heap.size w9.drew W → Below w6.heap.size w9.drew W ∧ W.cell? ⟨X.wB, 6, none⟩ = some (.int .i64 sp) ∧ W.cell? ⟨Y.wB, 6, none⟩ = some (.int .i64 sp) ∧ W.cell? ⟨X.wB, 1, none⟩ = some (Pw X.kB) ∧ W.cell? ⟨Y.wB, 1, none⟩ = some (Pw Y.kB) := fun {W} b => ⟨b.mono H69.out, HC.out W b⟩
            have hcell : ∀ {W W' : World} {k : Nat}, Turns (fun q => q = k) W W' → X.wB < W.heap.size → Y.wB < W.heap.size → X.wB ≠ k → Y.wB ≠ k → (W.cell? ⟨X.wB, 6, none⟩ = some (.int .i64 sp) ∧ W.cell? ⟨Y.wB, 6, none⟩ = some (.int .i64 sp) ∧ W.cell? ⟨X.wB, 1, none⟩ = some (Pw X.kB) ∧ W.cell? ⟨Y.wB, 1, none⟩ = some (Pw Y.kB)) → W'.cell? ⟨X.wB, 6, none⟩ = some (.int .i64 sp) ∧ W'.cell? ⟨Y.wB, 6, none⟩ = some (.int .i64 sp) ∧ W'.cell? ⟨X.wB, 1, none⟩ = some (Pw X.kB) ∧ W'.cell? ⟨Y.wB, 1, none⟩ = some (Pw Y.kB) := fun t h1 h2 e1 e2 c => ⟨(t.cell (g := X.wB) (o := 6) h1 e1).trans c.1, (t.cell (g := Y.wB) (o := 6) h2 e2).trans c.2.1, (t.cell (g := X.wB) (o := 1) h1 e1).trans c.2.2.1, (t.cell (g := Y.wB) (o := 1) h2 e2).trans c.2.2.2⟩
            have hS1 : ∀ {W W' : World}, Below w9.drew.heap.size w9.drew W → Aft w9.drew W' w6.heap.size Y → Turns (fun k => k = X.kB) W W' → Below w6.heap.size w9.drew W' ∧ W'.cell? ⟨X.wB, 6, none⟩ = some (.int .i64 sp) ∧ W'.cell? ⟨Y.wB, 6, none⟩ = some (.int .i64 sp) ∧ W'.cell? ⟨X.wB, 1, none⟩ = some (Pw X.kB) ∧ W'.cell? ⟨Y.wB, 1, none⟩ = some (Pw Y.kB) := fun b a t => ⟨a.2.2.2, hcell t (Nat.lt_of_lt_of_le HNE.out.2.2.2.2.1 b.size) (Nat.lt_of_lt_of_le HNE.out.2.2.2.2.2 b.size) HNE.out.1 HNE.out.2.1 (HC.out _ b)⟩
            have hS2 : ∀ {W W' : World}, (Below w6.heap.size w9.drew W ∧ W.cell? ⟨X.wB, 6, none⟩ = some (.int .i64 sp) ∧ W.cell? ⟨Y.wB, 6, none⟩ = some (.int .i64 sp) ∧ W.cell? ⟨X.wB, 1, none⟩ = some (Pw X.kB) ∧ W.cell? ⟨Y.wB, 1, none⟩ = some (Pw Y.kB)) → Below w6.heap.size w9.drew W' → Turns (fun k => k = Y.kB) W W' → Below w6.heap.size w9.drew W' ∧ W'.cell? ⟨X.wB, 6, none⟩ = some (.int .i64 sp) ∧ W'.cell? ⟨Y.wB, 6, none⟩ = some (.int .i64 sp) ∧ W'.cell? ⟨X.wB, 1, none⟩ = some (Pw X.kB) ∧ W'.cell? ⟨Y.wB, 1, none⟩ = some (Pw Y.kB) := fun s b t => ⟨b, hcell t (Nat.lt_of_lt_of_le HNE.out.2.2.2.2.1 s.1.size) (Nat.lt_of_lt_of_le HNE.out.2.2.2.2.2 s.1.size) HNE.out.2.2.1 HNE.out.2.2.2.1 s.2⟩
            have hS3 : ∀ {W W' : World}, (Below w6.heap.size w9.drew W ∧ W.cell? ⟨X.wB, 6, none⟩ = some (.int .i64 sp) ∧ W.cell? ⟨Y.wB, 6, none⟩ = some (.int .i64 sp) ∧ W.cell? ⟨X.wB, 1, none⟩ = some (Pw X.kB) ∧ W.cell? ⟨Y.wB, 1, none⟩ = some (Pw Y.kB)) → Below W.heap.size W W' → Below w6.heap.size w9.drew W' ∧ W'.cell? ⟨X.wB, 6, none⟩ = some (.int .i64 sp) ∧ W'.cell? ⟨Y.wB, 6, none⟩ = some (.int .i64 sp) ∧ W'.cell? ⟨X.wB, 1, none⟩ = some (Pw X.kB) ∧ W'.cell? ⟨Y.wB, 1, none⟩ = some (Pw Y.kB) := fun {W W'} s b => ⟨s.1.trans (b.mono (Nat.le_trans H69.out s.1.size)), (b.cell (p := ⟨X.wB, 6, none⟩) (Nat.lt_of_lt_of_le HNE.out.2.2.2.2.1 s.1.size)).trans s.2.1, (b.cell (p := ⟨Y.wB, 6, none⟩) (Nat.lt_of_lt_of_le HNE.out.2.2.2.2.2 s.1.size)).trans s.2.2.1, (b.cell (p := ⟨X.wB, 1, none⟩) (Nat.lt_of_lt_of_le HNE.out.2.2.2.2.1 s.1.size)).trans s.2.2.2.1, (b.cell (p := ⟨Y.wB, 1, none⟩) (Nat.lt_of_lt_of_le HNE.out.2.2.2.2.2 s.1.size)).trans s.2.2.2.2⟩
            refine wp_region_held_drew (S := fun W => Below w6.heap.size w9.drew W ∧ W.cell? ⟨X.wB, 6, none⟩ = some (.int .i64 sp) ∧ W.cell? ⟨Y.wB, 6, none⟩ = some (.int .i64 sp) ∧ W.cell? ⟨X.wB, 1, none⟩ = some (Pw X.kB) ∧ W.cell? ⟨Y.wB, 1, none⟩ = some (Pw Y.kB)) (by kernel_rfl) ?_ (fun hHeld => ?_)
            · exact hS0 (Below.refl _ _)
            refine wpAnyH_take (i := 0) (oi := ({ dst := some 76, op := Op.move (Operand.tmp 7), type := 28, pos := "law.go:90", after := #[], guard := none } : Oper)) (v := ?vwn0) rfl (by kernel_rfl) (by kernel_rfl) (by kernel_rfl) (fun _ _ _ h => h) (Or.inl ⟨by rfl, fun w hSw => ?hywn0⟩) (by assumption) ?rwn0
            case hywn0 => (try dsimp only at hSw); go_simp; (try with_reducible rfl)
            (try simp only [Act.put, List.setIfInBounds_toArray, List.set_cons_zero, List.set_cons_succ])
            refine wpAnyH_take (i := 1) (oi := ({ dst := some 77, op := Op.move (Operand.tmp 10), type := 32, pos := "law.go:90", after := #[], guard := none } : Oper)) (v := ?vwn1) rfl (by kernel_rfl) (by kernel_rfl) (by kernel_rfl) (fun _ _ _ h => h) (Or.inl ⟨by rfl, fun w hSw => ?hywn1⟩) (by assumption) ?rwn1
            case hywn1 => (try dsimp only at hSw); go_simp; (try with_reducible rfl)
            (try simp only [Act.put, List.setIfInBounds_toArray, List.set_cons_zero, List.set_cons_succ])
            refine wpAnyH_take (i := 2) (oi := ({ dst := some 78, op := Op.build 38 #[(0, Operand.tmp 76), (1, Operand.tmp 77)], type := 38, pos := "law.go:90", after := #[{ on := 0, ground := Ground.data }, { on := 1, ground := Ground.data }], guard := none } : Oper)) (v := ?vwn2) rfl (by kernel_rfl) (by kernel_rfl) (by kernel_rfl) (fun _ _ _ h => h) (Or.inl ⟨by rfl, fun w hSw => ?hywn2⟩) (by assumption) ?rwn2
            case hywn2 => (try dsimp only at hSw); go_simp; (try with_reducible rfl)
            (try simp only [Act.put, List.setIfInBounds_toArray, List.set_cons_zero, List.set_cons_succ])
            refine wpAnyH_ready (rs := [3]) (by kernel_rfl) (by simp) ?_
            refine AllReadyH.cons (o := ({ dst := some 79, op := Op.call { callee := Callee.value (Operand.func 8), args := #[Operand.tmp 78], argTypes := #[38] }, type := 4, pos := "law.go:90", after := #[{ on := 2, ground := Ground.data }], guard := none } : Oper)) rfl (fun Kq hKq => ?_) AllReadyH.nil
            go_simp
            (refine HPA.out.mono ?_; rintro e w10 ⟨rfl, hb10⟩)
            refine hKq.out _ _ ?_ (fun hHeld => ?_)
            · exact hS0 hb10
            clear hKq Kq
            (try simp only [Act.put, List.setIfInBounds_toArray, List.set_cons_zero, List.set_cons_succ])
            refine wpAnyH_take (i := 4) (oi := ({ dst := some 80, op := Op.move (Operand.tmp 79), type := 4, pos := "law.go:90", after := #[{ on := 3, ground := Ground.data }, { on := 3, ground := Ground.chain }], guard := none } : Oper)) (v := ?vwn4) rfl (by kernel_rfl) (by kernel_rfl) (by kernel_rfl) (fun _ _ _ h => h) (Or.inl ⟨by rfl, fun w hSw => ?hywn4⟩) (by assumption) ?rwn4
            case hywn4 => (try dsimp only at hSw); go_simp; (try with_reducible rfl)
            (try simp only [Act.put, List.setIfInBounds_toArray, List.set_cons_zero, List.set_cons_succ])
            refine wpAnyH_take (i := 5) (oi := ({ dst := some 81, op := Op.move (Operand.tmp 7), type := 28, pos := "law.go:90", after := #[{ on := 4, ground := Ground.guard }], guard := some (4, true) } : Oper)) (v := ?vwn5) rfl (by kernel_rfl) (by kernel_rfl) (by kernel_rfl) (fun _ _ _ h => h) (Or.inl ⟨by rfl, fun w hSw => ?hywn5⟩) (by assumption) ?rwn5
            case hywn5 => (try dsimp only at hSw); go_simp; (try with_reducible rfl)
            (try simp only [Act.put, List.setIfInBounds_toArray, List.set_cons_zero, List.set_cons_succ])
            refine wpAnyH_take (i := 6) (oi := ({ dst := some 82, op := Op.nilCheck (Operand.tmp 81), type := 0, pos := "law.go:90", after := #[{ on := 5, ground := Ground.data }, { on := 4, ground := Ground.guard }], guard := some (4, true) } : Oper)) (v := ?vwn6) rfl (by kernel_rfl) (by kernel_rfl) (by kernel_rfl) (fun _ _ _ h => h) (Or.inl ⟨by rfl, fun w hSw => ?hywn6⟩) (by assumption) ?rwn6
            case hywn6 => (try dsimp only at hSw); go_simp; (try with_reducible rfl)
            (try simp only [Act.put, List.setIfInBounds_toArray, List.set_cons_zero, List.set_cons_succ])
            refine wpAnyH_take (i := 7) (oi := ({ dst := some 83, op := Op.fieldAddr 47 (Operand.tmp 82) 6, type := 0, pos := "law.go:90", after := #[{ on := 6, ground := Ground.data }, { on := 4, ground := Ground.guard }], guard := some (4, true) } : Oper)) (v := ?vwn7) rfl (by kernel_rfl) (by kernel_rfl) (by kernel_rfl) (fun _ _ _ h => h) (Or.inl ⟨by rfl, fun w hSw => ?hywn7⟩) (by assumption) ?rwn7
            case hywn7 => (try dsimp only at hSw); go_simp; (try with_reducible rfl)
            (try simp only [Act.put, List.setIfInBounds_toArray, List.set_cons_zero, List.set_cons_succ])
            refine wpAnyH_take (i := 8) (oi := ({ dst := some 84, op := Op.load 3 (Operand.tmp 83), type := 3, pos := "law.go:90", after := #[{ on := 7, ground := Ground.data }, { on := 4, ground := Ground.guard }], guard := some (4, true) } : Oper)) (v := ?vwn8) rfl (by kernel_rfl) (by kernel_rfl) (by kernel_rfl) (fun _ _ _ h => h) (Or.inl ⟨by rfl, fun w hSw => ?hywn8⟩) (by assumption) ?rwn8
            case hywn8 => (try dsimp only at hSw); go_simp; (try with_reducible rfl)
            (try simp only [Act.put, List.setIfInBounds_toArray, List.set_cons_zero, List.set_cons_succ])
            refine wpAnyH_take (i := 9) (oi := ({ dst := some 85, op := Op.move (Operand.tmp 10), type := 32, pos := "law.go:90", after := #[{ on := 4, ground := Ground.guard }], guard := some (4, true) } : Oper)) (v := ?vwn9) rfl (by kernel_rfl) (by kernel_rfl) (by kernel_rfl) (fun _ _ _ h => h) (Or.inl ⟨by rfl, fun w hSw => ?hywn9⟩) (by assumption) ?rwn9
            case hywn9 => (try dsimp only at hSw); go_simp; (try with_reducible rfl)
            (try simp only [Act.put, List.setIfInBounds_toArray, List.set_cons_zero, List.set_cons_succ])
            refine wpAnyH_take (i := 10) (oi := ({ dst := some 86, op := Op.nilCheck (Operand.tmp 85), type := 0, pos := "law.go:90", after := #[{ on := 9, ground := Ground.data }, { on := 4, ground := Ground.guard }], guard := some (4, true) } : Oper)) (v := ?vwn10) rfl (by kernel_rfl) (by kernel_rfl) (by kernel_rfl) (fun _ _ _ h => h) (Or.inl ⟨by rfl, fun w hSw => ?hywn10⟩) (by assumption) ?rwn10
            case hywn10 => (try dsimp only at hSw); go_simp; (try with_reducible rfl)
            (try simp only [Act.put, List.setIfInBounds_toArray, List.set_cons_zero, List.set_cons_succ])
            refine wpAnyH_take (i := 11) (oi := ({ dst := some 87, op := Op.fieldAddr 55 (Operand.tmp 86) 6, type := 0, pos := "law.go:90", after := #[{ on := 10, ground := Ground.data }, { on := 4, ground := Ground.guard }], guard := some (4, true) } : Oper)) (v := ?vwn11) rfl (by kernel_rfl) (by kernel_rfl) (by kernel_rfl) (fun _ _ _ h => h) (Or.inl ⟨by rfl, fun w hSw => ?hywn11⟩) (by assumption) ?rwn11
            case hywn11 => (try dsimp only at hSw); go_simp; (try with_reducible rfl)
            (try simp only [Act.put, List.setIfInBounds_toArray, List.set_cons_zero, List.set_cons_succ])
            refine wpAnyH_take (i := 12) (oi := ({ dst := some 88, op := Op.load 3 (Operand.tmp 87), type := 3, pos := "law.go:90", after := #[{ on := 11, ground := Ground.data }, { on := 4, ground := Ground.guard }], guard := some (4, true) } : Oper)) (v := ?vwn12) rfl (by kernel_rfl) (by kernel_rfl) (by kernel_rfl) (fun _ _ _ h => h) (Or.inl ⟨by rfl, fun w hSw => ?hywn12⟩) (by assumption) ?rwn12
            case hywn12 => (try dsimp only at hSw); go_simp; (try with_reducible rfl)
            (try simp only [Act.put, List.setIfInBounds_toArray, List.set_cons_zero, List.set_cons_succ])
            refine wpAnyH_take (i := 13) (oi := ({ dst := some 89, op := Op.binOp BinOp.eql 3 (Operand.tmp 84) (Operand.tmp 88) 3, type := 4, pos := "law.go:90", after := #[{ on := 8, ground := Ground.data }, { on := 12, ground := Ground.data }, { on := 4, ground := Ground.guard }], guard := some (4, true) } : Oper)) (v := ?vwn13) rfl (by kernel_rfl) (by kernel_rfl) (by kernel_rfl) (fun _ _ _ h => h) (Or.inl ⟨by rfl, fun w hSw => ?hywn13⟩) (by assumption) ?rwn13
            case hywn13 => (try dsimp only at hSw); go_simp; (try with_reducible rfl)
            (try simp only [Act.put, List.setIfInBounds_toArray, List.set_cons_zero, List.set_cons_succ])
            refine wpAnyH_take (i := 14) (oi := ({ dst := some 90, op := Op.pick (Operand.tmp 80) (Operand.tmp 89) (Operand.const (Value.bool false)), type := 4, pos := "law.go:90", after := #[{ on := 4, ground := Ground.data }, { on := 13, ground := Ground.data }], guard := none } : Oper)) (v := ?vwn14) rfl (by kernel_rfl) (by kernel_rfl) (by kernel_rfl) (fun _ _ _ h => h) (Or.inl ⟨by rfl, fun w hSw => ?hywn14⟩) (by assumption) ?rwn14
            case hywn14 => (try dsimp only at hSw); go_simp; (try with_reducible rfl)
            (try simp only [Act.put, List.setIfInBounds_toArray, List.set_cons_zero, List.set_cons_succ])
            refine wpAnyH_take (i := 15) (oi := ({ dst := some 91, op := Op.move (Operand.tmp 90), type := 4, pos := "law.go:90", after := #[{ on := 14, ground := Ground.data }, { on := 4, ground := Ground.chain }], guard := none } : Oper)) (v := ?vwn15) rfl (by kernel_rfl) (by kernel_rfl) (by kernel_rfl) (fun _ _ _ h => h) (Or.inl ⟨by rfl, fun w hSw => ?hywn15⟩) (by assumption) ?rwn15
            case hywn15 => (try dsimp only at hSw); go_simp; (try with_reducible rfl)
            (try simp only [Act.put, List.setIfInBounds_toArray, List.set_cons_zero, List.set_cons_succ])
            refine wpAnyH_take (i := 16) (oi := ({ dst := some 92, op := Op.move (Operand.tmp 7), type := 28, pos := "law.go:90", after := #[{ on := 15, ground := Ground.guard }], guard := some (15, true) } : Oper)) (v := ?vwn16) rfl (by kernel_rfl) (by kernel_rfl) (by kernel_rfl) (fun _ _ _ h => h) (Or.inl ⟨by rfl, fun w hSw => ?hywn16⟩) (by assumption) ?rwn16
            case hywn16 => (try dsimp only at hSw); go_simp; (try with_reducible rfl)
            (try simp only [Act.put, List.setIfInBounds_toArray, List.set_cons_zero, List.set_cons_succ])
            refine wpAnyH_take (i := 17) (oi := ({ dst := some 93, op := Op.nilCheck (Operand.tmp 92), type := 0, pos := "law.go:90", after := #[{ on := 16, ground := Ground.data }, { on := 15, ground := Ground.guard }], guard := some (15, true) } : Oper)) (v := ?vwn17) rfl (by kernel_rfl) (by kernel_rfl) (by kernel_rfl) (fun _ _ _ h => h) (Or.inl ⟨by rfl, fun w hSw => ?hywn17⟩) (by assumption) ?rwn17
            case hywn17 => (try dsimp only at hSw); go_simp; (try with_reducible rfl)
            (try simp only [Act.put, List.setIfInBounds_toArray, List.set_cons_zero, List.set_cons_succ])
            refine wpAnyH_take (i := 18) (oi := ({ dst := some 94, op := Op.fieldAddr 47 (Operand.tmp 93) 1, type := 0, pos := "law.go:90", after := #[{ on := 17, ground := Ground.data }, { on := 15, ground := Ground.guard }], guard := some (15, true) } : Oper)) (v := ?vwn18) rfl (by kernel_rfl) (by kernel_rfl) (by kernel_rfl) (fun _ _ _ h => h) (Or.inl ⟨by rfl, fun w hSw => ?hywn18⟩) (by assumption) ?rwn18
            case hywn18 => (try dsimp only at hSw); go_simp; (try with_reducible rfl)
            (try simp only [Act.put, List.setIfInBounds_toArray, List.set_cons_zero, List.set_cons_succ])
            refine wpAnyH_take (i := 19) (oi := ({ dst := some 95, op := Op.load 40 (Operand.tmp 94), type := 40, pos := "law.go:90", after := #[{ on := 18, ground := Ground.data }, { on := 15, ground := Ground.guard }], guard := some (15, true) } : Oper)) (v := ?vwn19) rfl (by kernel_rfl) (by kernel_rfl) (by kernel_rfl) (fun _ _ _ h => h) (Or.inl ⟨by rfl, fun w hSw => ?hywn19⟩) (by assumption) ?rwn19
            case hywn19 => (try dsimp only at hSw); go_simp; (try with_reducible rfl)
            (try simp only [Act.put, List.setIfInBounds_toArray, List.set_cons_zero, List.set_cons_succ])
            refine wpAnyH_take (i := 21) (oi := ({ dst := some 97, op := Op.move (Operand.tmp 10), type := 32, pos := "law.go:90", after := #[{ on := 15, ground := Ground.guard }], guard := some (15, true) } : Oper)) (v := ?vwn21) rfl (by kernel_rfl) (by kernel_rfl) (by kernel_rfl) (fun _ _ _ h => h) (Or.inl ⟨by rfl, fun w hSw => ?hywn21⟩) (by assumption) ?rwn21
            case hywn21 => (try dsimp only at hSw); go_simp; (try with_reducible rfl)
            (try simp only [Act.put, List.setIfInBounds_toArray, List.set_cons_zero, List.set_cons_succ])
            refine wpAnyH_take (i := 22) (oi := ({ dst := some 98, op := Op.nilCheck (Operand.tmp 97), type := 0, pos := "law.go:90", after := #[{ on := 21, ground := Ground.data }, { on := 15, ground := Ground.guard }], guard := some (15, true) } : Oper)) (v := ?vwn22) rfl (by kernel_rfl) (by kernel_rfl) (by kernel_rfl) (fun _ _ _ h => h) (Or.inl ⟨by rfl, fun w hSw => ?hywn22⟩) (by assumption) ?rwn22
            case hywn22 => (try dsimp only at hSw); go_simp; (try with_reducible rfl)
            (try simp only [Act.put, List.setIfInBounds_toArray, List.set_cons_zero, List.set_cons_succ])
            refine wpAnyH_take (i := 23) (oi := ({ dst := some 99, op := Op.fieldAddr 55 (Operand.tmp 98) 1, type := 0, pos := "law.go:90", after := #[{ on := 22, ground := Ground.data }, { on := 15, ground := Ground.guard }], guard := some (15, true) } : Oper)) (v := ?vwn23) rfl (by kernel_rfl) (by kernel_rfl) (by kernel_rfl) (fun _ _ _ h => h) (Or.inl ⟨by rfl, fun w hSw => ?hywn23⟩) (by assumption) ?rwn23
            case hywn23 => (try dsimp only at hSw); go_simp; (try with_reducible rfl)
            (try simp only [Act.put, List.setIfInBounds_toArray, List.set_cons_zero, List.set_cons_succ])
            refine wpAnyH_take (i := 24) (oi := ({ dst := some 100, op := Op.load 49 (Operand.tmp 99), type := 49, pos := "law.go:90", after := #[{ on := 23, ground := Ground.data }, { on := 15, ground := Ground.guard }], guard := some (15, true) } : Oper)) (v := ?vwn24) rfl (by kernel_rfl) (by kernel_rfl) (by kernel_rfl) (fun _ _ _ h => h) (Or.inl ⟨by rfl, fun w hSw => ?hywn24⟩) (by assumption) ?rwn24
            case hywn24 => (try dsimp only at hSw); go_simp; (try with_reducible rfl)
            (try simp only [Act.put, List.setIfInBounds_toArray, List.set_cons_zero, List.set_cons_succ])
            refine wpAnyH_ready (rs := [20]) (by kernel_rfl) (by simp) ?_
            refine AllReadyH.cons (o := ({ dst := some 96, op := Op.call { callee := Callee.value (Operand.func 9), args := #[Operand.tmp 95], argTypes := #[40] }, type := 22, pos := "law.go:90", after := #[{ on := 19, ground := Ground.data }, { on := 15, ground := Ground.chain }, { on := 15, ground := Ground.guard }], guard := some (15, true) } : Oper)) rfl (fun Kq hKq => ?_) AllReadyH.nil
            go_simp
            (refine (HD9.out _ hb10).mono ?_; rintro e w11 ⟨rfl, ha11, ht11⟩)
            refine hKq.out _ _ ?_ (fun hHeld => ?_)
            · exact hS1 hb10 ha11 ht11
            clear hKq Kq
            (try simp only [Act.put, List.setIfInBounds_toArray, List.set_cons_zero, List.set_cons_succ])
            refine wpAnyH_ready (rs := [25]) (by kernel_rfl) (by simp) ?_
            refine AllReadyH.cons (o := ({ dst := some 101, op := Op.call { callee := Callee.value (Operand.func 10), args := #[Operand.tmp 100], argTypes := #[49] }, type := 22, pos := "law.go:90", after := #[{ on := 24, ground := Ground.data }, { on := 20, ground := Ground.chain }, { on := 15, ground := Ground.guard }], guard := some (15, true) } : Oper)) rfl (fun Kq hKq => ?_) AllReadyH.nil
            go_simp
            (refine (HD10.out _ ha11).mono ?_; rintro e w12 ⟨rfl, hb12, ht12⟩)
            refine hKq.out _ _ ?_ (fun hHeld => ?_)
            · exact hS2 (hS1 hb10 ha11 ht11) hb12 ht12
            clear hKq Kq
            (try simp only [Act.put, List.setIfInBounds_toArray, List.set_cons_zero, List.set_cons_succ])
            refine wpAnyH_take (i := 26) (oi := ({ dst := some 102, op := Op.binOp BinOp.eql 22 (Operand.tmp 96) (Operand.tmp 101) 22, type := 4, pos := "law.go:90", after := #[{ on := 20, ground := Ground.data }, { on := 25, ground := Ground.data }, { on := 15, ground := Ground.guard }], guard := some (15, true) } : Oper)) (v := ?vwn26) rfl (by kernel_rfl) (by kernel_rfl) (by kernel_rfl) (fun _ _ _ h => h) (Or.inl ⟨by rfl, fun w hSw => ?hywn26⟩) (by assumption) ?rwn26
            case hywn26 => (try dsimp only at hSw); go_simp; (try with_reducible rfl)
            (try simp only [Act.put, List.setIfInBounds_toArray, List.set_cons_zero, List.set_cons_succ])
            refine wpAnyH_take (i := 27) (oi := ({ dst := some 103, op := Op.pick (Operand.tmp 91) (Operand.tmp 102) (Operand.const (Value.bool false)), type := 4, pos := "law.go:90", after := #[{ on := 15, ground := Ground.data }, { on := 26, ground := Ground.data }], guard := none } : Oper)) (v := ?vwn27) rfl (by kernel_rfl) (by kernel_rfl) (by kernel_rfl) (fun _ _ _ h => h) (Or.inl ⟨by rfl, fun w hSw => ?hywn27⟩) (by assumption) ?rwn27
            case hywn27 => (try dsimp only at hSw); go_simp; (try with_reducible rfl)
            (try simp only [Act.put, List.setIfInBounds_toArray, List.set_cons_zero, List.set_cons_succ])
            refine wpAnyH_take (i := 28) (oi := ({ dst := some 104, op := Op.move (Operand.tmp 103), type := 4, pos := "law.go:90", after := #[{ on := 27, ground := Ground.data }, { on := 25, ground := Ground.chain }], guard := none } : Oper)) (v := ?vwn28) rfl (by kernel_rfl) (by kernel_rfl) (by kernel_rfl) (fun _ _ _ h => h) (Or.inl ⟨by rfl, fun w hSw => ?hywn28⟩) (by assumption) ?rwn28
            case hywn28 => (try dsimp only at hSw); go_simp; (try with_reducible rfl)
            (try simp only [Act.put, List.setIfInBounds_toArray, List.set_cons_zero, List.set_cons_succ])
            refine wpAnyH_ready (rs := [29]) (by kernel_rfl) (by simp) ?_
            refine AllReadyH.cons (o := ({ dst := some 105, op := Op.call { callee := Callee.value (Operand.func 4), args := #[], argTypes := #[] }, type := 4, pos := "law.go:90", after := #[{ on := 28, ground := Ground.chain }, { on := 28, ground := Ground.guard }], guard := some (28, true) } : Oper)) rfl (fun Kq hKq => ?_) AllReadyH.nil
            go_simp
            (refine (HLV.out _ hb12).mono ?_; rintro e w13 ⟨rfl, hb13⟩)
            refine hKq.out _ _ ?_ (fun hHeld => ?_)
            · exact hS3 (hS2 (hS1 hb10 ha11 ht11) hb12 ht12) hb13
            clear hKq Kq
            (try simp only [Act.put, List.setIfInBounds_toArray, List.set_cons_zero, List.set_cons_succ])
            refine wpAnyH_take (i := 30) (oi := ({ dst := some 106, op := Op.pick (Operand.tmp 104) (Operand.tmp 105) (Operand.const (Value.bool false)), type := 4, pos := "law.go:90", after := #[{ on := 28, ground := Ground.data }, { on := 29, ground := Ground.data }], guard := none } : Oper)) (v := ?vwn30) rfl (by kernel_rfl) (by kernel_rfl) (by kernel_rfl) (fun _ _ _ h => h) (Or.inl ⟨by rfl, fun w hSw => ?hywn30⟩) (by assumption) ?rwn30
            case hywn30 => (try dsimp only at hSw); go_simp; (try with_reducible rfl)
            (try simp only [Act.put, List.setIfInBounds_toArray, List.set_cons_zero, List.set_cons_succ])
            refine wpAnyH_take (i := 31) (oi := ({ dst := some 4, op := Op.assign (Operand.tmp 106), type := 4, pos := "law.go:90", after := #[{ on := 30, ground := Ground.data }, { on := 29, ground := Ground.chain }, { on := 0, ground := Ground.phase }, { on := 1, ground := Ground.phase }, { on := 2, ground := Ground.phase }, { on := 3, ground := Ground.phase }, { on := 4, ground := Ground.phase }, { on := 5, ground := Ground.phase }, { on := 6, ground := Ground.phase }, { on := 7, ground := Ground.phase }, { on := 8, ground := Ground.phase }, { on := 9, ground := Ground.phase }, { on := 10, ground := Ground.phase }, { on := 11, ground := Ground.phase }, { on := 12, ground := Ground.phase }, { on := 13, ground := Ground.phase }, { on := 14, ground := Ground.phase }, { on := 15, ground := Ground.phase }, { on := 16, ground := Ground.phase }, { on := 17, ground := Ground.phase }, { on := 18, ground := Ground.phase }, { on := 19, ground := Ground.phase }, { on := 20, ground := Ground.phase }, { on := 21, ground := Ground.phase }, { on := 22, ground := Ground.phase }, { on := 23, ground := Ground.phase }, { on := 24, ground := Ground.phase }, { on := 25, ground := Ground.phase }, { on := 26, ground := Ground.phase }, { on := 27, ground := Ground.phase }, { on := 28, ground := Ground.phase }, { on := 29, ground := Ground.phase }, { on := 30, ground := Ground.phase }], guard := none } : Oper)) (v := ?vwn31) rfl (by kernel_rfl) (by kernel_rfl) (by kernel_rfl) (fun _ _ _ h => h) (Or.inl ⟨by rfl, fun w hSw => ?hywn31⟩) (by assumption) ?rwn31
            case hywn31 => (try dsimp only at hSw); go_simp; (try with_reducible rfl)
            (try simp only [Act.put, List.setIfInBounds_toArray, List.set_cons_zero, List.set_cons_succ])
            refine wpAnyH_done (by kernel_rfl) ?_ _
            go_wp2_with fail
            go_ret
            exact ⟨rfl, HFI.out _ hHeld.1⟩
          · rw [k1] at j1; cases j1
        · rcases HR9.out with ⟨j1, rfl, Y, hY, hPY, hAY, hrb⟩ | ⟨j1, hY, rfl⟩
          · rw [k1] at j1; cases j1
          · obtain rfl : v7 = none := by injection hX
            obtain rfl : v9 = none := by injection hY
            have HL4 := Lib.hid (lives_any w9 (HT.out.below B09.out HT.out.1))
            clear hX hY k1 j1 HW8 HR9
            go_wp2_with (first
              | (go_at_call 4; refine HL4.out.mono ?_; rintro e w10 ⟨rfl, hb10⟩; skip))
            go_ret
            exact ⟨rfl, B09.out.trans (hb10.mono B09.out.size)⟩
end Go.Proofs.YthafnphpcdbnlaaGreatDoor.S12
