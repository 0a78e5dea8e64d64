/- Texts of this seat, one behind the other. -/
import Derived.Test.YtpmafdggbeppcaaGreatDoorMLawVoid1824
import Derived.Test.YtpmafdggbeppcaaGreatDoorMLawVoid1829
set_option linter.unusedVariables false
set_option linter.unusedSimpArgs false
namespace Go.Proofs.YtpmafdggbeppcaaGreatDoor.S2
set_option maxRecDepth 100000
set_option maxHeartbeats 16000000
open Go.Proofs.YtpmafdggbeppcaaGreatDoor
open Go.RowKit Go.Maps
theorem rstore_any (w : World) (base R : Nat) (s : Value) (L : LL) (n k0 a0 was is a v : Nat) (h : RefAt w base R s L n k0 a0 was is) (hbase : base ≤ w.heap.size) (ha : a < 4294967296) (hn : n < 4611686018427387904) (hv : v < 18446744073709551616) :
    Calls Tryz.prog 115 #[Pt R, .int .u32 a, .int .u64 v] w fun e w' => e = .returned (.int .u64 (look L a : Nat)) ∧ RLeft w w' base R (putL L a (bring a (v))) (n + 1) 2 a (look L a) (bring a (v)) := by
  have hl := look_lt h.good a
  have hc := racc_any w base R s L n k0 a0 was is 2 a (v) h hbase ha hn (hv)
  generalize look L a = l at *
  have HC := Lib.hid hc
  clear hc h
  go_enter Tryz.func115, Tryz.ntmps115
  go_wp2_with (first
      | (go_at_call 138; refine HC.out.mono ?_; rintro e w' ⟨rfl, hr⟩; (have HR := Lib.hid hr; clear hr)))
  go_ret
  exact ⟨rfl, HR.out⟩
theorem RefAt.kept {S : Nat → Prop} {w w' : World} {base R : Nat} {s : Value} {L : LL} {n k a was is : Nat} (h : RefAt w base R s L n k a was is) (t : Turns S w w') (hR : ¬ S R) (hs : ∀ g, s.ownBlock = some g → ¬ S g) : RefAt w' base R s L n k a was is :=
  ⟨h.good, (t.block R (Array.getElem?_eq_some_iff.1 h.row).1 hR).trans h.row, row_keep h.own t hs, h.ne⟩
theorem RefAt.lt {w : World} {base R : Nat} {s : Value} {L : LL} {n k a was is : Nat} (h : RefAt w base R s L n k a was is) : R < w.heap.size := (Array.getElem?_eq_some_iff.1 h.row).1
structure Both (w : World) (base B R : Nat) (L : LL) (n k a was is : Nat) : Prop where
  size : base ≤ w.heap.size
  fb : base ≤ B
  fr : base ≤ R
  ne : R ≠ B
  byt : Byt L
  own : ∃ M s, CellsAt w B M L n k a was is ∧ RefAt w base R s L n k a was is ∧ (∀ m, M = some m → base ≤ m ∧ m ≠ R ∧ s.ownBlock ≠ some m) ∧ s.ownBlock ≠ some B
end Go.Proofs.YtpmafdggbeppcaaGreatDoor.S2
namespace Go.Proofs.YtpmafdggbeppcaaGreatDoor.S3
open Go.Proofs.YtpmafdggbeppcaaGreatDoor
open Go.RowKit
structure RefAt (w : World) (base R T most : Nat) (s : Value) (D : List Nat) : Prop where
  nums : Nums T most D
  row : w.heap[R]? = some (.cells #[.int .u64 T, s, .int .u64 most] 160 (0, 0))
  own : Row w base s D
  ne : s.ownBlock ≠ some R
section
variable {w w' : World} {base R T most : Nat} {s : Value} {D : List Nat}
theorem RefAt.lt (h : RefAt w base R T most s D) : R < w.heap.size := (Array.getElem?_eq_some_iff.1 h.row).1
theorem RefAt.kept {S : Nat → Prop} (h : RefAt w base R T most s D) (t : Turns S w w') (hR : ¬ S R) (hs : ∀ g, s.ownBlock = some g → ¬ S g) : RefAt w' base R T most s D :=
  ⟨h.nums, (t.block R h.lt hR).trans h.row, h.own.keep t hs, h.ne⟩
theorem rtick_any (h : RefAt w base R T most s D) (n : Nat) (hn : n ≤ 18446744073709551615) : Calls Tryz.prog 93 #[Pt R, .int .u64 n] w fun e w' => e = .returned (.tuple #[]) ∧ RefAt w' base R (sat T n) most s D ∧ Turns (fun k => k = R) w w' := by
  have c0 : w.cell? ⟨R, 0, none⟩ = some (.int .u64 T) := cell_row h.row 0
  have f0 : w.frozen? ⟨R, 0, none⟩ = false := froz_row h.row 0
  have hq := fun W => plus_any T n h.nums.t hn W
  have hN := h.nums.tick (n := n)
  have HQ := Lib.hid hq
  have H := Lib.hid h
  have HN := Lib.hid hN
  clear hq hn h hN
  generalize sat T n = x at *
  go_enter Tryz.func93, Tryz.ntmps93
  go_wp2_with (first
    | (go_at_call 126; refine (HQ.out _).mono ?_; rintro e w' ⟨rfl, rfl⟩))
  go_end0
  have t : Turns (fun k => k = R) w (w.setCell ⟨R, 0, none⟩ (.int .u64 x)) := (Turns.refl _ w).setCell _ _ rfl
  exact ⟨rfl, ⟨HN.out, row_set H.out.row 0 _, H.out.own.keep t (fun g hg e => H.out.ne (by rw [hg, e])), H.out.ne⟩, t⟩
def RLeaves (w w' : World) (base R T most : Nat) (s : Value) (D : List Nat) : Prop := ∃ s', RefAt w' base R T most s' D ∧ (∀ g, s'.ownBlock = some g → s.ownBlock = some g ∨ w.heap.size ≤ g) ∧ Turns (fun k => k = R) w w'
end
end Go.Proofs.YtpmafdggbeppcaaGreatDoor.S3
namespace Go.Proofs.YtpmafdggbeppcaaGreatDoor.S3
set_option maxRecDepth 100000
set_option maxHeartbeats 16000000
open Go.Proofs.YtpmafdggbeppcaaGreatDoor
open Go.RowKit
theorem rleaves_more {w w3 w4 : World} {base R T most : Nat} {s s3 s4 : Value} {D F : List Nat} (h : RefAt w base R T most s D) (hN : Nums T most F) (ht3 : Turns (fun k => (Value.slice none 0 0).ownBlock = some k) w.drew w3) (ho3 : s3.ownBlock = (Value.slice none 0 0).ownBlock ∨ s3.ownBlock = some w.drew.heap.size)
    (hr4 : Row w4 base s4 F) (ht4 : Turns (fun k => s3.ownBlock = some k) w3 w4) (ho4 : s4.ownBlock = s3.ownBlock ∨ s4.ownBlock = some w3.heap.size) :
    RLeaves w (w4.setCell ⟨R, 1, none⟩ s4) base R T most s F := by
  have hz : w.drew.heap.size = w.heap.size := rfl
  have h3 : ∀ g, s3.ownBlock = some g → w.heap.size ≤ g := fun g e => by
    rcases ho3 with e' | e'
    · rw [e'] at e; simp [Value.ownBlock] at e
    · rw [e'] at e; injection e with e; omega
  have h4 : ∀ g, s4.ownBlock = some g → w.heap.size ≤ g := fun g e => by
    rcases ho4 with e' | e'
    · exact h3 g (e' ▸ e)
    · rw [e'] at e; injection e with e; have := ht3.size; omega
  have t3 : Turns (fun _ => False) w w3 := ⟨ht3.os, ht3.tape, ht3.output, ht3.size, fun k hk _ => ht3.block k hk (by simp [Value.ownBlock])⟩
  have t4 : Turns (fun _ => False) w w4 := t3.trans ht4 (fun k hk e => by have := h3 k e; omega)
  have t1 : Turns (fun k => k = R) w4 (w4.setCell ⟨R, 1, none⟩ s4) := (Turns.refl _ _).setCell _ _ rfl
  have hne4 : s4.ownBlock ≠ some R := fun e => by have := h4 R e; have := h.lt; omega
  refine ⟨s4, ⟨hN, ?_, hr4.keep t1 (fun g hg e => hne4 (by rw [hg, e])), hne4⟩, fun g hg => .inr (h4 g hg), (t4.mono (fun _ _ e => e.elim)).trans t1 (fun k _ e => e)⟩
  exact row_set ((t4.block R h.lt (fun e => e)).trans h.row) 1 _
theorem own_not {w : World} {s3 : Value} {R : Nat} (ho3 : s3.ownBlock = (Value.slice none 0 0).ownBlock ∨ s3.ownBlock = some w.drew.heap.size) (h : R < w.heap.size) : ¬ s3.ownBlock = some R := fun e => by
  have hz : w.drew.heap.size = w.heap.size := rfl
  rcases ho3 with e' | e'
  · rw [e'] at e; simp [Value.ownBlock] at e
  · rw [e'] at e; injection e with e; omega
attribute [local go_sem ↓] Go.wp_at_zero Go.wp_at_succ
theorem rmore_any {w : World} {base R T most : Nat} {s : Value} {D : List Nat} (h : RefAt w base R T most s D) (hbase : base ≤ w.heap.size) {b2 : Nat} {A : Option Addr} {E : List Nat} (c : Nat) (hn : E.length ≤ c) (hc : c ≤ 9223372036854775807) (hr : Rd w b2 A E) (hb2 : b2 ≤ w.heap.size) (hE : ∀ d ∈ E, d ≤ 18446744073709551615) :
    Calls Tryz.prog 116 #[Pt R, .slice A E.length c] w fun e w' => e = .returned (.tuple #[]) ∧ RLeaves w w' base R T most s (D ++ E.take (65536 - D.length)) := by
  have c2 : w.cell? ⟨R, 1, none⟩ = some s := cell_row h.row 1
  have f2 : w.frozen? ⟨R, 1, none⟩ = false := froz_row h.row 1
  have hlen := h.nums.len
  have hlt := h.lt
  obtain ⟨K, hK⟩ : ∃ K, K = (E.take (65536 - D.length)).length := ⟨_, rfl⟩
  have hKE : K = min E.length (65536 - D.length) := by rw [hK, List.length_take, Nat.min_comm]
  have hKc : K ≤ c := by omega
  have hl2 : D.length + (E.take (65536 - D.length)).length ≤ 3000000 := by rw [← hK]; omega
  have hl1 : ([] : List Nat).length + D.length ≤ 3000000 := by simp; omega
  have hrd := hr.take (65536 - D.length)
  have hN := h.nums.more hE
  obtain ⟨F, hF⟩ : ∃ F, F = D ++ E.take (65536 - D.length) := ⟨_, rfl⟩
  rw [← hF] at hN ⊢
  have HF := Lib.hid hF
  clear hF
  have hfin := fun w3 w4 s3 s4 => rleaves_more (w3 := w3) (w4 := w4) (s3 := s3) (s4 := s4) h hN
  obtain ⟨A0, cap, hs⟩ := h.own.shape
  subst hs
  have hrow := h.own.rd
  have HDD := Lib.hid (rfl : D.length = D.length)
  have HFIN := Lib.hid hfin; have HK := Lib.hid hK; have HKE := Lib.hid hKE; have HL2 := Lib.hid hl2; have HL1 := Lib.hid hl1; have HRD := Lib.hid hrd; have HROW := Lib.hid hrow; have HBS := Lib.hid hbase; have HB2 := Lib.hid hb2
  have hwr : IntKind.i64.wrap (65536 - (D.length : Int)) = 65536 - (D.length : Int) := by rw [IntKind.wrap_i64]; omega
  clear hfin hK hKE hl2 hl1 hrd hN hrow hbase hb2 h hr hE
  go_enter Tryz.func116, Tryz.ntmps116
  go_upto_region 0 with (fail)
  go_cut [4] from 5 to 13 (fun s wx => s = .int .i64 (K : Nat) ∧ w = wx)
  case first =>
    by_cases hle : E.length ≤ 65536 - D.length
    · go_wp2_with fail
      go_meet
      refine ⟨?_, rfl⟩
      have := HKE.out
      show Value.int _ _ = _
      congr 1
      omega
    · go_wp2_with fail
      go_meet
      refine ⟨?_, rfl⟩
      have := HKE.out
      show Value.int _ _ = _
      congr 1
      omega
  case rest =>
    obtain ⟨rfl, rfl⟩ := hcut
    have hk0 : (0 : Int) ≤ (K : Int) := by omega
    have hkc : (K : Int) ≤ (c : Int) := by omega
    go_upto_region 1 with (fail)
    go_region_law (first
      | ((refine step_append_row (base := base) (v := .slice none 0 0) (D := []) rfl _ _ rfl (by rfl) (row_nil _ _) HBS.out _ (by rfl) HDD.out HROW.out.drew HL1.out ?_; intro v3 w3 hr3 ht3 ho3; rw [List.nil_append] at hr3; obtain ⟨A3, cap3, hv3⟩ := hr3.shape; subst hv3; (have c3 : w3.cell? ⟨R, 1, none⟩ = some (.slice A0 D.length cap) := (ht3.cell hlt (by simp [Value.ownBlock])).trans c2); (have f3 : w3.frozen? ⟨R, 1, none⟩ = false := (ht3.frozen hlt (by simp [Value.ownBlock])).trans f2)))
      | ((refine step_append_row (base := base) (v := .slice A3 D.length cap3) (D := D) rfl _ _ rfl (by rfl) hr3 (Nat.le_trans HBS.out ht3.size) _ (by rfl) HK.out (HRD.out.drew.kept ht3 HB2.out (fun k _ => by simp [Value.ownBlock])) HL2.out ?_; intro v4 w4 hr4 ht4 ho4; rw [← HF.out] at hr4; obtain ⟨A4, cap4, hv4⟩ := hr4.shape; subst hv4; (have hn3 := own_not ho3 hlt); (have hl3 := Nat.lt_of_lt_of_le hlt ht3.size); (have c4 : w4.cell? ⟨R, 1, none⟩ = some (.slice A0 D.length cap) := (ht4.cell hl3 hn3).trans c3); (have f4 : w4.frozen? ⟨R, 1, none⟩ = false := (ht4.frozen hl3 hn3).trans f3))))
    all_goals
      go_end0
      exact ⟨rfl, HFIN.out _ _ _ _ ht3 ho3 hr4 ht4 ho4⟩
def RMade (w : World) (T most : Nat) (D : List Nat) (e : Ending) (w' : World) : Prop := ∃ R s, e = .returned (Pt R) ∧ w.heap.size ≤ R ∧ RefAt w' w.heap.size R T most s D ∧ Below w.heap.size w w'
theorem rmade_new {w w' : World} {most : Nat} {F : List Nat} {s : Value} (l : RLeaves (w.alloc (.cells #[.int .u64 0, .slice none 0 0, .int .u64 most] 160)) w' w.heap.size w.heap.size 0 most s F) : RMade w 0 most F (.returned (Pt w.heap.size)) w' := by
  obtain ⟨s', h, _, t⟩ := l
  exact ⟨_, s', rfl, Nat.le_refl _, h, ((Below.refl _ _).alloc (Nat.le_refl _) _).trans (t.below (by simp) (fun k hk e => by omega))⟩
theorem rnew_any {w : World} {b2 : Nat} {A : Option Addr} {D : List Nat} (c most : Nat) (hn : D.length ≤ c) (hc : c ≤ 9223372036854775807) (hm : most ≤ 18446744073709551615) (hr : Rd w b2 A D) (hb2 : b2 ≤ w.heap.size) (hD : ∀ d ∈ D, d ≤ 18446744073709551615) :
    Calls Tryz.prog 74 #[.slice A D.length c, .int .u64 most] w (RMade w 0 most (D.take 65536)) := by
  have ba : Below w.heap.size w (w.alloc (.cells #[.int .u64 0, .slice none 0 0, .int .u64 most] 160)) := (Below.refl _ _).alloc (Nat.le_refl _) _
  have r0 : RefAt (w.alloc (.cells #[.int .u64 0, .slice none 0 0, .int .u64 most] 160)) w.heap.size w.heap.size 0 most (.slice none 0 0) [] :=
    ⟨⟨by omega, hm, by simp, by simp⟩, heap_alloc_new w _, row_nil _ _, by simp [Value.ownBlock]⟩
  have hmo := rmore_any r0 (by simp) c hn hc (hr.below ba hb2) (Nat.le_trans hb2 ba.size) hD
  simp only [List.nil_append, List.length_nil, Nat.sub_zero] at hmo
  have hfin := fun w' s => rmade_new (w := w) (w' := w') (most := most) (F := D.take 65536) (s := s)
  have HMO := Lib.hid hmo; have HFIN := Lib.hid hfin
  clear hmo hfin ba r0 hr hD
  generalize D.take 65536 = F at *
  go_enter Tryz.func74, Tryz.ntmps74
  go_wp2_with (first
    | (go_at_call 116; refine HMO.out.mono ?_; rintro e w1 ⟨rfl, hl⟩))
  go_ret
  exact HFIN.out _ _ hl
end Go.Proofs.YtpmafdggbeppcaaGreatDoor.S3
namespace Go.Proofs.YtpmafdggbeppcaaGreatDoor.S11
open Go.Proofs.YtpmafdggbeppcaaGreatDoor
open Go.RowKit
end Go.Proofs.YtpmafdggbeppcaaGreatDoor.S11
