/- The document's clock: more draws; a new one. -/
import Derived.Test.YtmnndheddlkbgaaC1
namespace Go.Proofs.Ytmnndheddlkbgaa
open Go.RowKit

theorem rleaves_more {w w3 w4 : World} {base R T most : Nat} {s s3 s4 : Value} {D F : List Nat} (h : RefAt w base R T most s D) (hN : Nums T most F) (ht3 : Turns (fun k => (Value.slice none 0 0).ownBlock = some k) w.drew w3) (ho3 : s3.ownBlock = (Value.slice none 0 0).ownBlock ∨ s3.ownBlock = some w.drew.heap.size)
    (hr4 : Row w4 base s4 F) (ht4 : Turns (fun k => s3.ownBlock = some k) w3 w4) (ho4 : s4.ownBlock = s3.ownBlock ∨ s4.ownBlock = some w3.heap.size) :
    RLeaves w (w4.setCell ⟨R, 1, none⟩ s4) base R T most s F := by
  have hz : w.drew.heap.size = w.heap.size := rfl
  have h3 : ∀ g, s3.ownBlock = some g → w.heap.size ≤ g := fun g e => by
    rcases ho3 with e' | e'
    · rw [e'] at e; simp [Value.ownBlock] at e
    · rw [e'] at e; injection e with e; omega
  have h4 : ∀ g, s4.ownBlock = some g → w.heap.size ≤ g := fun g e => by
    rcases ho4 with e' | e'
    · exact h3 g (e' ▸ e)
    · rw [e'] at e; injection e with e; have := ht3.size; omega
  have t3 : Turns (fun _ => False) w w3 := ⟨ht3.os, ht3.tape, ht3.output, ht3.size, fun k hk _ => ht3.block k hk (by simp [Value.ownBlock])⟩
  have t4 : Turns (fun _ => False) w w4 := t3.trans ht4 (fun k hk e => by have := h3 k e; omega)
  have t1 : Turns (fun k => k = R) w4 (w4.setCell ⟨R, 1, none⟩ s4) := (Turns.refl _ _).setCell _ _ rfl
  have hne4 : s4.ownBlock ≠ some R := fun e => by have := h4 R e; have := h.lt; omega
  refine ⟨s4, ⟨hN, ?_, hr4.keep t1 (fun g hg e => hne4 (by rw [hg, e])), hne4⟩, fun g hg => .inr (h4 g hg), (t4.mono (fun _ _ e => e.elim)).trans t1 (fun k _ e => e)⟩
  exact row_set ((t4.block R h.lt (fun e => e)).trans h.row) 1 _
theorem own_not {w : World} {s3 : Value} {R : Nat} (ho3 : s3.ownBlock = (Value.slice none 0 0).ownBlock ∨ s3.ownBlock = some w.drew.heap.size) (h : R < w.heap.size) : ¬ s3.ownBlock = some R := fun e => by
  have hz : w.drew.heap.size = w.heap.size := rfl
  rcases ho3 with e' | e'
  · rw [e'] at e; simp [Value.ownBlock] at e
  · rw [e'] at e; injection e with e; omega
attribute [local go_sem ↓] Go.wp_at_zero Go.wp_at_succ
set_option maxHeartbeats 4000000 in
set_option maxRecDepth 100000 in
theorem rmore_any {w : World} {base R T most : Nat} {s : Value} {D : List Nat} (h : RefAt w base R T most s D) (hbase : base ≤ w.heap.size) {b2 : Nat} {A : Option Addr} {E : List Nat} (c : Nat) (hn : E.length ≤ c) (hc : c ≤ 9223372036854775807) (hr : Rd w b2 A E) (hb2 : b2 ≤ w.heap.size) (hE : ∀ d ∈ E, d ≤ 18446744073709551615) :
    Calls Try.prog 15 #[Pt R, .slice A E.length c] w fun e w' => e = .returned (.tuple #[]) ∧ RLeaves w w' base R T most s (D ++ E.take (65536 - D.length)) := by
  have c2 : w.cell? ⟨R, 1, none⟩ = some s := cell_row h.row 1
  have f2 : w.frozen? ⟨R, 1, none⟩ = false := froz_row h.row 1
  have hlen := h.nums.len
  have hlt := h.lt
  obtain ⟨K, hK⟩ : ∃ K, K = (E.take (65536 - D.length)).length := ⟨_, rfl⟩
  have hKE : K = min E.length (65536 - D.length) := by rw [hK, List.length_take, Nat.min_comm]
  have hKc : K ≤ c := by omega
  have hl2 : D.length + (E.take (65536 - D.length)).length ≤ 1000000 := by rw [← hK]; omega
  have hl1 : ([] : List Nat).length + D.length ≤ 1000000 := by simp; omega
  have hrd := hr.take (65536 - D.length)
  have hN := h.nums.more hE
  obtain ⟨F, hF⟩ : ∃ F, F = D ++ E.take (65536 - D.length) := ⟨_, rfl⟩
  rw [← hF] at hN ⊢
  have HF := Lib.hid hF
  clear hF
  have hfin := fun w3 w4 s3 s4 => rleaves_more (w3 := w3) (w4 := w4) (s3 := s3) (s4 := s4) h hN
  obtain ⟨A0, cap, hs⟩ := h.own.shape
  subst hs
  have hrow := h.own.rd
  have HDD := Lib.hid (rfl : D.length = D.length)
  have HFIN := Lib.hid hfin; have HK := Lib.hid hK; have HKE := Lib.hid hKE; have HL2 := Lib.hid hl2; have HL1 := Lib.hid hl1; have HRD := Lib.hid hrd; have HROW := Lib.hid hrow; have HBS := Lib.hid hbase; have HB2 := Lib.hid hb2
  have hwr : IntKind.i64.wrap (65536 - (D.length : Int)) = 65536 - (D.length : Int) := by rw [IntKind.wrap_i64]; omega
  clear hfin hK hKE hl2 hl1 hrd hN hrow hbase hb2 h hr hE
  go_enter Try.func15, Try.ntmps15
  go_upto_region 0 with (fail)
  go_cut [4] from 5 to 13 (fun s wx => s = .int .i64 (K : Nat) ∧ w = wx)
  case first =>
    by_cases hle : E.length ≤ 65536 - D.length
    · go_wp2_with fail
      go_meet
      refine ⟨?_, rfl⟩
      have := HKE.out
      show Value.int _ _ = _
      congr 1
      omega
    · go_wp2_with fail
      go_meet
      refine ⟨?_, rfl⟩
      have := HKE.out
      show Value.int _ _ = _
      congr 1
      omega
  case rest =>
    obtain ⟨rfl, rfl⟩ := hcut
    have hk0 : (0 : Int) ≤ (K : Int) := by omega
    have hkc : (K : Int) ≤ (c : Int) := by omega
    go_upto_region 1 with (fail)
    go_region_law (first
      | ((refine step_append_row (base := base) (v := .slice none 0 0) (D := []) rfl _ _ rfl (by rfl) (row_nil _ _) HBS.out _ (by rfl) HDD.out HROW.out.drew HL1.out ?_; intro v3 w3 hr3 ht3 ho3; rw [List.nil_append] at hr3; obtain ⟨A3, cap3, hv3⟩ := hr3.shape; subst hv3; (have c3 : w3.cell? ⟨R, 1, none⟩ = some (.slice A0 D.length cap) := (ht3.cell hlt (by simp [Value.ownBlock])).trans c2); (have f3 : w3.frozen? ⟨R, 1, none⟩ = false := (ht3.frozen hlt (by simp [Value.ownBlock])).trans f2)))
      | ((refine step_append_row (base := base) (v := .slice A3 D.length cap3) (D := D) rfl _ _ rfl (by rfl) hr3 (Nat.le_trans HBS.out ht3.size) _ (by rfl) HK.out (HRD.out.drew.kept ht3 HB2.out (fun k _ => by simp [Value.ownBlock])) HL2.out ?_; intro v4 w4 hr4 ht4 ho4; rw [← HF.out] at hr4; obtain ⟨A4, cap4, hv4⟩ := hr4.shape; subst hv4; (have hn3 := own_not ho3 hlt); (have hl3 := Nat.lt_of_lt_of_le hlt ht3.size); (have c4 : w4.cell? ⟨R, 1, none⟩ = some (.slice A0 D.length cap) := (ht4.cell hl3 hn3).trans c3); (have f4 : w4.frozen? ⟨R, 1, none⟩ = false := (ht4.frozen hl3 hn3).trans f3))))
    all_goals
      go_end0
      exact ⟨rfl, HFIN.out _ _ _ _ ht3 ho3 hr4 ht4 ho4⟩
def RMade (w : World) (T most : Nat) (D : List Nat) (e : Ending) (w' : World) : Prop := ∃ R s, e = .returned (Pt R) ∧ w.heap.size ≤ R ∧ RefAt w' w.heap.size R T most s D ∧ Below w.heap.size w w'
theorem rmade_new {w w' : World} {most : Nat} {F : List Nat} {s : Value} (l : RLeaves (w.alloc (.cells #[.int .u64 0, .slice none 0 0, .int .u64 most] 50)) w' w.heap.size w.heap.size 0 most s F) : RMade w 0 most F (.returned (Pt w.heap.size)) w' := by
  obtain ⟨s', h, _, t⟩ := l
  exact ⟨_, s', rfl, Nat.le_refl _, h, ((Below.refl _ _).alloc (Nat.le_refl _) _).trans (t.below (by simp) (fun k hk e => by omega))⟩
set_option maxHeartbeats 1000000 in
theorem rnew_any {w : World} {b2 : Nat} {A : Option Addr} {D : List Nat} (c most : Nat) (hn : D.length ≤ c) (hc : c ≤ 9223372036854775807) (hm : most ≤ 18446744073709551615) (hr : Rd w b2 A D) (hb2 : b2 ≤ w.heap.size) (hD : ∀ d ∈ D, d ≤ 18446744073709551615) :
    Calls Try.prog 9 #[.slice A D.length c, .int .u64 most] w (RMade w 0 most (D.take 65536)) := by
  have ba : Below w.heap.size w (w.alloc (.cells #[.int .u64 0, .slice none 0 0, .int .u64 most] 50)) := (Below.refl _ _).alloc (Nat.le_refl _) _
  have r0 : RefAt (w.alloc (.cells #[.int .u64 0, .slice none 0 0, .int .u64 most] 50)) w.heap.size w.heap.size 0 most (.slice none 0 0) [] :=
    ⟨⟨by omega, hm, by simp, by simp⟩, heap_alloc_new w _, row_nil _ _, by simp [Value.ownBlock]⟩
  have hmo := rmore_any r0 (by simp) c hn hc (hr.below ba hb2) (Nat.le_trans hb2 ba.size) hD
  simp only [List.nil_append, List.length_nil, Nat.sub_zero] at hmo
  have hfin := fun w' s => rmade_new (w := w) (w' := w') (most := most) (F := D.take 65536) (s := s)
  have HMO := Lib.hid hmo; have HFIN := Lib.hid hfin
  clear hmo hfin ba r0 hr hD
  generalize D.take 65536 = F at *
  go_enter Try.func9, Try.ntmps9
  go_wp2_with (first
    | (go_at_call 15; refine HMO.out.mono ?_; rintro e w1 ⟨rfl, hl⟩))
  go_ret
  exact HFIN.out _ _ hl
end Go.Proofs.Ytmnndheddlkbgaa
