/- Texts of this seat, one behind the other. -/
import Derived.Test.YthafnphpcdbnlaaGreatDoorMLawNew11
import Derived.Maps.RangeWalk
import Derived.Deep.LoopGhost
import Derived.OwnWalk
set_option linter.unusedVariables false
set_option linter.unusedSimpArgs false
set_option linter.unusedVariables false
set_option linter.unusedSimpArgs false
namespace Go.Proofs.YthafnphpcdbnlaaGreatDoor.S2
open Go.Proofs.YthafnphpcdbnlaaGreatDoor
open Go.Shelf Go.RowKit Go.Lib Go.Sort Go.Maps Go.ChangeMaps Go.MapKept

def flatW (C : List (Nat × Nat)) : List Value := C.flatMap encW
theorem flatW_snoc (C : List (Nat × Nat)) (x : Nat × Nat) : flatW (C ++ [x]) = flatW C ++ encW x := by simp [flatW]
theorem flatW_get : ∀ (C : List (Nat × Nat)) (t : Nat), t < C.length * 2 → (flatW C)[t]? = some ((encW C[t / 2]!)[t % 2]!)
  | [], t, h => by simp at h
  | q :: r, 0, _ => by simp [flatW, encW]
  | q :: r, 1, _ => by simp [flatW, encW]
  | q :: r, t + 2, h => by
    have e1 : (t + 2) / 2 = t / 2 + 1 := by omega
    have e2 : (t + 2) % 2 = t % 2 := by omega
    have e3 : flatW (q :: r) = .int .u32 q.1 :: .int .u64 q.2 :: flatW r := rfl
    rw [e1, e2, e3, List.getElem?_cons_succ, List.getElem?_cons_succ, flatW_get r t (by simp at h; omega)]
    congr 2
theorem flatW_len (C : List (Nat × Nat)) : (flatW C).length = C.length * 2 := by
  induction C with
  | nil => rfl
  | cons q r ih =>
    have e3 : flatW (q :: r) = .int .u32 q.1 :: .int .u64 q.2 :: flatW r := rfl
    rw [e3]; simp; omega
theorem holds_of_row {w : World} {base g cap : Nat} {C : List (Nat × Nat)} (h : w.ownsRow base 70 2 (.slice (some ⟨g, 0, none⟩) C.length cap) C.length (flatW C)) : HoldsK encW 2 w g 0 C.toArray := by
  obtain ⟨_, h2⟩ := h
  rcases h2 with ⟨h2, _⟩ | ⟨g', cap', cur, hv, hg, hh, hc, _, hs, hx⟩
  · cases h2
  · cases hv
    intro j hj
    have hj2 : j < C.length * 2 := by simpa using hj
    refine ⟨?_, by simp [World.frozen?, hh]⟩
    have e1 : w.cell? ⟨g, 0 + j, none⟩ = cur[j]? := by simp [World.cell?, hh]
    have e2 : (cur.toList.take (C.length * 2))[j]? = (flatW C)[j]? := by rw [hx]
    rw [List.getElem?_take_of_lt hj2, flatW_get C j hj2] at e2
    rw [e1, ← Array.getElem?_toList, e2, get_flatK _ _ _ _ (by simpa using hj2)]
    simp
/-- One more has come out. -/
theorem filter_more {f f' : Nat × Nat → Bool} {x : Nat × Nat} : ∀ {L : LL}, Srt L → x ∈ L → f x = false → f' x = true → (∀ p ∈ L, p.1 ≠ x.1 → f' p = f p) → (L.filter f').Perm (x :: L.filter f)
  | [], _, h, _, _, _ => by simp at h
  | q :: r, hs, hm, h0, h1, hf => by
    obtain ⟨s1, s2⟩ := List.pairwise_cons.1 hs
    rcases List.mem_cons.1 hm with rfl | hm
    · have e : r.filter f' = r.filter f := List.filter_congr (fun p hp => hf p (by simp [hp]) (by have := s1 p hp; omega))
      rw [List.filter_cons_of_pos h1, List.filter_cons_of_neg (by simp [h0]), e]
    · have ih := filter_more s2 hm h0 h1 (fun p hp hn => hf p (by simp [hp]) hn)
      have hq := hf q (by simp) (by have := s1 x hm; omega)
      cases hfq : f q
      · rw [List.filter_cons_of_neg (by simp [hq, hfq]), List.filter_cons_of_neg (by simp [hfq])]
        exact ih
      · rw [List.filter_cons_of_pos (by rw [hq, hfq]), List.filter_cons_of_pos hfq]
        exact (ih.cons q).trans (List.Perm.swap x q _)
theorem come {L : LL} (h : Good L) {left : Lit → Bool} {a v : Nat} (hl : left (.int .u32 (a : Int)) = true) (hm : (a, v) ∈ L) {C : List (Nat × Nat)} (hC : C.Perm (L.filter fun p => !left (.int .u32 (p.1 : Int)))) :
    (C ++ [(a, v)]).Perm (L.filter fun p => !(left (.int .u32 (p.1 : Int)) && !(Lit.int .u32 (p.1 : Int)).sameKey (.int .u32 (a : Int)))) ∧ C.length + 1 ≤ L.length := by
  have hp := filter_more (f := fun p : Nat × Nat => !left (.int .u32 (p.1 : Int))) (f' := fun p : Nat × Nat => !(left (.int .u32 (p.1 : Int)) && !(Lit.int .u32 (p.1 : Int)).sameKey (.int .u32 (a : Int)))) h.1 hm (by simp [hl]) (by simp [same_u32])
    (fun p _ hn => by rw [same_u32, decide_eq_false hn]; simp)
  have h1 : (C ++ [(a, v)]).Perm ((a, v) :: L.filter fun p => !left (.int .u32 (p.1 : Int))) := (List.perm_append_comm (l₁ := C) (l₂ := [(a, v)])).trans (hC.cons (a, v))
  refine ⟨h1.trans hp.symm, ?_⟩
  have e1 := (h1.trans hp.symm).length_eq
  have e2 := List.length_filter_le (fun p : Nat × Nat => !(left (.int .u32 (p.1 : Int)) && !(Lit.int .u32 (p.1 : Int)).sameKey (.int .u32 (a : Int)))) L
  rw [← e1] at e2
  simpa using e2
theorem mem_of_at {L : LL} (h : Good L) {a v : Nat} (hat : ∀ zd, (DL L).atKey (.int .u32 (a : Int)) zd = .lit (.int .u64 (v : Int))) : (a, v) ∈ L := by
  have h1 := Maps.has_true_of_atKey hat
  rw [DL_has] at h1
  obtain ⟨p, hp, he⟩ := List.any_eq_true.1 h1
  simp at he
  have h2 := hat (.lit (.int .u64 0))
  rw [DL_at] at h2
  simp at h2
  have h3 := look_mem h hp
  rw [he] at h3
  have : p = (a, v) := Prod.ext he (by omega)
  exact this ▸ hp
/-- What Words tells, where something stands. -/
def Told (w : World) (L : LL) (e : Ending) (w' : World) : Prop := ∃ g, e = .returned (.slice (some ⟨g, 0, none⟩) L.length L.length) ∧ w.heap.size ≤ g ∧ g < w'.heap.size ∧ HoldsK encW 2 w' g 0 L.toArray ∧ Below w.heap.size w w'
theorem u_of' {k : IntKind} {a : Int} (h0 : k.min = 0) (h : (Lit.int k a).wf = true) : ∃ n : Nat, a = n ∧ (n : Int) ≤ k.max := by
  simp [Lit.wf, h0] at h
  obtain ⟨n, rfl⟩ := Int.eq_ofNat_of_zero_le h.1
  exact ⟨n, rfl, h.2⟩
theorem info30 : (Tryz.prog.info? 70).map (fun i => (i.zero, i.size, i.bytes)) = some (some (.agg #[.int .u32 0, .int .u64 0]), 2, 16) := by kernel_rfl
set_option maxHeartbeats 2000000 in
set_option maxRecDepth 100000 in
theorem words_some (w : World) (B m : Nat) (L : LL) (n k0 a0 was is : Nat) (h : CellsAt w B (some m) L n k0 a0 was is) (hL : 0 < L.length) :
    Calls Tryz.prog 60 #[Pt B] w (Told w L) := by
  have c0 : w.cell? ⟨B, 0, none⟩ = some (.map (some m)) := cell_row h.row 0
  have hl := fun ty => h.len ty
  have hlen := h.good.length
  have hBlt := h.lt B (.inl rfl)
  have hmlt := h.lt m (.inr rfl)
  have t0 : ((L.length : Int) == 0) = false := by rw [beq_eq_false_iff_ne]; omega
  have H := Lib.hid h
  clear h
  obtain ⟨i0, hi, hz0, hz1, hz2⟩ := info_parts info30
  go_enter Tryz.func60, Tryz.ntmps60
  go_wp2_with (first
    | (at_make; refine wpList_make_own _ rfl _ _ 132 rfl w.heap.size 70 i0 (.agg #[.int .u32 0, .int .u64 0]) 2 Tryz.underlying132 hi hz0 hz1 .i64 .i64 _ L.length rfl rfl rfl (by rw [hz2]; omega) (by unfold maxLen; omega) (Nat.le_refl _) ?_; intro w0 hown0 hgrow0; (have c1 := cell_row ((H.out.kept (Turns.grown (S := fun _ => False) hgrow0 (fun k e => by cases e)) (fun _ _ e => e)).row) 0))
    | (at_range; refine wpList_range_own _ rfl _ 108 rfl 59 22 law27 Tryz.underlying108 _ m L.length (DL L) rfl ((H.out.kept (Turns.grown (S := fun _ => False) (by assumption) (fun k e => by cases e)) (fun _ _ e => e)).som m rfl).2 ?_; intro w1 hrg hg1 hs1))
  go_frame
  have hb1 : Below w.heap.size w w1 := ((Below.refl _ _).grown hgrow0 (Nat.le_refl _) (fun k e => by cases e)).grown hg1 hgrow0.size (fun k e => by cases e)
  have hr := hg1.size
  have hws := hgrow0.size
  have hw0 : w.heap.size < w0.heap.size := (hown0.lt _ rfl).2
  have hown1 := hown0.kept hg1 (.inr (by simp [Value.ownBlock]))
  have hne : m ≠ w.heap.size := by omega
  have HB1 := Lib.hid hb1; have HO1 := Lib.hid hown1; have HRG := Lib.hid hrg; have HS1 := Lib.hid hs1
  clear hb1 hown0 hgrow0 hown1 hrg hg1 c0 c1 hl hs1
  go_loopg [3] L.length (fun q s3 wx => ∃ (left : Lit → Bool) (C : List (Nat × Nat)), s3 = .slice (some ⟨w.heap.size, 0, none⟩) C.length L.length ∧ wx.ranges Tryz.prog 59 (plainElem (H := Unit) Tryz.prog 22) m w0.heap.size L.length (DL L) left q ∧ wx.ownsRow w.heap.size 70 2 (.slice (some ⟨w.heap.size, 0, none⟩) C.length L.length) C.length (flatW C) ∧ C.Perm (L.filter fun p => !left (.int .u32 (p.1 : Int))) ∧ Below w.heap.size w wx ∧ w0.heap.size < wx.heap.size)
  case atStart =>
    refine ⟨Maps.has (DL L), [], rfl, by have := HRG.out; rwa [DL_size] at this, HO1.out, ?_, HB1.out, by rw [HS1.out]; omega⟩
    rw [List.filter_eq_nil_iff.2]
    intro p hp
    rw [DL_has, show L.any (fun x => x.1 == p.1) = true from List.any_eq_true.2 ⟨p, hp, by simp⟩]
    simp
  case round =>
    obtain ⟨left, C, rfl, hrg, hown, hC, hb, hrl⟩ := hrel
    have HB := Lib.hid hb; have HC := Lib.hid hC; have HOW := Lib.hid hown; have HRG2 := Lib.hid hrg
    clear hb hC hown
    go_wp2_with (at_next; refine wpList_next_ranges_ii _ rfl _ rfl 59 22 .u32 .u64 law27 Tryz.underlying59 Tryz.underlying22 m w0.heap.size L.length (DL L) left _ rfl hrg ?_ ?_)
    · intro hc0 hl0
      have hperm : C.Perm L := by
        have := HC.out
        rwa [List.filter_eq_self.2 (fun p _ => by rw [hl0]; rfl)] at this
      have hcl := hperm.length_eq
      have hsort := sort_any w.heap.size L.length L C wr H.out.good hperm (holds_of_row HOW.out) (by have := HB.out.size; omega)
      have HSO := Lib.hid hsort
      have HCL := Lib.hid hcl
      clear hc0 hl0 hperm hcl hsort hrg
      go_wp2_with (go_at_call 84; refine HSO.out.mono ?_; rintro e w2 ⟨rfl, hh, ht⟩; (have HH := Lib.hid hh; have HT := Lib.hid ht; clear hh ht))
      go_ret
      refine ⟨w.heap.size, (congrArg (fun z => Ending.returned (.slice (some ⟨w.heap.size, 0, none⟩) z L.length)) HCL.out), Nat.le_refl _, ?_, HH.out, ?_⟩
      · have := HB.out.size
        have := HT.out.size
        omega
      · exact HB.out.trans (HT.out.below (by have := HB.out.size; omega) (fun k hk e => by omega))
    · intro x c w2 cnt1 hwx hwc hlx hat hrg1 hlt hg1 hs1 hen
      obtain ⟨a, rfl, _⟩ := u_of' rfl hwx
      obtain ⟨v, rfl, _⟩ := u_of' rfl hwc
      have hmem := mem_of_at H.out.good hat
      obtain ⟨hp2, hle⟩ := come H.out.good hlx hmem HC.out
      have hb2 : Below w.heap.size w w2 := HB.out.grown hg1 (by have := HB.out.size; omega) (fun k e => by cases e; omega)
      have hown2 := HOW.out.kept hg1 (.inr (by simp [Value.ownBlock]; omega))
      have hrl2 : w0.heap.size < w2.heap.size := by omega
      have HP2 := Lib.hid hp2; have HB2 := Lib.hid hb2; have HOW2 := Lib.hid hown2; have HRG1 := Lib.hid hrg1; have HLT := Lib.hid hlt; have HS2 := Lib.hid hs1
      clear hp2 hb2 hown2 hrg1 hat hlx hmem hrg hs1 hg1 hlt
      go_wp2_with (first
        | (at_builtin; refine wpList_append_fits _ rfl _ _ 132 rfl w.heap.size 70 i0 2 Tryz.underlying132 hi hz1 w.heap.size C.length L.length (flatW C) rfl (HOW2.out.alloc _) ⟨w2.heap.size, 0, none⟩ 1 1 [.int .u32 a, .int .u64 v] rfl rfl ?o2 ?o3 hle ?_))
      case o2 =>
        intro j x hx
        match j, hx with
        | 0, hx => simp at hx; subst hx; simp [Addr.add]
        | 1, hx => simp at hx; subst hx; simp [Addr.add]
      case o3 => intro x hx; simp at hx; rcases hx with rfl | rfl <;> rfl
      · intro w3 hown3 hg3
        have hrg3 := (HRG1.out.alloc (.cells #[.int .u32 a, .int .u64 v] 70)).kept hg3 (by simp; omega) (by simp; omega)
        have hb3 : Below w.heap.size w w3 := (HB2.out.alloc (by have := HB2.out.size; omega) _).grown hg3 (by have := HB2.out.size; simp; omega) (fun k e => by cases e; exact Nat.le_refl _)
        have hs3 : w0.heap.size < w3.heap.size := by have := hg3.size; simp at this; omega
        have HRG3 := Lib.hid hrg3; have HB3 := Lib.hid hb3; have HO3 := Lib.hid hown3
        clear hrg3 hb3 hown3 hg3
        go_wp2_with fail
        go_roundg cnt1
        case measure => exact HLT.out
        case rel =>
          refine ⟨_, C ++ [(a, v)], by simp, HRG3.out, ?_, HP2.out, HB3.out, hs3⟩
          rw [flatW_snoc]
          simpa [encW] using HO3.out
/-- What Words tells, whatever stands. -/
def Tells (w : World) (L : LL) (e : Ending) (w' : World) : Prop := (L = [] ∧ e = .returned (.slice none 0 0) ∧ w = w') ∨ (0 < L.length ∧ Told w L e w')
theorem words_any (w : World) (B : Nat) (M : Option Nat) (L : LL) (n k0 a0 was is : Nat) (h : CellsAt w B M L n k0 a0 was is) : Calls Tryz.prog 60 #[Pt B] w (Tells w L) := by
  rcases Nat.eq_zero_or_pos L.length with h0 | h0
  · obtain rfl := List.eq_nil_of_length_eq_zero h0
    exact (words_none w B M n k0 a0 was is h).mono fun _ _ ⟨he, hw⟩ => .inl ⟨rfl, he, hw⟩
  · cases M with
    | none => have := h.non rfl; subst this; simp at h0
    | some m => exact (words_some w B m L n k0 a0 was is h h0).mono fun _ _ ht => .inr ⟨h0, ht⟩
end Go.Proofs.YthafnphpcdbnlaaGreatDoor.S2
set_option linter.unusedVariables false
set_option linter.unusedSimpArgs false
namespace Go.Proofs.YthafnphpcdbnlaaGreatDoor.S2
open Go.Proofs.YthafnphpcdbnlaaGreatDoor
open Go.RowKit Go.Maps

theorem oneB_iff (f a : Nat) : oneB f a = true ↔ ∃ i, i < 8 ∧ a = f + 4 * i := by
  unfold oneB
  simp only [Bool.and_eq_true, decide_eq_true_eq]
  constructor
  · rintro ⟨⟨h1, h2⟩, h3⟩
    exact ⟨(a - f) / 4, by omega, by omega⟩
  · rintro ⟨i, hi, rfl⟩
    omega
theorem byteB_iff (a : Nat) : byteB a = true ↔ ∃ i, i < 8 ∧ (a = 1024 + 4 * i ∨ a = 1120 + 4 * i) := by
  unfold byteB
  rw [Bool.or_eq_true, oneB_iff, oneB_iff]
  constructor
  · rintro (⟨i, hi, h⟩ | ⟨i, hi, h⟩)
    · exact ⟨i, hi, .inl h⟩
    · exact ⟨i, hi, .inr h⟩
  · rintro ⟨i, hi, h | h⟩
    · exact .inl ⟨i, hi, h⟩
    · exact .inr ⟨i, hi, h⟩
theorem ret_bool {a b : Bool} (h : a = b) : Ending.returned (.bool a) = Ending.returned (.bool b) := by rw [h]
set_option maxHeartbeats 400000 in
theorem rbyte_any (a : Nat) (ha : a < 4294967296) (w : World) : Calls Tryz.prog 94 #[.int .u32 a] w fun e w' => e = .returned (.bool (byteB a)) ∧ w = w' := by
  have hb := byteB_iff a
  have HBB := Lib.hid hb
  clear hb
  generalize byteB a = x at *
  go_enter Tryz.func94, Tryz.ntmps94
  go_wp2
  go_loop [3] (fun i => ∃ k : Nat, k ≤ 8 ∧ i = .int .i64 k ∧ ∀ j, j < k → a ≠ 1024 + 4 * j ∧ a ≠ 1120 + 4 * j) (fun i => 8 - (intOf i).toNat)
  case atStart => exact ⟨0, by omega, rfl, fun j hj => by omega⟩
  case round =>
    obtain ⟨k, hk, rfl, hn⟩ := hrel
    have HN := Lib.hid hn
    clear hn
    by_cases hlt : k < 8
    · have e1 : IntKind.u32.wrap (1024 + 4 * (k : Int)) = 1024 + 4 * (k : Int) := by simp [IntKind.wrap, IntKind.bits, IntKind.signed]; omega
      have e2 : IntKind.u32.wrap (1120 + 4 * (k : Int)) = 1120 + 4 * (k : Int) := by simp [IntKind.wrap, IntKind.bits, IntKind.signed]; omega
      by_cases h1 : a = 1024 + 4 * k
      · have t1 : ((a : Int) == 1024 + 4 * (k : Int)) = true := by rw [beq_iff_eq]; omega
        have hx : x = true := HBB.out.2 ⟨k, hlt, .inl h1⟩
        have HX := Lib.hid hx
        clear h1 hx
        go_wp2
        go_ret
        exact ⟨ret_bool HX.out.symm, rfl⟩
      · have t1 : ((a : Int) == 1024 + 4 * (k : Int)) = false := by rw [beq_eq_false_iff_ne]; omega
        by_cases h2 : a = 1120 + 4 * k
        · have t2 : ((a : Int) == 1120 + 4 * (k : Int)) = true := by rw [beq_iff_eq]; omega
          have hx : x = true := HBB.out.2 ⟨k, hlt, .inr h2⟩
          have HX := Lib.hid hx
          clear h1 h2 hx
          go_wp2
          go_ret
          exact ⟨ret_bool HX.out.symm, rfl⟩
        · have t2 : ((a : Int) == 1120 + 4 * (k : Int)) = false := by rw [beq_eq_false_iff_ne]; omega
          have H1 := Lib.hid h1; have H2 := Lib.hid h2
          clear h1 h2
          go_wp2
          go_round
          case rel =>
            refine ⟨k + 1, by omega, by go_num, fun j hj => ?_⟩
            by_cases e : j = k
            · subst e; exact ⟨H1.out, H2.out⟩
            · exact HN.out j (by omega)
          case measure => simp [intOf]; omega
    · have hx : x = false := by
        cases hx : x
        · rfl
        · obtain ⟨i, hi, h⟩ := HBB.out.1 hx
          have := HN.out i (by omega)
          omega
      have HX := Lib.hid hx
      clear hx
      go_wp2
      go_ret
      exact ⟨ret_bool HX.out.symm, rfl⟩

structure RefAt (w : World) (base R : Nat) (s : Value) (L : LL) (n k a was is : Nat) : Prop where
  good : Good L
  row : w.heap[R]? = some (.cells #[s, .int .i64 n, .int .u8 k, .int .u32 a, .int .u64 was, .int .u64 is] 152 (0, 0))
  own : w.ownsRow base 77 2 s L.length (flatW L)
  ne : s.ownBlock ≠ some R
theorem row_slice {w : World} {base e n : Nat} {s : Value} {xs : List Value} (h : w.ownsRow base e 2 s n xs) : ∃ p cap, s = .slice p n cap ∧ (0 < n → ∃ g, p = some ⟨g, 0, none⟩) := by
  obtain ⟨_, h2⟩ := h
  rcases h2 with ⟨rfl, rfl⟩ | ⟨g, cap, cur, rfl, _⟩
  · exact ⟨_, _, rfl, fun h => by omega⟩
  · exact ⟨_, _, rfl, fun _ => ⟨g, rfl⟩⟩
theorem row_pair {w : World} {base g e cap : Nat} {L : LL} (h : w.ownsRow base e 2 (.slice (some ⟨g, 0, none⟩) L.length cap) L.length (flatW L)) (i : Nat) (hi : i < L.length) :
    w.cell? ⟨g, i * 2, none⟩ = some (.int .u32 (L[i]!).1) ∧ w.cell? ⟨g, i * 2 + 1, none⟩ = some (.int .u64 (L[i]!).2) := by
  obtain ⟨_, h2⟩ := h
  rcases h2 with ⟨h2, _⟩ | ⟨g', cap', cur, hv, hg, hh, hc, _, hs, hx⟩
  · cases h2
  · cases hv
    have key : ∀ t, t < L.length * 2 → w.cell? ⟨g, t, none⟩ = some ((encW L[t / 2]!)[t % 2]!) := by
      intro t ht
      have e1 : w.cell? ⟨g, t, none⟩ = cur[t]? := by simp [World.cell?, hh]
      have e2 : (cur.toList.take (L.length * 2))[t]? = (flatW L)[t]? := by rw [hx]
      rw [List.getElem?_take_of_lt ht, flatW_get L t ht] at e2
      rw [e1, ← Array.getElem?_toList, e2]
    refine ⟨?_, ?_⟩
    · rw [key (i * 2) (by omega), show i * 2 / 2 = i by omega, show i * 2 % 2 = 0 by omega]; rfl
    · rw [key (i * 2 + 1) (by omega), show (i * 2 + 1) / 2 = i by omega, show (i * 2 + 1) % 2 = 1 by omega]; rfl
theorem look_none {L : LL} {a : Nat} (h : ∀ i, i < L.length → (L[i]!).1 ≠ a) : look L a = 0 := by
  unfold look
  rw [List.find?_eq_none.2]
  intro p hp
  obtain ⟨i, hi, rfl⟩ := List.mem_iff_getElem.1 hp
  have := h i hi
  rw [getElem!_pos L i hi] at this
  simpa using this
theorem look_idx {L : LL} (h : Good L) {i : Nat} (hi : i < L.length) : look L (L[i]!).1 = (L[i]!).2 := by
  rw [getElem!_pos L i hi]
  exact look_mem h (List.getElem_mem hi)
theorem ret_u64 {a b : Nat} (h : a = b) : Ending.returned (.int .u64 a) = Ending.returned (.int .u64 b) := by rw [h]
set_option maxHeartbeats 1000000 in
theorem rpeek_any (w : World) (base R : Nat) (s : Value) (L : LL) (n k0 a0 was is a : Nat) (h : RefAt w base R s L n k0 a0 was is) :
    Calls Tryz.prog 95 #[Pt R, .int .u32 a] w fun e w' => e = .returned (.int .u64 (look L a : Nat)) ∧ w = w' := by
  have c0 : w.cell? ⟨R, 0, none⟩ = some s := cell_row h.row 0
  have hlen := h.good.length
  obtain ⟨p, cap, rfl, hp⟩ := row_slice h.own
  have H := Lib.hid h
  clear h
  have HP := Lib.hid hp
  clear hp
  go_enter Tryz.func95, Tryz.ntmps95
  go_wp2
  go_loop [5] (fun i => ∃ k : Nat, k ≤ L.length ∧ i = .int .i64 k ∧ ∀ j, j < k → (L[j]!).1 ≠ a) (fun i => L.length - (intOf i).toNat)
  case atStart => exact ⟨0, by omega, rfl, fun j hj => by omega⟩
  case round =>
    obtain ⟨k, hk, rfl, hn⟩ := hrel
    have HN := Lib.hid hn
    clear hn
    by_cases hlt : k < L.length
    · obtain ⟨g, rfl⟩ := HP.out (by omega)
      obtain ⟨d1, d2⟩ := row_pair H.out.own k hlt
      have hl := look_idx H.out.good hlt
      generalize hx : (L[k]!).1 = x at *
      generalize hy : (L[k]!).2 = y at *
      have HX := Lib.hid hx; have HL := Lib.hid hl
      clear hl hx hy
      by_cases e : x = a
      · subst e
        go_wp2
        go_ret
        exact ⟨ret_u64 HL.out.symm, rfl⟩
      · have t1 : ((x : Int) == (a : Int)) = false := by rw [beq_eq_false_iff_ne]; omega
        have HE := Lib.hid e
        clear e
        go_wp2
        go_round
        case rel =>
          refine ⟨k + 1, by omega, by go_num, fun j hj => ?_⟩
          by_cases ej : j = k
          · subst ej; rw [HX.out]; exact HE.out
          · exact HN.out j (by omega)
        case measure => simp [intOf]; omega
    · have hl : look L a = 0 := look_none (fun i hi => HN.out i (by omega))
      have HL := Lib.hid hl
      clear hl
      go_wp2
      go_ret
      exact ⟨ret_u64 HL.out.symm, rfl⟩
end Go.Proofs.YthafnphpcdbnlaaGreatDoor.S2
