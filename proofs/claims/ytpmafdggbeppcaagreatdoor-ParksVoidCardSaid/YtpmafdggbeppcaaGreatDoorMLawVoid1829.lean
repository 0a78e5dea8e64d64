/- Texts of this seat, one behind the other. -/
import Derived.Test.YtpmafdggbeppcaaGreatDoorMLawVoid1828
import Derived.Maps.RangeWalk
import Derived.Deep.LoopGhost
import Derived.OwnWalk
set_option linter.unusedVariables false
set_option linter.unusedSimpArgs false
namespace Go.Proofs.YtpmafdggbeppcaaGreatDoor.S2
set_option maxRecDepth 100000
set_option maxHeartbeats 16000000
open Go.Proofs.YtpmafdggbeppcaaGreatDoor
open Go.Shelf Go.RowKit Go.Lib Go.Sort Go.Maps Go.ChangeMaps Go.MapKept
def flatW (C : List (Nat × Nat)) : List Value := C.flatMap encW
theorem flatW_snoc (C : List (Nat × Nat)) (x : Nat × Nat) : flatW (C ++ [x]) = flatW C ++ encW x := by simp [flatW]
theorem flatW_get : ∀ (C : List (Nat × Nat)) (t : Nat), t < C.length * 2 → (flatW C)[t]? = some ((encW C[t / 2]!)[t % 2]!)
  | [], t, h => by simp at h
  | q :: r, 0, _ => by simp [flatW, encW]
  | q :: r, 1, _ => by simp [flatW, encW]
  | q :: r, t + 2, h => by
    have e1 : (t + 2) / 2 = t / 2 + 1 := by omega
    have e2 : (t + 2) % 2 = t % 2 := by omega
    have e3 : flatW (q :: r) = .int .u32 q.1 :: .int .u64 q.2 :: flatW r := rfl
    rw [e1, e2, e3, List.getElem?_cons_succ, List.getElem?_cons_succ, flatW_get r t (by simp at h; omega)]
    congr 2
theorem holds_of_row {w : World} {base g cap : Nat} {C : List (Nat × Nat)} (h : w.ownsRow base 211 2 (.slice (some ⟨g, 0, none⟩) C.length cap) C.length (flatW C)) : HoldsK encW 2 w g 0 C.toArray := by
  obtain ⟨_, h2⟩ := h
  rcases h2 with ⟨h2, _⟩ | ⟨g', cap', cur, hv, hg, hh, hc, _, hs, hx⟩
  · cases h2
  · cases hv
    intro j hj
    have hj2 : j < C.length * 2 := by simpa using hj
    refine ⟨?_, by simp [World.frozen?, hh]⟩
    have e1 : w.cell? ⟨g, 0 + j, none⟩ = cur[j]? := by simp [World.cell?, hh]
    have e2 : (cur.toList.take (C.length * 2))[j]? = (flatW C)[j]? := by rw [hx]
    rw [List.getElem?_take_of_lt hj2, flatW_get C j hj2] at e2
    rw [e1, ← Array.getElem?_toList, e2, get_flatK _ _ _ _ (by simpa using hj2)]
    simp
theorem filter_more {f f' : Nat × Nat → Bool} {x : Nat × Nat} : ∀ {L : LL}, Srt L → x ∈ L → f x = false → f' x = true → (∀ p ∈ L, p.1 ≠ x.1 → f' p = f p) → (L.filter f').Perm (x :: L.filter f)
  | [], _, h, _, _, _ => by simp at h
  | q :: r, hs, hm, h0, h1, hf => by
    obtain ⟨s1, s2⟩ := List.pairwise_cons.1 hs
    rcases List.mem_cons.1 hm with rfl | hm
    · have e : r.filter f' = r.filter f := List.filter_congr (fun p hp => hf p (by simp [hp]) (by have := s1 p hp; omega))
      rw [List.filter_cons_of_pos h1, List.filter_cons_of_neg (by simp [h0]), e]
    · have ih := filter_more s2 hm h0 h1 (fun p hp hn => hf p (by simp [hp]) hn)
      have hq := hf q (by simp) (by have := s1 x hm; omega)
      cases hfq : f q
      · rw [List.filter_cons_of_neg (by simp [hq, hfq]), List.filter_cons_of_neg (by simp [hfq])]
        exact ih
      · rw [List.filter_cons_of_pos (by rw [hq, hfq]), List.filter_cons_of_pos hfq]
        exact (ih.cons q).trans (List.Perm.swap x q _)
theorem come {L : LL} (h : Good L) {left : Lit → Bool} {a v : Nat} (hl : left (.int .u32 (a : Int)) = true) (hm : (a, v) ∈ L) {C : List (Nat × Nat)} (hC : C.Perm (L.filter fun p => !left (.int .u32 (p.1 : Int)))) :
    (C ++ [(a, v)]).Perm (L.filter fun p => !(left (.int .u32 (p.1 : Int)) && !(Lit.int .u32 (p.1 : Int)).sameKey (.int .u32 (a : Int)))) ∧ C.length + 1 ≤ L.length := by
  have hp := filter_more (f := fun p : Nat × Nat => !left (.int .u32 (p.1 : Int))) (f' := fun p : Nat × Nat => !(left (.int .u32 (p.1 : Int)) && !(Lit.int .u32 (p.1 : Int)).sameKey (.int .u32 (a : Int)))) h.1 hm (by simp [hl]) (by simp [same_u32])
    (fun p _ hn => by rw [same_u32, decide_eq_false hn]; simp)
  have h1 : (C ++ [(a, v)]).Perm ((a, v) :: L.filter fun p => !left (.int .u32 (p.1 : Int))) := (List.perm_append_comm (l₁ := C) (l₂ := [(a, v)])).trans (hC.cons (a, v))
  refine ⟨h1.trans hp.symm, ?_⟩
  have e1 := (h1.trans hp.symm).length_eq
  have e2 := List.length_filter_le (fun p : Nat × Nat => !(left (.int .u32 (p.1 : Int)) && !(Lit.int .u32 (p.1 : Int)).sameKey (.int .u32 (a : Int)))) L
  rw [← e1] at e2
  simpa using e2
theorem mem_of_at {L : LL} (h : Good L) {a v : Nat} (hat : ∀ zd, (DL L).atKey (.int .u32 (a : Int)) zd = .lit (.int .u64 (v : Int))) : (a, v) ∈ L := by
  have h1 := Maps.has_true_of_atKey hat
  rw [DL_has] at h1
  obtain ⟨p, hp, he⟩ := List.any_eq_true.1 h1
  simp at he
  have h2 := hat (.lit (.int .u64 0))
  rw [DL_at] at h2
  simp at h2
  have h3 := look_mem h hp
  rw [he] at h3
  have : p = (a, v) := Prod.ext he (by omega)
  exact this ▸ hp
def Told (w : World) (L : LL) (e : Ending) (w' : World) : Prop := ∃ g, e = .returned (.slice (some ⟨g, 0, none⟩) L.length L.length) ∧ w.heap.size ≤ g ∧ g < w'.heap.size ∧ HoldsK encW 2 w' g 0 L.toArray ∧ Below w.heap.size w w'
theorem u_of' {k : IntKind} {a : Int} (h0 : k.min = 0) (h : (Lit.int k a).wf = true) : ∃ n : Nat, a = n ∧ (n : Int) ≤ k.max := by
  simp [Lit.wf, h0] at h
  obtain ⟨n, rfl⟩ := Int.eq_ofNat_of_zero_le h.1
  exact ⟨n, rfl, h.2⟩
theorem info30 : (Tryz.prog.info? 211).map (fun i => (i.zero, i.size, i.bytes)) = some (some (.agg #[.int .u32 0, .int .u64 0]), 2, 16) := by kernel_rfl
theorem words_some (w : World) (B m : Nat) (L : LL) (n k0 a0 was is : Nat) (h : CellsAt w B (some m) L n k0 a0 was is) (hL : 0 < L.length) :
    Calls Tryz.prog 105 #[Pt B] w (Told w L) := by
  have c0 : w.cell? ⟨B, 0, none⟩ = some (.map (some m)) := cell_row h.row 0
  have hl := fun ty => h.len ty
  have hlen := h.good.length
  have hBlt := h.lt B (.inl rfl)
  have hmlt := h.lt m (.inr rfl)
  have t0 : ((L.length : Int) == 0) = false := by rw [beq_eq_false_iff_ne]; omega
  have H := Lib.hid h
  clear h
  obtain ⟨i0, hi, hz0, hz1, hz2⟩ := info_parts info30
  go_enter Tryz.func105, Tryz.ntmps105
  go_wp2_with (first
    | (at_make; refine wpList_make_own _ rfl _ _ 243 rfl w.heap.size 211 i0 (.agg #[.int .u32 0, .int .u64 0]) 2 Tryz.underlying243 hi hz0 hz1 .i64 .i64 _ L.length rfl rfl rfl (by rw [hz2]; omega) (by unfold maxLen; omega) (Nat.le_refl _) ?_; intro w0 hown0 hgrow0; (have c1 := cell_row ((H.out.kept (Turns.grown (S := fun _ => False) hgrow0 (fun k e => by cases e)) (fun _ _ e => e)).row) 0))
    | (at_range; refine wpList_range_own _ rfl _ 196 rfl 23 29 law27 Tryz.underlying196 _ m L.length (DL L) rfl ((H.out.kept (Turns.grown (S := fun _ => False) (by assumption) (fun k e => by cases e)) (fun _ _ e => e)).som m rfl).2 ?_; intro w1 hrg hg1 hs1))
  go_frame
  have hb1 : Below w.heap.size w w1 := ((Below.refl _ _).grown hgrow0 (Nat.le_refl _) (fun k e => by cases e)).grown hg1 hgrow0.size (fun k e => by cases e)
  have hr := hg1.size
  have hws := hgrow0.size
  have hw0 : w.heap.size < w0.heap.size := (hown0.lt _ rfl).2
  have hown1 := hown0.kept hg1 (.inr (by simp [Value.ownBlock]))
  have hne : m ≠ w.heap.size := by omega
  have HB1 := Lib.hid hb1; have HO1 := Lib.hid hown1; have HRG := Lib.hid hrg; have HS1 := Lib.hid hs1
  clear hb1 hown0 hgrow0 hown1 hrg hg1 c0 c1 hl hs1
  go_loopg [3] L.length (fun q s3 wx => ∃ (left : Lit → Bool) (C : List (Nat × Nat)), s3 = .slice (some ⟨w.heap.size, 0, none⟩) C.length L.length ∧ wx.ranges Tryz.prog 23 (plainElem (H := Unit) Tryz.prog 29) m w0.heap.size L.length (DL L) left q ∧ wx.ownsRow w.heap.size 211 2 (.slice (some ⟨w.heap.size, 0, none⟩) C.length L.length) C.length (flatW C) ∧ C.Perm (L.filter fun p => !left (.int .u32 (p.1 : Int))) ∧ Below w.heap.size w wx ∧ w0.heap.size < wx.heap.size)
  case atStart =>
    refine ⟨Maps.has (DL L), [], rfl, by have := HRG.out; rwa [DL_size] at this, HO1.out, ?_, HB1.out, by rw [HS1.out]; omega⟩
    rw [List.filter_eq_nil_iff.2]
    intro p hp
    rw [DL_has, show L.any (fun x => x.1 == p.1) = true from List.any_eq_true.2 ⟨p, hp, by simp⟩]
    simp
  case round =>
    obtain ⟨left, C, rfl, hrg, hown, hC, hb, hrl⟩ := hrel
    have HB := Lib.hid hb; have HC := Lib.hid hC; have HOW := Lib.hid hown; have HRG2 := Lib.hid hrg
    clear hb hC hown
    go_wp2_with (at_next; refine wpList_next_ranges_ii _ rfl _ rfl 23 29 .u32 .u64 law27 Tryz.underlying23 Tryz.underlying29 m w0.heap.size L.length (DL L) left _ rfl hrg ?_ ?_)
    · intro hc0 hl0
      have hperm : C.Perm L := by
        have := HC.out
        rwa [List.filter_eq_self.2 (fun p _ => by rw [hl0]; rfl)] at this
      have hcl := hperm.length_eq
      have hsort := sort_any w.heap.size L.length L C wr H.out.good hperm (holds_of_row HOW.out) (by have := HB.out.size; omega)
      have HSO := Lib.hid hsort
      have HCL := Lib.hid hcl
      clear hc0 hl0 hperm hcl hsort hrg
      go_wp2_with (go_at_call 133; refine HSO.out.mono ?_; rintro e w2 ⟨rfl, hh, ht⟩; (have HH := Lib.hid hh; have HT := Lib.hid ht; clear hh ht))
      go_ret
      refine ⟨w.heap.size, (congrArg (fun z => Ending.returned (.slice (some ⟨w.heap.size, 0, none⟩) z L.length)) HCL.out), Nat.le_refl _, ?_, HH.out, ?_⟩
      · have := HB.out.size
        have := HT.out.size
        omega
      · exact HB.out.trans (HT.out.below (by have := HB.out.size; omega) (fun k hk e => by omega))
    · intro x c w2 cnt1 hwx hwc hlx hat hrg1 hlt hg1 hs1 hen
      obtain ⟨a, rfl, _⟩ := u_of' rfl hwx
      obtain ⟨v, rfl, _⟩ := u_of' rfl hwc
      have hmem := mem_of_at H.out.good hat
      obtain ⟨hp2, hle⟩ := come H.out.good hlx hmem HC.out
      have hb2 : Below w.heap.size w w2 := HB.out.grown hg1 (by have := HB.out.size; omega) (fun k e => by cases e; omega)
      have hown2 := HOW.out.kept hg1 (.inr (by simp [Value.ownBlock]; omega))
      have hrl2 : w0.heap.size < w2.heap.size := by omega
      have HP2 := Lib.hid hp2; have HB2 := Lib.hid hb2; have HOW2 := Lib.hid hown2; have HRG1 := Lib.hid hrg1; have HLT := Lib.hid hlt; have HS2 := Lib.hid hs1
      clear hp2 hb2 hown2 hrg1 hat hlx hmem hrg hs1 hg1 hlt
      go_wp2_with (first
        | (at_builtin; refine wpList_append_fits _ rfl _ _ 243 rfl w.heap.size 211 i0 2 Tryz.underlying243 hi hz1 w.heap.size C.length L.length (flatW C) rfl (HOW2.out.alloc _) ⟨w2.heap.size, 0, none⟩ 1 1 [.int .u32 a, .int .u64 v] rfl rfl ?o2 ?o3 hle ?_))
      case o2 =>
        intro j x hx
        match j, hx with
        | 0, hx => simp at hx; subst hx; simp [Addr.add]
        | 1, hx => simp at hx; subst hx; simp [Addr.add]
      case o3 => intro x hx; simp at hx; rcases hx with rfl | rfl <;> rfl
      · intro w3 hown3 hg3
        have hrg3 := (HRG1.out.alloc (.cells #[.int .u32 a, .int .u64 v] 211)).kept hg3 (by simp; omega) (by simp; omega)
        have hb3 : Below w.heap.size w w3 := (HB2.out.alloc (by have := HB2.out.size; omega) _).grown hg3 (by have := HB2.out.size; simp; omega) (fun k e => by cases e; exact Nat.le_refl _)
        have hs3 : w0.heap.size < w3.heap.size := by have := hg3.size; simp at this; omega
        have HRG3 := Lib.hid hrg3; have HB3 := Lib.hid hb3; have HO3 := Lib.hid hown3
        clear hrg3 hb3 hown3 hg3
        go_wp2_with fail
        go_roundg cnt1
        case measure => exact HLT.out
        case rel =>
          refine ⟨_, C ++ [(a, v)], by simp, HRG3.out, ?_, HP2.out, HB3.out, hs3⟩
          rw [flatW_snoc]
          simpa [encW] using HO3.out
def Tells (w : World) (L : LL) (e : Ending) (w' : World) : Prop := (L = [] ∧ e = .returned (.slice none 0 0) ∧ w = w') ∨ (0 < L.length ∧ Told w L e w')
theorem words_any (w : World) (B : Nat) (M : Option Nat) (L : LL) (n k0 a0 was is : Nat) (h : CellsAt w B M L n k0 a0 was is) : Calls Tryz.prog 105 #[Pt B] w (Tells w L) := by
  rcases Nat.eq_zero_or_pos L.length with h0 | h0
  · obtain rfl := List.eq_nil_of_length_eq_zero h0
    exact (words_none w B M n k0 a0 was is h).mono fun _ _ ⟨he, hw⟩ => .inl ⟨rfl, he, hw⟩
  · cases M with
    | none => have := h.non rfl; subst this; simp at h0
    | some m => exact (words_some w B m L n k0 a0 was is h h0).mono fun _ _ ht => .inr ⟨h0, ht⟩
end Go.Proofs.YtpmafdggbeppcaaGreatDoor.S2
namespace Go.Proofs.YtpmafdggbeppcaaGreatDoor.S2
set_option maxRecDepth 100000
set_option maxHeartbeats 16000000
open Go.Proofs.YtpmafdggbeppcaaGreatDoor
open Go.RowKit Go.Maps
theorem oneB_iff (f a : Nat) : oneB f a = true ↔ ∃ i, i < 8 ∧ a = f + 4 * i := by
  unfold oneB
  simp only [Bool.and_eq_true, decide_eq_true_eq]
  constructor
  · rintro ⟨⟨h1, h2⟩, h3⟩
    exact ⟨(a - f) / 4, by omega, by omega⟩
  · rintro ⟨i, hi, rfl⟩
    omega
theorem byteB_iff (a : Nat) : byteB a = true ↔ ∃ i, i < 8 ∧ (a = 1024 + 4 * i ∨ a = 1120 + 4 * i) := by
  unfold byteB
  rw [Bool.or_eq_true, oneB_iff, oneB_iff]
  constructor
  · rintro (⟨i, hi, h⟩ | ⟨i, hi, h⟩)
    · exact ⟨i, hi, .inl h⟩
    · exact ⟨i, hi, .inr h⟩
  · rintro ⟨i, hi, h | h⟩
    · exact .inl ⟨i, hi, h⟩
    · exact .inr ⟨i, hi, h⟩
theorem ret_bool {a b : Bool} (h : a = b) : Ending.returned (.bool a) = Ending.returned (.bool b) := by rw [h]
theorem rbyte_any (a : Nat) (ha : a < 4294967296) (w : World) : Calls Tryz.prog 151 #[.int .u32 a] w fun e w' => e = .returned (.bool (byteB a)) ∧ w = w' := by
  have hb := byteB_iff a
  have HBB := Lib.hid hb
  clear hb
  generalize byteB a = x at *
  go_enter Tryz.func151, Tryz.ntmps151
  go_wp2
  go_loop [3] (fun i => ∃ k : Nat, k ≤ 8 ∧ i = .int .i64 k ∧ ∀ j, j < k → a ≠ 1024 + 4 * j ∧ a ≠ 1120 + 4 * j) (fun i => 8 - (intOf i).toNat)
  case atStart => exact ⟨0, by omega, rfl, fun j hj => by omega⟩
  case round =>
    obtain ⟨k, hk, rfl, hn⟩ := hrel
    have HN := Lib.hid hn
    clear hn
    by_cases hlt : k < 8
    · have e1 : IntKind.u32.wrap (1024 + 4 * (k : Int)) = 1024 + 4 * (k : Int) := by simp [IntKind.wrap, IntKind.bits, IntKind.signed]; omega
      have e2 : IntKind.u32.wrap (1120 + 4 * (k : Int)) = 1120 + 4 * (k : Int) := by simp [IntKind.wrap, IntKind.bits, IntKind.signed]; omega
      by_cases h1 : a = 1024 + 4 * k
      · have t1 : ((a : Int) == 1024 + 4 * (k : Int)) = true := by rw [beq_iff_eq]; omega
        have hx : x = true := HBB.out.2 ⟨k, hlt, .inl h1⟩
        have HX := Lib.hid hx
        clear h1 hx
        go_wp2
        go_ret
        exact ⟨ret_bool HX.out.symm, rfl⟩
      · have t1 : ((a : Int) == 1024 + 4 * (k : Int)) = false := by rw [beq_eq_false_iff_ne]; omega
        by_cases h2 : a = 1120 + 4 * k
        · have t2 : ((a : Int) == 1120 + 4 * (k : Int)) = true := by rw [beq_iff_eq]; omega
          have hx : x = true := HBB.out.2 ⟨k, hlt, .inr h2⟩
          have HX := Lib.hid hx
          clear h1 h2 hx
          go_wp2
          go_ret
          exact ⟨ret_bool HX.out.symm, rfl⟩
        · have t2 : ((a : Int) == 1120 + 4 * (k : Int)) = false := by rw [beq_eq_false_iff_ne]; omega
          have H1 := Lib.hid h1; have H2 := Lib.hid h2
          clear h1 h2
          go_wp2
          go_round
          case rel =>
            refine ⟨k + 1, by omega, by go_num, fun j hj => ?_⟩
            by_cases e : j = k
            · subst e; exact ⟨H1.out, H2.out⟩
            · exact HN.out j (by omega)
          case measure => simp [intOf]; omega
    · have hx : x = false := by
        cases hx : x
        · rfl
        · obtain ⟨i, hi, h⟩ := HBB.out.1 hx
          have := HN.out i (by omega)
          omega
      have HX := Lib.hid hx
      clear hx
      go_wp2
      go_ret
      exact ⟨ret_bool HX.out.symm, rfl⟩
structure RefAt (w : World) (base R : Nat) (s : Value) (L : LL) (n k a was is : Nat) : Prop where
  good : Good L
  row : w.heap[R]? = some (.cells #[s, .int .i64 n, .int .u8 k, .int .u32 a, .int .u64 was, .int .u64 is] 242 (0, 0))
  own : w.ownsRow base 202 2 s L.length (flatW L)
  ne : s.ownBlock ≠ some R
theorem row_slice {w : World} {base e n : Nat} {s : Value} {xs : List Value} (h : w.ownsRow base e 2 s n xs) : ∃ p cap, s = .slice p n cap ∧ (0 < n → ∃ g, p = some ⟨g, 0, none⟩) := by
  obtain ⟨_, h2⟩ := h
  rcases h2 with ⟨rfl, rfl⟩ | ⟨g, cap, cur, rfl, _⟩
  · exact ⟨_, _, rfl, fun h => by omega⟩
  · exact ⟨_, _, rfl, fun _ => ⟨g, rfl⟩⟩
theorem row_pair {w : World} {base g e cap : Nat} {L : LL} (h : w.ownsRow base e 2 (.slice (some ⟨g, 0, none⟩) L.length cap) L.length (flatW L)) (i : Nat) (hi : i < L.length) :
    w.cell? ⟨g, i * 2, none⟩ = some (.int .u32 (L[i]!).1) ∧ w.cell? ⟨g, i * 2 + 1, none⟩ = some (.int .u64 (L[i]!).2) := by
  obtain ⟨_, h2⟩ := h
  rcases h2 with ⟨h2, _⟩ | ⟨g', cap', cur, hv, hg, hh, hc, _, hs, hx⟩
  · cases h2
  · cases hv
    have key : ∀ t, t < L.length * 2 → w.cell? ⟨g, t, none⟩ = some ((encW L[t / 2]!)[t % 2]!) := by
      intro t ht
      have e1 : w.cell? ⟨g, t, none⟩ = cur[t]? := by simp [World.cell?, hh]
      have e2 : (cur.toList.take (L.length * 2))[t]? = (flatW L)[t]? := by rw [hx]
      rw [List.getElem?_take_of_lt ht, flatW_get L t ht] at e2
      rw [e1, ← Array.getElem?_toList, e2]
    refine ⟨?_, ?_⟩
    · rw [key (i * 2) (by omega), show i * 2 / 2 = i by omega, show i * 2 % 2 = 0 by omega]; rfl
    · rw [key (i * 2 + 1) (by omega), show (i * 2 + 1) / 2 = i by omega, show (i * 2 + 1) % 2 = 1 by omega]; rfl
theorem look_none {L : LL} {a : Nat} (h : ∀ i, i < L.length → (L[i]!).1 ≠ a) : look L a = 0 := by
  unfold look
  rw [List.find?_eq_none.2]
  intro p hp
  obtain ⟨i, hi, rfl⟩ := List.mem_iff_getElem.1 hp
  have := h i hi
  rw [getElem!_pos L i hi] at this
  simpa using this
theorem look_idx {L : LL} (h : Good L) {i : Nat} (hi : i < L.length) : look L (L[i]!).1 = (L[i]!).2 := by
  rw [getElem!_pos L i hi]
  exact look_mem h (List.getElem_mem hi)
theorem ret_u64 {a b : Nat} (h : a = b) : Ending.returned (.int .u64 a) = Ending.returned (.int .u64 b) := by rw [h]
theorem rpeek_any (w : World) (base R : Nat) (s : Value) (L : LL) (n k0 a0 was is a : Nat) (h : RefAt w base R s L n k0 a0 was is) :
    Calls Tryz.prog 152 #[Pt R, .int .u32 a] w fun e w' => e = .returned (.int .u64 (look L a : Nat)) ∧ w = w' := by
  have c0 : w.cell? ⟨R, 0, none⟩ = some s := cell_row h.row 0
  have hlen := h.good.length
  obtain ⟨p, cap, rfl, hp⟩ := row_slice h.own
  have H := Lib.hid h
  clear h
  have HP := Lib.hid hp
  clear hp
  go_enter Tryz.func152, Tryz.ntmps152
  go_wp2
  go_loop [5] (fun i => ∃ k : Nat, k ≤ L.length ∧ i = .int .i64 k ∧ ∀ j, j < k → (L[j]!).1 ≠ a) (fun i => L.length - (intOf i).toNat)
  case atStart => exact ⟨0, by omega, rfl, fun j hj => by omega⟩
  case round =>
    obtain ⟨k, hk, rfl, hn⟩ := hrel
    have HN := Lib.hid hn
    clear hn
    by_cases hlt : k < L.length
    · obtain ⟨g, rfl⟩ := HP.out (by omega)
      obtain ⟨d1, d2⟩ := row_pair H.out.own k hlt
      have hl := look_idx H.out.good hlt
      generalize hx : (L[k]!).1 = x at *
      generalize hy : (L[k]!).2 = y at *
      have HX := Lib.hid hx; have HL := Lib.hid hl
      clear hl hx hy
      by_cases e : x = a
      · subst e
        go_wp2
        go_ret
        exact ⟨ret_u64 HL.out.symm, rfl⟩
      · have t1 : ((x : Int) == (a : Int)) = false := by rw [beq_eq_false_iff_ne]; omega
        have HE := Lib.hid e
        clear e
        go_wp2
        go_round
        case rel =>
          refine ⟨k + 1, by omega, by go_num, fun j hj => ?_⟩
          by_cases ej : j = k
          · subst ej; rw [HX.out]; exact HE.out
          · exact HN.out j (by omega)
        case measure => simp [intOf]; omega
    · have hl : look L a = 0 := look_none (fun i hi => HN.out i (by omega))
      have HL := Lib.hid hl
      clear hl
      go_wp2
      go_ret
      exact ⟨ret_u64 HL.out.symm, rfl⟩
end Go.Proofs.YtpmafdggbeppcaaGreatDoor.S2
namespace Go.Proofs.YtpmafdggbeppcaaGreatDoor.S2
set_option maxRecDepth 100000
set_option maxHeartbeats 16000000
open Go.Proofs.YtpmafdggbeppcaaGreatDoor
open Go.RowKit Go.Maps
def stepR (a y : Nat) (st : LL × Bool) (p : Nat × Nat) : LL × Bool :=
  if st.2 = false ∧ a < p.1 then (st.1 ++ [(a, y)] ++ [p], true)
  else if st.2 = false ∧ a = p.1 then (st.1 ++ [(a, y)], true)
  else if p.1 = a then st else (st.1 ++ [p], st.2)
def accR (a y : Nat) (b : Bool) (L : LL) (k : Nat) : LL × Bool := (L.take k).foldl (stepR a y) ([], b)
theorem accR_succ (a y : Nat) (b : Bool) {L : LL} {k : Nat} (h : k < L.length) : accR a y b L (k + 1) = stepR a y (accR a y b L k) (L[k]!) := by
  unfold accR
  rw [List.take_add_one, List.getElem?_eq_getElem h, getElem!_pos L k h, List.foldl_append]
  rfl
theorem stepR_len (a y : Nat) (st : LL × Bool) (p : Nat × Nat) : (stepR a y st p).1.length ≤ st.1.length + 2 := by
  unfold stepR
  split
  · simp
  · split
    · simp
    · split <;> simp
theorem accR_len (a y : Nat) (b : Bool) (L : LL) : ∀ k, k ≤ L.length → (accR a y b L k).1.length ≤ 2 * k
  | 0, _ => by simp [accR]
  | k + 1, h => by
    rw [accR_succ a y b (by omega)]
    have := stepR_len a y (accR a y b L k) (L[k]!)
    have := accR_len a y b L k (by omega)
    omega
def endR (a y : Nat) (st : LL × Bool) : LL := if st.2 = true then st.1 else st.1 ++ [(a, y)]
theorem fold_true (a y : Nat) : ∀ (L out : LL), L.foldl (stepR a y) (out, true) = (out ++ strike a L, true)
  | [], out => by simp [strike]
  | q :: r, out => by
    rw [List.foldl_cons]
    by_cases h : q.1 = a
    · have e : stepR a y (out, true) q = (out, true) := by simp [stepR, h]
      rw [e, fold_true a y r out]
      simp [strike, h]
    · have e : stepR a y (out, true) q = (out ++ [q], true) := by simp [stepR, h]
      rw [e, fold_true a y r (out ++ [q])]
      simp [strike, h]
theorem ins_front {a y : Nat} : ∀ {L : LL}, (∀ p ∈ L, a < p.1) → ins a y L = (a, y) :: L
  | [], _ => rfl
  | q :: r, h => by unfold ins; rw [if_pos (h q (by simp))]
theorem strike_id {a : Nat} {L : LL} (h : ∀ p ∈ L, p.1 ≠ a) : strike a L = L := by
  unfold strike
  rw [List.filter_eq_self]
  intro p hp
  simpa using h p hp
theorem fold_false (a y : Nat) : ∀ (L out : LL), Srt L → endR a y (L.foldl (stepR a y) (out, false)) = out ++ ins a y (strike a L)
  | [], out, _ => by simp [endR, strike, ins]
  | q :: r, out, h => by
    obtain ⟨h1, h2⟩ := List.pairwise_cons.1 h
    rw [List.foldl_cons]
    by_cases hlt : a < q.1
    · have e : stepR a y (out, false) q = (out ++ [(a, y)] ++ [q], true) := by simp [stepR, hlt]
      have hall : ∀ p ∈ q :: r, a < p.1 := fun p hp => by
        rcases List.mem_cons.1 hp with rfl | hp
        · exact hlt
        · have := h1 p hp; omega
      rw [e, fold_true, strike_id (L := q :: r) (fun p hp => by have := hall p hp; omega), ins_front hall, strike_id (L := r) (fun p hp => by have := hall p (by simp [hp]); omega)]
      simp [endR]
    · by_cases he : a = q.1
      · have e : stepR a y (out, false) q = (out ++ [(a, y)], true) := by simp [stepR, he]
        have hs : strike a (q :: r) = r := by
          unfold strike
          rw [List.filter_cons_of_neg (by simp [he])]
          exact strike_id (fun p hp => by have := h1 p hp; omega)
        have hr : strike a r = r := strike_id (fun p hp => by have := h1 p hp; omega)
        rw [e, fold_true, hs, ins_front (fun p hp => by have := h1 p hp; omega), hr]
        simp [endR]
      · have e : stepR a y (out, false) q = (out ++ [q], false) := by
          have : q.1 ≠ a := fun e => he e.symm
          simp [stepR, hlt, he, this]
        have hs : strike a (q :: r) = q :: strike a r := by
          unfold strike
          rw [List.filter_cons_of_pos (by simp; omega)]
        rw [e, fold_false a y r _ h2, hs]
        have : ins a y (q :: strike a r) = q :: ins a y (strike a r) := by
          rw [ins, if_neg hlt]
        rw [this]
        simp
theorem accR_end {a y : Nat} {L : LL} (h : Srt L) : endR a y (accR a y (decide (y = 0)) L L.length) = putL L a y := by
  unfold accR putL
  rw [List.take_length]
  by_cases h0 : y = 0
  · rw [decide_eq_true h0, fold_true, if_pos h0]
    simp [endR]
  · rw [decide_eq_false h0, fold_false a y L [] h, if_neg h0]
    simp
theorem row_base {w : World} {b c e size n : Nat} {v : Value} {xs : List Value} (h : w.ownsRow c e size v n xs) (hb : b ≤ c) : w.ownsRow b e size v n xs := by
  obtain ⟨h1, h2⟩ := h
  refine ⟨h1, ?_⟩
  rcases h2 with h2 | ⟨g, cap, cur, hv, hg, r⟩
  · exact .inl h2
  · exact .inr ⟨g, cap, cur, hv, by omega, r⟩
theorem row_keep {S : Nat → Prop} {w w' : World} {base e size n : Nat} {v : Value} {xs : List Value} (h : w.ownsRow base e size v n xs) (t : Turns S w w') (hs : ∀ g, v.ownBlock = some g → ¬ S g) : w'.ownsRow base e size v n xs := by
  obtain ⟨h1, h2⟩ := h
  refine ⟨h1, ?_⟩
  rcases h2 with h2 | ⟨g, cap, cur, hv, hg, hh, r⟩
  · exact .inl h2
  · exact .inr ⟨g, cap, cur, hv, hg, (t.block g (Array.getElem?_eq_some_iff.1 hh).1 (hs g (by rw [hv]; rfl))).trans hh, r⟩
theorem pair_new (w : World) (x z : Value) (T : Nat) : ∀ j u, [x, z][j]? = some u → (w.alloc (.cells #[x, z] T)).cell? ((⟨w.heap.size, 0, none⟩ : Addr).add j) = some u := by
  intro j u hu
  match j, hu with
  | 0, hu => simp at hu; subst hu; simp [Addr.add]
  | 1, hu => simp at hu; subst hu; simp [Addr.add]
theorem info31 : (Tryz.prog.info? 202).map (fun i => (i.zero, i.size, i.bytes)) = some (some (.agg #[.int .u32 0, .int .u64 0]), 2, 16) := by kernel_rfl
def RLeft (w w' : World) (base R : Nat) (L : LL) (n k a was is : Nat) : Prop := ∃ s, RefAt w' base R s L n k a was is ∧ (∀ g, s.ownBlock = some g → w.heap.size ≤ g) ∧ Turns (fun j => j = R) w w'
theorem racc_fin {w w1 wx : World} {base R n kd a l y : Nat} {s0 v : Value} {L' : LL} (t5 : Turns (fun k => k = R) w w1) (hs5 : w1.heap.size = w.heap.size) (r5 : w1.heap[R]? = some (.cells #[s0, .int .i64 ((n : Int) + 1), .int .u8 kd, .int .u32 a, .int .u64 l, .int .u64 y] 242 (0, 0))) (hR : R < w1.heap.size)
    (hg : Good L') (hb : Below w1.heap.size w1 wx) (hown : wx.ownsRow w1.heap.size 202 2 v L'.length (flatW L')) (hbase : base ≤ w.heap.size) : RLeft w (wx.setCell ⟨R, 0, none⟩ v) base R L' (n + 1) kd a l y := by
  have hlt := hown.lt
  have ts : Turns (fun k => k = R) wx (wx.setCell ⟨R, 0, none⟩ v) := (Turns.refl _ _).setCell _ _ rfl
  refine ⟨v, ⟨hg, ?_, row_base (row_keep hown ts (fun g hg e => by have := (hlt g hg).1; omega)) (by omega), fun e => by have := (hlt R e).1; omega⟩, fun g hg => by have := (hlt g hg).1; omega, ?_⟩
  · exact row_set ((hb.block R hR).trans r5) 0 v
  · exact (t5.trans (Turns.of_below (S := fun _ => False) hb) (fun _ _ h => h.elim)).trans ts (fun _ _ h => h)
theorem racc_z (x : Bool) (w : World) (base R : Nat) (s : Value) (L : LL) (n k0 a0 was is kd a v y : Nat) (h : RefAt w base R s L n k0 a0 was is) (hbase : base ≤ w.heap.size) (ha : a < 4294967296) (hn : n < 4611686018427387904) (hyl : y < 18446744073709551616)
    (hx : byteB a = x) (hs : (x = false ∧ y = v) ∨ (x = true ∧ (v : Int) % 256 = (y : Int))) :
    Calls Tryz.prog 138 #[Pt R, .int .u8 kd, .int .u32 a, .int .u64 v] w fun e w' => e = .returned (.int .u64 (look L a : Nat)) ∧ RLeft w w' base R (putL L a y) (n + 1) kd a (look L a) y := by
  have hb := fun W => rbyte_any a ha W
  rw [hx] at hb
  have hp := rpeek_any w base R s L n k0 a0 was is a h
  have HB := Lib.hid hb; have HP := Lib.hid hp
  have c1 : w.cell? ⟨R, 1, none⟩ = some (.int .i64 n) := cell_row h.row 1
  have f1 : w.frozen? ⟨R, 1, none⟩ = false := froz_row h.row 1
  have f2 : w.frozen? ⟨R, 2, none⟩ = false := froz_row h.row 2
  have f3 : w.frozen? ⟨R, 3, none⟩ = false := froz_row h.row 3
  have f4 : w.frozen? ⟨R, 4, none⟩ = false := froz_row h.row 4
  have f5 : w.frozen? ⟨R, 5, none⟩ = false := froz_row h.row 5
  have d2 : w.cell? ⟨R, 2, none⟩ = some (.int .u8 k0) := cell_row h.row 2
  have d3 : w.cell? ⟨R, 3, none⟩ = some (.int .u32 a0) := cell_row h.row 3
  have d4 : w.cell? ⟨R, 4, none⟩ = some (.int .u64 was) := cell_row h.row 4
  have d5 : w.cell? ⟨R, 5, none⟩ = some (.int .u64 is) := cell_row h.row 5
  have hlt : R < w.heap.size := (Array.getElem?_eq_some_iff.1 h.row).1
  have hlen := h.good.length
  have t0 : ((y : Int) == 0) = decide (y = 0) := by
    by_cases e : y = 0
    · simp [e]
    · rw [decide_eq_false e, beq_eq_false_iff_ne]; omega
  have hend := accR_end (a := a) (y := y) h.good.1
  have HE := Lib.hid hend
  have t5 := ((((((Turns.refl (fun k => k = R) w).setCell ⟨R, 1, none⟩ (.int .i64 ((n : Int) + 1)) rfl).setCell ⟨R, 2, none⟩ (.int .u8 kd) rfl).setCell ⟨R, 3, none⟩ (.int .u32 a) rfl).setCell ⟨R, 4, none⟩ (.int .u64 (look L a : Nat)) rfl).setCell ⟨R, 5, none⟩ (.int .u64 y) rfl)
  have r5 : (((((w.setCell ⟨R, 1, none⟩ (.int .i64 ((n : Int) + 1))).setCell ⟨R, 2, none⟩ (.int .u8 kd)).setCell ⟨R, 3, none⟩ (.int .u32 a)).setCell ⟨R, 4, none⟩ (.int .u64 (look L a : Nat))).setCell ⟨R, 5, none⟩ (.int .u64 y)).heap[R]? = some (.cells #[s, .int .i64 ((n : Int) + 1), .int .u8 kd, .int .u32 a, .int .u64 (look L a : Nat), .int .u64 y] 242 (0, 0)) :=
    row_set (row_set (row_set (row_set (row_set h.row 1 (.int .i64 ((n : Int) + 1))) 2 (.int .u8 kd)) 3 (.int .u32 a)) 4 (.int .u64 (look L a : Nat))) 5 (.int .u64 y)
  have o5 := row_keep h.own t5 (fun g hg e => h.ne (by rw [hg, e]))
  have hs5 : (((((w.setCell ⟨R, 1, none⟩ (.int .i64 ((n : Int) + 1))).setCell ⟨R, 2, none⟩ (.int .u8 kd)).setCell ⟨R, 3, none⟩ (.int .u32 a)).setCell ⟨R, 4, none⟩ (.int .u64 (look L a : Nat))).setCell ⟨R, 5, none⟩ (.int .u64 y)).heap.size = w.heap.size := by simp [World.setCell]
  obtain ⟨p, cap, rfl, hpp⟩ := row_slice h.own
  have HPP := Lib.hid hpp
  have HNE := Lib.hid h.ne
  have HG := Lib.hid h.good
  clear hb hp hend hx h hpp
  generalize look L a = l at *
  generalize hb0 : decide (y = 0) = b0 at *
  have HB0 := Lib.hid hb0
  clear hb0
  rcases hs with ⟨rfl, rfl⟩ | ⟨rfl, hs'⟩
  all_goals
    go_enter Tryz.func138, Tryz.ntmps138
    go_wp2_with (first
      | (go_at_call 151; refine (HB.out _).mono ?_; rintro e w' ⟨rfl, rfl⟩)
      | (go_at_call 152; refine HP.out.mono ?_; rintro e w' ⟨rfl, rfl⟩))
    generalize (((((w.setCell ⟨R, 1, none⟩ (.int .i64 ((n : Int) + 1))).setCell ⟨R, 2, none⟩ (.int .u8 kd)).setCell ⟨R, 3, none⟩ (.int .u32 a)).setCell ⟨R, 4, none⟩ (.int .u64 l)).setCell ⟨R, 5, none⟩ (.int .u64 y)) = w1 at *
    have T5 := Lib.hid t5; have R5 := Lib.hid r5; have O5 := Lib.hid o5; have HS5 := Lib.hid hs5
    clear t5 r5 o5 hs5 t0 c1 f1 f2 f3 f4 f5 d2 d3 d4 d5
    obtain ⟨i0, hi, hz0, hz1, hz2⟩ := info_parts info31
    have hR1 : R < w1.heap.size := by rw [HS5.out]; exact hlt
    go_loopg [10, 11, 12] L.length (fun q s10 s11 s12 wx => ∃ k : Nat, k ≤ L.length ∧ q = L.length - k ∧ s12 = .int .i64 k ∧ s11 = .bool (accR a y b0 L k).2 ∧ wx.ownsRow w1.heap.size 202 2 s10 (accR a y b0 L k).1.length (flatW (accR a y b0 L k).1) ∧ Below w1.heap.size w1 wx)
    case atStart => exact ⟨0, by omega, rfl, rfl, rfl, World.ownsRow_nil _ _ _ _, Below.refl _ _⟩
    case round =>
      obtain ⟨k, hk, rfl, rfl, rfl, hown, hbx⟩ := hrel
      have hal := accR_len a y b0 L k hk
      have BX := Lib.hid hbx
      have hsz := hbx.size
      have e0 : wr.cell? ⟨R, 0, none⟩ = some (.slice p L.length cap) := cell_row ((hbx.block R hR1).trans R5.out) 0
      clear hbx
      by_cases hlt2 : k < L.length
      · obtain ⟨g, rfl⟩ := HPP.out (by omega)
        have hgl : g < w1.heap.size := (O5.out.lt g rfl).2
        obtain ⟨g1, g2⟩ := row_pair O5.out k hlt2
        have hac := accR_succ a y b0 hlt2
        have hx1 := (HG.out.2 (L[k]!) (by rw [getElem!_pos L k hlt2]; exact List.getElem_mem hlt2)).1
        generalize hac1 : accR a y b0 L (k + 1) = ac1 at *
        have HAC1 := Lib.hid hac1
        clear hac1
        generalize accR a y b0 L k = ac at *
        obtain ⟨out, put⟩ := ac
        generalize hq : L[k]! = q at *
        obtain ⟨x, z⟩ := q
        have HAC := Lib.hid hac; have G1 := Lib.hid g1; have G2 := Lib.hid g2; have HQ := Lib.hid hq
        clear hac g1 g2 hq
        simp only at hown hal hx1
        have k1 : ∀ W, Below w1.heap.size w1 W → W.cell? ⟨g, k * 2, none⟩ = some (.int .u32 x) := fun W hW => (hW.cell (by exact hgl)).trans G1.out
        have k2 : ∀ W, Below w1.heap.size w1 W → W.cell? ⟨g, k * 2 + 1, none⟩ = some (.int .u64 z) := fun W hW => (hW.cell (by exact hgl)).trans G2.out
        have k3 : ∀ W, Below w1.heap.size w1 W → W.cell? ⟨R, 0, none⟩ = some (.slice (some ⟨g, 0, none⟩) L.length cap) := fun W hW => cell_row ((hW.block R hR1).trans R5.out) 0
        have m1 := k1 wr BX.out
        have m2 := k2 wr BX.out
        have K1 := Lib.hid k1; have K2 := Lib.hid k2; have K3 := Lib.hid k3
        clear k1 k2 k3
        have hbwr := BX.out
        have Bwr := Lib.hid hbwr
        have hszwr := hsz
        have heq : accR a y b0 L (k + 1) = ac1 := HAC1.out
        have HEQ := Lib.hid heq
        clear hbwr heq
        by_cases hxa : x = a
        · subst hxa
          cases put
          · have t2 : decide ((x : Int) ≤ (x : Int)) = true := by simp
            have Owr := Lib.hid hown
            clear hown
            go_wp2_with (at_builtin; refine wpList_append_own _ rfl _ _ 203 rfl w1.heap.size 202 i0 (.agg #[.int .u32 0, .int .u64 0]) 2 16 Tryz.underlying203 hi hz0 hz1 hz2 rfl (by decide) _ _ _ rfl (Owr.out.alloc _) ⟨wr.heap.size, 0, none⟩ 1 1 [.int .u32 x, .int .u64 y] rfl rfl (pair_new _ _ _ _) (by intro j hj; simp at hj; rcases hj with rfl | rfl <;> rfl) ?q1c3 ?q1c4 ?q1c5 ?_)
            case q1c3 => unfold maxLen; (try simp); omega
            case q1c4 => (try simp); omega
            case q1c5 => (try simp); omega
            intro vwa wa hownwa hgrwa _
            have hbwa : Below w1.heap.size w1 wa := (Bwr.out.alloc hszwr _).grown hgrwa (by simp; omega) (fun j hj => (Owr.out.lt j hj).1)
            have hszwa := hbwa.size
            have n1wa := K1.out _ hbwa
            have n2wa := K2.out _ hbwa
            have n3wa := K3.out _ hbwa
            have Bwa := Lib.hid hbwa; have Owa := Lib.hid hownwa
            clear hbwa hownwa hgrwa
            have hst : ac1 = (out ++ [(x, y)], true) := by rw [HAC.out]; simp [stepR]
            subst hst
            have HRW := Lib.hid (show wa.ownsRow w1.heap.size 202 2 vwa (out ++ [(x, y)] : LL).length (flatW (out ++ [(x, y)])) by rw [flatW_snoc]; simpa [encW] using Owa.out)
            go_wp2_with fail
            go_roundg (L.length - (k + 1))
            case measure => omega
            case rel => exact ⟨k + 1, by omega, rfl, by go_num, by rw [HEQ.out], by rw [HEQ.out]; exact HRW.out, Bwa.out⟩
          · have Owr := Lib.hid hown
            clear hown
            have hst : ac1 = (out, true) := by rw [HAC.out]; simp [stepR]
            subst hst
            have HRW := Lib.hid (show wr.ownsRow w1.heap.size 202 2 u10 (out : LL).length (flatW (out)) by exact Owr.out)
            go_wp2_with fail
            go_roundg (L.length - (k + 1))
            case measure => omega
            case rel => exact ⟨k + 1, by omega, rfl, by go_num, by rw [HEQ.out], by rw [HEQ.out]; exact HRW.out, Bwr.out⟩
        · have t1 : ((x : Int) != (a : Int)) = true := by rw [bne_iff_ne]; omega
          have HXA := Lib.hid hxa
          cases put
          · have Owr := Lib.hid hown
            clear hown
            by_cases hax : a < x
            · have t2 : decide ((a : Int) ≤ (x : Int)) = true := by simp; omega
              clear hxa
              go_wp2_with (at_builtin; refine wpList_append_own _ rfl _ _ 203 rfl w1.heap.size 202 i0 (.agg #[.int .u32 0, .int .u64 0]) 2 16 Tryz.underlying203 hi hz0 hz1 hz2 rfl (by decide) _ _ _ rfl (Owr.out.alloc _) ⟨wr.heap.size, 0, none⟩ 1 1 [.int .u32 a, .int .u64 y] rfl rfl (pair_new _ _ _ _) (by intro j hj; simp at hj; rcases hj with rfl | rfl <;> rfl) ?q2c3 ?q2c4 ?q2c5 ?_)
              case q2c3 => unfold maxLen; (try simp); omega
              case q2c4 => (try simp); omega
              case q2c5 => (try simp); omega
              intro vwa wa hownwa hgrwa _
              have hbwa : Below w1.heap.size w1 wa := (Bwr.out.alloc hszwr _).grown hgrwa (by simp; omega) (fun j hj => (Owr.out.lt j hj).1)
              have hszwa := hbwa.size
              have n1wa := K1.out _ hbwa
              have n2wa := K2.out _ hbwa
              have n3wa := K3.out _ hbwa
              have Bwa := Lib.hid hbwa; have Owa := Lib.hid hownwa
              clear hbwa hownwa hgrwa
              go_wp2_with (at_builtin; refine wpList_append_own _ rfl _ _ 203 rfl w1.heap.size 202 i0 (.agg #[.int .u32 0, .int .u64 0]) 2 16 Tryz.underlying203 hi hz0 hz1 hz2 rfl (by decide) _ _ _ rfl (Owa.out.alloc _) ⟨wa.heap.size, 0, none⟩ 1 1 [.int .u32 x, .int .u64 z] rfl rfl (pair_new _ _ _ _) (by intro j hj; simp at hj; rcases hj with rfl | rfl <;> rfl) ?q3c3 ?q3c4 ?q3c5 ?_)
              case q3c3 => unfold maxLen; (try simp); omega
              case q3c4 => (try simp); omega
              case q3c5 => (try simp); omega
              intro vwb wb hownwb hgrwb _
              have hbwb : Below w1.heap.size w1 wb := (Bwa.out.alloc hszwa _).grown hgrwb (by simp; omega) (fun j hj => (Owa.out.lt j hj).1)
              have hszwb := hbwb.size
              have n1wb := K1.out _ hbwb
              have n2wb := K2.out _ hbwb
              have n3wb := K3.out _ hbwb
              have Bwb := Lib.hid hbwb; have Owb := Lib.hid hownwb
              clear hbwb hownwb hgrwb
              have hst : ac1 = (out ++ [(a, y)] ++ [(x, z)], true) := by rw [HAC.out]; simp [stepR, hax]
              subst hst
              have HRW := Lib.hid (show wb.ownsRow w1.heap.size 202 2 vwb (out ++ [(a, y)] ++ [(x, z)] : LL).length (flatW (out ++ [(a, y)] ++ [(x, z)])) by rw [flatW_snoc, flatW_snoc]; simpa [encW] using Owb.out)
              go_wp2_with fail
              go_roundg (L.length - (k + 1))
              case measure => omega
              case rel => exact ⟨k + 1, by omega, rfl, by go_num, by rw [HEQ.out], by rw [HEQ.out]; exact HRW.out, Bwb.out⟩
            · have t2 : (x : Int) < (a : Int) := by omega
              have hne : a ≠ x := fun e => HXA.out e.symm
              have HNE2 := Lib.hid hne; have HAX := Lib.hid hax
              clear hxa hne hax
              go_wp2_with (at_builtin; refine wpList_append_own _ rfl _ _ 203 rfl w1.heap.size 202 i0 (.agg #[.int .u32 0, .int .u64 0]) 2 16 Tryz.underlying203 hi hz0 hz1 hz2 rfl (by decide) _ _ _ rfl (Owr.out.alloc _) ⟨wr.heap.size, 0, none⟩ 1 1 [.int .u32 x, .int .u64 z] rfl rfl (pair_new _ _ _ _) (by intro j hj; simp at hj; rcases hj with rfl | rfl <;> rfl) ?q4c3 ?q4c4 ?q4c5 ?_)
              case q4c3 => unfold maxLen; (try simp); omega
              case q4c4 => (try simp); omega
              case q4c5 => (try simp); omega
              intro vwa wa hownwa hgrwa _
              have hbwa : Below w1.heap.size w1 wa := (Bwr.out.alloc hszwr _).grown hgrwa (by simp; omega) (fun j hj => (Owr.out.lt j hj).1)
              have hszwa := hbwa.size
              have n1wa := K1.out _ hbwa
              have n2wa := K2.out _ hbwa
              have n3wa := K3.out _ hbwa
              have Bwa := Lib.hid hbwa; have Owa := Lib.hid hownwa
              clear hbwa hownwa hgrwa
              have hst : ac1 = (out ++ [(x, z)], false) := by rw [HAC.out]; simp [stepR, HXA.out, HNE2.out, HAX.out]
              subst hst
              have HRW := Lib.hid (show wa.ownsRow w1.heap.size 202 2 vwa (out ++ [(x, z)] : LL).length (flatW (out ++ [(x, z)])) by rw [flatW_snoc]; simpa [encW] using Owa.out)
              go_wp2_with fail
              go_roundg (L.length - (k + 1))
              case measure => omega
              case rel => exact ⟨k + 1, by omega, rfl, by go_num, by rw [HEQ.out], by rw [HEQ.out]; exact HRW.out, Bwa.out⟩
          · have Owr := Lib.hid hown
            clear hown hxa
            go_wp2_with (at_builtin; refine wpList_append_own _ rfl _ _ 203 rfl w1.heap.size 202 i0 (.agg #[.int .u32 0, .int .u64 0]) 2 16 Tryz.underlying203 hi hz0 hz1 hz2 rfl (by decide) _ _ _ rfl (Owr.out.alloc _) ⟨wr.heap.size, 0, none⟩ 1 1 [.int .u32 x, .int .u64 z] rfl rfl (pair_new _ _ _ _) (by intro j hj; simp at hj; rcases hj with rfl | rfl <;> rfl) ?q5c3 ?q5c4 ?q5c5 ?_)
            case q5c3 => unfold maxLen; (try simp); omega
            case q5c4 => (try simp); omega
            case q5c5 => (try simp); omega
            intro vwa wa hownwa hgrwa _
            have hbwa : Below w1.heap.size w1 wa := (Bwr.out.alloc hszwr _).grown hgrwa (by simp; omega) (fun j hj => (Owr.out.lt j hj).1)
            have hszwa := hbwa.size
            have n1wa := K1.out _ hbwa
            have n2wa := K2.out _ hbwa
            have n3wa := K3.out _ hbwa
            have Bwa := Lib.hid hbwa; have Owa := Lib.hid hownwa
            clear hbwa hownwa hgrwa
            have hst : ac1 = (out ++ [(x, z)], true) := by rw [HAC.out]; simp [stepR, HXA.out]
            subst hst
            have HRW := Lib.hid (show wa.ownsRow w1.heap.size 202 2 vwa (out ++ [(x, z)] : LL).length (flatW (out ++ [(x, z)])) by rw [flatW_snoc]; simpa [encW] using Owa.out)
            go_wp2_with fail
            go_roundg (L.length - (k + 1))
            case measure => omega
            case rel => exact ⟨k + 1, by omega, rfl, by go_num, by rw [HEQ.out], by rw [HEQ.out]; exact HRW.out, Bwa.out⟩
      · obtain rfl : k = L.length := by omega
        have hgp : Good (putL L a y) := HG.out.put ha hyl
        have HGP := Lib.hid hgp
        clear hgp
        generalize accR a y b0 L L.length = ac at *
        obtain ⟨out, put⟩ := ac
        have e1 : wr.frozen? ⟨R, 0, none⟩ = false := froz_row ((BX.out.block R hR1).trans R5.out) 0
        have Owr := Lib.hid hown
        clear hown
        cases put
        · have hl2 : out ++ [(a, y)] = putL L a y := by rw [← HE.out]; simp [endR]
          have HL2 := Lib.hid hl2
          clear hl2
          have k3 : ∀ W, Below w1.heap.size w1 W → W.cell? ⟨R, 0, none⟩ = some (.slice p L.length cap) := fun W hW => cell_row ((hW.block R hR1).trans R5.out) 0
          have k4 : ∀ W, Below w1.heap.size w1 W → W.frozen? ⟨R, 0, none⟩ = false := fun W hW => froz_row ((hW.block R hR1).trans R5.out) 0
          have K3 := Lib.hid k3; have K4 := Lib.hid k4
          clear k3 k4
          go_wp2_with (at_builtin; refine wpList_append_own _ rfl _ _ 203 rfl w1.heap.size 202 i0 (.agg #[.int .u32 0, .int .u64 0]) 2 16 Tryz.underlying203 hi hz0 hz1 hz2 rfl (by decide) _ _ _ rfl (Owr.out.alloc _) ⟨wr.heap.size, 0, none⟩ 1 1 [.int .u32 a, .int .u64 y] rfl rfl (pair_new _ _ _ _) (by intro j hj; simp at hj; rcases hj with rfl | rfl <;> rfl) ?z3 ?z4 ?z5 ?_)
          case z3 => unfold maxLen; (try simp); omega
          case z4 => (try simp); omega
          case z5 => (try simp); omega
          intro vwa wa hownwa hgrwa _
          have hbwa : Below w1.heap.size w1 wa := (BX.out.alloc hsz _).grown hgrwa (by simp; omega) (fun j hj => (Owr.out.lt j hj).1)
          have n3 := K3.out _ hbwa
          have n4 := K4.out _ hbwa
          have Bwa := Lib.hid hbwa; have Owa := Lib.hid hownwa
          clear hbwa hownwa hgrwa
          have HRW := Lib.hid (show wa.ownsRow w1.heap.size 202 2 vwa (putL L a y).length (flatW (putL L a y)) by rw [← HL2.out, flatW_snoc]; simpa [encW] using Owa.out)
          obtain ⟨p2, cap2, rfl, _⟩ := row_slice HRW.out
          go_wp2_with fail
          go_ret
          exact ⟨rfl, racc_fin T5.out HS5.out R5.out hR1 HGP.out Bwa.out HRW.out hbase⟩
        · have hl2 : out = putL L a y := by rw [← HE.out]; simp [endR]
          have HL2 := Lib.hid hl2
          clear hl2
          have HRW := Lib.hid (show wr.ownsRow w1.heap.size 202 2 u10 (putL L a y).length (flatW (putL L a y)) by rw [← HL2.out]; exact Owr.out)
          obtain ⟨p2, cap2, rfl, _⟩ := row_slice HRW.out
          go_wp2_with fail
          go_ret
          exact ⟨rfl, racc_fin T5.out HS5.out R5.out hR1 HGP.out BX.out HRW.out hbase⟩
theorem racc_any (w : World) (base R : Nat) (s : Value) (L : LL) (n k0 a0 was is kd a v : Nat) (h : RefAt w base R s L n k0 a0 was is) (hbase : base ≤ w.heap.size) (ha : a < 4294967296) (hn : n < 4611686018427387904) (hv : v < 18446744073709551616) :
    Calls Tryz.prog 138 #[Pt R, .int .u8 kd, .int .u32 a, .int .u64 v] w fun e w' => e = .returned (.int .u64 (look L a : Nat)) ∧ RLeft w w' base R (putL L a (bring a v)) (n + 1) kd a (look L a) (bring a v) := by
  refine racc_z (byteB a) w base R s L n k0 a0 was is kd a v (bring a v) h hbase ha hn (bring_lt hv) rfl ?_
  unfold bring
  by_cases hb : byteB a = true
  · right
    rw [if_pos hb]
    exact ⟨hb, by simp⟩
  · left
    rw [if_neg hb]
    exact ⟨by simpa using hb, rfl⟩
end Go.Proofs.YtpmafdggbeppcaaGreatDoor.S2
