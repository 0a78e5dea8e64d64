/- NotesKinds. -/
import Derived.Test.YtoefgfolokcdhaaDoorB1
namespace Go.Proofs.YtoefgfolokcdhaaDoor
open Go.RowKit

theorem nmS_apart {a b : Nat} (hk : isK a = true) (hab : a ≠ b) : nmS a ≠ nmS b := by
  have ha : a < 38 := by simp [isK] at hk; omega
  by_cases hb : b < 38
  · have h := all38 (p := fun a => (List.range 38).all fun b => decide (isK a = true → a ≠ b → nmS a ≠ nmS b)) (by decide +kernel) ha
    have h2 := all38 (p := fun b => decide (isK a = true → a ≠ b → nmS a ≠ nmS b)) h hb
    exact of_decide_eq_true h2 hk hab
  · rw [nmS_far (by omega : 38 ≤ b)]
    intro e
    rw [(isK_iff a).1 e] at hk; cases hk
theorem toList_inj {x y : ByteArray} (h : x.toList = y.toList) : x = y := by
  rw [ByteArray.toList_eq, ByteArray.toList_eq] at h
  rcases x with ⟨⟨l⟩⟩; rcases y with ⟨⟨m⟩⟩
  simp at h
  subst h; rfl
/-- Is it one of the locks'? -/
def locB (k : Nat) : Bool := decide (16 ≤ k) && decide (k ≤ 37)
theorem isK_eq (k : Nat) : isK k = (lotB k || locB k) := rfl
abbrev xk (a : Nat) : Nt := ⟨0, 0, a, 0, 0, 0, 0⟩
set_option maxHeartbeats 4000000 in
set_option maxRecDepth 100000 in
theorem law_kinds (a b : Nat) (ha : a < 256) (hb : b < 256) (w : World) (hT : Tab w) : Calls Tryd.prog 6 #[.int .u8 (a : Int), .int .u8 (b : Int)] w fun e w' => e = .returned (.bool true) ∧ Below w.heap.size w w' := by
  have hx := name_any a ha w hT
  have hnew := new_any w
  have HT := Lib.hid hT
  have H0 : Hid (0 < w.heap.size) := Lib.hid hT.1
  have hnb := fun w3 (b3 : Below w.heap.size w w3) => name_any b hb w3 (hT.below b3 hT.1)
  have HNB := Lib.hid hnb
  have hlv := fun w3 (b3 : Below w.heap.size w w3) => lives_any w3 (hT.below b3 hT.1)
  have HLV := Lib.hid hlv
  have hlt := lot_any a ha
  have HLT := Lib.hid hlt
  have hdist := nmS_apart (a := a) (b := b)
  have HD := Lib.hid hdist
  clear hdist hT hnb hlv hlt
  go_enter Tryd.func6, Tryd.ntmps6
  go_upto_region 2 with (go_at_call 16; refine hx.mono ?_; rintro e w1 ⟨rfl, rfl⟩)
  clear hx
  go_cut [6] from 11 to 16 (fun s wx => s = .bool (lotB a) ∧ w = wx)
  case first =>
    clear hnew
    by_cases h1 : (1 : Int) ≤ (a : Int)
    · have e1 : decide (1 ≤ a) = true := by simp; omega
      by_cases h2 : (a : Int) ≤ 5
      · have e2 : decide (a ≤ 5) = true := by simp; omega
        go_wp2_with fail
        go_meet
        exact ⟨by rw [lotB, e1, e2]; rfl, rfl⟩
      · have e2 : decide (a ≤ 5) = false := by simp; omega
        go_wp2_with fail
        go_meet
        exact ⟨by rw [lotB, e1, e2]; rfl, rfl⟩
    · have e1 : decide (1 ≤ a) = false := by simp; omega
      go_wp2_with fail
      go_meet
      exact ⟨by rw [lotB, e1]; rfl, rfl⟩
  case rest =>
    obtain ⟨rfl, rfl⟩ := hcut
    go_upto_region 3 with (fail)
    go_cut [7] from 17 to 22 (fun s wx => s = .bool (locB a) ∧ w = wx)
    case first =>
      clear hnew
      by_cases h1 : (16 : Int) ≤ (a : Int)
      · have e1 : decide (16 ≤ a) = true := by simp; omega
        by_cases h2 : (a : Int) ≤ 37
        · have e2 : decide (a ≤ 37) = true := by simp; omega
          go_wp2_with fail
          go_meet
          exact ⟨by rw [locB, e1, e2]; rfl, rfl⟩
        · have e2 : decide (a ≤ 37) = false := by simp; omega
          go_wp2_with fail
          go_meet
          exact ⟨by rw [locB, e1, e2]; rfl, rfl⟩
      · have e1 : decide (16 ≤ a) = false := by simp; omega
        go_wp2_with fail
        go_meet
        exact ⟨by rw [locB, e1]; rfl, rfl⟩
    case rest =>
      obtain ⟨rfl, rfl⟩ := hcut
      go_upto_region 4 with (fail)
      have hadd := fun w1 (h1 : LAt 52 .u8 w1 w.heap.size w.heap.size (.slice none 0 0) []) (b1 : Below w.heap.size w w1) => add_any h1 b1.size (HT.out.below b1 H0.out) (xk a) ha (by simp)
      have HADD := Lib.hid hadd
      clear hadd
      go_upto_region 5 with (first
        | (go_at_call 8; refine hnew.mono ?_; rintro e w1 ⟨rfl, h1, b1⟩)
        | (go_at_call 9; refine (HADD.out _ h1 b1).mono ?_; rintro e w3 ⟨rfl, hl⟩))
      have hb3 := b1.trans (hl.step h1 b1.size)
      have HB3 := Lib.hid hb3
      clear hb3 hl h1 b1 hnew
      cases hlo : lotB a <;> cases hlc : locB a
      · -- False False
        have hk : isK a = false := by rw [isK_eq, hlo, hlc]; rfl
        have he : addE [] (xk a) = 1 := by simp [addE, refB, fallsB, hk]
        rw [he]
        rw [hlo] at HLT
        have hxe : nmS a = ⟨#[]⟩ := (isK_iff a).2 hk
        rw [hxe]
        clear hk he hlo hlc HD hxe
        by_cases hab : a = b
        · subst hab
          go_wp2_with (first
            | (go_at_call 18; refine (HLT.out _).mono ?_; rintro e w5 ⟨rfl, rfl⟩)
            | (go_at_call 7; refine (HLV.out _ HB3.out).mono ?_; rintro e w6 ⟨rfl, hb6⟩))
          go_ret
          exact ⟨rfl, HB3.out.trans (hb6.mono HB3.out.size)⟩
        · have hab2 : ((a : Int) == (b : Int)) = false := by simp; omega
          go_wp2_with (first
            | (go_at_call 18; refine (HLT.out _).mono ?_; rintro e w5 ⟨rfl, rfl⟩)
            | (go_at_call 7; refine (HLV.out _ HB3.out).mono ?_; rintro e w6 ⟨rfl, hb6⟩))
          go_ret
          exact ⟨rfl, HB3.out.trans (hb6.mono HB3.out.size)⟩
      · -- False True
        have hk : isK a = true := by rw [isK_eq, hlo, hlc]; rfl
        have he : addE [] (xk a) = 0 := by simp [addE, refB, fallsB, hk]
        rw [he]
        rw [hlo] at HLT
        have hxe : (nmS a).toList.isEmpty = false := by
          rw [bt, decide_eq_false_iff_not]; intro e; rw [(isK_iff a).1 e] at hk; cases hk
        by_cases hab : a = b
        · subst hab
          generalize nmS a = x at *
          clear hk he hlo hlc HD
          go_wp2_with (first
            | (go_at_call 18; refine (HLT.out _).mono ?_; rintro e w5 ⟨rfl, rfl⟩)
            | (go_at_call 7; refine (HLV.out _ HB3.out).mono ?_; rintro e w6 ⟨rfl, hb6⟩))
          go_ret
          exact ⟨rfl, HB3.out.trans (hb6.mono HB3.out.size)⟩
        · have hd := HD.out hk hab
          have hab2 : ((a : Int) == (b : Int)) = false := by simp; omega
          generalize nmS a = x at *
          generalize nmS b = y at *
          have hd2 : (x.toList == y.toList) = false := beq_eq_false_iff_ne.2 fun e => hd (toList_inj e)
          clear hk he hlo hlc HD
          go_wp2_with (first
            | (go_at_call 16; refine (HNB.out _ HB3.out).mono ?_; rintro e w5 ⟨rfl, rfl⟩)
            | (go_at_call 18; refine (HLT.out _).mono ?_; rintro e w5 ⟨rfl, rfl⟩)
            | (go_at_call 7; refine (HLV.out _ HB3.out).mono ?_; rintro e w6 ⟨rfl, hb6⟩))
          go_ret
          exact ⟨rfl, HB3.out.trans (hb6.mono HB3.out.size)⟩
      · -- True False
        have hk : isK a = true := by rw [isK_eq, hlo, hlc]; rfl
        have he : addE [] (xk a) = 0 := by simp [addE, refB, fallsB, hk]
        rw [he]
        rw [hlo] at HLT
        have hxe : (nmS a).toList.isEmpty = false := by
          rw [bt, decide_eq_false_iff_not]; intro e; rw [(isK_iff a).1 e] at hk; cases hk
        by_cases hab : a = b
        · subst hab
          generalize nmS a = x at *
          clear hk he hlo hlc HD
          go_wp2_with (first
            | (go_at_call 18; refine (HLT.out _).mono ?_; rintro e w5 ⟨rfl, rfl⟩)
            | (go_at_call 7; refine (HLV.out _ HB3.out).mono ?_; rintro e w6 ⟨rfl, hb6⟩))
          go_ret
          exact ⟨rfl, HB3.out.trans (hb6.mono HB3.out.size)⟩
        · have hd := HD.out hk hab
          have hab2 : ((a : Int) == (b : Int)) = false := by simp; omega
          generalize nmS a = x at *
          generalize nmS b = y at *
          have hd2 : (x.toList == y.toList) = false := beq_eq_false_iff_ne.2 fun e => hd (toList_inj e)
          clear hk he hlo hlc HD
          go_wp2_with (first
            | (go_at_call 16; refine (HNB.out _ HB3.out).mono ?_; rintro e w5 ⟨rfl, rfl⟩)
            | (go_at_call 18; refine (HLT.out _).mono ?_; rintro e w5 ⟨rfl, rfl⟩)
            | (go_at_call 7; refine (HLV.out _ HB3.out).mono ?_; rintro e w6 ⟨rfl, hb6⟩))
          go_ret
          exact ⟨rfl, HB3.out.trans (hb6.mono HB3.out.size)⟩
      · -- True True
        have hk : isK a = true := by rw [isK_eq, hlo, hlc]; rfl
        have he : addE [] (xk a) = 0 := by simp [addE, refB, fallsB, hk]
        rw [he]
        rw [hlo] at HLT
        have hxe : (nmS a).toList.isEmpty = false := by
          rw [bt, decide_eq_false_iff_not]; intro e; rw [(isK_iff a).1 e] at hk; cases hk
        by_cases hab : a = b
        · subst hab
          generalize nmS a = x at *
          clear hk he hlo hlc HD
          go_wp2_with (first
            | (go_at_call 18; refine (HLT.out _).mono ?_; rintro e w5 ⟨rfl, rfl⟩)
            | (go_at_call 7; refine (HLV.out _ HB3.out).mono ?_; rintro e w6 ⟨rfl, hb6⟩))
          go_ret
          exact ⟨rfl, HB3.out.trans (hb6.mono HB3.out.size)⟩
        · have hd := HD.out hk hab
          have hab2 : ((a : Int) == (b : Int)) = false := by simp; omega
          generalize nmS a = x at *
          generalize nmS b = y at *
          have hd2 : (x.toList == y.toList) = false := beq_eq_false_iff_ne.2 fun e => hd (toList_inj e)
          clear hk he hlo hlc HD
          go_wp2_with (first
            | (go_at_call 16; refine (HNB.out _ HB3.out).mono ?_; rintro e w5 ⟨rfl, rfl⟩)
            | (go_at_call 18; refine (HLT.out _).mono ?_; rintro e w5 ⟨rfl, rfl⟩)
            | (go_at_call 7; refine (HLV.out _ HB3.out).mono ?_; rintro e w6 ⟨rfl, hb6⟩))
          go_ret
          exact ⟨rfl, HB3.out.trans (hb6.mono HB3.out.size)⟩
end Go.Proofs.YtoefgfolokcdhaaDoor
