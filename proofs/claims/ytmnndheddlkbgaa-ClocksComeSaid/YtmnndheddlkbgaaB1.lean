/- ClocksCome. -/
import Derived.Test.YtmnndheddlkbgaaA7
namespace Go.Proofs.Ytmnndheddlkbgaa
open Go.RowKit

theorem sat_zero {a : Nat} (h : a ≤ 18446744073709551615) : sat 0 a = a := by unfold sat; rw [if_pos (by omega)]; omega
theorem sat_sat (a g l : Nat) : sat (sat a g) l = sat a (sat g l) := by
  unfold sat
  by_cases h1 : a + g ≤ 18446744073709551615 <;> by_cases h2 : g + l ≤ 18446744073709551615 <;> simp only [h1, h2, if_true, if_false] <;> split <;> (try split) <;> omega
theorem come_first (a n : Nat) (ha : a ≤ 18446744073709551615) : comeB a true (sat a n) = (decide (n = 0) || decide (a = 18446744073709551615)) := by
  unfold comeB sat
  simp only [Bool.true_and]
  by_cases h1 : n = 0
  · subst h1; rw [if_pos (by omega)]; simp
  · by_cases h2 : a = 18446744073709551615
    · subst h2; rw [if_neg (by omega)]; simp
    · simp only [h1, h2, decide_false, Bool.or_false]
      simp
      split <;> omega
theorem come_now (a n g : Nat) (h : n ≤ g) : comeB (sat a g) true (sat a n) = true := by
  unfold comeB sat
  simp only [Bool.true_and, decide_eq_true_eq]
  split <;> split <;> omega
theorem come_end (a n g : Nat) (h : g < n) (hc : comeB (sat a g) true (sat a n) = true) : sat a g = 18446744073709551615 := by
  unfold comeB sat at hc
  simp only [Bool.true_and, decide_eq_true_eq] at hc
  unfold sat
  split <;> (split at hc <;> (try split at hc) <;> omega)
theorem sat_mono (a g l : Nat) : sat a g ≤ sat a (sat g l) := by
  unfold sat
  split <;> split <;> (try split) <;> omega
theorem new_none (w : World) : Calls Try.prog 8 #[.slice none 0 0, .int .u64 0] w (Made w 0 0 []) := new_any (D := []) 0 0 (by simp) (by omega) (by omega) Rd.nil (Nat.zero_le _) (by simp)
/-- A deadline that was told, in a block of its own. -/
structure Box (w : World) (X U : Nat) : Prop where
  lt : X < w.heap.size
  c0 : w.cell? ⟨X, 0, none⟩ = some (.bool true)
  c1 : w.cell? ⟨X, 1, none⟩ = some (.int .u64 U)
theorem Box.turns {w w' : World} {X U B : Nat} (h : Box w X U) (t : Turns (fun k => k = B) w w') (hb : B < X) : Box w' X U :=
  ⟨Nat.lt_of_lt_of_le h.lt t.size, (t.cell h.lt (by omega)).trans h.c0, (t.cell h.lt (by omega)).trans h.c1⟩
theorem Box.new {w w' : World} {X U : Nat} (h : Box w X U) (b : Below w.heap.size w w') : Box w' X U :=
  ⟨Nat.lt_of_lt_of_le h.lt b.size, (b.cell (p := ⟨X, 0, none⟩) h.lt).trans h.c0, (b.cell (p := ⟨X, 1, none⟩) h.lt).trans h.c1⟩
theorem getElem!_mem' {L : List Nat} {k : Nat} (h : k < L.length) : L[k]! ∈ L := by rw [getElem!_pos L k h]; exact List.getElem_mem h
def ovr (G d : Nat) : Bool := decide (18446744073709551615 < G + d)
set_option maxHeartbeats 4000000 in
set_option maxRecDepth 100000 in
theorem law_come (a n : Nat) (p : Option Addr) (c : Nat) (L : List Nat) (ha : a ≤ 18446744073709551615) (hn : n ≤ 18446744073709551615) (hL : ∀ d ∈ L, d ≤ 18446744073709551615) (hm : L.length ≤ 100) (w : World) (hr : Rd w w.heap.size p L) :
    Calls Try.prog 5 #[.int .u64 a, .int .u64 n, .slice p L.length c] w fun e w' => e = .returned (.bool true) ∧ Below w.heap.size w w' := by
  have q := new_none w
  have Q := Lib.hid q
  have ql := lives_any
  have QL := Lib.hid ql
  have HLL := Lib.hid hL
  have HR := Lib.hid hr
  have hcf := come_first a n ha
  have HCF := Lib.hid hcf
  have hsz0 := sat_zero ha
  have HS0 := Lib.hid hsz0
  clear q ql hL hr hcf hsz0
  go_enter Try.func5, Try.ntmps5
  go_wp2_with fail
  refine Q.out.mono ?_
  rintro e w1 hm1
  obtain ⟨B, rfl, hB, o1, b1⟩ := hm1.own
  have O1 := Lib.hid o1; have B1 := Lib.hid b1; have HB := Lib.hid hB
  clear hm1 o1 b1 hB
  go_wp2_with fail
  refine (own_tick O1.out a ha).mono ?_
  rintro e w2 ⟨rfl, o2, b2⟩
  rw [HS0.out] at o2
  have O2 := Lib.hid o2; have B2 := Lib.hid b2
  clear o2 b2
  go_wp2_with fail
  refine (own_after O2.out n hn).mono ?_
  rintro e w3 ⟨rfl, b3⟩
  have b4 := b3.trans ((Below.refl w2.heap.size w3).alloc b3.size (.cells #[.bool true, .int .u64 (sat a n : Nat)] 31))
  have o4 := O2.out.new b4
  have x0 : (w3.alloc (.cells #[.bool true, .int .u64 (sat a n : Nat)] 31)).cell? ⟨w3.heap.size, 0, none⟩ = some (.bool true) := by rw [World.cell?_alloc_at _ _ _ _ rfl]; rfl
  have x1 : (w3.alloc (.cells #[.bool true, .int .u64 (sat a n : Nat)] 31)).cell? ⟨w3.heap.size, 1, none⟩ = some (.int .u64 (sat a n : Nat)) := by rw [World.cell?_alloc_at _ _ _ _ rfl]; rfl
  have hbx : B < w3.heap.size := Nat.lt_of_lt_of_le O2.out.lt b3.size
  have hxs : w3.heap.size < (w3.alloc (.cells #[.bool true, .int .u64 (sat a n : Nat)] 31)).heap.size := by simp
  have hsn := sat_le a n
  have O4 := Lib.hid o4; have B4 := Lib.hid b4; have HBX := Lib.hid hbx
  clear b3 b4 o4 hbx
  go_wp2_with fail
  generalize w3.alloc (.cells #[.bool true, .int .u64 (sat a n : Nat)] 31) = w4 at *
  generalize w3.heap.size = X at *
  refine (own_now O4.out).mono ?_
  rintro e w5 ⟨rfl, rfl⟩
  have hb4 : Below w.heap.size w w4 := ((B1.out.trans (B2.out)).trans (B4.out.mono (Nat.le_trans B1.out.size B2.out.size)))
  have HB4 := Lib.hid hb4
  clear hb4
  go_upto_region 8 with (fail)
  go_cut [39] from 25 to 39 (fun s wx => s = .bool false ∧ Below w4.heap.size w4 wx)
  case first =>
    have hcm := own_come O4.out true (sat a n)
    rw [HCF.out] at hcm
    have ht : ((a : Int) != (a : Int)) = false := by simp
    by_cases h1 : n = 0
    · have t1 : ((n : Int) == 0) = true := by rw [beq_iff_eq]; omega
      rw [show (decide (n = 0) || decide (a = 18446744073709551615)) = true by simp [h1]] at hcm
      have HCM := Lib.hid hcm
      clear hcm h1
      go_wp2_with fail
      refine HCM.out.mono ?_
      rintro e w6 ⟨rfl, b6⟩
      have B6 := Lib.hid b6; clear b6
      go_wp2_with fail
      go_meet
      exact ⟨rfl, B6.out⟩
    · have t1 : ((n : Int) == 0) = false := by rw [beq_eq_false_iff_ne]; omega
      by_cases h2 : a = 18446744073709551615
      · have t2 : ((a : Int) == 18446744073709551615) = true := by rw [beq_iff_eq]; omega
        rw [show (decide (n = 0) || decide (a = 18446744073709551615)) = true by simp [h2]] at hcm
        have HCM := Lib.hid hcm
        clear hcm h1 h2
        go_wp2_with fail
        refine HCM.out.mono ?_
        rintro e w6 ⟨rfl, b6⟩
        have B6 := Lib.hid b6; clear b6
        go_wp2_with fail
        go_meet
        exact ⟨rfl, B6.out⟩
      · have t2 : ((a : Int) == 18446744073709551615) = false := by rw [beq_eq_false_iff_ne]; omega
        rw [show (decide (n = 0) || decide (a = 18446744073709551615)) = false by simp [h1, h2]] at hcm
        have HCM := Lib.hid hcm
        clear hcm h1 h2
        go_wp2_with fail
        refine HCM.out.mono ?_
        rintro e w6 ⟨rfl, b6⟩
        have B6 := Lib.hid b6; clear b6
        go_wp2_with fail
        go_meet
        exact ⟨rfl, B6.out⟩
  case rest =>
    obtain ⟨rfl, bc⟩ := hcut
    have O6 := Lib.hid (O4.out.new bc)
    have hb6 : Below w.heap.size w wc := HB4.out.trans (bc.mono HB4.out.size)
    have y0 := (bc.cell (p := ⟨X, 0, none⟩) hxs).trans x0
    have y1 := (bc.cell (p := ⟨X, 1, none⟩) hxs).trans x1
    have hxc : X < wc.heap.size := Nat.lt_of_lt_of_le hxs bc.size
    have HB6 := Lib.hid hb6; have Y0 := Lib.hid y0; have Y1 := Lib.hid y1; have HXC := Lib.hid hxc
    clear bc hb6 x0 x1 y0 y1 hxc hxs
    go_wp2_with fail
    go_loopg [9, 10, 11] L.length (fun q s9 s10 s11 wx => ∃ k G : Nat, k ≤ L.length ∧ q = L.length - k ∧ s9 = .int .u64 G ∧ s10 = .int .u64 (sat a G : Nat) ∧ s11 = .int .i64 k ∧ G ≤ 18446744073709551615 ∧ Own wx w.heap.size B (sat a G) 0 [] ∧ Below w.heap.size w wx ∧ Box wx X (sat a n))
    case atStart =>
      have e : sat a 0 = a := by unfold sat; rw [if_pos (by omega)]; rfl
      refine ⟨0, 0, by omega, rfl, rfl, ?_, rfl, by omega, ?_, HB6.out, ⟨HXC.out, Y0.out, Y1.out⟩⟩
      · rw [e]
      · rw [e]; exact O6.out
    case round =>
      obtain ⟨k, G, hk, rfl, rfl, rfl, rfl, hG, hown, hb, hbox⟩ := hrel
      have HOW := Lib.hid hown; have HBB := Lib.hid hb; have HBX2 := Lib.hid hbox
      clear hown hb hbox
      by_cases hkn : k < L.length
      · obtain ⟨g, o, rfl, hg, hl⟩ := (HR.out.below HBB.out (Nat.le_refl _)) (by omega)
        have d0 := hl k hkn
        unfold uv at d0
        have hd := HLL.out _ (getElem!_mem' hkn)
        generalize L[k]! = d at *
        clear hl
        go_wp2_with fail
        refine (own_tick2 HOW.out d hd).mono ?_
        rintro e w7 ⟨rfl, o7, b7, t7⟩
        rw [sat_sat] at o7
        have x7 := HBX2.out.turns t7 HBX.out
        have hb7 := HBB.out.trans b7
        have O7 := Lib.hid o7; have B7 := Lib.hid hb7; have X7 := Lib.hid x7
        have d7 := (b7.cell (p := ⟨g, o + k, none⟩) hg).trans d0
        clear o7 b7 t7 hb7 x7 d0
        go_upto_region 14 with (fail)
        go_cut [59] from 40 to 97 (fun s59 wx => s59 = .bool (ovr G d) ∧ w7 = wx)
        case first =>
          by_cases hov : G + d ≤ 18446744073709551615
          · have e1 : ovr G d = false := by unfold ovr; simp; omega
            have E1 := Lib.hid e1
            clear e1
            have ht : decide ((G : Int) + (d : Int) < (G : Int)) = false := by simp; omega
            go_wp2_with fail
            go_meet
            exact ⟨by rw [E1.out], rfl⟩
          · have e1 : ovr G d = true := by unfold ovr; simp; omega
            have E1 := Lib.hid e1
            clear e1
            have hw : IntKind.u64.wrap ((G : Int) + (d : Int)) = (G : Int) + (d : Int) - 18446744073709551616 := by simp [IntKind.wrap, IntKind.bits, IntKind.signed]; omega
            have ht : decide ((G : Int) + (d : Int) - 18446744073709551616 < (G : Int)) = true := by simp; omega
            have hov2 : 18446744073709551615 < (G : Int) + (d : Int) := by omega
            clear hov
            go_wp2_with fail
            go_meet
            exact ⟨by rw [E1.out], rfl⟩
        case rest =>
          obtain ⟨rfl, rfl⟩ := hcut
          go_upto_if 59 with (fail)
          go_cut [9] from 40 to 97 (fun s9 wx => s9 = .int .u64 (sat G d : Nat) ∧ w7 = wx)
          case first =>
            by_cases hov : G + d ≤ 18446744073709551615
            · have e1 : ovr G d = false := by unfold ovr; simp; omega
              have e2 : sat G d = G + d := by unfold sat; rw [if_pos hov]
              have E2 := Lib.hid e2
              rw [e1]
              clear e1 e2
              go_wp2_with fail
              go_meet
              exact ⟨by rw [E2.out]; simp, rfl⟩
            · have e1 : ovr G d = true := by unfold ovr; simp; omega
              have e2 : sat G d = 18446744073709551615 := by unfold sat; rw [if_neg hov]
              have E2 := Lib.hid e2
              rw [e1]
              clear e1 e2
              have hov2 : 18446744073709551615 < (G : Int) + (d : Int) := by omega
              go_wp2_with fail
              go_meet
              exact ⟨by rw [E2.out]; rfl, rfl⟩
          case rest =>
            obtain ⟨rfl, rfl⟩ := hcut
            have hG2 := sat_le G d
            have hmono := sat_mono a G d
            have hcn := come_now a n (sat G d)
            have hce := come_end a n (sat G d)
            have hcm := own_come O7.out true (sat a n)
            have t1 : decide (sat a (sat G d) < sat a G) = false := by simp; omega
            have hfin : ∀ w8, Below w7.heap.size w7 w8 → Own w8 w.heap.size B (sat a (sat G d)) 0 [] ∧ Below w.heap.size w w8 ∧ Box w8 X (sat a n) := fun w8 b8 => ⟨O7.out.new b8, B7.out.trans (b8.mono B7.out.size), X7.out.new b8⟩
            have hx0 := X7.out.c0
            have hx1 := X7.out.c1
            have HG2 := Lib.hid hG2; have HFIN := Lib.hid hfin
            clear hG2 hfin hmono
            generalize sat G d = G2 at *
            go_wp2_with fail
            refine (own_now O7.out).mono ?_
            rintro e w8 ⟨rfl, rfl⟩
            by_cases hi : n ≤ G2
            · rw [hcn hi] at hcm
              have t2 : decide (n ≤ G2) = true := by simpa using hi
              have t3 : decide (G2 < n) = false := by simp; omega
              have HCM := Lib.hid hcm
              clear hcm hcn hce hi
              go_wp2_with fail
              refine HCM.out.mono ?_
              rintro e w8 ⟨rfl, b8⟩
              obtain ⟨o8, bb8, x8⟩ := HFIN.out w8 b8
              have O8 := Lib.hid o8; have BB8 := Lib.hid bb8; have X8 := Lib.hid x8
              clear b8 o8 bb8 x8 hx0 hx1
              go_wp2_with fail
              refine (own_now O8.out).mono ?_
              rintro e w9 ⟨rfl, rfl⟩
              go_wp2_with fail
              go_roundg (L.length - (k + 1))
              case measure => omega
              case rel => exact ⟨k + 1, G2, by omega, rfl, rfl, rfl, by go_num, HG2.out, O8.out, BB8.out, X8.out⟩
            · have t2 : decide (n ≤ G2) = false := by simp; omega
              have t3 : decide (G2 < n) = true := by simp; omega
              cases hc : comeB (sat a G2) true (sat a n) with
              | false =>
                rw [hc] at hcm
                have HCM := Lib.hid hcm
                clear hcm hcn hce hi hc
                go_wp2_with fail
                refine HCM.out.mono ?_
                rintro e w8 ⟨rfl, b8⟩
                obtain ⟨o8, bb8, x8⟩ := HFIN.out w8 b8
                have O8 := Lib.hid o8; have BB8 := Lib.hid bb8; have X8 := Lib.hid x8
                clear b8 o8 bb8 x8 hx0 hx1
                go_wp2_with fail
                refine (own_now O8.out).mono ?_
                rintro e w9 ⟨rfl, rfl⟩
                go_wp2_with fail
                go_roundg (L.length - (k + 1))
                case measure => omega
                case rel => exact ⟨k + 1, G2, by omega, rfl, rfl, rfl, by go_num, HG2.out, O8.out, BB8.out, X8.out⟩
              | true =>
                have he := hce (by omega) hc
                rw [hc] at hcm
                have t4 : (((sat a G2 : Nat) : Int) != 18446744073709551615) = false := by rw [he]; rfl
                have HCM := Lib.hid hcm
                clear hcm hcn hce hi hc he
                go_wp2_with fail
                refine HCM.out.mono ?_
                rintro e w8 ⟨rfl, b8⟩
                obtain ⟨o8, bb8, x8⟩ := HFIN.out w8 b8
                have O8 := Lib.hid o8; have BB8 := Lib.hid bb8; have X8 := Lib.hid x8
                clear b8 o8 bb8 x8 hx0 hx1
                go_wp2_with fail
                refine (own_now O8.out).mono ?_
                rintro e w9 ⟨rfl, rfl⟩
                go_wp2_with fail
                refine (own_now O8.out).mono ?_
                rintro e w9 ⟨rfl, rfl⟩
                go_wp2_with fail
                go_roundg (L.length - (k + 1))
                case measure => omega
                case rel => exact ⟨k + 1, G2, by omega, rfl, rfl, rfl, by go_num, HG2.out, O8.out, BB8.out, X8.out⟩
      · obtain rfl : k = L.length := by omega
        go_wp2_with fail
        refine (QL.out _).mono ?_
        rintro e w8 ⟨rfl, b8⟩
        have hb8 := HBB.out.trans (b8.mono HBB.out.size)
        have HB8 := Lib.hid hb8
        clear b8 hb8
        go_wp2_with fail
        go_ret
        exact ⟨rfl, HB8.out⟩
theorem law_come_big (a n : Nat) (p : Option Addr) (m c : Nat) (hm : m ≤ 9223372036854775807) (hbig : 100 < m) (w : World) :
    Calls Try.prog 5 #[.int .u64 a, .int .u64 n, .slice p m c] w fun e w' => e = .returned (.bool true) ∧ Below w.heap.size w w' := by
  have ql := lives_any
  have QL := Lib.hid ql
  clear ql
  have g1 : decide ((100 : Int) < (m : Int)) = true := by simp; omega
  go_enter Try.func5, Try.ntmps5
  go_wp2_with fail
  refine (QL.out _).mono ?_
  rintro e w2 ⟨rfl, b2⟩
  have B2 := Lib.hid b2; clear b2
  go_wp2_with fail
  go_ret
  exact ⟨rfl, B2.out⟩
end Go.Proofs.Ytmnndheddlkbgaa
