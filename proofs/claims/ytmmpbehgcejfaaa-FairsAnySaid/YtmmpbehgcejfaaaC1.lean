/- FairsWithin's walk. -/
import Derived.Test.YtmmpbehgcejfaaaB1
namespace Go.Proofs.Ytmmpbehgcejfaaa
open Go.RowKit

/-- Pairs of numbers that stand from an address on, in a block below base. -/
def Rd (w : World) (base : Nat) (A : Option Addr) (L : List (Nat × Nat)) : Prop :=
  0 < L.length → ∃ g o, A = some ⟨g, o, none⟩ ∧ g < base ∧ ∀ i, i < L.length → w.cell? ⟨g, o + i * 2, none⟩ = some (.int .u64 (L[i]!.1 : Nat)) ∧ w.cell? ⟨g, o + i * 2 + 1, none⟩ = some (.int .u64 (L[i]!.2 : Nat))
theorem Rd.below {w w' : World} {base : Nat} {A : Option Addr} {L : List (Nat × Nat)} (h : Rd w base A L) (b : Below base w w') : Rd w' base A L := fun hp => by
  obtain ⟨g, o, e, hg, hc⟩ := h hp
  exact ⟨g, o, e, hg, fun i hi => ⟨(b.cell (p := ⟨g, o + i * 2, none⟩) hg).trans (hc i hi).1, (b.cell (p := ⟨g, o + i * 2 + 1, none⟩) hg).trans (hc i hi).2⟩⟩
theorem within_big (a b : Nat) (p : Option Addr) (m c : Nat) (hbig : 200 < m) (w : World) :
    Calls Try.prog 4 #[.int .u64 a, .int .u64 b, .slice p m c] w fun e w' => e = .returned (.bool true) ∧ Below w.heap.size w w' := by
  have hl := lives_any
  have HL := Lib.hid hl
  clear hl
  have g1 : decide ((200 : Int) < (m : Int)) = true := by simp; omega
  go_enter Try.func4, Try.ntmps4
  go_wp2_with fail
  refine (HL.out _).mono ?_
  rintro e w2 ⟨rfl, b2⟩
  have B2 := Lib.hid b2; clear b2
  go_wp2_with fail
  go_ret
  exact ⟨rfl, B2.out⟩
/-- How a timer stands: the tick, its last firing, its end, by draws of most at most. -/
structure Stands (now last fin most : Nat) : Prop where
  le : last ≤ now
  lf : last ≤ fin
  top : fin ≤ last + most
  now : now ≤ 18446744073709551615
  fin : fin ≤ 18446744073709551615
theorem Stands.still {now last fin most x : Nat} (h : Stands now last fin most) (hx : now + x ≤ 18446744073709551615) : Stands (now + x) last fin most :=
  ⟨Nat.le_trans h.le (Nat.le_add_right _ _), h.lf, h.top, hx, h.fin⟩
theorem Stands.fired {now most d : Nat} (hn : now ≤ 18446744073709551615) (hd : d ≤ most) : Stands now now (sat now d) most :=
  ⟨Nat.le_refl _, by unfold sat; split <;> omega, by unfold sat; split <;> omega, hn, by unfold sat; split <;> omega⟩
theorem mem_get {L : List (Nat × Nat)} {k : Nat} (h : k < L.length) : L[k]! ∈ L := by
  rw [getElem!_pos L k h]; exact List.getElem_mem h
set_option maxHeartbeats 4000000 in
set_option maxRecDepth 20000 in
theorem law_within (first most : Nat) (A : Option Addr) (c : Nat) (L : List (Nat × Nat)) (h1 : first ≤ 18446744073709551615) (h2 : most ≤ 18446744073709551615) (hL : ∀ d ∈ L, d.1 ≤ 18446744073709551615 ∧ d.2 ≤ 18446744073709551615) (hm : L.length ≤ 200) (w : World) (hr : Rd w w.heap.size A L) :
    Calls Try.prog 4 #[.int .u64 first, .int .u64 most, .slice A L.length c] w fun e w' => e = .returned (.bool true) ∧ Below w.heap.size w w' := by
  have hl := lives_any
  have q1 := begin_any first
  have HL := Lib.hid hl; have HR := Lib.hid hr; have HD := Lib.hid hL; have Q1 := Lib.hid q1
  have H1 := Lib.hid h1; have H2 := Lib.hid h2
  have g1 : decide ((200 : Int) < (L.length : Int)) = false := by simp; omega
  clear hl hr hL q1 h1 h2
  go_enter Try.func4, Try.ntmps4
  go_wp2_with fail
  refine (Q1.out _).mono ?_
  rintro e w2 ⟨rfl, b2⟩
  have B3 := Lib.hid (b2.alloc b2.size (.cells #[.int .u64 first, .int .u64 first] 24))
  have t3 := TmAt.made w2 24 first first
  have hB : w.heap.size ≤ w2.heap.size := b2.size
  clear b2
  go_upto_region 5 with (fail)
  generalize w2.alloc (.cells #[.int .u64 first, .int .u64 first] 24) = w3 at *
  generalize w2.heap.size = B at *
  have T3 := Lib.hid t3
  clear t3
  go_wp2_with fail
  go_loopg [7, 9, 10, 11] L.length (fun q s7 s9 s10 s11 wx => ∃ k now last fin : Nat, k ≤ L.length ∧ q = L.length - k ∧ s7 = .int .u64 now ∧ s9 = .int .u64 last ∧ s10 = .int .u64 fin ∧ s11 = .int .i64 k ∧ Stands now last fin most ∧ TmAt 24 wx B fin last ∧ Below w.heap.size w wx)
  case atStart => exact ⟨0, first, first, first, by omega, rfl, rfl, rfl, rfl, rfl, ⟨Nat.le_refl _, Nat.le_refl _, by omega, H1.out, H1.out⟩, T3.out, B3.out⟩
  case round =>
    obtain ⟨k, now, last, fin, hk, rfl, rfl, rfl, rfl, rfl, hs, ht, hb⟩ := hrel
    have HS := Lib.hid hs; have HT := Lib.hid ht; have HB := Lib.hid hb
    clear hs ht hb
    by_cases hkn : k < L.length
    · obtain ⟨g, o, rfl, hg, hc⟩ := (HR.out.below HB.out) (by omega)
      obtain ⟨c0, c1⟩ := hc k hkn
      obtain ⟨hx, hy⟩ := HD.out _ (mem_get hkn)
      generalize L[k]!.1 = x at *
      generalize L[k]!.2 = y at *
      clear hc
      by_cases hwr : now + x ≤ 18446744073709551615
      · have hs2 := HS.out.still hwr
        obtain ⟨n, hn⟩ : ∃ n, n = now + x := ⟨_, rfl⟩
        rw [← hn] at hs2
        have hw : IntKind.u64.wrap ((now : Int) + (x : Int)) = (n : Int) := by rw [IntKind.wrap_u64]; omega
        have t0 : decide (n < now) = false := by simp; omega
        have HS2 := Lib.hid hs2
        have HX := Lib.hid hx; have HY := Lib.hid hy
        clear hn hwr hs2 hx hy
        obtain ⟨b, hbq⟩ : ∃ b, decide (most < y) = b := ⟨_, rfl⟩
        go_upto_if 54 with (fail)
        have HBQ := Lib.hid hbq
        clear hw t0 hbq c0 c1
        go_cut [12] from 52 to 56 (fun s wx => ∃ dr : Nat, s = .int .u64 dr ∧ dr ≤ most ∧ wr = wx)
        case first =>
          cases b
          · have hd : y ≤ most := by have := HBQ.out; simp at this; omega
            have HHD := Lib.hid hd
            clear hd
            go_wp2_with fail
            go_meet
            exact ⟨y, rfl, HHD.out, rfl⟩
          · go_wp2_with fail
            go_meet
            exact ⟨most, rfl, Nat.le_refl _, rfl⟩
        case rest =>
          obtain ⟨dr, rfl, hdr, rfl⟩ := hcut
          have e0 := HT.out.c0; have e1 := HT.out.c1
          have hn := HS2.out.now
          have hdr2 := Nat.le_trans hdr H2.out
          have HDR := Lib.hid hdr
          clear hdr
          by_cases hf : fin < n
          · have qf := fires (a := fin) (f := last) hn hdr2 hf
            have QF := Lib.hid qf
            have t1 : decide (n ≤ fin) = false := by simp; omega
            have t2 : ((n : Int) == (last : Int)) = false := by have := HS2.out.lf; rw [beq_eq_false_iff_ne]; omega
            have hsf := Stands.fired hn HDR.out
            have hw := rnd_wrap n dr
            have hrs := rnd_sat hn hdr2
            generalize sat n dr = s at *
            generalize rnd n dr = r at *
            have HSF := Lib.hid hsf; have HRS := Lib.hid hrs
            clear qf hn hdr2 hf hsf hrs
            go_wp2_with fail
            refine (QF.out _).mono ?_
            rintro e w4 ⟨rfl, b4⟩
            have b5 := below1 w4 (.cells #[.int .u64 s, .int .u64 n] 24)
            have B5 := Lib.hid ((HB.out.trans (b4.mono HB.out.size)).alloc (Nat.le_trans HB.out.size b4.size) (.cells #[.int .u64 s, .int .u64 n] 24))
            have u5 := TmAt.made w4 24 s n
            have t5 := (HT.out.new b4).new b5
            clear b4 b5 e0 e1
            go_upto_region 17 with (fail)
            generalize w4.alloc (.cells #[.int .u64 s, .int .u64 n] 24) = w5 at *
            generalize w4.heap.size = D at *
            have e0 := t5.c0; have e1 := t5.c1; have c0 := u5.c0; have c1 := u5.c1; have z0 := t5.z0; have z1 := t5.z1
            have T5 := Lib.hid t5
            clear t5 u5
            by_cases hrn : r < n
            · have es := HRS.out
              rw [if_pos hrn] at es
              have t3 : decide (r < n) = true := decide_eq_true hrn
              have es' : (18446744073709551615 : Int) = (s : Int) := by omega
              have ES := Lib.hid es'
              clear hrn es es'
              go_wp2_with fail
              go_roundg (L.length - (k + 1))
              case measure => omega
              case rel => exact ⟨k + 1, n, n, s, by omega, rfl, rfl, rfl, by rw [← ES.out], by go_num, HSF.out, T5.out.put s n, (B5.out.setCell (p := ⟨B, 0, none⟩) hB _).setCell (p := ⟨B, 1, none⟩) hB _⟩
            · have es := HRS.out
              rw [if_neg hrn] at es
              subst es
              have t3 : decide (r < n) = false := decide_eq_false hrn
              clear hrn
              go_wp2_with fail
              go_roundg (L.length - (k + 1))
              case measure => omega
              case rel => exact ⟨k + 1, n, n, r, by omega, rfl, rfl, rfl, rfl, by go_num, HSF.out, T5.out.put r n, (B5.out.setCell (p := ⟨B, 0, none⟩) hB _).setCell (p := ⟨B, 1, none⟩) hB _⟩
          · have qf := fires_not (a := fin) (f := last) hn hdr2 hf
            have QF := Lib.hid qf
            have t1 : decide (fin < n) = false := decide_eq_false hf
            have hw : IntKind.u64.wrap ((n : Int) - (last : Int)) = ((n - last : Nat) : Int) := by have := HS2.out.le; rw [IntKind.wrap_u64]; omega
            have t2 : decide (most < n - last) = false := by have := HS2.out.top; simp; omega
            clear qf hn hdr2 hf
            generalize n - last = z at *
            go_wp2_with fail
            refine (QF.out _).mono ?_
            rintro e w4 ⟨rfl, b4⟩
            have b5 := below1 w4 (.cells #[.int .u64 fin, .int .u64 last] 24)
            have B5 := Lib.hid ((HB.out.trans (b4.mono HB.out.size)).alloc (Nat.le_trans HB.out.size b4.size) (.cells #[.int .u64 fin, .int .u64 last] 24))
            have u5 := TmAt.made w4 24 fin last
            have t5 := (HT.out.new b4).new b5
            clear b4 b5 e0 e1
            go_upto_region 17 with (fail)
            generalize w4.alloc (.cells #[.int .u64 fin, .int .u64 last] 24) = w5 at *
            generalize w4.heap.size = D at *
            have e0 := t5.c0; have e1 := t5.c1; have c0 := u5.c0; have c1 := u5.c1; have z0 := t5.z0; have z1 := t5.z1
            have T5 := Lib.hid t5
            clear t5 u5
            go_wp2_with fail
            go_roundg (L.length - (k + 1))
            case measure => omega
            case rel => exact ⟨k + 1, n, last, fin, by omega, rfl, rfl, rfl, rfl, by go_num, HS2.out, T5.out.put fin last, (B5.out.setCell (p := ⟨B, 0, none⟩) hB _).setCell (p := ⟨B, 1, none⟩) hB _⟩
      · have hw : IntKind.u64.wrap ((now : Int) + (x : Int)) = ((rnd now x : Nat) : Int) := rnd_wrap now x
        have t0 : decide (rnd now x < now) = true := by unfold rnd; simp; omega
        generalize rnd now x = n at *
        clear hwr hx hy
        go_wp2_with fail
        refine (HL.out _).mono ?_
        rintro e w4 ⟨rfl, b4⟩
        have B4 := Lib.hid (HB.out.trans (b4.mono HB.out.size))
        clear b4
        go_wp2_with fail
        go_ret
        exact ⟨rfl, B4.out⟩
    · obtain rfl : k = L.length := by omega
      clear hk hkn
      go_wp2_with fail
      refine (HL.out _).mono ?_
      rintro e w4 ⟨rfl, b4⟩
      have B4 := Lib.hid (HB.out.trans (b4.mono HB.out.size))
      clear b4
      go_wp2_with fail
      go_ret
      exact ⟨rfl, B4.out⟩
end Go.Proofs.Ytmmpbehgcejfaaa
