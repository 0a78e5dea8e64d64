/- FairsDraw's walk. -/
import Derived.Test.YtmmpbehgcejfaaaA2
namespace Go.Proofs.Ytmmpbehgcejfaaa
open Go.RowKit

theorem sat_ge {a b : Nat} (h : a ≤ 18446744073709551615) : a ≤ sat a b := by unfold sat; split <;> omega
theorem sat_mono {a b c : Nat} (h : b ≤ c) (ha : a ≤ 18446744073709551615) : sat a b ≤ sat a c := by unfold sat; split <;> split <;> omega
theorem sat_zero {a : Nat} (h : a ≤ 18446744073709551615) : sat a 0 = a := by unfold sat; split <;> omega
theorem fires {a f n d : Nat} (hn : n ≤ 18446744073709551615) (hd : d ≤ 18446744073709551615) (h : a < n) (w : World) : Calls Try.prog 6 #[Tm a f, .int .u64 n, .int .u64 d] w fun e w' => e = .returned (.tuple #[Tm (sat n d) n, .bool true]) ∧ Below w.heap.size w w' := by
  have q := fire_any a f n d hn hd w
  unfold firA firF at q
  rw [if_pos h, if_pos h, decide_eq_true h] at q
  exact q
theorem fires_not {a f n d : Nat} (hn : n ≤ 18446744073709551615) (hd : d ≤ 18446744073709551615) (h : ¬ a < n) (w : World) : Calls Try.prog 6 #[Tm a f, .int .u64 n, .int .u64 d] w fun e w' => e = .returned (.tuple #[Tm a f, .bool false]) ∧ Below w.heap.size w w' := by
  have q := fire_any a f n d hn hd w
  unfold firA firF at q
  rw [if_neg h, if_neg h, decide_eq_false h] at q
  exact q
theorem due_is {a f n : Nat} {x : Bool} (h : decide (a < n) = x) (w : World) : Calls Try.prog 11 #[Tm a f, .int .u64 n] w fun e w' => e = .returned (.bool x) ∧ Below w.heap.size w w' := h ▸ due_any a f n w
set_option maxHeartbeats 4000000 in
set_option maxRecDepth 20000 in
theorem law_draw (n d x y : Nat) (hn : n ≤ 18446744073709551615) (hd : d ≤ 18446744073709551615) (hx : x ≤ 18446744073709551615) (hy : y ≤ 18446744073709551615) (w : World) :
    Calls Try.prog 5 #[.int .u64 n, .int .u64 d, .agg #[.int .u64 x, .int .u64 y]] w fun e w' => e = .returned (.bool true) ∧ Below w.heap.size w w' := by
  have hl := lives_any
  have HL := Lib.hid hl
  clear hl
  have b1 := below1 w (.cells #[.int .u64 x, .int .u64 y] 38)
  have z1 := TmAt.made w 38 x y
  by_cases h0 : n = 0
  · subst h0
    have B1 := Lib.hid b1
    clear b1 z1
    go_enter Try.func5, Try.ntmps5
    go_upto_region 1 with (fail)
    generalize w.alloc (.cells #[.int .u64 x, .int .u64 y] 38) = w1 at *
    go_wp2_with fail
    refine (HL.out _).mono ?_
    rintro e w2 ⟨rfl, b2⟩
    have B2 := Lib.hid (B1.out.trans (b2.mono B1.out.size))
    clear b2
    go_wp2_with fail
    go_ret
    exact ⟨rfl, B2.out⟩
  · obtain ⟨m, hmn⟩ : ∃ m, m + 1 = n := ⟨n - 1, by omega⟩
    have hw : IntKind.u64.wrap ((n : Int) - 1) = (m : Int) := by rw [IntKind.wrap_u64]; omega
    have t0 : ((n : Int) == 0) = false := by simp; omega
    have hlt : m < n := by omega
    have q1 := begin_any m
    have q2 := fires (a := m) (f := m) (d := d) hn hd hlt
    have q3 := fires (a := m) (f := m) (d := x) hn hx hlt
    have g4 := sat_ge (b := d) hn
    have g5 := sat_ge (b := x) hn
    have q4 : ∀ w, Calls Try.prog 6 #[Tm (sat n d) n, .int .u64 n, .int .u64 0] w fun e w' => e = .returned (.tuple #[Tm (sat n d) n, .bool false]) ∧ Below w.heap.size w w' := fires_not (a := sat n d) (f := n) (d := 0) hn (Nat.zero_le _) (by omega)
    have q5 : ∀ w, Calls Try.prog 6 #[Tm m m, .int .u64 n, .int .u64 0] w fun e w' => e = .returned (.tuple #[Tm n n, .bool true]) ∧ Below w.heap.size w w' := by
      have q5 := fires (a := m) (f := m) (d := 0) hn (Nat.zero_le _) hlt
      rw [sat_zero hn] at q5
      exact q5
    have gm := fun (h : d ≤ x) => sat_mono h hn
    generalize sat n d = p at *
    generalize sat n x = q at *
    have Q1 := Lib.hid q1; have Q2 := Lib.hid q2; have Q3 := Lib.hid q3; have Q4 := Lib.hid q4; have Q5 := Lib.hid q5
    have GM := Lib.hid gm; have G4 := Lib.hid g4; have G5 := Lib.hid g5; have HN := Lib.hid hn; have B1 := Lib.hid b1; have Z1 := Lib.hid z1; have HW := Lib.hid hw
    clear q1 q2 q3 q4 q5 gm g4 g5 hn hd hx hy b1 z1 h0 hlt hmn hw
    go_enter Try.func5, Try.ntmps5
    go_upto_region 1 with (fail)
    generalize w.alloc (.cells #[.int .u64 x, .int .u64 y] 38) = w1 at *
    obtain ⟨Z, hZ⟩ : ∃ Z, Z = w.heap.size := ⟨_, rfl⟩
    rw [← hZ] at Z1 ⊢
    have HZ := Lib.hid hZ
    clear hZ
    go_upto_region 3 with (fail)
    have hw := HW.out
    go_wp2_with fail
    refine (Q1.out _).mono ?_
    rintro e w2 ⟨rfl, b2⟩
    have b3 := below1 w2 (.cells #[.int .u64 m, .int .u64 m] 24)
    have B3 := Lib.hid ((B1.out.trans (b2.mono B1.out.size)).alloc (Nat.le_trans B1.out.size b2.size) (.cells #[.int .u64 m, .int .u64 m] 24))
    have Z3 := Lib.hid ((Z1.out.new b2).new b3)
    have t3 := TmAt.made w2 24 m m
    clear b2 b3 hw
    go_upto_region 4 with (fail)
    generalize w2.alloc (.cells #[.int .u64 m, .int .u64 m] 24) = w3 at *
    generalize w2.heap.size = A at *
    have T3 := Lib.hid t3
    have c0 := t3.c0; have c1 := t3.c1
    clear t3
    go_wp2_with fail
    refine (Q2.out _).mono ?_
    rintro e w4 ⟨rfl, b4⟩
    have b5 := below1 w4 (.cells #[.int .u64 p, .int .u64 n] 24)
    have B5 := Lib.hid ((B3.out.trans (b4.mono B3.out.size)).alloc (Nat.le_trans B3.out.size b4.size) (.cells #[.int .u64 p, .int .u64 n] 24))
    have Z5 := Lib.hid ((Z3.out.new b4).new b5)
    have T5 := Lib.hid ((T3.out.new b4).new b5)
    have u5 := TmAt.made w4 24 p n
    clear b4 b5 c0 c1
    go_upto_region 5 with (fail)
    generalize w4.alloc (.cells #[.int .u64 p, .int .u64 n] 24) = w5 at *
    generalize w4.heap.size = C at *
    have U5 := Lib.hid u5
    have c0 := T5.out.c0; have c1 := T5.out.c1; have c2 := Z5.out.c0
    clear u5
    go_wp2_with fail
    refine (Q3.out _).mono ?_
    rintro e w6 ⟨rfl, b6⟩
    have b7 := below1 w6 (.cells #[.int .u64 q, .int .u64 n] 24)
    have B7 := Lib.hid ((B5.out.trans (b6.mono B5.out.size)).alloc (Nat.le_trans B5.out.size b6.size) (.cells #[.int .u64 q, .int .u64 n] 24))
    have Z7 := Lib.hid ((Z5.out.new b6).new b7)
    have T7 := Lib.hid ((T5.out.new b6).new b7)
    have U7 := Lib.hid ((U5.out.new b6).new b7)
    have v7 := TmAt.made w6 24 q n
    clear b6 b7 c0 c1 c2
    go_upto_region 6 with (fail)
    generalize w6.alloc (.cells #[.int .u64 q, .int .u64 n] 24) = w7 at *
    generalize w6.heap.size = D at *
    have V7 := Lib.hid v7
    have c0 := U7.out.c0; have c1 := U7.out.c1
    clear v7
    go_wp2_with fail
    refine (Q4.out _).mono ?_
    rintro e w8 ⟨rfl, b8⟩
    have b9 := below1 w8 (.cells #[.int .u64 p, .int .u64 n] 24)
    have B9 := Lib.hid ((B7.out.trans (b8.mono B7.out.size)).alloc (Nat.le_trans B7.out.size b8.size) (.cells #[.int .u64 p, .int .u64 n] 24))
    have Z9 := Lib.hid ((Z7.out.new b8).new b9)
    have T9 := Lib.hid ((T7.out.new b8).new b9)
    have U9 := Lib.hid ((U7.out.new b8).new b9)
    have V9 := Lib.hid ((V7.out.new b8).new b9)
    clear b8 b9 c0 c1
    go_upto_region 7 with (fail)
    generalize w8.alloc (.cells #[.int .u64 p, .int .u64 n] 24) = w9 at *
    generalize w8.heap.size = E at *
    go_cut [70] from 43 to 71 (fun s wx => s = .bool false ∧ Below w.heap.size w wx ∧ TmAt 24 wx A m m)
    case first =>
      have cz := Z9.out.c0
      by_cases h1 : d ≤ x
      · have t1 : decide (d ≤ x) = true := decide_eq_true h1
        have c0 := V9.out.c0; have c1 := V9.out.c1; have cy := Z9.out.c1
        by_cases h2 : q < y
        · have D1 := Lib.hid (due_is (f := n) (decide_eq_true h2))
          have D2 := Lib.hid (due_is (f := n) (decide_eq_true (Nat.lt_of_le_of_lt (GM.out h1) h2)))
          clear h1 h2
          go_wp2_with fail
          refine (D1.out _).mono ?_
          rintro e wa ⟨rfl, ba⟩
          have Ba := Lib.hid (B9.out.trans (ba.mono B9.out.size))
          have Za := Lib.hid (Z9.out.new ba)
          have Ta := Lib.hid (T9.out.new ba)
          have Ua := Lib.hid (U9.out.new ba)
          clear ba c0 c1 cy cz
          have c0 := Ua.out.c0; have c1 := Ua.out.c1; have cy := Za.out.c1
          go_wp2_with fail
          refine (D2.out _).mono ?_
          rintro e wb ⟨rfl, bb⟩
          have Bb := Lib.hid (Ba.out.trans (bb.mono Ba.out.size))
          have Tb := Lib.hid (Ta.out.new bb)
          clear bb c0 c1 cy
          go_wp2_with fail
          go_meet
          exact ⟨rfl, Bb.out, Tb.out⟩
        · have D1 := Lib.hid (due_is (f := n) (decide_eq_false h2))
          clear h1 h2
          go_wp2_with fail
          refine (D1.out _).mono ?_
          rintro e wa ⟨rfl, ba⟩
          have Ba := Lib.hid (B9.out.trans (ba.mono B9.out.size))
          have Ta := Lib.hid (T9.out.new ba)
          clear ba c0 c1 cy cz
          go_wp2_with fail
          go_meet
          exact ⟨rfl, Ba.out, Ta.out⟩
      · have t1 : decide (d ≤ x) = false := decide_eq_false h1
        clear h1
        go_wp2_with fail
        go_meet
        exact ⟨rfl, B9.out, T9.out⟩
    case rest =>
      obtain ⟨rfl, bc, tc⟩ := hcut
      have Bc := Lib.hid bc; have Tc := Lib.hid tc
      have c0 := tc.c0; have c1 := tc.c1
      clear bc tc
      go_wp2_with fail
      refine (Q5.out _).mono ?_
      rintro e wd ⟨rfl, bd⟩
      have Be := Lib.hid ((Bc.out.trans (bd.mono Bc.out.size)).alloc (Nat.le_trans Bc.out.size bd.size) (.cells #[.int .u64 n, .int .u64 n] 24))
      have ue := TmAt.made wd 24 n n
      clear bd c0 c1
      go_upto_region 10 with (fail)
      generalize wd.alloc (.cells #[.int .u64 n, .int .u64 n] 24) = we at *
      generalize wd.heap.size = F at *
      have Ue := Lib.hid ue
      have D2 := Lib.hid (due_is (f := n) (decide_eq_false (Nat.lt_irrefl n)))
      have c0 := ue.c0; have c1 := ue.c1
      clear ue
      by_cases hmx : n = 18446744073709551615
      · have t2 : ((n : Int) == 18446744073709551615) = true := by simp; omega
        clear hmx
        go_wp2_with fail
        refine (D2.out _).mono ?_
        rintro e wf ⟨rfl, bf⟩
        have Bf := Lib.hid (Be.out.trans (bf.mono Be.out.size))
        clear bf c0 c1
        go_wp2_with fail
        refine (HL.out _).mono ?_
        rintro e wg ⟨rfl, bg⟩
        have Bg := Lib.hid (Bf.out.trans (bg.mono Bf.out.size))
        clear bg
        go_wp2_with fail
        go_ret
        exact ⟨rfl, Bg.out⟩
      · have t2 : ((n : Int) == 18446744073709551615) = false := by simp; omega
        have hp : IntKind.u64.wrap ((n : Int) + 1) = ((n + 1 : Nat) : Int) := by have := HN.out; rw [IntKind.wrap_u64]; omega
        have D3 := Lib.hid (due_is (f := n) (show decide (n < n + 1) = true from decide_eq_true (Nat.lt_succ_self n)))
        generalize n + 1 = n' at *
        clear hmx
        go_wp2_with fail
        refine (D3.out _).mono ?_
        rintro e wf ⟨rfl, bf⟩
        have Bf := Lib.hid (Be.out.trans (bf.mono Be.out.size))
        have Uf := Lib.hid (Ue.out.new bf)
        clear bf c0 c1
        have c0 := Uf.out.c0; have c1 := Uf.out.c1
        go_wp2_with fail
        refine (D2.out _).mono ?_
        rintro e wg ⟨rfl, bg⟩
        have Bg := Lib.hid (Bf.out.trans (bg.mono Bf.out.size))
        clear bg c0 c1
        go_wp2_with fail
        refine (HL.out _).mono ?_
        rintro e wh ⟨rfl, bh⟩
        have Bh := Lib.hid (Bg.out.trans (bh.mono Bg.out.size))
        clear bh
        go_wp2_with fail
        go_ret
        exact ⟨rfl, Bh.out⟩
end Go.Proofs.Ytmmpbehgcejfaaa
