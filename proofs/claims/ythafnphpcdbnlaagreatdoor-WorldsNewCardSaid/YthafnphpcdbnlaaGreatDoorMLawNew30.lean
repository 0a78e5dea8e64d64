/- Texts of this seat, one behind the other. -/
import Derived.Test.YthafnphpcdbnlaaGreatDoorMLawNew29
set_option linter.unusedVariables false
set_option linter.unusedSimpArgs false
set_option linter.unusedVariables false
set_option linter.unusedSimpArgs false
namespace Go.Proofs.YthafnphpcdbnlaaGreatDoor.S12
open Go.Proofs.YthafnphpcdbnlaaGreatDoor Go.Proofs.YthafnphpcdbnlaaGreatDoor.S11
open Go.RowKit

/-- One note more, where it may be. -/
def Noted (w w' : World) (base : Nat) (X : Wm) (x : Nt) : Prop := ∃ s, PW w' base { X with ns := s, nD := addD X.nD x } ∧ Below base w w'
set_option maxRecDepth 100000 in
set_option maxHeartbeats 4000000 in
theorem noteOf_any {w : World} {base : Nat} {X : Wm} (h : PW w base X) (h1 : X.n ≤ 1000000000) (h2 : X.pn ≤ 1000000000) (hl : X.nD.length ≤ 100000) (hT : Tab w) (t a o b : Int) (k : Nat) (hk : k < 256) :
    Calls Tryz.prog 43 #[Pw X.wB, .int .i64 t, .int .u8 (k : Int), .int .u32 a, .int .i64 o, .int .u32 b] w fun e w' => e = .returned (.tuple #[]) ∧ Noted w w' base X ⟨((X.n + X.pn : Nat) : Int), t, k, a, o, b, 0⟩ := by
  have hb : X.nb ≤ w.heap.size := Nat.le_of_lt (Nat.lt_of_le_of_lt h.notes.low h.notes.lt)
  have HST := Lib.hid (fun (W : World) (b : Below w.heap.size w W) => steps_any (h.new b) h1 h2)
  have HC5 := Lib.hid (fun (W : World) (b : Below w.heap.size w W) => (h.new b).c5)
  have HAD := Lib.hid (fun (W : World) (q : Below w.heap.size w W) => S11.add_any (h.new q).notes (Nat.le_trans hb q.size) (hT.below q hT.1) ⟨((X.n + X.pn : Nat) : Int), t, k, a, o, b, 0⟩ hk hl)
  have HTN := Lib.hid (fun (W W2 : World) (q : Below w.heap.size w W) (l : S11.Leaves 150 .u8 W W2 X.nb X.nB X.ns (addD X.nD ⟨((X.n + X.pn : Nat) : Int), t, k, a, o, b, 0⟩)) =>
    (show Noted w W2 base X ⟨((X.n + X.pn : Nat) : Int), t, k, a, o, b, 0⟩ from by
      obtain ⟨s', hp, hq⟩ := t_notes (i := 5) (h.new q) rfl l
      exact ⟨s', hp, (q.mono h.size).trans hq⟩))
  have HK5 := Lib.hid (fun (W W2 : World) (q : Below w.heap.size w W) (l : S11.Leaves 150 .u8 W W2 X.nb X.nB X.ns (addD X.nD ⟨((X.n + X.pn : Nat) : Int), t, k, a, o, b, 0⟩)) =>
    (show W2.cell? ⟨X.wB, 5, none⟩ = some (Pw X.nB) from by
      obtain ⟨s', hp, hq⟩ := t_notes (i := 5) (h.new q) rfl l
      exact PW.c5 (X := { X with ns := s', nD := addD X.nD ⟨((X.n + X.pn : Nat) : Int), t, k, a, o, b, 0⟩ }) hp))
  have HB0 : Hid (Below w.heap.size w w.drew) := Lib.hid ((Below.refl _ _).drew)
  have c5 := h.c5
  clear h hT hl hb
  obtain ⟨cB, cM, L, n, kk, aa, was, is, kb, kB, T, most, ks, D, pB, pf, pn, pk, pp, lB, lk, tb, tO, ts, tn, tM, nb, nB, ns, nD, wB, sp⟩ := X
  dsimp only at *
  clear h1 h2 hk
  generalize ((n + pn : Nat) : Int) = tot at *
  go_enter Tryz.func43, Tryz.ntmps43
  go_upto_region 1 with (fail)
  refine wp_region_held_drew (S := fun w' => w'.cell? ⟨wB, 5, none⟩ = some (Pw nB)) (by kernel_rfl) ?_ (fun hHeld => ?_)
  · exact c5
  refine wpAnyH_take (i := 0) (oi := ({ dst := some 14, op := Op.move (Operand.tmp 0), type := 28, pos := "worlds.go:77", after := #[], guard := none } : Oper)) (v := ?v0) rfl (by kernel_rfl) (by kernel_rfl) (by kernel_rfl) (fun _ _ _ h => h) (Or.inl ⟨by rfl, fun w hSw => ?hy0⟩) (by assumption) ?r0
  case hy0 => (try dsimp only at hSw); go_simp; (try with_reducible rfl)
  (try simp only [Act.put, List.setIfInBounds_toArray, List.set_cons_zero, List.set_cons_succ])
  refine wpAnyH_take (i := 1) (oi := ({ dst := some 15, op := Op.nilCheck (Operand.tmp 14), type := 0, pos := "worlds.go:77", after := #[{ on := 0, ground := Ground.data }], guard := none } : Oper)) (v := ?v1) rfl (by kernel_rfl) (by kernel_rfl) (by kernel_rfl) (fun _ _ _ h => h) (Or.inl ⟨by rfl, fun w hSw => ?hy1⟩) (by assumption) ?r1
  case hy1 => (try dsimp only at hSw); go_simp; (try with_reducible rfl)
  (try simp only [Act.put, List.setIfInBounds_toArray, List.set_cons_zero, List.set_cons_succ])
  refine wpAnyH_take (i := 2) (oi := ({ dst := some 16, op := Op.fieldAddr 47 (Operand.tmp 15) 5, type := 0, pos := "worlds.go:77", after := #[{ on := 1, ground := Ground.data }], guard := none } : Oper)) (v := ?v2) rfl (by kernel_rfl) (by kernel_rfl) (by kernel_rfl) (fun _ _ _ h => h) (Or.inl ⟨by rfl, fun w hSw => ?hy2⟩) (by assumption) ?r2
  case hy2 => (try dsimp only at hSw); go_simp; (try with_reducible rfl)
  (try simp only [Act.put, List.setIfInBounds_toArray, List.set_cons_zero, List.set_cons_succ])
  refine wpAnyH_take (i := 3) (oi := ({ dst := some 17, op := Op.load 44 (Operand.tmp 16), type := 44, pos := "worlds.go:77", after := #[{ on := 2, ground := Ground.data }], guard := none } : Oper)) (v := ?v3) rfl (by kernel_rfl) (by kernel_rfl) (by kernel_rfl) (fun _ _ _ h => h) (Or.inl ⟨by rfl, fun w hSw => ?hy3⟩) (by assumption) ?r3
  case hy3 => (try dsimp only at hSw); go_simp; (try with_reducible rfl)
  (try simp only [Act.put, List.setIfInBounds_toArray, List.set_cons_zero, List.set_cons_succ])
  refine wpAnyH_take (i := 4) (oi := ({ dst := some 18, op := Op.move (Operand.tmp 0), type := 28, pos := "worlds.go:77", after := #[], guard := none } : Oper)) (v := ?v4) rfl (by kernel_rfl) (by kernel_rfl) (by kernel_rfl) (fun _ _ _ h => h) (Or.inl ⟨by rfl, fun w hSw => ?hy4⟩) (by assumption) ?r4
  case hy4 => (try dsimp only at hSw); go_simp; (try with_reducible rfl)
  (try simp only [Act.put, List.setIfInBounds_toArray, List.set_cons_zero, List.set_cons_succ])
  refine wpAnyH_take (i := 6) (oi := ({ dst := some 20, op := Op.move (Operand.tmp 1), type := 3, pos := "worlds.go:77", after := #[], guard := none } : Oper)) (v := ?v6) rfl (by kernel_rfl) (by kernel_rfl) (by kernel_rfl) (fun _ _ _ h => h) (Or.inl ⟨by rfl, fun w hSw => ?hy6⟩) (by assumption) ?r6
  case hy6 => (try dsimp only at hSw); go_simp; (try with_reducible rfl)
  (try simp only [Act.put, List.setIfInBounds_toArray, List.set_cons_zero, List.set_cons_succ])
  refine wpAnyH_take (i := 7) (oi := ({ dst := some 21, op := Op.move (Operand.tmp 2), type := 63, pos := "worlds.go:77", after := #[], guard := none } : Oper)) (v := ?v7) rfl (by kernel_rfl) (by kernel_rfl) (by kernel_rfl) (fun _ _ _ h => h) (Or.inl ⟨by rfl, fun w hSw => ?hy7⟩) (by assumption) ?r7
  case hy7 => (try dsimp only at hSw); go_simp; (try with_reducible rfl)
  (try simp only [Act.put, List.setIfInBounds_toArray, List.set_cons_zero, List.set_cons_succ])
  refine wpAnyH_take (i := 8) (oi := ({ dst := some 22, op := Op.move (Operand.tmp 3), type := 59, pos := "worlds.go:77", after := #[], guard := none } : Oper)) (v := ?v8) rfl (by kernel_rfl) (by kernel_rfl) (by kernel_rfl) (fun _ _ _ h => h) (Or.inl ⟨by rfl, fun w hSw => ?hy8⟩) (by assumption) ?r8
  case hy8 => (try dsimp only at hSw); go_simp; (try with_reducible rfl)
  (try simp only [Act.put, List.setIfInBounds_toArray, List.set_cons_zero, List.set_cons_succ])
  refine wpAnyH_take (i := 9) (oi := ({ dst := some 23, op := Op.move (Operand.tmp 4), type := 3, pos := "worlds.go:77", after := #[], guard := none } : Oper)) (v := ?v9) rfl (by kernel_rfl) (by kernel_rfl) (by kernel_rfl) (fun _ _ _ h => h) (Or.inl ⟨by rfl, fun w hSw => ?hy9⟩) (by assumption) ?r9
  case hy9 => (try dsimp only at hSw); go_simp; (try with_reducible rfl)
  (try simp only [Act.put, List.setIfInBounds_toArray, List.set_cons_zero, List.set_cons_succ])
  refine wpAnyH_take (i := 10) (oi := ({ dst := some 24, op := Op.move (Operand.tmp 5), type := 59, pos := "worlds.go:77", after := #[], guard := none } : Oper)) (v := ?v10) rfl (by kernel_rfl) (by kernel_rfl) (by kernel_rfl) (fun _ _ _ h => h) (Or.inl ⟨by rfl, fun w hSw => ?hy10⟩) (by assumption) ?r10
  case hy10 => (try dsimp only at hSw); go_simp; (try with_reducible rfl)
  (try simp only [Act.put, List.setIfInBounds_toArray, List.set_cons_zero, List.set_cons_succ])
  refine wpAnyH_ready (rs := [5]) (by kernel_rfl) (by simp) ?_
  refine AllReadyH.cons (o := ({ dst := some 19, op := Op.call { callee := Callee.value (Operand.func 12), args := #[Operand.tmp 18], argTypes := #[28] }, type := 3, pos := "worlds.go:77", after := #[{ on := 4, ground := Ground.data }], guard := none } : Oper)) rfl (fun Kq hKq => ?_) AllReadyH.nil
  go_simp
  (refine (HST.out _ HB0.out).mono ?_; rintro e w1 ⟨rfl, hb1⟩)
  refine hKq.out _ _ ?_ (fun hHeld => ?_)
  · exact HC5.out _ (HB0.out.trans (hb1.mono HB0.out.size))
  clear hKq Kq
  (try simp only [Act.put, List.setIfInBounds_toArray, List.set_cons_zero, List.set_cons_succ])
  refine wpAnyH_take (i := 11) (oi := ({ dst := some 25, op := Op.build 67 #[(0, Operand.tmp 19), (1, Operand.tmp 20), (2, Operand.tmp 21), (3, Operand.tmp 22), (4, Operand.tmp 23), (5, Operand.tmp 24)], type := 67, pos := "worlds.go:77", after := #[{ on := 5, ground := Ground.data }, { on := 6, ground := Ground.data }, { on := 7, ground := Ground.data }, { on := 8, ground := Ground.data }, { on := 9, ground := Ground.data }, { on := 10, ground := Ground.data }], guard := none } : Oper)) (v := ?v11) rfl (by kernel_rfl) (by kernel_rfl) (by kernel_rfl) (fun _ _ _ h => h) (Or.inl ⟨by rfl, fun w hSw => ?hy11⟩) (by assumption) ?r11
  case hy11 => (try dsimp only at hSw); go_simp; (try with_reducible rfl)
  (try simp only [Act.put, List.setIfInBounds_toArray, List.set_cons_zero, List.set_cons_succ])
  refine wpAnyH_ready (rs := [12]) (by kernel_rfl) (by simp) ?_
  refine AllReadyH.cons (o := ({ dst := some 26, op := Op.call { callee := Callee.value (Operand.func 75), args := #[Operand.tmp 17, Operand.tmp 25], argTypes := #[44, 67] }, type := 29, pos := "worlds.go:77", after := #[{ on := 3, ground := Ground.data }, { on := 11, ground := Ground.data }, { on := 5, ground := Ground.chain }], guard := none } : Oper)) rfl (fun Kq hKq => ?_) AllReadyH.nil
  go_simp
  (refine (HAD.out _ (HB0.out.trans (hb1.mono HB0.out.size))).mono ?_; rintro e w2 ⟨rfl, hl⟩)
  refine hKq.out _ _ ?_ (fun hHeld => ?_)
  · exact HK5.out _ _ (HB0.out.trans (hb1.mono HB0.out.size)) hl
  clear hKq Kq
  (try simp only [Act.put, List.setIfInBounds_toArray, List.set_cons_zero, List.set_cons_succ])
  refine wpAnyH_done (by kernel_rfl) ?_ _

  go_wp2_with fail
  go_end0
  exact ⟨rfl, HTN.out _ _ (HB0.out.trans (hb1.mono HB0.out.size)) hl⟩
theorem note_any {w : World} {base : Nat} {X : Wm} (h : PW w base X) (h1 : X.n ≤ 1000000000) (h2 : X.pn ≤ 1000000000) (hl : X.nD.length ≤ 100000) (hT : Tab w) (t a : Int) (k : Nat) (hk : k < 256) :
    Calls Tryz.prog 15 #[Pw X.wB, .int .i64 t, .int .u8 (k : Int), .int .u32 a] w fun e w' => e = .returned (.tuple #[]) ∧ Noted w w' base X ⟨((X.n + X.pn : Nat) : Int), t, k, a, -1, 0, 0⟩ := by
  have HN := Lib.hid (noteOf_any h h1 h2 hl hT t a (-1) 0 k hk)
  clear h h1 h2 hl hT hk
  go_enter Tryz.func15, Tryz.ntmps15
  go_wp2_with (go_at_call 43; refine HN.out.mono ?_; rintro e w1 ⟨rfl, hn⟩)
  go_end0
  exact ⟨rfl, hn⟩
end Go.Proofs.YthafnphpcdbnlaaGreatDoor.S12
set_option linter.unusedVariables false
set_option linter.unusedSimpArgs false
namespace Go.Proofs.YthafnphpcdbnlaaGreatDoor.S10
open Go.Proofs.YthafnphpcdbnlaaGreatDoor
open Go.RowKit

theorem keep3 {w w' : World} {base g o : Nat} {d : Ent} (hb : Below base w w') (hg : g < base) (h : w.cell? ⟨g, o, none⟩ = some (.int .i64 d.t) ∧ w.cell? ⟨g, o + 1, none⟩ = some (.int .u32 d.k) ∧ w.cell? ⟨g, o + 2, none⟩ = some (.int .u64 d.z)) :
    w'.cell? ⟨g, o, none⟩ = some (.int .i64 d.t) ∧ w'.cell? ⟨g, o + 1, none⟩ = some (.int .u32 d.k) ∧ w'.cell? ⟨g, o + 2, none⟩ = some (.int .u64 d.z) :=
  ⟨(hb.cell (by exact hg)).trans h.1, (hb.cell (by exact hg)).trans h.2.1, (hb.cell (by exact hg)).trans h.2.2⟩
set_option maxHeartbeats 2000000 in
set_option maxRecDepth 100000 in
theorem same_any {w : World} {b1 b2 : Nat} {A B : Option Addr} {D : List Ent} (c c' : Nat) (hr1 : Rd w b1 A (flat D)) (hr2 : Rd w b2 B (flat D)) (hb1 : b1 ≤ w.heap.size) (hb2 : b2 ≤ w.heap.size) (hlen : D.length ≤ 1000000) :
    Calls Tryz.prog 68 #[.slice A D.length c, .slice B D.length c'] w fun e w' => e = .returned (.bool true) ∧ Below w.heap.size w w' := by
  have H1 := Lib.hid hr1; have H2 := Lib.hid hr2; have HS1 := Lib.hid hb1; have HS2 := Lib.hid hb2
  clear hr1 hr2 hb1 hb2
  obtain ⟨n, hn⟩ : ∃ n, n = D.length := ⟨_, rfl⟩
  rw [← hn]
  have HN := Lib.hid hn
  have hn6 : n ≤ 1000000 := by omega
  clear hn hlen
  go_enter Tryz.func68, Tryz.ntmps68
  go_wp2_with fail
  go_loopg [5] n (fun q s5 wx => ∃ k : Nat, k ≤ n ∧ q = n - k ∧ s5 = .int .i64 (k : Int) ∧ Below w.heap.size w wx)
  case atStart => exact ⟨0, by omega, rfl, rfl, Below.refl _ _⟩
  case round =>
    obtain ⟨k, hk, rfl, rfl, hb⟩ := hrel
    have HB := Lib.hid hb
    clear hb
    by_cases hkn : k < n
    · obtain ⟨g1, o1, rfl, hg1, c0, c1, c2⟩ := (H1.out.below HB.out HS1.out).ent (i := k) (by have := HN.out; omega)
      obtain ⟨g2, o2, rfl, hg2, d0, d1, d2⟩ := (H2.out.below HB.out HS2.out).ent (i := k) (by have := HN.out; omega)
      have hl1 : g1 < wr.heap.size := by have := HB.out.size; have := HS1.out; omega
      have hl2 : g2 < wr.heap.size := by have := HB.out.size; have := HS2.out; omega
      generalize hd : D[k]! = d at *
      clear hd
      have hne := fun W => neqO d d W
      simp only [decide_true, Bool.not_true] at hne
      go_upto_region 6 with (fail)
      refine wp_region_held_drew (S := fun w' => (w'.cell? ⟨g1, o1 + k * 3, none⟩ = some (.int .i64 d.t) ∧ w'.cell? ⟨g1, o1 + k * 3 + 1, none⟩ = some (.int .u32 d.k) ∧ w'.cell? ⟨g1, o1 + k * 3 + 2, none⟩ = some (.int .u64 d.z)) ∧ (w'.cell? ⟨g2, o2 + k * 3, none⟩ = some (.int .i64 d.t) ∧ w'.cell? ⟨g2, o2 + k * 3 + 1, none⟩ = some (.int .u32 d.k) ∧ w'.cell? ⟨g2, o2 + k * 3 + 2, none⟩ = some (.int .u64 d.z)) ∧ Below wr.heap.size wr w') (by kernel_rfl) ?_ (fun hHeld => ?_)
      · exact ⟨⟨c0, c1, c2⟩, ⟨d0, d1, d2⟩, (Below.refl _ wr).drew⟩
      refine wpAnyH_take (i := 0) (oi := ({ dst := some 17, op := Op.move (Operand.tmp 0), type := 179, pos := "help.go:28", after := #[], guard := none } : Oper)) (v := ?v0) rfl (by kernel_rfl) (by kernel_rfl) (by kernel_rfl) (fun _ _ _ h => h) (Or.inl ⟨by rfl, fun w hSw => ?hy0⟩) (by assumption) ?r0
      case hy0 => (try dsimp only at hSw); go_simp; (try with_reducible rfl)
      (try simp only [Act.put, List.setIfInBounds_toArray, List.set_cons_zero, List.set_cons_succ])
      refine wpAnyH_take (i := 1) (oi := ({ dst := some 18, op := Op.move (Operand.tmp 5), type := 3, pos := "help.go:28", after := #[], guard := none } : Oper)) (v := ?v1) rfl (by kernel_rfl) (by kernel_rfl) (by kernel_rfl) (fun _ _ _ h => h) (Or.inl ⟨by rfl, fun w hSw => ?hy1⟩) (by assumption) ?r1
      case hy1 => (try dsimp only at hSw); go_simp; (try with_reducible rfl)
      (try simp only [Act.put, List.setIfInBounds_toArray, List.set_cons_zero, List.set_cons_succ])
      refine wpAnyH_take (i := 2) (oi := ({ dst := some 19, op := Op.indexAddr 179 (Operand.tmp 17) (Operand.tmp 18), type := 0, pos := "help.go:28", after := #[{ on := 0, ground := Ground.data }, { on := 1, ground := Ground.data }], guard := none } : Oper)) (v := ?v2) rfl (by kernel_rfl) (by kernel_rfl) (by kernel_rfl) (fun _ _ _ h => h) (Or.inl ⟨by rfl, fun w hSw => ?hy2⟩) (by assumption) ?r2
      case hy2 => (try dsimp only at hSw); go_simp; (try with_reducible rfl)
      (try simp only [Act.put, List.setIfInBounds_toArray, List.set_cons_zero, List.set_cons_succ])
      refine wpAnyH_take (i := 3) (oi := ({ dst := some 20, op := Op.load 202 (Operand.tmp 19), type := 202, pos := "help.go:28", after := #[{ on := 2, ground := Ground.data }], guard := none } : Oper)) (v := ?v3) rfl (by kernel_rfl) (by kernel_rfl) (by kernel_rfl) (fun _ _ _ h => h) (Or.inl ⟨by rfl, fun w hSw => ?hy3⟩) (by assumption) ?r3
      case hy3 => (try dsimp only at hSw); go_simp; (try with_reducible rfl)
      (try simp only [Act.put, List.setIfInBounds_toArray, List.set_cons_zero, List.set_cons_succ])
      refine wpAnyH_take (i := 5) (oi := ({ dst := some 22, op := Op.move (Operand.tmp 1), type := 181, pos := "help.go:28", after := #[], guard := none } : Oper)) (v := ?v5) rfl (by kernel_rfl) (by kernel_rfl) (by kernel_rfl) (fun _ _ _ h => h) (Or.inl ⟨by rfl, fun w hSw => ?hy5⟩) (by assumption) ?r5
      case hy5 => (try dsimp only at hSw); go_simp; (try with_reducible rfl)
      (try simp only [Act.put, List.setIfInBounds_toArray, List.set_cons_zero, List.set_cons_succ])
      refine wpAnyH_take (i := 6) (oi := ({ dst := some 23, op := Op.move (Operand.tmp 5), type := 3, pos := "help.go:28", after := #[], guard := none } : Oper)) (v := ?v6) rfl (by kernel_rfl) (by kernel_rfl) (by kernel_rfl) (fun _ _ _ h => h) (Or.inl ⟨by rfl, fun w hSw => ?hy6⟩) (by assumption) ?r6
      case hy6 => (try dsimp only at hSw); go_simp; (try with_reducible rfl)
      (try simp only [Act.put, List.setIfInBounds_toArray, List.set_cons_zero, List.set_cons_succ])
      refine wpAnyH_take (i := 7) (oi := ({ dst := some 24, op := Op.indexAddr 181 (Operand.tmp 22) (Operand.tmp 23), type := 0, pos := "help.go:28", after := #[{ on := 5, ground := Ground.data }, { on := 6, ground := Ground.data }], guard := none } : Oper)) (v := ?v7) rfl (by kernel_rfl) (by kernel_rfl) (by kernel_rfl) (fun _ _ _ h => h) (Or.inl ⟨by rfl, fun w hSw => ?hy7⟩) (by assumption) ?r7
      case hy7 => (try dsimp only at hSw); go_simp; (try with_reducible rfl)
      (try simp only [Act.put, List.setIfInBounds_toArray, List.set_cons_zero, List.set_cons_succ])
      refine wpAnyH_take (i := 8) (oi := ({ dst := some 25, op := Op.load 193 (Operand.tmp 24), type := 193, pos := "help.go:28", after := #[{ on := 7, ground := Ground.data }], guard := none } : Oper)) (v := ?v8) rfl (by kernel_rfl) (by kernel_rfl) (by kernel_rfl) (fun _ _ _ h => h) (Or.inl ⟨by rfl, fun w hSw => ?hy8⟩) (by assumption) ?r8
      case hy8 => (try dsimp only at hSw); go_simp; (try with_reducible rfl)
      (try simp only [Act.put, List.setIfInBounds_toArray, List.set_cons_zero, List.set_cons_succ])
      refine wpAnyH_ready (rs := [4]) (by kernel_rfl) (by simp) ?_
      refine AllReadyH.cons (o := ({ dst := some 21, op := Op.call { callee := Callee.value (Operand.func 89), args := #[Operand.tmp 20], argTypes := #[202] }, type := 193, pos := "help.go:28", after := #[{ on := 3, ground := Ground.data }], guard := none } : Oper)) rfl (fun Kq hKq => ?_) AllReadyH.nil
      go_simp
      (refine (other_any d _).mono ?_; rintro e w1 ⟨rfl, hb1⟩)
      refine hKq.out _ _ ?_ (fun hHeld => ?_)
      · exact ⟨keep3 hb1 (by have := hHeld.2.2.size; omega) hHeld.1, keep3 hb1 (by have := hHeld.2.2.size; omega) hHeld.2.1, hHeld.2.2.trans (hb1.mono hHeld.2.2.size)⟩
      clear hKq Kq
      (try simp only [Act.put, List.setIfInBounds_toArray, List.set_cons_zero, List.set_cons_succ])
      refine wpAnyH_take (i := 9) (oi := ({ dst := some 26, op := Op.binOp BinOp.neq 193 (Operand.tmp 21) (Operand.tmp 25) 193, type := 4, pos := "help.go:28", after := #[{ on := 4, ground := Ground.data }, { on := 8, ground := Ground.data }], guard := none } : Oper)) (v := ?v9) rfl (by kernel_rfl) (by kernel_rfl) (by kernel_rfl) (fun _ _ _ h => h) (Or.inl ⟨by rfl, fun w hSw => ?hy9⟩) (by assumption) ?r9
      case hy9 => (try dsimp only at hSw); go_simp; (try with_reducible rfl)
      (try simp only [Act.put, List.setIfInBounds_toArray, List.set_cons_zero, List.set_cons_succ])
      refine wpAnyH_done (by kernel_rfl) ?_ _
      have HH := Lib.hid hHeld.2.2
      clear hHeld
      go_wp2_with fail
      go_roundg (n - (k + 1))
      case measure => omega
      case rel => exact ⟨k + 1, by omega, rfl, by go_num, HB.out.trans (HH.out.mono HB.out.size)⟩
    · obtain rfl : k = n := by omega
      go_wp2_with fail
      go_ret
      exact ⟨rfl, HB.out⟩
end Go.Proofs.YthafnphpcdbnlaaGreatDoor.S10
