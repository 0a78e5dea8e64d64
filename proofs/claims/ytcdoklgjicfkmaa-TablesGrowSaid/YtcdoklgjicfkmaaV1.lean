/- The laws' small helpers: places and timers turned into the document's; are lists of places alike? -/
import Derived.Test.YtcdoklgjicfkmaaU8
namespace Go.Proofs.Ytcdoklgjicfkmaa
open Go.RowKit

theorem otherP_any (b i : Int) (w : World) : Calls Try.prog 29 #[.agg #[.int .i64 b, .int .i64 i]] w fun e w' => e = .returned (.agg #[.int .i64 b, .int .i64 i]) ∧ Below w.heap.size w w' := by
  go_enter Try.func29, Try.ntmps29
  go_wp2
  exact bodyPost_ret (v := .agg #[.int .i64 b, .int .i64 i]) (by simp [results, Try.results29, go_sem]) rfl ⟨rfl, by first | exact ((Below.refl _ w).alloc (Nat.le_refl _) _).alloc (by simp) _ | exact below1 w _⟩
theorem otherT_any (a f : Int) (w : World) : Calls Try.prog 34 #[.agg #[.int .u64 a, .int .u64 f]] w fun e w' => e = .returned (.agg #[.int .u64 a, .int .u64 f]) ∧ Below w.heap.size w w' := by
  go_enter Try.func34, Try.ntmps34
  go_wp2
  exact bodyPost_ret (v := .agg #[.int .u64 a, .int .u64 f]) (by simp [results, Try.results34, go_sem]) rfl ⟨rfl, by first | exact ((Below.refl _ w).alloc (Nat.le_refl _) _).alloc (by simp) _ | exact below1 w _⟩
theorem pflat_get : ∀ (D : List (Int × Int)) (i : Nat), i < D.length → (pflat D)[i * 2]? = some (.int .i64 D[i]!.1) ∧ (pflat D)[i * 2 + 1]? = some (.int .i64 D[i]!.2)
  | [], i, h => by simp at h
  | e :: r, 0, _ => ⟨rfl, rfl⟩
  | e :: r, i + 1, h => by
    have hr := pflat_get r i (by simpa using h)
    have e3 : pflat (e :: r) = .int .i64 e.1 :: .int .i64 e.2 :: pflat r := rfl
    have e4 : (e :: r)[i + 1]! = r[i]! := by simp
    rw [e3, e4, show (i + 1) * 2 = i * 2 + 2 by omega, show i * 2 + 2 + 1 = i * 2 + 1 + 2 by omega]
    exact hr
theorem Rd.pair {w : World} {base : Nat} {A : Option Addr} {D : List (Int × Int)} (h : Rd w base A (pflat D)) {i : Nat} (hi : i < D.length) : ∃ g o, A = some ⟨g, o, none⟩ ∧ g < base ∧
    w.cell? ⟨g, o + i * 2, none⟩ = some (.int .i64 D[i]!.1) ∧ w.cell? ⟨g, o + i * 2 + 1, none⟩ = some (.int .i64 D[i]!.2) := by
  obtain ⟨g, o, e, hg, hl⟩ := h (by rw [pflat_len]; omega)
  obtain ⟨h0, h1⟩ := pflat_get D i hi
  exact ⟨g, o, e, hg, hl _ _ h0, by have := hl _ _ h1; rwa [← Nat.add_assoc] at this⟩
theorem neqP (a b c d : Int) (w : World) : (binOp .neq 79 (.agg #[.int .i64 a, .int .i64 b]) (.agg #[.int .i64 c, .int .i64 d])).run Try.prog w = .ok (.bool (!decide (a = c ∧ b = d))) w := by
  simp [go_sem, Try.underlying79]
  by_cases h1 : a = c <;> by_cases h2 : b = d <;> simp [h1, h2]
theorem neqT (a b c d : Int) (w : World) : (binOp .neq 86 (.agg #[.int .u64 a, .int .u64 b]) (.agg #[.int .u64 c, .int .u64 d])).run Try.prog w = .ok (.bool (!decide (a = c ∧ b = d))) w := by
  simp [go_sem, Try.underlying86]
  by_cases h1 : a = c <;> by_cases h2 : b = d <;> simp [h1, h2]
theorem neqT33 (a b c d : Int) (w : World) : (binOp .neq 33 (.agg #[.int .u64 a, .int .u64 b]) (.agg #[.int .u64 c, .int .u64 d])).run Try.prog w = .ok (.bool (!decide (a = c ∧ b = d))) w := by
  simp [go_sem, Try.underlying33]
  by_cases h1 : a = c <;> by_cases h2 : b = d <;> simp [h1, h2]
theorem eqlT33 (a b c d : Int) (w : World) : (binOp .eql 33 (.agg #[.int .u64 a, .int .u64 b]) (.agg #[.int .u64 c, .int .u64 d])).run Try.prog w = .ok (.bool (decide (a = c ∧ b = d))) w := by
  simp [go_sem, Try.underlying33]
  by_cases h1 : a = c <;> by_cases h2 : b = d <;> simp [h1, h2]
theorem eqlP30 (a b c d : Int) (w : World) : (binOp .eql 30 (.agg #[.int .i64 a, .int .i64 b]) (.agg #[.int .i64 c, .int .i64 d])).run Try.prog w = .ok (.bool (decide (a = c ∧ b = d))) w := by
  simp [go_sem, Try.underlying30]
  by_cases h1 : a = c <;> by_cases h2 : b = d <;> simp [h1, h2]
theorem keep2 {wr W W' : World} {g o : Nat} {d : Int × Int} (h1 : Below wr.heap.size wr W) (hb : Below W.heap.size W W') (hg : g < wr.heap.size) (h : W.cell? ⟨g, o, none⟩ = some (.int .i64 d.1) ∧ W.cell? ⟨g, o + 1, none⟩ = some (.int .i64 d.2)) :
    W'.cell? ⟨g, o, none⟩ = some (.int .i64 d.1) ∧ W'.cell? ⟨g, o + 1, none⟩ = some (.int .i64 d.2) :=
  ⟨(hb.cell (p := ⟨g, o, none⟩) (Nat.lt_of_lt_of_le hg h1.size)).trans h.1, (hb.cell (p := ⟨g, o + 1, none⟩) (Nat.lt_of_lt_of_le hg h1.size)).trans h.2⟩
set_option maxHeartbeats 2000000 in
set_option maxRecDepth 100000 in
theorem samePlaces_any {w : World} {b1 b2 : Nat} {A B : Option Addr} {D : List (Int × Int)} (c' : Nat) (hr1 : Rd w b1 A (pflat D)) (hr2 : Rd w b2 B (pflat D)) (hb1 : b1 ≤ w.heap.size) (hb2 : b2 ≤ w.heap.size) (hlen : D.length ≤ 1000000) :
    Calls Try.prog 11 #[.slice A D.length D.length, .slice B D.length c'] w fun e w' => e = .returned (.bool true) ∧ Below w.heap.size w w' := by
  have H1 := Lib.hid hr1; have H2 := Lib.hid hr2; have HS1 := Lib.hid hb1; have HS2 := Lib.hid hb2
  clear hr1 hr2 hb1 hb2
  obtain ⟨n, hn⟩ : ∃ n, n = D.length := ⟨_, rfl⟩
  rw [← hn]
  have HN := Lib.hid hn
  have hn6 : n ≤ 1000000 := by omega
  clear hn hlen
  go_enter Try.func11, Try.ntmps11
  go_wp2_with fail
  go_loopg [5] n (fun q s5 wx => ∃ k : Nat, k ≤ n ∧ q = n - k ∧ s5 = .int .i64 (k : Int) ∧ Below w.heap.size w wx)
  case atStart => exact ⟨0, by omega, rfl, rfl, Below.refl _ _⟩
  case round =>
    obtain ⟨k, hk, rfl, rfl, hb⟩ := hrel
    have HB := Lib.hid hb
    clear hb
    by_cases hkn : k < n
    · obtain ⟨g1, o1, rfl, hg1, c0, c1⟩ := (H1.out.below HB.out HS1.out).pair (i := k) (by have := HN.out; omega)
      obtain ⟨g2, o2, rfl, hg2, d0, d1⟩ := (H2.out.below HB.out HS2.out).pair (i := k) (by have := HN.out; omega)
      have hl1 : g1 < wr.heap.size := by have := HB.out.size; have := HS1.out; omega
      have hl2 : g2 < wr.heap.size := by have := HB.out.size; have := HS2.out; omega
      generalize hd : D[k]! = d at *
      clear hd
      have hne := fun W => neqP d.1 d.2 d.1 d.2 W
      simp only [and_self, decide_true, Bool.not_true] at hne
      go_upto_region 6 with (fail)
      refine wp_region_held_drew (S := fun w' => (w'.cell? ⟨g1, o1 + k * 2, none⟩ = some (.int .i64 d.1) ∧ w'.cell? ⟨g1, o1 + k * 2 + 1, none⟩ = some (.int .i64 d.2)) ∧ (w'.cell? ⟨g2, o2 + k * 2, none⟩ = some (.int .i64 d.1) ∧ w'.cell? ⟨g2, o2 + k * 2 + 1, none⟩ = some (.int .i64 d.2)) ∧ Below wr.heap.size wr w') (by kernel_rfl) ?_ (fun hHeld => ?_)
      · exact ⟨⟨c0, c1⟩, ⟨d0, d1⟩, (Below.refl _ wr).drew⟩
      refine wpAnyH_take (i := 0) (oi := ({ dst := some 24, op := Op.move (Operand.tmp 0), type := 38, pos := "help.go:37", after := #[], guard := none } : Oper)) (v := ?va0) rfl (by kernel_rfl) (by kernel_rfl) (by kernel_rfl) (fun _ _ _ h => h) (Or.inl ⟨by rfl, fun w hSw => ?hya0⟩) (by assumption) ?ra0
      case hya0 => (try dsimp only at hSw); go_simp; (try with_reducible rfl)
      (try simp only [Act.put, List.setIfInBounds_toArray, List.set_cons_zero, List.set_cons_succ])
      refine wpAnyH_take (i := 1) (oi := ({ dst := some 25, op := Op.move (Operand.tmp 5), type := 3, pos := "help.go:37", after := #[], guard := none } : Oper)) (v := ?va1) rfl (by kernel_rfl) (by kernel_rfl) (by kernel_rfl) (fun _ _ _ h => h) (Or.inl ⟨by rfl, fun w hSw => ?hya1⟩) (by assumption) ?ra1
      case hya1 => (try dsimp only at hSw); go_simp; (try with_reducible rfl)
      (try simp only [Act.put, List.setIfInBounds_toArray, List.set_cons_zero, List.set_cons_succ])
      refine wpAnyH_take (i := 2) (oi := ({ dst := some 26, op := Op.indexAddr 38 (Operand.tmp 24) (Operand.tmp 25), type := 0, pos := "help.go:37", after := #[{ on := 0, ground := Ground.data }, { on := 1, ground := Ground.data }], guard := none } : Oper)) (v := ?va2) rfl (by kernel_rfl) (by kernel_rfl) (by kernel_rfl) (fun _ _ _ h => h) (Or.inl ⟨by rfl, fun w hSw => ?hya2⟩) (by assumption) ?ra2
      case hya2 => (try dsimp only at hSw); go_simp; (try with_reducible rfl)
      (try simp only [Act.put, List.setIfInBounds_toArray, List.set_cons_zero, List.set_cons_succ])
      refine wpAnyH_take (i := 3) (oi := ({ dst := some 27, op := Op.load 30 (Operand.tmp 26), type := 30, pos := "help.go:37", after := #[{ on := 2, ground := Ground.data }], guard := none } : Oper)) (v := ?va3) rfl (by kernel_rfl) (by kernel_rfl) (by kernel_rfl) (fun _ _ _ h => h) (Or.inl ⟨by rfl, fun w hSw => ?hya3⟩) (by assumption) ?ra3
      case hya3 => (try dsimp only at hSw); go_simp; (try with_reducible rfl)
      (try simp only [Act.put, List.setIfInBounds_toArray, List.set_cons_zero, List.set_cons_succ])
      refine wpAnyH_take (i := 5) (oi := ({ dst := some 29, op := Op.move (Operand.tmp 1), type := 40, pos := "help.go:37", after := #[], guard := none } : Oper)) (v := ?va5) rfl (by kernel_rfl) (by kernel_rfl) (by kernel_rfl) (fun _ _ _ h => h) (Or.inl ⟨by rfl, fun w hSw => ?hya5⟩) (by assumption) ?ra5
      case hya5 => (try dsimp only at hSw); go_simp; (try with_reducible rfl)
      (try simp only [Act.put, List.setIfInBounds_toArray, List.set_cons_zero, List.set_cons_succ])
      refine wpAnyH_take (i := 6) (oi := ({ dst := some 30, op := Op.move (Operand.tmp 5), type := 3, pos := "help.go:37", after := #[], guard := none } : Oper)) (v := ?va6) rfl (by kernel_rfl) (by kernel_rfl) (by kernel_rfl) (fun _ _ _ h => h) (Or.inl ⟨by rfl, fun w hSw => ?hya6⟩) (by assumption) ?ra6
      case hya6 => (try dsimp only at hSw); go_simp; (try with_reducible rfl)
      (try simp only [Act.put, List.setIfInBounds_toArray, List.set_cons_zero, List.set_cons_succ])
      refine wpAnyH_take (i := 7) (oi := ({ dst := some 31, op := Op.indexAddr 40 (Operand.tmp 29) (Operand.tmp 30), type := 0, pos := "help.go:37", after := #[{ on := 5, ground := Ground.data }, { on := 6, ground := Ground.data }], guard := none } : Oper)) (v := ?va7) rfl (by kernel_rfl) (by kernel_rfl) (by kernel_rfl) (fun _ _ _ h => h) (Or.inl ⟨by rfl, fun w hSw => ?hya7⟩) (by assumption) ?ra7
      case hya7 => (try dsimp only at hSw); go_simp; (try with_reducible rfl)
      (try simp only [Act.put, List.setIfInBounds_toArray, List.set_cons_zero, List.set_cons_succ])
      refine wpAnyH_take (i := 8) (oi := ({ dst := some 32, op := Op.load 79 (Operand.tmp 31), type := 79, pos := "help.go:37", after := #[{ on := 7, ground := Ground.data }], guard := none } : Oper)) (v := ?va8) rfl (by kernel_rfl) (by kernel_rfl) (by kernel_rfl) (fun _ _ _ h => h) (Or.inl ⟨by rfl, fun w hSw => ?hya8⟩) (by assumption) ?ra8
      case hya8 => (try dsimp only at hSw); go_simp; (try with_reducible rfl)
      (try simp only [Act.put, List.setIfInBounds_toArray, List.set_cons_zero, List.set_cons_succ])
      refine wpAnyH_ready (rs := [4]) (by kernel_rfl) (by simp) ?_
      refine AllReadyH.cons (o := ({ dst := some 28, op := Op.call { callee := Callee.value (Operand.func 29), args := #[Operand.tmp 27], argTypes := #[30] }, type := 79, pos := "help.go:37", after := #[{ on := 3, ground := Ground.data }], guard := none } : Oper)) rfl (fun Kq hKq => ?_) AllReadyH.nil
      go_simp
      (refine (otherP_any d.1 d.2 _).mono ?_; rintro e w1 ⟨rfl, hb1⟩)
      refine hKq.out _ _ ?_ (fun hHeld => ?_)
      · exact ⟨keep2 hHeld.2.2 hb1 hl1 hHeld.1, keep2 hHeld.2.2 hb1 hl2 hHeld.2.1, hHeld.2.2.trans (hb1.mono hHeld.2.2.size)⟩
      clear hKq Kq
      (try simp only [Act.put, List.setIfInBounds_toArray, List.set_cons_zero, List.set_cons_succ])
      refine wpAnyH_take (i := 9) (oi := ({ dst := some 33, op := Op.binOp BinOp.neq 79 (Operand.tmp 28) (Operand.tmp 32) 79, type := 4, pos := "help.go:37", after := #[{ on := 4, ground := Ground.data }, { on := 8, ground := Ground.data }], guard := none } : Oper)) (v := ?va9) rfl (by kernel_rfl) (by kernel_rfl) (by kernel_rfl) (fun _ _ _ h => h) (Or.inl ⟨by rfl, fun w hSw => ?hya9⟩) (by assumption) ?ra9
      case hya9 => (try dsimp only at hSw); go_simp; (try with_reducible rfl)
      (try simp only [Act.put, List.setIfInBounds_toArray, List.set_cons_zero, List.set_cons_succ])
      refine wpAnyH_done (by kernel_rfl) ?_ _
      go_wp2_with fail
      go_roundg (n - (k + 1))
      case measure => omega
      case rel => exact ⟨k + 1, by omega, rfl, by go_num, HB.out.trans (hHeld.2.2.mono HB.out.size)⟩
    · obtain rfl : k = n := by omega
      go_wp2_with fail
      go_ret
      exact ⟨rfl, HB.out⟩
end Go.Proofs.Ytcdoklgjicfkmaa
