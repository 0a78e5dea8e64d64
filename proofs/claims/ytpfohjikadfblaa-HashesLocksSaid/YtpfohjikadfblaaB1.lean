/- HashesLocks. -/
import Derived.Test.YtpfohjikadfblaaA5
import Derived.Deep.RegionHeld3
import Derived.Deep.DeepCutAuto
import Derived.Deep.CutRange
import Derived.RegionTactic
import Derived.Deep.QuietTactic
import Derived.BigQuiet
namespace Go.Proofs.Ytpfohjikadfblaa
open Go.RowKit
def four (x0 x1 x2 x3 : Nat) : Value := .agg #[.int .u8 x0, .int .u8 x1, .int .u8 x2, .int .u8 x3]
/-- The size of a table that there is. -/
theorem size_some (n : Nat) (h : 2 ≤ n) (g : n ≤ 8) : ∃ s : Nat, s = 2 ^ n ∧ 4 ≤ s ∧ s ≤ 256 ∧ sizeN n = s ∧ ∀ W, Calls Try.prog 6 #[.int .i64 n] W fun e w' => e = .returned (.int .i64 s) ∧ W = w' := by
  have e : sizeN (n : Int) = 2 ^ n := by unfold sizeN; rw [if_pos (by omega)]; rfl
  have hn : n = 2 ∨ n = 3 ∨ n = 4 ∨ n = 5 ∨ n = 6 ∨ n = 7 ∨ n = 8 := by omega
  refine ⟨2 ^ n, rfl, ?_, ?_, e, fun W => ?_⟩
  · rcases hn with rfl | rfl | rfl | rfl | rfl | rfl | rfl <;> decide
  · rcases hn with rfl | rfl | rfl | rfl | rfl | rfl | rfl <;> decide
  · have := size_any n W
    rw [e] at this
    exact this
theorem of_lock (n s i : Nat) (h : 2 ≤ n) (g : n ≤ 8) (hs : s = 2 ^ n) (hi : i < s) : ofB (256 + (s + i)) = n ∧ ofI (256 + (s + i)) = i := by
  have hn : n = 2 ∨ n = 3 ∨ n = 4 ∨ n = 5 ∨ n = 6 ∨ n = 7 ∨ n = 8 := by omega
  subst hs
  unfold ofB ofI
  rcases hn with rfl | rfl | rfl | rfl | rfl | rfl | rfl
  all_goals
    simp only [Nat.reducePow] at hi ⊢
    constructor
    · repeat (first | rw [if_pos (by omega)] | rw [if_neg (by omega)])
      rfl
    · repeat (first | rw [if_pos (by omega)] | rw [if_neg (by omega)])
      omega
theorem of_out (c : Nat) (h : c < 260 ∨ 767 < c) : ofB c = -1 := by
  unfold ofB
  rcases h with h | h
  · rw [if_pos h]
  · repeat (first | rw [if_pos (by omega)] | rw [if_neg (by omega)])
theorem of_in (c : Nat) (h : 260 ≤ c) (g : c ≤ 767) : ∃ n s i : Nat, 2 ≤ n ∧ n ≤ 8 ∧ s = 2 ^ n ∧ i < s ∧ c = 256 + (s + i) := by
  by_cases h3 : c < 264
  · exact ⟨2, 4, c - 260, by omega, by omega, by decide, by omega, by omega⟩
  by_cases h4 : c < 272
  · exact ⟨3, 8, c - 264, by omega, by omega, by decide, by omega, by omega⟩
  by_cases h5 : c < 288
  · exact ⟨4, 16, c - 272, by omega, by omega, by decide, by omega, by omega⟩
  by_cases h6 : c < 320
  · exact ⟨5, 32, c - 288, by omega, by omega, by decide, by omega, by omega⟩
  by_cases h7 : c < 384
  · exact ⟨6, 64, c - 320, by omega, by omega, by decide, by omega, by omega⟩
  by_cases h8 : c < 512
  · exact ⟨7, 128, c - 384, by omega, by omega, by decide, by omega, by omega⟩
  · exact ⟨8, 256, c - 512, by omega, by omega, by decide, by omega, by omega⟩
theorem lock_some (n s i : Nat) (hs : sizeN n = s) (hi : i < s) (W : World) : Calls Try.prog 8 #[.int .i64 n, .int .i64 i] W fun e w' => e = .returned (.int .u32 (256 + (s + i) : Nat)) ∧ W = w' := by
  have := lock_any n i W
  unfold lockZ at this
  rw [hs, if_neg (by omega)] at this
  rw [show ((256 + (s + i) : Nat) : Int) = 256 + ((s : Int) + (i : Int)) by omega]
  exact this
theorem two_locks (n m s t i k : Nat) (hs : s = 2 ^ n) (ht : t = 2 ^ m) (hi : i < s) (hk : k < t) (h : 256 + (s + i) = 256 + (t + k)) : n = m ∧ i = k := by
  have e : n = m := by
    rcases Nat.lt_trichotomy n m with g | g | g
    · have : 2 ^ (n + 1) ≤ 2 ^ m := Nat.pow_le_pow_right (by omega) g
      rw [Nat.pow_succ] at this
      omega
    · exact g
    · have : 2 ^ (m + 1) ≤ 2 ^ n := Nat.pow_le_pow_right (by omega) g
      rw [Nat.pow_succ] at this
      omega
  subst e
  exact ⟨rfl, by omega⟩
set_option maxHeartbeats 4000000 in
set_option maxRecDepth 20000 in
theorem law_locks (x0 x1 x2 x3 c : Nat) (h0 : x0 < 256) (h1 : x1 < 256) (h2 : x2 < 256) (h3 : x3 < 256) (hc : c < 65536) (w : World) : Calls Try.prog 4 #[four x0 x1 x2 x3, .int .u16 c] w fun e w' => e = .returned (.bool true) ∧ Below w.heap.size w w' := by
  unfold four
  obtain ⟨n, hn⟩ : ∃ n : Nat, n = 2 + x0 % 7 := ⟨_, rfl⟩
  obtain ⟨m, hm⟩ : ∃ m : Nat, m = 2 + x1 % 7 := ⟨_, rfl⟩
  have en : (2 : Int) + (x0 : Int) % 7 = (n : Int) := by omega
  have em : (2 : Int) + (x1 : Int) % 7 = (m : Int) := by omega
  obtain ⟨sn, hsn, b0, b1, z1, hs1⟩ := size_some n (by omega) (by omega)
  obtain ⟨sm, hsm, b2, b3, z2, hs2⟩ := size_some m (by omega) (by omega)
  have w2 : IntKind.i64.wrap (x2 : Int) = (x2 : Int) := by simp [IntKind.wrap, IntKind.bits, IntKind.signed]; omega
  have w3 : IntKind.i64.wrap (x3 : Int) = (x3 : Int) := by simp [IntKind.wrap, IntKind.bits, IntKind.signed]; omega
  have t2 : Int.tmod (x2 : Int) (sn : Int) = ((x2 % sn : Nat) : Int) := by rw [Int.tmod_eq_emod_of_nonneg (by omega)]; omega
  have t3 : Int.tmod (x3 : Int) (sm : Int) = ((x3 % sm : Nat) : Int) := by rw [Int.tmod_eq_emod_of_nonneg (by omega)]; omega
  have y1 : ¬ (sn : Int) < 1 := by omega
  have y2 : ¬ (sm : Int) < 1 := by omega
  have y5 : ¬ sn = 0 := by omega
  have y6 : ¬ sm = 0 := by omega
  have y3 : ¬ (sn : Int) = 0 := by omega
  have y4 : ¬ (sm : Int) = 0 := by omega
  have q1 : ((sn : Int) == 0) = false := by rw [beq_eq_false_iff_ne]; omega
  have q2 : ((sm : Int) == 0) = false := by rw [beq_eq_false_iff_ne]; omega
  have HS1 := Lib.hid hs1; have HS2 := Lib.hid hs2; have EN := Lib.hid en; have EM := Lib.hid em
  have HN := Lib.hid hn; have HM := Lib.hid hm; have HSN := Lib.hid hsn; have HSM := Lib.hid hsm
  have Z1 := Lib.hid z1; have Z2 := Lib.hid z2
  clear hs1 hs2 en em hn hm hsn hsm z1 z2
  go_enter Try.func4, Try.ntmps4
  go_upto_region 3 with (fail)
  rw [EN.out, EM.out]
  have c2 : (w.alloc (Obj.cells #[Value.int IntKind.u8 x0, Value.int IntKind.u8 x1, Value.int IntKind.u8 x2, Value.int IntKind.u8 x3] 28)).cell? ⟨w.heap.size, 2, none⟩ = some (.int .u8 x2) := by rw [World.cell?_alloc_at _ _ _ _ rfl]; rfl
  have c3 : (w.alloc (Obj.cells #[Value.int IntKind.u8 x0, Value.int IntKind.u8 x1, Value.int IntKind.u8 x2, Value.int IntKind.u8 x3] 28)).cell? ⟨w.heap.size, 3, none⟩ = some (.int .u8 x3) := by rw [World.cell?_alloc_at _ _ _ _ rfl]; rfl
  have bb : Below w.heap.size w (w.alloc (Obj.cells #[Value.int IntKind.u8 x0, Value.int IntKind.u8 x1, Value.int IntKind.u8 x2, Value.int IntKind.u8 x3] 28)) := (Below.refl _ _).alloc (Nat.le_refl _) _
  generalize w.alloc (Obj.cells #[Value.int IntKind.u8 x0, Value.int IntKind.u8 x1, Value.int IntKind.u8 x2, Value.int IntKind.u8 x3] 28) = w1 at *
  generalize hX : w.heap.size = X at *
  have HX := Lib.hid hX
  clear hX
  refine wp_region_held_drew (S := fun w' => w'.cell? ⟨X, 2, none⟩ = some (.int .u8 x2) ∧ w'.cell? ⟨X, 3, none⟩ = some (.int .u8 x3) ∧ Below X w w') (by kernel_rfl) ?_ (fun hHeld => ?_)
  · exact ⟨c2, c3, bb.trans ⟨rfl, rfl, rfl, Nat.le_refl _, fun _ _ => rfl⟩⟩
  refine wpAnyH_take (i := 0) (oi := ({ dst := some 27, op := Op.indexAddr 28 (Operand.tmp 2) (Operand.const (Value.int IntKind.i64 2)), type := 0, pos := "outright.go:41", after := #[], guard := none } : Oper)) (v := ?va0) rfl (by kernel_rfl) (by kernel_rfl) (by kernel_rfl) (fun _ _ _ h => h) (Or.inl ⟨by rfl, fun w hSw => ?hya0⟩) (by assumption) ?ra0
  case hya0 => (try dsimp only at hSw); go_simp; (try with_reducible rfl)
  (try simp only [Act.put, List.setIfInBounds_toArray, List.set_cons_zero, List.set_cons_succ])
  refine wpAnyH_take (i := 1) (oi := ({ dst := some 28, op := Op.load 5 (Operand.tmp 27), type := 5, pos := "outright.go:41", after := #[{ on := 0, ground := Ground.data }], guard := none } : Oper)) (v := ?va1) rfl (by kernel_rfl) (by kernel_rfl) (by kernel_rfl) (fun _ _ _ h => h) (Or.inl ⟨by rfl, fun w hSw => ?hya1⟩) (by assumption) ?ra1
  case hya1 => (try dsimp only at hSw); go_simp; (try with_reducible rfl)
  (try simp only [Act.put, List.setIfInBounds_toArray, List.set_cons_zero, List.set_cons_succ])
  refine wpAnyH_take (i := 2) (oi := ({ dst := some 29, op := Op.convert 5 3 (Operand.tmp 28), type := 3, pos := "outright.go:41", after := #[{ on := 1, ground := Ground.data }], guard := none } : Oper)) (v := ?va2) rfl (by kernel_rfl) (by kernel_rfl) (by kernel_rfl) (fun _ _ _ h => h) (Or.inl ⟨by rfl, fun w hSw => ?hya2⟩) (by assumption) ?ra2
  case hya2 => (try dsimp only at hSw); go_simp; (try with_reducible rfl)
  (try simp only [Act.put, List.setIfInBounds_toArray, List.set_cons_zero, List.set_cons_succ])
  refine wpAnyH_take (i := 3) (oi := ({ dst := some 30, op := Op.move (Operand.tmp 5), type := 3, pos := "outright.go:41", after := #[], guard := none } : Oper)) (v := ?va3) rfl (by kernel_rfl) (by kernel_rfl) (by kernel_rfl) (fun _ _ _ h => h) (Or.inl ⟨by rfl, fun w hSw => ?hya3⟩) (by assumption) ?ra3
  case hya3 => (try dsimp only at hSw); go_simp; (try with_reducible rfl)
  (try simp only [Act.put, List.setIfInBounds_toArray, List.set_cons_zero, List.set_cons_succ])
  refine wpAnyH_ready (rs := [4]) (by kernel_rfl) (by simp) ?_
  refine AllReadyH.cons (o := ({ dst := some 31, op := Op.call { callee := Callee.value (Operand.func 6), args := #[Operand.tmp 30], argTypes := #[3] }, type := 3, pos := "outright.go:41", after := #[{ on := 3, ground := Ground.data }], guard := none } : Oper)) rfl (fun Kq hKq => ?_) AllReadyH.nil
  go_simp
  (refine (HS1.out _).mono ?_; rintro e wa ⟨rfl, rfl⟩)
  refine hKq.out _ _ ?_ (fun hHeld => ?_)
  · exact hHeld
  clear hKq Kq
  (try simp only [Act.put, List.setIfInBounds_toArray, List.set_cons_zero, List.set_cons_succ])
  refine wpAnyH_take (i := 5) (oi := ({ dst := some 32, op := Op.call { callee := Callee.builtin Builtin.max, args := #[Operand.tmp 31, Operand.const (Value.int IntKind.i64 1)], argTypes := #[3, 3] }, type := 3, pos := "outright.go:41", after := #[{ on := 4, ground := Ground.data }], guard := none } : Oper)) (v := ?va5) rfl (by kernel_rfl) (by kernel_rfl) (by kernel_rfl) (fun _ _ _ h => h) (Or.inl ⟨by rfl, fun w hSw => ?hya5⟩) (by assumption) ?ra5
  case hya5 => (try dsimp only at hSw); go_simp; (try with_reducible rfl)
  (try simp only [Act.put, List.setIfInBounds_toArray, List.set_cons_zero, List.set_cons_succ])
  refine wpAnyH_take (i := 6) (oi := ({ dst := some 33, op := Op.binOp BinOp.rem 3 (Operand.tmp 29) (Operand.tmp 32) 3, type := 3, pos := "outright.go:41", after := #[{ on := 2, ground := Ground.data }, { on := 5, ground := Ground.data }], guard := none } : Oper)) (v := ?va6) rfl (by kernel_rfl) (by kernel_rfl) (by kernel_rfl) (fun _ _ _ h => h) (Or.inl ⟨by rfl, fun w hSw => ?hya6⟩) (by assumption) ?ra6
  case hya6 => (try dsimp only at hSw); go_simp; (try with_reducible rfl)
  (try simp only [Act.put, List.setIfInBounds_toArray, List.set_cons_zero, List.set_cons_succ])
  refine wpAnyH_take (i := 7) (oi := ({ dst := some 7, op := Op.assign (Operand.tmp 33), type := 3, pos := "outright.go:41", after := #[{ on := 6, ground := Ground.data }, { on := 4, ground := Ground.chain }, { on := 0, ground := Ground.phase }, { on := 1, ground := Ground.phase }, { on := 2, ground := Ground.phase }, { on := 3, ground := Ground.phase }, { on := 4, ground := Ground.phase }, { on := 5, ground := Ground.phase }, { on := 6, ground := Ground.phase }], guard := none } : Oper)) (v := ?va7) rfl (by kernel_rfl) (by kernel_rfl) (by kernel_rfl) (fun _ _ _ h => h) (Or.inl ⟨by rfl, fun w hSw => ?hya7⟩) (by assumption) ?ra7
  case hya7 => (try dsimp only at hSw); go_simp; (try with_reducible rfl)
  (try simp only [Act.put, List.setIfInBounds_toArray, List.set_cons_zero, List.set_cons_succ])
  refine wpAnyH_done (by kernel_rfl) ?_ _
  clear c2 c3 bb
  go_upto_region 4 with (fail)
  obtain ⟨c2, c3, bb⟩ := hHeld
  refine wp_region_held_drew (S := fun w' => w'.cell? ⟨X, 2, none⟩ = some (.int .u8 x2) ∧ w'.cell? ⟨X, 3, none⟩ = some (.int .u8 x3) ∧ Below X w w') (by kernel_rfl) ?_ (fun hHeld => ?_)
  · exact ⟨c2, c3, bb.trans ⟨rfl, rfl, rfl, Nat.le_refl _, fun _ _ => rfl⟩⟩
  refine wpAnyH_take (i := 0) (oi := ({ dst := some 34, op := Op.indexAddr 28 (Operand.tmp 2) (Operand.const (Value.int IntKind.i64 3)), type := 0, pos := "outright.go:42", after := #[], guard := none } : Oper)) (v := ?vb0) rfl (by kernel_rfl) (by kernel_rfl) (by kernel_rfl) (fun _ _ _ h => h) (Or.inl ⟨by rfl, fun w hSw => ?hyb0⟩) (by assumption) ?rb0
  case hyb0 => (try dsimp only at hSw); go_simp; (try with_reducible rfl)
  (try simp only [Act.put, List.setIfInBounds_toArray, List.set_cons_zero, List.set_cons_succ])
  refine wpAnyH_take (i := 1) (oi := ({ dst := some 35, op := Op.load 5 (Operand.tmp 34), type := 5, pos := "outright.go:42", after := #[{ on := 0, ground := Ground.data }], guard := none } : Oper)) (v := ?vb1) rfl (by kernel_rfl) (by kernel_rfl) (by kernel_rfl) (fun _ _ _ h => h) (Or.inl ⟨by rfl, fun w hSw => ?hyb1⟩) (by assumption) ?rb1
  case hyb1 => (try dsimp only at hSw); go_simp; (try with_reducible rfl)
  (try simp only [Act.put, List.setIfInBounds_toArray, List.set_cons_zero, List.set_cons_succ])
  refine wpAnyH_take (i := 2) (oi := ({ dst := some 36, op := Op.convert 5 3 (Operand.tmp 35), type := 3, pos := "outright.go:42", after := #[{ on := 1, ground := Ground.data }], guard := none } : Oper)) (v := ?vb2) rfl (by kernel_rfl) (by kernel_rfl) (by kernel_rfl) (fun _ _ _ h => h) (Or.inl ⟨by rfl, fun w hSw => ?hyb2⟩) (by assumption) ?rb2
  case hyb2 => (try dsimp only at hSw); go_simp; (try with_reducible rfl)
  (try simp only [Act.put, List.setIfInBounds_toArray, List.set_cons_zero, List.set_cons_succ])
  refine wpAnyH_take (i := 3) (oi := ({ dst := some 37, op := Op.move (Operand.tmp 6), type := 3, pos := "outright.go:42", after := #[], guard := none } : Oper)) (v := ?vb3) rfl (by kernel_rfl) (by kernel_rfl) (by kernel_rfl) (fun _ _ _ h => h) (Or.inl ⟨by rfl, fun w hSw => ?hyb3⟩) (by assumption) ?rb3
  case hyb3 => (try dsimp only at hSw); go_simp; (try with_reducible rfl)
  (try simp only [Act.put, List.setIfInBounds_toArray, List.set_cons_zero, List.set_cons_succ])
  refine wpAnyH_ready (rs := [4]) (by kernel_rfl) (by simp) ?_
  refine AllReadyH.cons (o := ({ dst := some 38, op := Op.call { callee := Callee.value (Operand.func 6), args := #[Operand.tmp 37], argTypes := #[3] }, type := 3, pos := "outright.go:42", after := #[{ on := 3, ground := Ground.data }], guard := none } : Oper)) rfl (fun Kq hKq => ?_) AllReadyH.nil
  go_simp
  (refine (HS2.out _).mono ?_; rintro e wa ⟨rfl, rfl⟩)
  refine hKq.out _ _ ?_ (fun hHeld => ?_)
  · exact hHeld
  clear hKq Kq
  (try simp only [Act.put, List.setIfInBounds_toArray, List.set_cons_zero, List.set_cons_succ])
  refine wpAnyH_take (i := 5) (oi := ({ dst := some 39, op := Op.call { callee := Callee.builtin Builtin.max, args := #[Operand.tmp 38, Operand.const (Value.int IntKind.i64 1)], argTypes := #[3, 3] }, type := 3, pos := "outright.go:42", after := #[{ on := 4, ground := Ground.data }], guard := none } : Oper)) (v := ?vb5) rfl (by kernel_rfl) (by kernel_rfl) (by kernel_rfl) (fun _ _ _ h => h) (Or.inl ⟨by rfl, fun w hSw => ?hyb5⟩) (by assumption) ?rb5
  case hyb5 => (try dsimp only at hSw); go_simp; (try with_reducible rfl)
  (try simp only [Act.put, List.setIfInBounds_toArray, List.set_cons_zero, List.set_cons_succ])
  refine wpAnyH_take (i := 6) (oi := ({ dst := some 40, op := Op.binOp BinOp.rem 3 (Operand.tmp 36) (Operand.tmp 39) 3, type := 3, pos := "outright.go:42", after := #[{ on := 2, ground := Ground.data }, { on := 5, ground := Ground.data }], guard := none } : Oper)) (v := ?vb6) rfl (by kernel_rfl) (by kernel_rfl) (by kernel_rfl) (fun _ _ _ h => h) (Or.inl ⟨by rfl, fun w hSw => ?hyb6⟩) (by assumption) ?rb6
  case hyb6 => (try dsimp only at hSw); go_simp; (try with_reducible rfl)
  (try simp only [Act.put, List.setIfInBounds_toArray, List.set_cons_zero, List.set_cons_succ])
  refine wpAnyH_take (i := 7) (oi := ({ dst := some 8, op := Op.assign (Operand.tmp 40), type := 3, pos := "outright.go:42", after := #[{ on := 6, ground := Ground.data }, { on := 4, ground := Ground.chain }, { on := 0, ground := Ground.phase }, { on := 1, ground := Ground.phase }, { on := 2, ground := Ground.phase }, { on := 3, ground := Ground.phase }, { on := 4, ground := Ground.phase }, { on := 5, ground := Ground.phase }, { on := 6, ground := Ground.phase }], guard := none } : Oper)) (v := ?vb7) rfl (by kernel_rfl) (by kernel_rfl) (by kernel_rfl) (fun _ _ _ h => h) (Or.inl ⟨by rfl, fun w hSw => ?hyb7⟩) (by assumption) ?rb7
  case hyb7 => (try dsimp only at hSw); go_simp; (try with_reducible rfl)
  (try simp only [Act.put, List.setIfInBounds_toArray, List.set_cons_zero, List.set_cons_succ])
  refine wpAnyH_done (by kernel_rfl) ?_ _
  clear c2 c3 bb
  obtain ⟨c2, c3, bb⟩ := hHeld
  clear c2 c3
  generalize w1.drew.drew = wd at *
  clear t2 t3 w2 w3 q1 q2 y1 y2 y3 y4 y5 y6
  have ei : (x2 : Int) % (sn : Int) = ((x2 % sn : Nat) : Int) := by omega
  have ek : (x3 : Int) % (sm : Int) = ((x3 % sm : Nat) : Int) := by omega
  rw [ei, ek]
  have hi : x2 % sn < sn := Nat.mod_lt _ (by omega)
  have hk : x3 % sm < sm := Nat.mod_lt _ (by omega)
  generalize x2 % sn = i at *
  generalize x3 % sm = k at *
  have hn2 : 2 ≤ n ∧ n ≤ 8 := by have := HN.out; omega
  have hm2 : 2 ≤ m ∧ m ≤ 8 := by have := HM.out; omega
  have qa := lock_some n sn i Z1.out hi wd
  have qb := lock_some m sm k Z2.out hk wd
  have qo := of_any (256 + (sn + i)) (by omega) wd
  have ho := of_lock n sn i hn2.1 hn2.2 HSN.out hi
  rw [ho.1, ho.2] at qo
  have qc := of_any c (by omega) wd
  have ql := lives_any wd
  have hab : (256 + (sn + i) = 256 + (sm + k)) ↔ (n = m ∧ i = k) := by
    constructor
    · exact two_locks n m sn sm i k HSN.out HSM.out hi hk
    · rintro ⟨rfl, rfl⟩
      have := HSN.out; have := HSM.out; omega
  have ga : 260 ≤ 256 + (sn + i) := by omega
  have gb : 256 + (sn + i) ≤ 767 := by omega
  generalize 256 + (sn + i) = A at *
  generalize 256 + (sm + k) = B at *
  have hv : (∃ v x : Nat, ofB c = v ∧ ofI c = x ∧ 260 ≤ c ∧ c ≤ 767 ∧ Calls Try.prog 8 #[.int .i64 v, .int .i64 x] wd fun e w' => e = .returned (.int .u32 c) ∧ wd = w') ∨ (ofB c = -1 ∧ (c < 260 ∨ 767 < c)) := by
    by_cases hcc : c < 260 ∨ 767 < c
    · exact Or.inr ⟨of_out c hcc, hcc⟩
    · left
      obtain ⟨v, s, x, g1, g2, g3, g4, g5⟩ := of_in c (by omega) (by omega)
      have g6 := of_lock v s x g1 g2 g3 g4
      rw [← g5] at g6
      have g7 := lock_some v s x (by unfold sizeN; rw [if_pos (by omega)]; exact g3.symm) g4 wd
      rw [← g5] at g7
      exact ⟨v, x, g6.1, g6.2, by omega, by omega, g7⟩
  have QA := Lib.hid qa; have QB := Lib.hid qb; have QO := Lib.hid qo; have QL := Lib.hid ql; have HAB := Lib.hid hab; have BB := Lib.hid bb
  clear qa qb qo ql hab bb ho hi hk ei ek hn2 hm2 b0 b1 b2 b3
  have tail : (∃ eAB enm eik : Bool, ((A : Int) == (B : Int)) = eAB ∧ ((n : Int) == (m : Int)) = enm ∧ ((i : Int) == (k : Int)) = eik ∧ eAB = (enm && eik)) := by
    refine ⟨_, _, _, rfl, rfl, rfl, ?_⟩
    rw [Bool.eq_iff_iff]
    simp only [Bool.and_eq_true, beq_iff_eq]
    have := HAB.out
    omega
  obtain ⟨eAB, enm, eik, r1, r2, r3, r4⟩ := tail
  subst r4
  rcases hv with ⟨v, x, hv1, hv2, hv3, hv4, hv5⟩ | ⟨hv1, hv2⟩
  · rw [hv1, hv2] at qc
    have QC := Lib.hid qc; have QV := Lib.hid hv5
    clear qc hv1 hv2 hv5
    cases enm <;> cases eik
    all_goals
      go_wp2_with fail
      refine QA.out.mono ?_
      rintro e w' ⟨rfl, rfl⟩
      go_wp2_with fail
      refine QB.out.mono ?_
      rintro e w' ⟨rfl, rfl⟩
      go_wp2_with fail
      refine QO.out.mono ?_
      rintro e w' ⟨rfl, rfl⟩
      go_wp2_with fail
      refine QC.out.mono ?_
      rintro e w' ⟨rfl, rfl⟩
      go_wp2_with fail
      refine QV.out.mono ?_
      rintro e w' ⟨rfl, rfl⟩
      go_wp2_with fail
      refine QL.out.mono ?_
      rintro e w' ⟨rfl, rfl⟩
      go_wp2_with fail
      go_ret
      exact ⟨rfl, HX.out.symm ▸ BB.out⟩
  · rw [hv1] at qc
    have QC := Lib.hid qc
    clear qc hv1
    have hin : ((decide (260 ≤ c)) && (decide (c ≤ 767))) = false := by
      rcases hv2 with h | h
      · rw [decide_eq_false (by omega), Bool.false_and]
      · rw [decide_eq_false (p := c ≤ 767) (by omega), Bool.and_false]
    rcases hv2 with hv2 | hv2
    all_goals
      cases enm <;> cases eik
    all_goals
      go_wp2_with fail
      refine QA.out.mono ?_
      rintro e w' ⟨rfl, rfl⟩
      go_wp2_with fail
      refine QB.out.mono ?_
      rintro e w' ⟨rfl, rfl⟩
      go_wp2_with fail
      refine QO.out.mono ?_
      rintro e w' ⟨rfl, rfl⟩
      go_wp2_with fail
      refine QC.out.mono ?_
      rintro e w' ⟨rfl, rfl⟩
      go_wp2_with fail
      refine QL.out.mono ?_
      rintro e w' ⟨rfl, rfl⟩
      go_wp2_with fail
      go_ret
      exact ⟨rfl, HX.out.symm ▸ BB.out⟩
end Go.Proofs.Ytpfohjikadfblaa
