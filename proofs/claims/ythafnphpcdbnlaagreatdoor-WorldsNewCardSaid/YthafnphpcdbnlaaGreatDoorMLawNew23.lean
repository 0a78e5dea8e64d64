/- Texts of this seat, one behind the other. -/
import Derived.Test.YthafnphpcdbnlaaGreatDoorMLawNew22
import Derived.Deep.RegionHeld3
set_option linter.unusedVariables false
set_option linter.unusedSimpArgs false
set_option linter.unusedVariables false
set_option linter.unusedSimpArgs false
namespace Go.Proofs.YthafnphpcdbnlaaGreatDoor.S10
open Go.Proofs.YthafnphpcdbnlaaGreatDoor
open Go.RowKit

theorem turns_grown {w w' : World} {row : Option Nat} (hg : w.grownBy w' row) : Turns (fun k => row = some k) w w' :=
  ⟨hg.os, hg.tape, hg.output, hg.size, fun k hk hn => hg.block k hk (fun e => hn e.symm)⟩
theorem CB.no {w : World} {v : Value} (h : CB w v) {row : Option Nat} (hr : ∀ r, row = some r → ∃ o : Obj, w.heap[r]? = some o ∧ o.isCells = false) : ∀ g, v.ownBlock = some g → ¬ row = some g := fun g e e' => by
  obtain ⟨cs, t, m, h1⟩ := h g e
  obtain ⟨o, h2, h3⟩ := hr g e'
  rw [h1] at h2
  cases h2
  cases h3
theorem Tab.cb {w : World} {base : Nat} {s : Value} {ss : List Value} {Ls : List (List Ent)} (h : Tab w base s ss Ls) {i : Nat} {v : Value} (hv : ss[i]? = some v) : CB w v := by
  have hi : i < Ls.length := by rw [← h.len]; exact (List.getElem?_eq_some_iff.1 hv).1
  obtain ⟨u, hu, _, hc⟩ := h.qs i hi
  rw [hv] at hu
  cases hu
  exact hc
theorem Tab.rowE {w : World} {base : Nat} {s : Value} {ss : List Value} {Ls : List (List Ent)} (h : Tab w base s ss Ls) {i : Nat} {v : Value} (hv : ss[i]? = some v) : RowE w base v Ls[i]! := by
  have hi : i < Ls.length := by rw [← h.len]; exact (List.getElem?_eq_some_iff.1 hv).1
  obtain ⟨u, hu, hr, hc⟩ := h.qs i hi
  rw [hv] at hu
  cases hu
  exact hr
theorem Tab.grown {w w' : World} {base : Nat} {s : Value} {ss : List Value} {Ls : List (List Ent)} {row : Option Nat} (h : Tab w base s ss Ls) (hg : w.grownBy w' row) (hr : ∀ r, row = some r → ∃ o : Obj, w.heap[r]? = some o ∧ o.isCells = false) : Tab w' base s ss Ls :=
  h.keep (turns_grown hg) (h.out.no hr) (fun i v g hv e => (h.cb hv).no hr g e)
/-- The cell of a queue. -/
theorem Tab.cell {w : World} {base g o m c : Nat} {ss : List Value} {Ls : List (List Ent)} (h : Tab w base (.slice (some ⟨g, o, none⟩) m c) ss Ls) {i : Nat} {v : Value} (hv : ss[i]? = some v) : w.cell? ⟨g, o + i, none⟩ = some v ∧ w.frozen? ⟨g, o + i, none⟩ = false := by
  obtain ⟨A, cap, e, h0, h1, h2, h3, h4⟩ := h.row
  cases e
  obtain ⟨g', o', e, hb, hlt, hl, hc⟩ := h4 _ rfl
  cases e
  have := (List.getElem?_eq_some_iff.1 hv).1
  exact ⟨hl i v hv, (hc i (by omega)).2⟩
theorem Tab.cell0 {w : World} {base g m c : Nat} {ss : List Value} {Ls : List (List Ent)} (h : Tab w base (.slice (some ⟨g, 0, none⟩) m c) ss Ls) {i : Nat} {v : Value} (hv : ss[i]? = some v) : w.cell? ⟨g, i, none⟩ = some v ∧ w.frozen? ⟨g, i, none⟩ = false := by
  have := h.cell hv
  rwa [Nat.zero_add] at this
theorem info32 : ∃ i, Tryz.prog.info? 179 = some i ∧ i.zero = some (.slice none 0 0) ∧ i.size = 1 ∧ i.bytes = 24 := info_of (by kernel_rfl)
theorem made_nil (n : Nat) : madeCells #[Value.slice none 0 0] n = (List.replicate n (Value.slice none 0 0)).toArray := by
  apply Array.ext
  · simp [madeCells]
  · intro j h1 h2
    simp [madeCells, Nat.mod_one]
/-- A table of empty queues. -/
theorem make_any (n : Nat) (hn : n ≤ 65536) (w : World) : (Instr.makeSlice 142 (.int .i64 (n : Int)) (.int .i64 (n : Int))).run Tryz.prog w = .ok (.slice (some ⟨w.heap.size, 0, none⟩) n n) (w.alloc (.cells (List.replicate n (Value.slice none 0 0)).toArray 179)) := by
  obtain ⟨i, hi, hz, hsz, hby⟩ := info32
  have hr := run_make (P := Tryz.prog) w 142 179 i (.slice none 0 0) Tryz.underlying142 hi hz .i64 .i64 n n (by omega) (Int.le_refl _) (by rw [hby]; omega) (by omega)
  simp only [Int.toNat_natCast, hsz, Nat.mul_one] at hr
  rw [hr]
  have hm : madeCells (Value.slice none 0 0).cells n = (List.replicate n (Value.slice none 0 0)).toArray := made_nil n
  rw [hm]
theorem tab_made (w : World) (base g n : Nat) (h : w.heap[g]? = some (.cells (List.replicate n (Value.slice none 0 0)).toArray 179 (0, 0))) (hb : base ≤ g) (hn : n ≤ 65536) : Tab w base (.slice (some ⟨g, 0, none⟩) n n) (List.replicate n (.slice none 0 0)) (List.replicate n []) := by
  have hlt := (Array.getElem?_eq_some_iff.1 h).1
  refine ⟨?_, fun i hi => ?_, fun g' e => ?_, fun i v g hv e => ?_, fun i j v u g hv hu e _ => ?_⟩
  · rw [List.length_replicate]
    refine ⟨_, n, rfl, by simp, Nat.le_refl _, by unfold maxLen; omega, (fun e => by cases e), fun ad e => ?_⟩
    cases e
    refine ⟨g, 0, rfl, hb, hlt, fun j u e => ?_, fun j hj => ⟨?_, froz_row h _⟩⟩
    · rw [cell_row h, Nat.zero_add, List.getElem?_toArray]
      exact e
    · rw [cell_row h, Nat.zero_add]
      simp; omega
  · rw [List.length_replicate] at hi
    refine ⟨.slice none 0 0, by simp [hi], ?_, cb_none w⟩
    have : (List.replicate n ([] : List Ent))[i]! = [] := by rw [List.getElem!_eq_getElem?_getD]; simp [List.getElem?_replicate, hi]
    rw [this]
    exact row_nil _ _ _
  · obtain rfl : g = g' := by simpa [Value.ownBlock] using e
    exact ⟨_, _, _, h⟩
  · rw [List.getElem?_replicate] at hv
    split at hv
    · cases hv; simp [Value.ownBlock] at e
    · cases hv
  · rw [List.getElem?_replicate] at hv
    split at hv
    · cases hv; simp [Value.ownBlock] at e
    · cases hv
theorem reh_nil (h : Nat → Nat) (n : Nat) : reh h n [] = List.replicate n [] := by
  refine List.ext_getElem? fun i => ?_
  by_cases hi : i < n
  · simp [reh, bk, hi]
  · rw [List.getElem?_eq_none (by rw [reh_len]; omega), List.getElem?_eq_none (by simp; omega)]
/-- The inner memory lies from a base on. -/
def Hi (ss : List Value) (X : Nat) : Prop := ∀ (i : Nat) (v : Value) (g : Nat), ss[i]? = some v → v.ownBlock = some g → X ≤ g
theorem hi_nil (n X : Nat) : Hi (List.replicate n (.slice none 0 0)) X := fun i v g hv e => by
  rw [List.getElem?_replicate] at hv
  split at hv
  · cases hv; simp [Value.ownBlock] at e
  · cases hv
theorem Hi.set {ss : List Value} {X i : Nat} {v' : Value} (h : Hi ss X) (hv : ∀ g, v'.ownBlock = some g → X ≤ g) : Hi (ss.set i v') X := fun j v g hj e => by
  rw [List.getElem?_set] at hj
  split at hj
  · split at hj
    · cases hj; exact hv g e
    · cases hj
  · exact h j v g hj e
end Go.Proofs.YthafnphpcdbnlaaGreatDoor.S10
set_option linter.unusedVariables false
set_option linter.unusedSimpArgs false
namespace Go.Proofs.YthafnphpcdbnlaaGreatDoor.S10
open Go.Proofs.YthafnphpcdbnlaaGreatDoor
open Go.RowKit

attribute [local go_sem] Oper.semAt_some

/-- An entry, by its place. -/
def el (E : List Ent) (i : Nat) : Ent := E[i]!
theorem Boxed.turn {S : Nat → Prop} {W W' : World} {B : Nat} {t : TypeId} {v : Value} (h : Boxed W B t v) (g : Turns S W W') (hn : ¬ S B) : Boxed W' B t v := (g.block B h.lt hn).trans h
theorem others_turn {S : Nat → Prop} {w w' : World} (t : Turns S w w') (hS : ∀ g, S g → ∃ cs t m, w.heap[g]? = some (.cells cs t m)) : KeepsOthers w w' :=
  ⟨t.size, fun k o hk ho => by
    refine (t.block k (Array.getElem?_eq_some_iff.1 hk).1 (fun e => ?_)).trans hk
    obtain ⟨cs, ty, m, h1⟩ := hS k e
    rw [hk] at h1
    cases h1
    cases ho⟩
/-- Of an ending of the code what says that it goes on. -/
def onlyN (Q : Exit → Act → World → Prop) : Exit → Act → World → Prop
  | .normal, a, w => Q .normal a w
  | _, _, _ => False
theorem onlyN_in {Q : Exit → Act → World → Prop} {a : Act} {w : World} (h : Q .normal a w) : onlyN Q .normal a w := h
theorem onlyN_out {Q : Exit → Act → World → Prop} {e : Exit} {a : Act} {w : World} (h : onlyN Q e a w) : Q e a w := by
  cases e <;> first | exact h | exact h.elim
/-- The world in which the entries are gone through. -/
def began (w : World) (b : Int) (n N c : Nat) (A : Option Addr) : World := (((w.alloc (.cells #[.int .i64 b] 3)).alloc (.cells (Array.replicate n (.slice none 0 0)) 179)).alloc (.cells #[.slice (some ⟨w.heap.size + 1, 0, none⟩) n n] 142)).alloc (.cells #[.slice A N c] 142)
theorem began_facts (w : World) (b : Int) (n N c : Nat) (A : Option Addr) : (began w b n N c A).heap.size = w.heap.size + 4 ∧ (began w b n N c A).heap[w.heap.size]? = some (.cells #[.int .i64 b] 3 (0, 0)) ∧ (began w b n N c A).heap[w.heap.size + 1]? = some (.cells (List.replicate n (Value.slice none 0 0)).toArray 179 (0, 0)) ∧
    (began w b n N c A).heap[w.heap.size + 2]? = some (.cells #[.slice (some ⟨w.heap.size + 1, 0, none⟩) n n] 142 (0, 0)) ∧ (began w b n N c A).heap[w.heap.size + 3]? = some (.cells #[.slice A N c] 142 (0, 0)) ∧ Below w.heap.size w (began w b n N c A) := by
  unfold began
  have hb : ∀ (W : World) (o : Obj) (k : Nat), k < W.heap.size → (W.alloc o).heap[k]? = W.heap[k]? := fun W o k h => Below.heap_alloc W o k h
  have s1 : (w.alloc (.cells #[Value.int .i64 b] 3)).heap.size = w.heap.size + 1 := by simp
  generalize hw1 : w.alloc (.cells #[Value.int .i64 b] 3) = w1 at *
  have k1 := heap_alloc_new w (.cells #[Value.int .i64 b] 3)
  rw [hw1] at k1
  have s2 : (w1.alloc (.cells (Array.replicate n (Value.slice none 0 0)) 179)).heap.size = w.heap.size + 2 := by simp; omega
  have k2 := heap_alloc_new w1 (.cells (Array.replicate n (Value.slice none 0 0)) 179)
  have j2 := hb w1 (.cells (Array.replicate n (Value.slice none 0 0)) 179)
  have l2 := below1 w1 (.cells (Array.replicate n (Value.slice none 0 0)) 179)
  generalize w1.alloc (.cells (Array.replicate n (Value.slice none 0 0)) 179) = w2 at *
  have s3 : (w2.alloc (.cells #[Value.slice (some ⟨w.heap.size + 1, 0, none⟩) n n] 142)).heap.size = w.heap.size + 3 := by simp; omega
  have k3 := heap_alloc_new w2 (.cells #[Value.slice (some ⟨w.heap.size + 1, 0, none⟩) n n] 142)
  have j3 := hb w2 (.cells #[Value.slice (some ⟨w.heap.size + 1, 0, none⟩) n n] 142)
  have l3 := below1 w2 (.cells #[Value.slice (some ⟨w.heap.size + 1, 0, none⟩) n n] 142)
  generalize w2.alloc (.cells #[Value.slice (some ⟨w.heap.size + 1, 0, none⟩) n n] 142) = w3 at *
  have s4 : (w3.alloc (.cells #[Value.slice A N c] 142)).heap.size = w.heap.size + 4 := by simp; omega
  have k4 := heap_alloc_new w3 (.cells #[Value.slice A N c] 142)
  have j4 := hb w3 (.cells #[Value.slice A N c] 142)
  have l4 := below1 w3 (.cells #[Value.slice A N c] 142)
  generalize w3.alloc (.cells #[Value.slice A N c] 142) = w4 at *
  rw [s1] at k2; rw [s2] at k3; rw [s3] at k4
  refine ⟨s4, ?_, ?_, ?_, k4, ?_⟩
  · rw [j4 _ (by omega), j3 _ (by omega), j2 _ (by omega)]; exact k1
  · rw [j4 _ (by omega), j3 _ (by omega), k2, List.toArray_replicate]
  · rw [j4 _ (by omega)]; exact k3
  · have l1 := below1 w (.cells #[Value.int .i64 b] 3)
    rw [hw1] at l1
    exact l1.trans ((l2.mono (by omega)).trans ((l3.mono (by omega)).trans (l4.mono (by omega))))

end Go.Proofs.YthafnphpcdbnlaaGreatDoor.S10
set_option linter.unusedVariables false
set_option linter.unusedSimpArgs false
namespace Go.Proofs.YthafnphpcdbnlaaGreatDoor.S10
open Go.Proofs.YthafnphpcdbnlaaGreatDoor
open Go.RowKit

def tabB (b : Int) : Bool := decide (2 ≤ b) && decide (b ≤ 8)
theorem tab_no {b : Int} (h : b < 2 ∨ 8 < b) : tabB b = false := by
  unfold tabB
  rcases h with h | h
  · rw [decide_eq_false (by omega), Bool.false_and]
  · rw [decide_eq_false (p := b ≤ 8) (by omega), Bool.and_false]
theorem tab_yes {b : Int} (h : 2 ≤ b) (g : b ≤ 8) : tabB b = true := by
  unfold tabB
  rw [decide_eq_true h, decide_eq_true g]; rfl
theorem is_any (b : Int) (w : World) : Calls Tryz.prog 78 #[.int .i64 b] w fun e w' => e = .returned (.bool (tabB b)) ∧ w = w' := by
  unfold tabB
  by_cases h : 2 ≤ b
  · rw [decide_eq_true h, Bool.true_and]
    go_enter Tryz.func78, Tryz.ntmps78
    go_wp2
    go_ret
    exact ⟨rfl, rfl⟩
  · rw [decide_eq_false h, Bool.false_and]
    have h' : b < 2 := by omega
    go_enter Tryz.func78, Tryz.ntmps78
    go_wp2
    go_ret
    exact ⟨rfl, rfl⟩
/-- How many buckets a table has. -/
def sizeN (b : Int) : Nat := if 2 ≤ b ∧ b ≤ 8 then 2 ^ b.toNat else 0
theorem seven {b : Int} (h : 2 ≤ b) (g : b ≤ 8) : b = 2 ∨ b = 3 ∨ b = 4 ∨ b = 5 ∨ b = 6 ∨ b = 7 ∨ b = 8 := by omega
theorem size_no (b : Int) (h : b < 2 ∨ 8 < b) (w : World) : Calls Tryz.prog 49 #[.int .i64 b] w fun e w' => e = .returned (.int .i64 0) ∧ w = w' := by
  have q := is_any b w
  rw [tab_no h] at q
  have Q := Lib.hid q
  clear q h
  go_enter Tryz.func49, Tryz.ntmps49
  go_wp2_with fail
  refine Q.out.mono ?_
  rintro e w' ⟨rfl, rfl⟩
  go_wp2_with fail
  go_ret
  exact ⟨rfl, rfl⟩
theorem size_at (b : Int) (n : Int) (h : 2 ≤ b) (g : b ≤ 8) (hn : n = ((2 ^ b.toNat : Nat) : Int)) (w : World) : Calls Tryz.prog 49 #[.int .i64 b] w fun e w' => e = .returned (.int .i64 n) ∧ w = w' := by
  have q := is_any b w
  rw [tab_yes h g] at q
  have Q := Lib.hid q
  clear q
  rcases seven h g with rfl | rfl | rfl | rfl | rfl | rfl | rfl
  all_goals
    subst hn
    clear h g
    go_enter Tryz.func49, Tryz.ntmps49
    go_wp2_with fail
    refine Q.out.mono ?_
    rintro e w' ⟨rfl, rfl⟩
    go_wp2_with fail
    go_ret
    exact ⟨rfl, rfl⟩
theorem size_any (b : Int) (w : World) : Calls Tryz.prog 49 #[.int .i64 b] w fun e w' => e = .returned (.int .i64 (sizeN b : Nat)) ∧ w = w' := by
  by_cases h : 2 ≤ b ∧ b ≤ 8
  · refine size_at b _ h.1 h.2 ?_ w
    unfold sizeN
    rw [if_pos h]
  · have := size_no b (by omega) w
    unfold sizeN
    rw [if_neg h]
    exact this
end Go.Proofs.YthafnphpcdbnlaaGreatDoor.S10
set_option linter.unusedVariables false
set_option linter.unusedSimpArgs false
namespace Go.Proofs.YthafnphpcdbnlaaGreatDoor.S10
open Go.Proofs.YthafnphpcdbnlaaGreatDoor
open Go.RowKit

/-- The hash of an address in a table of b bits. -/
def hsh (a b : Nat) : Nat := a * 11400714819323198485 % 18446744073709551616 / 2 ^ (64 - b)
theorem hsh_lt (a b : Nat) (h : b ≤ 64) : hsh a b < 2 ^ b := by
  unfold hsh
  have e : 2 ^ 64 = 2 ^ (64 - b) * 2 ^ b := by rw [← Nat.pow_add]; congr 1; omega
  apply Nat.div_lt_of_lt_mul
  rw [← e]
  exact Nat.mod_lt _ (by omega)
theorem hsh_half (a b : Nat) (h : b < 64) : hsh a (b + 1) / 2 = hsh a b := by
  unfold hsh
  rw [Nat.div_div_eq_div_mul, ← Nat.pow_succ]
  congr 2
  omega
theorem wrap_hash (a P : Nat) (hp : 2 ≤ P) : wrap64 (IntKind.u64.wrap ((a : Int) * 11400714819323198485) / (P : Int)) = ((a * 11400714819323198485 % 18446744073709551616 / P : Nat) : Int) := by
  have e : IntKind.u64.wrap ((a : Int) * 11400714819323198485) = ((a * 11400714819323198485 % 18446744073709551616 : Nat) : Int) := by
    rw [IntKind.wrap_u64]; omega
  rw [e]
  have hm := Nat.mod_lt (a * 11400714819323198485) (by omega : 0 < 18446744073709551616)
  generalize a * 11400714819323198485 % 18446744073709551616 = m at *
  have hq : m / P < 9223372036854775808 := by
    apply Nat.div_lt_of_lt_mul
    calc m < 18446744073709551616 := hm
      _ = 2 * 9223372036854775808 := by omega
      _ ≤ P * 9223372036854775808 := Nat.mul_le_mul_right _ hp
  rw [← Int.natCast_ediv]
  generalize m / P = x at *
  unfold wrap64
  omega
def hashZ (a : Nat) (b : Int) : Int := if 2 ≤ b ∧ b ≤ 8 then (hsh a b.toNat : Nat) else -1
theorem size_le (b : Int) : sizeN b ≤ 256 := by
  unfold sizeN
  split
  · rename_i h
    calc 2 ^ b.toNat ≤ 2 ^ 8 := Nat.pow_le_pow_right (by omega) (by omega)
      _ = 256 := rfl
  · omega
end Go.Proofs.YthafnphpcdbnlaaGreatDoor.S10
set_option linter.unusedVariables false
set_option linter.unusedSimpArgs false
namespace Go.Proofs.YthafnphpcdbnlaaGreatDoor.S10
open Go.Proofs.YthafnphpcdbnlaaGreatDoor
open Go.RowKit

theorem rsize_no (b : Int) (h : b < 2 ∨ 8 < b) (w : World) : Calls Tryz.prog 81 #[.int .i64 b] w fun e w' => e = .returned (.int .i64 0) ∧ w = w' := by
  by_cases h2 : b < 2
  · clear h
    go_enter Tryz.func81, Tryz.ntmps81
    go_wp2_with fail
    go_ret
    exact ⟨rfl, rfl⟩
  · have h8 : 8 < b := by omega
    have h2' : 2 ≤ b := by omega
    clear h h2
    go_enter Tryz.func81, Tryz.ntmps81
    go_wp2_with fail
    go_ret
    exact ⟨rfl, rfl⟩
theorem rsize_yes (b : Nat) (h : 2 ≤ b) (g : b ≤ 8) (w : World) : Calls Tryz.prog 81 #[.int .i64 b] w fun e w' => e = .returned (.int .i64 (2 ^ b : Nat)) ∧ w = w' := by
  have h' : 2 ≤ (b : Int) := by omega
  have g' : (b : Int) ≤ 8 := by omega
  go_enter Tryz.func81, Tryz.ntmps81
  go_wp2_with fail
  go_loopg [3, 4] b (fun q s3 s4 wx => ∃ k : Nat, k ≤ b ∧ q = b - k ∧ s3 = .int .i64 (2 ^ k : Nat) ∧ s4 = .int .i64 (k : Int) ∧ w = wx)
  case atStart => exact ⟨0, by omega, rfl, rfl, rfl, rfl⟩
  case round =>
    obtain ⟨k, hk, rfl, rfl, rfl, rfl⟩ := hrel
    by_cases hkb : k < b
    · have hz : 2 ^ k ≤ 128 := by
        calc 2 ^ k ≤ 2 ^ 7 := Nat.pow_le_pow_right (by omega) (by omega)
          _ = 128 := rfl
      have hs : 2 ^ (k + 1) = 2 * 2 ^ k := by rw [Nat.pow_succ]; omega
      have HS := Lib.hid hs
      obtain ⟨z, hzz⟩ : ∃ z, z = 2 ^ k := ⟨_, rfl⟩
      rw [← hzz] at hz ⊢
      have HZ := Lib.hid hzz
      clear hzz hs
      go_wp2_with fail
      go_roundg (b - (k + 1))
      case measure => omega
      case rel =>
        refine ⟨k + 1, by omega, rfl, ?_, by go_num, rfl⟩
        rw [HS.out, ← HZ.out]
        go_num
    · obtain rfl : k = b := by omega
      obtain ⟨z, hzz⟩ : ∃ z, z = 2 ^ k := ⟨_, rfl⟩
      rw [← hzz]
      have HZ := Lib.hid hzz
      clear hzz
      go_wp2_with fail
      go_ret
      exact ⟨by rw [← HZ.out]; rfl, rfl⟩
theorem rsize_any (b : Int) (w : World) : Calls Tryz.prog 81 #[.int .i64 b] w fun e w' => e = .returned (.int .i64 (sizeN b : Nat)) ∧ w = w' := by
  unfold sizeN
  by_cases h : 2 ≤ b ∧ b ≤ 8
  · obtain ⟨n, rfl⟩ := Int.eq_ofNat_of_zero_le (show 0 ≤ b by omega)
    rw [if_pos h]
    exact rsize_yes n (by omega) (by omega) w
  · rw [if_neg h]
    exact rsize_no b (by omega) w
theorem u64_hash (a m : Nat) (hm : m = a * 11400714819323198485 % 18446744073709551616) : IntKind.u64.wrap ((a : Int) * 11400714819323198485) = (m : Int) := by
  rw [IntKind.wrap_u64]; omega
set_option maxHeartbeats 1000000 in
theorem rhash_yes (a b : Nat) (ha : a < 4294967296) (h : 2 ≤ b) (g : b ≤ 8) (w : World) : Calls Tryz.prog 82 #[.int .u32 a, .int .i64 b] w fun e w' => e = .returned (.int .i64 (hsh a b : Nat)) ∧ w = w' := by
  have h' : 2 ≤ (b : Int) := by omega
  have g' : (b : Int) ≤ 8 := by omega
  have hl := hsh_lt a b (by omega)
  have hl2 : 2 ^ b ≤ 256 := by
    calc 2 ^ b ≤ 2 ^ 8 := Nat.pow_le_pow_right (by omega) (by omega)
      _ = 256 := rfl
  unfold hsh at hl ⊢
  obtain ⟨m, hm⟩ : ∃ m, m = a * 11400714819323198485 % 18446744073709551616 := ⟨_, rfl⟩
  have f := u64_hash a m hm
  have hmm : m < 18446744073709551616 := by rw [hm]; exact Nat.mod_lt _ (by omega)
  rw [← hm] at hl ⊢
  have HM := Lib.hid hm; have HL := Lib.hid hl
  clear hm hl
  go_enter Tryz.func82, Tryz.ntmps82
  go_wp2_with fail
  go_loopg [5, 6] (64 - b) (fun q s5 s6 wx => ∃ i : Nat, b ≤ i ∧ i ≤ 64 ∧ q = 64 - i ∧ s5 = .int .u64 (m / 2 ^ (i - b) : Nat) ∧ s6 = .int .i64 (i : Int) ∧ w = wx)
  case atStart =>
    refine ⟨b, by omega, by omega, rfl, ?_, rfl, rfl⟩
    rw [Nat.sub_self, Nat.pow_zero, Nat.div_one]
  case round =>
    obtain ⟨i, hi, hi2, rfl, rfl, rfl, rfl⟩ := hrel
    by_cases h64 : i < 64
    · have hx : m / 2 ^ (i - b) ≤ m := Nat.div_le_self _ _
      have hs : m / 2 ^ (i + 1 - b) = m / 2 ^ (i - b) / 2 := by
        rw [Nat.div_div_eq_div_mul, ← Nat.pow_succ, show i + 1 - b = (i - b) + 1 by omega]
      have HSS := Lib.hid hs
      obtain ⟨x, hxx⟩ : ∃ x, x = m / 2 ^ (i - b) := ⟨_, rfl⟩
      rw [← hxx] at hx ⊢
      have HX := Lib.hid hxx
      clear hxx hs
      go_wp2_with fail
      go_roundg (64 - (i + 1))
      case measure => omega
      case rel =>
        refine ⟨i + 1, by omega, by omega, rfl, ?_, by go_num, rfl⟩
        rw [HSS.out, ← HX.out]
        go_num
    · obtain rfl : i = 64 := by omega
      have hx := HL.out
      obtain ⟨x, hxx⟩ : ∃ x, x = m / 2 ^ (64 - b) := ⟨_, rfl⟩
      rw [← hxx] at hx ⊢
      have HX := Lib.hid hxx
      have hx3 : x < 256 := by omega
      clear hxx hx
      go_wp2_with fail
      go_ret
      exact ⟨by rw [← HX.out]; rfl, rfl⟩
theorem pow_bits (b : Nat) (g : b ≤ 8) : 2 ^ b ≤ 256 := by
  calc 2 ^ b ≤ 2 ^ 8 := Nat.pow_le_pow_right (by omega) (by omega)
    _ = 256 := rfl
end Go.Proofs.YthafnphpcdbnlaaGreatDoor.S10
set_option linter.unusedVariables false
set_option linter.unusedSimpArgs false
namespace Go.Proofs.YthafnphpcdbnlaaGreatDoor.S10
open Go.Proofs.YthafnphpcdbnlaaGreatDoor
open Go.RowKit

theorem cb_of {w : World} {base : Nat} {s : Value} {D : List Ent} (h : RowE w base s D) (hd : s = .slice none 0 0 ∨ 0 < D.length) : CB w s := by
  rcases hd with rfl | hd
  · exact cb_none w
  · exact h.cb hd (by omega)
theorem Tab.one {w : World} {base : Nat} {s : Value} {ss : List Value} {Ls : List (List Ent)} (h : Tab w base s ss Ls) : ∀ u ∈ ss, u.oneCell' = true := fun u hu => by
  obtain ⟨i, hi, rfl⟩ := List.getElem_of_mem hu
  obtain ⟨A, c, e, _⟩ := (h.rowE (List.getElem?_eq_getElem hi)).shape
  rw [e]; rfl
theorem take_snocL {Ls : List (List Ent)} {k : Nat} (h : k < Ls.length) : Ls.take (k + 1) = Ls.take k ++ [Ls[k]!] := take_snoc h
theorem keys_in {Ls : List (List Ent)} (hk : Keys Ls.flatten) {i : Nat} (hi : i < Ls.length) {j : Nat} (hj : j < Ls[i]!.length) : ∃ k : Nat, (el Ls[i]! j).k = (k : Int) ∧ k < 4294967296 := by
  have := hk.get (cum Ls i + j)
  rwa [cum_at hi hj] at this
theorem Rd.key {w : World} {base : Nat} {A : Option Addr} {D : List Ent} (h : Rd w base A (flat D)) {i : Nat} (hi : i < D.length) {k : Nat} (hk : (el D i).k = (k : Int)) : ∃ g o, A = some ⟨g, o, none⟩ ∧ g < base ∧
    w.cell? ⟨g, o + i * 3, none⟩ = some (.int .i64 (el D i).t) ∧ w.cell? ⟨g, o + i * 3 + 1, none⟩ = some (.int .u32 (k : Int)) ∧ w.cell? ⟨g, o + i * 3 + 2, none⟩ = some (.int .u64 (el D i).z) := by
  obtain ⟨g, o, e, hg, h0, h1, h2⟩ := h.ent hi
  exact ⟨g, o, e, hg, h0, by rw [← hk]; exact h1, h2⟩
end Go.Proofs.YthafnphpcdbnlaaGreatDoor.S10
