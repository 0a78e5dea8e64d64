import Derived.Test.YtopkdnjploipaaaDoorShelf
import Derived.WalkKit
import Derived.LoopTactic
import Derived.Outline
namespace Go.Proofs.YtopkdnjploipaaaDoor
open Go.RowKit

/-- What a bit is that is there. -/
def has (u m : Int) : Bool := bits .and .u64 u m != 0
def nmsK (u : Int) (M : Nat → Int) (S : Nat → ByteArray) : Nat → List ByteArray
  | 0 => []
  | k + 1 => if has u (M k) then nmsK u M S k ++ [S k] else nmsK u M S k
def rstK (u : Int) (M : Nat → Int) : Nat → Int
  | 0 => u
  | k + 1 => if has u (M k) then bits .andNot .u64 (rstK u M k) (M k) else rstK u M k
theorem nmsK_len (u : Int) (M : Nat → Int) (S : Nat → ByteArray) (k : Nat) : (nmsK u M S k).length ≤ k := by
  induction k with
  | zero => simp [nmsK]
  | succ k ih => unfold nmsK; split <;> first | (simp; omega) | omega
theorem info9 : (Tryd.prog.info? 9).map (fun i => (i.zero, i.size, i.bytes)) = some (some (.string ByteArray.empty), 1, 16) := by kernel_rfl
theorem nmsK_hit {u : Int} {M : Nat → Int} {S : Nat → ByteArray} {k : Nat} (h : ¬ bits .and .u64 u (M k) = 0) : nmsK u M S (k + 1) = nmsK u M S k ++ [S k] ∧ rstK u M (k + 1) = bits .andNot .u64 (rstK u M k) (M k) := by
  have : has u (M k) = true := by simp [has, h]
  constructor
  · rw [nmsK, if_pos this]
  · rw [rstK, if_pos this]
theorem nmsK_miss {u : Int} {M : Nat → Int} {S : Nat → ByteArray} {k : Nat} (h : bits .and .u64 u (M k) = 0) : nmsK u M S (k + 1) = nmsK u M S k ∧ rstK u M (k + 1) = rstK u M k := by
  have : ¬ has u (M k) = true := by simp [has, h]
  constructor
  · rw [nmsK, if_neg this]
  · rw [rstK, if_neg this]

theorem rel_miss {u : Int} {M : Nat → Int} {S : Nat → ByteArray} {k B : Nat} {w wr : World} {v : Value} (h : bits .and .u64 u (M k) = 0)
    (hown : wr.ownsRow B 9 1 v (nmsK u M S k).length ((nmsK u M S k).map Value.string)) (hb : Below B w wr) (hB : B ≤ wr.heap.size) (o : Obj) :
    (wr.alloc o).ownsRow B 9 1 v (nmsK u M S (k + 1)).length ((nmsK u M S (k + 1)).map Value.string) ∧ Below B w (wr.alloc o) := by
  rw [(nmsK_miss h).1]
  exact ⟨hown.alloc _, hb.alloc hB _⟩

theorem idx0 (x0 x1 x2 x3 x4 x5 x6 x7 : Value) (w : World) : (Instr.index 48 (.agg #[x0, x1, x2, x3, x4, x5, x6, x7]) (.int .i64 0)).run Tryd.prog w = .ok (.agg #[x0, x1]) w := by kernel_rfl
theorem idx1 (x0 x1 x2 x3 x4 x5 x6 x7 : Value) (w : World) : (Instr.index 48 (.agg #[x0, x1, x2, x3, x4, x5, x6, x7]) (.int .i64 1)).run Tryd.prog w = .ok (.agg #[x2, x3]) w := by kernel_rfl
theorem idx2 (x0 x1 x2 x3 x4 x5 x6 x7 : Value) (w : World) : (Instr.index 48 (.agg #[x0, x1, x2, x3, x4, x5, x6, x7]) (.int .i64 2)).run Tryd.prog w = .ok (.agg #[x4, x5]) w := by kernel_rfl
theorem idx3 (x0 x1 x2 x3 x4 x5 x6 x7 : Value) (w : World) : (Instr.index 48 (.agg #[x0, x1, x2, x3, x4, x5, x6, x7]) (.int .i64 3)).run Tryd.prog w = .ok (.agg #[x6, x7]) w := by kernel_rfl
set_option maxHeartbeats 1000000 in
set_option maxRecDepth 100000 in
theorem named_any (r : Int) (o : Nat) (hro : (r = 0 ∧ o = 0) ∨ (r = 1 ∧ o = 8) ∨ (r = 2 ∧ o = 16)) (u : Int) (w : World) (h0 : 0 ≤ u) (h1 : u < 18446744073709551616) (M : Nat → Int) (S : Nat → ByteArray)
    (hm : ∀ k, k < 4 → w.cell? ⟨0, o + 2 * k, none⟩ = some (.int .u64 (M k))) (hs : ∀ k, k < 4 → w.cell? ⟨0, o + 2 * k + 1, none⟩ = some (.string (S k))) (hw : 0 < w.heap.size) :
    Calls Tryd.prog 25 #[.int .i64 r, .int .u64 u] w fun e w' => ∃ v, e = .returned (.tuple #[v, .int .u64 (rstK u M 4)]) ∧
      w'.ownsRow w.heap.size 9 1 v (nmsK u M S 4).length ((nmsK u M S 4).map Value.string) ∧ Below w.heap.size w w' := by
  obtain ⟨i0, hi, hz0, hz1, hz2⟩ := info_parts info9
  have a0 := hm 0 (by omega)
  have a1 := hm 1 (by omega)
  have a2 := hm 2 (by omega)
  have a3 := hm 3 (by omega)
  have b0 := hs 0 (by omega)
  have b1 := hs 1 (by omega)
  have b2 := hs 2 (by omega)
  have b3 := hs 3 (by omega)
  clear hm hs
  have hj : ∀ (k : Nat), k < 4 → ∀ w, (Instr.index 48 (.agg #[.int .u64 (M 0), .string (S 0), .int .u64 (M 1), .string (S 1), .int .u64 (M 2), .string (S 2), .int .u64 (M 3), .string (S 3)]) (.int .i64 k)).run Tryd.prog w = .ok (.agg #[.int .u64 (M k), .string (S k)]) w := by
    intro k hk w
    have hkc : k = 0 ∨ k = 1 ∨ k = 2 ∨ k = 3 := by omega
    rcases hkc with rfl | rfl | rfl | rfl
    · exact idx0 ..
    · exact idx1 ..
    · exact idx2 ..
    · exact idx3 ..
  rcases hro with ⟨rfl, rfl⟩ | ⟨rfl, rfl⟩ | ⟨rfl, rfl⟩
  all_goals
    simp only [Nat.mul_zero, Nat.zero_add, Nat.mul_one, Nat.reduceMul, Nat.reduceAdd, Nat.add_zero] at a0 a1 a2 a3 b0 b1 b2 b3
    go_enter Tryd.func25, Tryd.ntmps25
    go_wp2
    go_loopw [4, 5, 12] (fun v t i wr => ∃ k : Nat, k ≤ 4 ∧ i = .int .i64 k ∧ t = .int .u64 (rstK u M k) ∧ wr.ownsRow w.heap.size 9 1 v (nmsK u M S k).length ((nmsK u M S k).map Value.string) ∧ Below w.heap.size w wr)
      (fun _ _ i _ => 4 - (intOf i).toNat)
    case atStart => exact ⟨0, by omega, rfl, rfl, World.ownsRow_nil _ _ _ _, Below.refl _ _⟩
    case round =>
      obtain ⟨k, hk, rfl, rfl, hown, hb⟩ := hrel
      have hB := hb.size
      have hlen := nmsK_len u M S k
      clear a0 a1 a2 a3 b0 b1 b2 b3
      by_cases hlt : k < 4
      · have jk := hj k hlt
        clear hj
        by_cases ht : bits .and .u64 u (M k) = 0
        · have R := rel_miss ht hown hb hB (.cells #[.int .u64 (M k), .string (S k)] 47)
          have R2 : rstK u M (k + 1) = rstK u M k := (nmsK_miss (S := S) ht).2
          have HR2 := Lib.hid R2
          clear R2 hown
          go_wp2
          go_roundw
          case rel => exact ⟨k + 1, by omega, by go_num, by rw [HR2.out], R.1, R.2⟩
          case measure => simp [intOf]; omega
        · go_wp2_with (at_builtin; refine wpList_append_own _ rfl _ _ 40 rfl w.heap.size 9 i0 (.string ByteArray.empty) 1 16 Tryd.underlying40 hi hz0 hz1 hz2 rfl (by decide) _ _ _ rfl ((hown.alloc _).alloc _) ⟨wr.heap.size + 1, 0, none⟩ 1 1 [.string (S k)] rfl rfl ?c1 ?c2 ?c3 ?c4 ?c5 ?_)
          case c1 =>
            intro j u hj
            match j, hj with
            | 0, hj => simp at hj; subst hj; simp [Addr.add]
          case c2 => intro u hu; simp at hu; subst hu; rfl
          case c3 => unfold maxLen; omega
          case c4 => omega
          case c5 => simp; omega
          · intro v' w1 hown' hgrow _
            have hne : ∀ j, w.heap.size ≤ j → wr.heap.size ≤ j → some j ≠ u4.ownBlock := fun j h1 h2 h => by have := hown.lt j h.symm; omega
            have hcell : w1.cell? ⟨wr.heap.size, 0, none⟩ = some (.int .u64 (M k)) := hgrow.cell (by rw [World.cell?_alloc_past _ _ _ (by simp), World.cell?_alloc_at _ _ _ _ rfl]; rfl) (hne _ (by omega) (by simp))
            have R2 : rstK u M (k + 1) = _ := (nmsK_hit (S := S) ht).2
            have HR2 := Lib.hid R2
            have hb' : Below w.heap.size w w1 := ((hb.alloc hB _).alloc (by simp; omega) _).grown hgrow (by simp; omega) (fun j hj => by have := (hown.lt j hj).1; omega)
            have R1 : w1.ownsRow w.heap.size 9 1 v' (nmsK u M S (k + 1)).length ((nmsK u M S (k + 1)).map Value.string) := by rw [(nmsK_hit ht).1]; simpa using hown'
            clear R2 hown hown' hgrow
            go_wp2
            go_roundw
            case rel => exact ⟨k + 1, by omega, by go_num, by rw [HR2.out], R1, hb'⟩
            case measure => simp [intOf]; omega
      · have hk4 : k = 4 := by omega
        subst hk4
        go_wp2
        go_ret2
        exact ⟨_, rfl, hown, hb⟩
end Go.Proofs.YtopkdnjploipaaaDoor
