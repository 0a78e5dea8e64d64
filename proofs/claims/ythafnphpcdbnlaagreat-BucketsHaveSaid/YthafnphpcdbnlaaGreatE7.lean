/- Texts of this seat, one behind the other. -/
import Derived.Test.YthafnphpcdbnlaaGreatE1
import Derived.Laws.CopyOwn
import Derived.Laws.MakeOwn
set_option linter.unusedVariables false
set_option linter.unusedSimpArgs false
namespace Go.Proofs.YthafnphpcdbnlaaGreat.S3
open Go.Proofs.YthafnphpcdbnlaaGreat
open Go.RowKit

def sat (a b : Nat) : Nat := if a + b ≤ 18446744073709551615 then a + b else 18446744073709551615
theorem sat_le (a b : Nat) : sat a b ≤ 18446744073709551615 := by unfold sat; split <;> omega
theorem ret_u64 {a b : Nat} (h : a = b) : Ending.returned (.int .u64 a) = Ending.returned (.int .u64 b) := by rw [h]
theorem ret_int {k : IntKind} {a b : Int} (h : a = b) : Ending.returned (.int k a) = .returned (.int k b) := by rw [h]
/-- A draw that is brought to most at most. -/
def brt (d most : Nat) : Nat := d % (most + 1)
theorem first_any (A : Option Addr) (n c k : Nat) (hn : n ≤ c) (hc : c ≤ 9223372036854775807) (hk : k ≤ 9223372036854775807) (w : World) : Calls Tryz.prog 49 #[.slice A n c, .int .i64 k] w fun e w' => e = .returned (.slice A (min n k) c) ∧ w = w' := by
  by_cases h : n ≤ k
  · rw [Nat.min_eq_left h]
    go_enter Tryz.func49, Tryz.ntmps49
    go_wp2
    go_ret
    exact ⟨rfl, rfl⟩
  · rw [Nat.min_eq_right (by omega)]
    go_enter Tryz.func49, Tryz.ntmps49
    go_wp2
    go_ret
    exact ⟨rfl, rfl⟩
end Go.Proofs.YthafnphpcdbnlaaGreat.S3
namespace Go.Proofs.YthafnphpcdbnlaaGreat.S3
open Go.Proofs.YthafnphpcdbnlaaGreat
open Go.RowKit

theorem make_any (n : Nat) (hn : n ≤ 65536) (w : World) : ∃ cur : List Value, cur.length = n ∧ (Instr.makeSlice 58 (.int .i64 (n : Int)) (.int .i64 (n : Int))).run Tryz.prog w = .ok (.slice (some ⟨w.heap.size, 0, none⟩) n n) (w.alloc (.cells cur.toArray 36)) := by
  obtain ⟨i, hi, hz, hsz, hby⟩ := info23
  have hr := run_make (P := Tryz.prog) w 58 36 i (.int .u64 0) Tryz.underlying58 hi hz .i64 .i64 n n (by omega) (Int.le_refl _) (by rw [hby]; omega) (by omega)
  simp only [Int.toNat_natCast, hsz, Nat.mul_one] at hr
  exact ⟨(madeCells (Value.int .u64 0).cells n).toList, by simp [madeCells], by rw [hr]⟩
theorem splice_all (cur cs : List Value) (h : cs.length = cur.length) : splice cur 0 cs = cs := by
  simp [splice, h]
theorem size23 : (Tryz.prog.info? 36).map (·.size) = some 1 := by kernel_rfl
/-- A list that lies whole in a block of its own. -/
theorem row_whole {w : World} {base g : Nat} {D : List Nat} (h : w.heap[g]? = some (.cells (D.map uv).toArray 36 (0, 0))) (hb : base ≤ g) (hm : D.length ≤ maxLen) : Row w base (.slice (some ⟨g, 0, none⟩) D.length D.length) D := by
  refine ⟨_, _, rfl, Nat.le_refl _, hm, (fun e => by cases e), fun ad e => ?_⟩
  cases e
  refine ⟨g, 0, rfl, hb, (Array.getElem?_eq_some_iff.1 h).1, fun i hi => ?_, fun j hj => ⟨?_, froz_row h _⟩⟩
  · rw [cell_row h, Nat.zero_add]
    simp only [List.getElem?_toArray]
    exact get_uv hi
  · rw [cell_row h, Nat.zero_add]
    simp only [List.getElem?_toArray]
    rw [get_uv hj]; rfl
theorem Rd.spell {w : World} {base : Nat} {A : Option Addr} {D : List Nat} (h : Rd w base A D) (hp : 0 < (D.map uv).length) : ∃ ad, A = some ad ∧ ∀ (j : Nat) v, (D.map uv)[j]? = some v → w.cell? (ad.add j) = some v := by
  rw [len_uv] at hp
  obtain ⟨g, o, rfl, _, hl⟩ := h hp
  refine ⟨_, rfl, fun j v e => ?_⟩
  have hj : j < D.length := by
    have := (List.getElem?_eq_some_iff.1 e).1
    simpa using this
  rw [add_none, hl j hj, ← e, get_uv hj]
theorem copied_any (A : Option Addr) (c base : Nat) (D : List Nat) (hn : D.length ≤ 65536) (w : World) (hr : Rd w base A D) (hbase : base ≤ w.heap.size) : Calls Tryz.prog 48 #[.slice A D.length c] w fun e w' => ∃ s, e = .returned s ∧ Row w' w.heap.size s D ∧ Below w.heap.size w w' := by
  obtain ⟨cur, hcl, hmk⟩ := make_any D.length hn w
  have hg0 := heap_alloc_new w (.cells cur.toArray 36)
  have hR := (hr.below (w' := w.alloc (.cells cur.toArray 36)) ((Below.refl _ _).alloc (Nat.le_refl _) _) hbase)
  have hb0 : Below w.heap.size w (w.alloc (.cells cur.toArray 36)) := (Below.refl _ _).alloc (Nat.le_refl _) _
  have h1 : (D.map uv).length = Nat.min D.length D.length := by rw [len_uv]; exact (Nat.min_self _).symm
  have h2 : 0 < (D.map uv).length → (some (⟨w.heap.size, 0, none⟩ : Addr)) = some ⟨w.heap.size, 0, none⟩ ∧ ∃ ad, A = some ad ∧ ∀ (j : Nat) v, (D.map uv)[j]? = some v → (w.alloc (.cells cur.toArray 36)).cell? (ad.add j) = some v := fun hp => ⟨rfl, hR.spell hp⟩
  have h3 : 0 + (D.map uv).length ≤ cur.length := by rw [len_uv]; omega
  have h4 := splice_all cur (D.map uv) (by rw [len_uv, hcl])
  have HG := Lib.hid hg0
  have HB := Lib.hid hb0
  have H1 := Lib.hid h1; have H2 := Lib.hid h2; have H3 := Lib.hid h3; have H4 := Lib.hid h4; have HO := Lib.hid (one_uv D)
  clear hr hg0 hcl hb0 h1 h2 h3 h4 hR
  generalize hU : D.map uv = U at *
  have HU := Lib.hid hU
  clear hU
  go_enter Tryz.func48, Tryz.ntmps48
  go_wp2_with (first
    | ((with_reducible refine wpList_copy_splice rfl (.tmp 9) (.tmp 10) 58 58 rfl 36 Tryz.underlying58 size23 _ _ _ _ _ _ rfl rfl w.heap.size 0 cur 36 HG.out U H1.out H2.out H3.out HO.out w.heap.size w HB.out (Nat.le_refl _) ?_); intro w' HG2 hB2))
  go_ret
  refine ⟨_, rfl, row_whole ?_ (Nat.le_refl _) (by unfold maxLen; omega), hB2⟩
  have e := HG2.out
  rw [H4.out, ← HU.out] at e
  exact e
end Go.Proofs.YthafnphpcdbnlaaGreat.S3
