/- A row's choices as ints; the document's Cut. -/
import Derived.Test.YtemdaafnmjenmaaB2
namespace Go.Proofs.Ytemdaafnmjenmaa
open Go.RowKit

def bv (c : Nat) : Value := .int .u8 (c : Int)
theorem rd_bv {w : World} {b : Nat} {A : Option Addr} {cl : List Nat} (h : Rd w b A (cl.map bv)) {i : Nat} (hi : i < cl.length) : ∃ g o, A = some ⟨g, o, none⟩ ∧ g < b ∧ w.cell? ⟨g, o + i, none⟩ = some (.int .u8 (cl[i]! : Nat)) := by
  obtain ⟨g, o, e, hg, hl⟩ := h (by simp; omega)
  refine ⟨g, o, e, hg, hl i _ ?_⟩
  rw [List.getElem?_map, List.getElem?_eq_getElem hi, getElem!_pos cl i hi]; rfl
/-- Bytes as what is chosen. -/
def ints (cl : List Nat) : List Nat := cl.map (· % 4)
theorem ints_len (cl : List Nat) : (ints cl).length = cl.length := by simp [ints]
theorem iv_one (cl : List Nat) : ∀ u ∈ cl.map iv, u.oneCell' = true := fun u hu => by
  obtain ⟨_, _, rfl⟩ := List.mem_map.1 hu
  rfl
set_option maxHeartbeats 1000000 in
theorem ints_any {w : World} {B b1 : Nat} {Lp : Option Addr} {cl : List Nat} {c : Nat} {s : Value} (hB : w.heap[B]? = some (.cells #[.slice Lp cl.length c, s] 57 (0, 0))) (hr : Rd w b1 Lp (cl.map bv)) (hb1 : b1 ≤ w.heap.size) (hby : ∀ x ∈ cl, x < 256) (hlen : cl.length ≤ 1000) :
    Calls Try.prog 25 #[.pointer (some ⟨B, 0, none⟩)] w fun e w' => ∃ s, e = .returned s ∧ Row w' w.heap.size 1 s cl.length ((ints cl).map iv) ∧ Below w.heap.size w w' := by
  have hBl : B < w.heap.size := (Array.getElem?_eq_some_iff.1 hB).1
  have HR := Lib.hid hr; have HBS := Lib.hid hb1; have HB0 := Lib.hid hB; have HBY := Lib.hid hby
  clear hr hb1 hB hby
  obtain ⟨n, hn⟩ : ∃ n, n = cl.length := ⟨_, rfl⟩
  rw [← hn] at HB0 ⊢
  have HN := Lib.hid hn
  have hn6 : n ≤ 1000 := by omega
  clear hn hlen
  go_enter Try.func25, Try.ntmps25
  go_wp2_with fail
  go_loopg [3, 4] n (fun q s3 s4 wx => ∃ k : Nat, k ≤ n ∧ q = n - k ∧ s4 = .int .i64 (k : Int) ∧ Below w.heap.size w wx ∧ Row wx w.heap.size 1 s3 k ((ints (cl.take k)).map iv))
  case atStart => exact ⟨0, by omega, rfl, rfl, Below.refl _ _, row_nil _ _ _⟩
  case round =>
    obtain ⟨k, hk, rfl, rfl, hb, hrow⟩ := hrel
    have HB := Lib.hid hb; have HROW := Lib.hid hrow
    have b0 : wr.cell? ⟨B, 0, none⟩ = some (.slice Lp n c) := (hb.cell (p := ⟨B, 0, none⟩) hBl).trans (cell_row HB0.out 0)
    clear hb hrow
    by_cases hkn : k < n
    · have hkc : k < cl.length := by have := HN.out; omega
      obtain ⟨lb', lo, rfl, hlb, c0⟩ := rd_bv (HR.out.below HB.out HBS.out) hkc
      have hx : cl[k]! < 256 := HBY.out _ (by rw [getElem!_pos cl k hkc]; exact List.getElem_mem hkc)
      have hsn : (ints (cl.take (k + 1))).map iv = (ints (cl.take k)).map iv ++ [iv (cl[k]! % 4)] := by rw [take_snoc hkc]; simp [ints]
      have HSN := Lib.hid hsn
      clear hsn hkc
      generalize cl[k]! = x at *
      go_wp2_with (at_builtin; refine wpList_append_row layI rfl _ _ rfl rfl (HROW.out.alloc _) (iv_one _) (by have := HB.out.size; simp; omega) 1 rfl (rd_one1 wr _ 3) rfl (by intro u hu; simp at hu; subst hu; rfl) (by omega) ?_; intro v' w2 hr2 ht2 _; (have HR2 := Lib.hid hr2); (have HT2 := Lib.hid ht2); (clear hr2 ht2))
      go_roundg (n - (k + 1))
      case measure => omega
      case rel =>
        refine ⟨k + 1, by omega, rfl, by go_num, ?_, ?_⟩
        · exact HB.out.trans (((below1 wr _).mono HB.out.size).trans ((HROW.out.alloc _).below_of HT2.out (by have := HB.out.size; simp; omega)))
        · rw [HSN.out]
          exact HR2.out
    · obtain rfl : k = n := by omega
      go_wp2_with fail
      go_ret
      have := HROW.out
      rw [HN.out, List.take_length, ← HN.out] at this
      exact ⟨_, rfl, this, HB.out⟩
/-- What is cut out, and what is left. -/
def cutE (D : List Ent) (p : Int) : Ent := if 0 ≤ p ∧ p < D.length then D[p.toNat]! else default
def cutL (D : List Ent) (p : Int) : List Ent := if 0 ≤ p then D.eraseIdx p.toNat else D
def cutB (D : List Ent) (p : Int) : Bool := decide (0 ≤ p) && decide (p < D.length)
theorem cut_hit {D : List Ent} {k : Nat} (h : k < D.length) : cutL (D.take (k + 1)) (k : Int) = cutL (D.take k) (k : Int) ∧ cutE (D.take (k + 1)) (k : Int) = D[k]! := by
  have hl : (D.take k).length = k := by rw [List.length_take]; omega
  constructor
  · unfold cutL
    rw [if_pos (Int.natCast_nonneg _), if_pos (Int.natCast_nonneg _), Int.toNat_natCast, take_snoc h]
    rw [List.eraseIdx_append_of_length_le (by omega), hl, Nat.sub_self, List.eraseIdx_of_length_le (l := D.take k) (by omega)]
    simp
  · unfold cutE
    rw [if_pos (by rw [List.length_take]; omega), Int.toNat_natCast]
    rw [getElem!_pos _ k (by rw [List.length_take]; omega), getElem!_pos _ k h, List.getElem_take]
theorem cut_miss {D : List Ent} {k : Nat} {p : Int} (h : k < D.length) (hp : p ≠ k) : cutL (D.take (k + 1)) p = cutL (D.take k) p ++ [D[k]!] ∧ cutE (D.take (k + 1)) p = cutE (D.take k) p := by
  have hl : (D.take k).length = k := by rw [List.length_take]; omega
  have hl1 : (D.take (k + 1)).length = k + 1 := by rw [List.length_take]; omega
  constructor
  · unfold cutL
    by_cases h0 : 0 ≤ p
    · rw [if_pos h0, if_pos h0, take_snoc h]
      by_cases h1 : p.toNat < k
      · rw [List.eraseIdx_append_of_lt_length (by omega)]
      · rw [List.eraseIdx_of_length_le (by rw [List.length_append, hl]; simp; omega), List.eraseIdx_of_length_le (by omega)]
    · rw [if_neg h0, if_neg h0, take_snoc h]
  · unfold cutE
    rw [hl, hl1]
    by_cases h0 : 0 ≤ p ∧ p < (k : Int)
    · rw [if_pos h0, if_pos (by omega)]
      rw [getElem!_pos _ _ (by omega), getElem!_pos _ _ (by omega), List.getElem_take, List.getElem_take]
    · rw [if_neg h0, if_neg (by omega)]
theorem cutL_len (D : List Ent) (p : Int) : (cutL D p).length ≤ D.length := by
  unfold cutL
  split
  · exact List.length_eraseIdx_le ..
  · exact Nat.le_refl _
theorem Row.setOther {w : World} {base sz n : Nat} {s : Value} {cs : List Value} (h : Row w base sz s n cs) (B o : Nat) (v : Value) (hB : B < base) : Row (w.setCell ⟨B, o, none⟩ v) base sz s n cs :=
  h.keep (S := fun k => k = B) ((Turns.refl _ _).setCell _ _ rfl) (fun g hg e => by have := (h.lt g hg).1; omega)
end Go.Proofs.Ytemdaafnmjenmaa
