/- Acts that come in, opened. -/
import Derived.Test.YtmnndheddlkbgaaLift
namespace Go.Proofs.Ytmnndheddlkbgaa
open Go.ChangeShapes Go.WideShapes Go.ChangeAt Go.RowKit Go.Deep

theorem cells33 : Try.prog.cellsOf 33 = 5 := by kernel_rfl
theorem cells31 : Try.prog.cellsOf 31 = 2 := by kernel_rfl
section
variable {H : Type} {enc : TypeId × Value → H} {W : World}
/-- What an act's cells are. -/
def ActCells (W : World) (cs : List Value) (K N at_ : Nat) (on : Bool) (A : Option Addr) (c : Nat) (L : List Nat) : Prop :=
  cs = [.int .u8 K, .int .u64 N, .bool on, .int .u64 at_, .slice A L.length c] ∧ K < 256 ∧ N ≤ 18446744073709551615 ∧ L.length ≤ c ∧ c ≤ 9223372036854775807 ∧ Rd W W.heap.size A L ∧ ∀ d ∈ L, d ≤ 18446744073709551615
theorem act_cells {fuel : Nat} {cs : List Value} {x : DataW H × List MemPlace} (h : DataW.trod enc Try.prog W 0 (fun _ => true) true fuel 33 cs = some x) : ∃ K N at_ on A c L, ActCells W cs K N at_ on A c L := by
  obtain ⟨xs, m, _, _, hlen, hxl, hf⟩ := DataW.trod_struct Try.underlying33 h
  rw [cells33] at hlen
  obtain ⟨a, b, c, d, e, rfl⟩ : ∃ a b c d e, cs = [a, b, c, d, e] := by
    match cs, hlen with
    | [a, b, c, d, e], _ => exact ⟨a, b, c, d, e, rfl⟩
  have q5 : Try.prog.cellsOf 5 = 1 := by kernel_rfl
  have q22 : Try.prog.cellsOf 22 = 1 := by kernel_rfl
  have q4 : Try.prog.cellsOf 4 = 1 := by kernel_rfl
  have sm : ∀ i, i < 4 → ∃ y, xs[i]? = some y := fun i hi => ⟨xs[i]'(by rw [hxl]; exact hi), List.getElem?_eq_getElem _⟩
  obtain ⟨y0, e0⟩ := sm 0 (by omega)
  obtain ⟨y1, e1⟩ := sm 1 (by omega)
  obtain ⟨y2, e2⟩ := sm 2 (by omega)
  obtain ⟨y3, e3⟩ := sm 3 (by omega)
  have h0 : DataW.trod enc Try.prog W 0 (fun _ => true) true m 5 (List.take (Try.prog.cellsOf 5) [a, b, c, d, e]) = xs[0]? := hf 0 _ rfl
  have h1 : DataW.trod enc Try.prog W 0 (fun _ => true) true m 23 (List.take (Try.prog.cellsOf 23) [b, c, d, e]) = xs[1]? := hf 1 _ rfl
  have h2 : DataW.trod enc Try.prog W 0 (fun _ => true) true m 31 (List.take (Try.prog.cellsOf 31) [c, d, e]) = xs[2]? := hf 2 _ rfl
  have h3 : DataW.trod enc Try.prog W 0 (fun _ => true) true m 22 (List.take (Try.prog.cellsOf 22) [e]) = xs[3]? := hf 3 _ rfl
  rw [q5, e0] at h0
  rw [cells23, e1] at h1
  rw [cells31, e2] at h2
  rw [q22, e3] at h3
  obtain ⟨k, ek, _, wk⟩ := DataW.trod_int Try.underlying5 h0
  obtain ⟨n, en, _, wn⟩ := DataW.trod_int Try.underlying23 h1
  obtain ⟨ys, m2, _, _, _, hyl, hg⟩ := DataW.trod_struct Try.underlying31 h2
  have sn : ∀ i, i < 2 → ∃ y, ys[i]? = some y := fun i hi => ⟨ys[i]'(by rw [hyl]; exact hi), List.getElem?_eq_getElem _⟩
  obtain ⟨z0, f0⟩ := sn 0 (by omega)
  obtain ⟨z1, f1⟩ := sn 1 (by omega)
  have g0 : DataW.trod enc Try.prog W 0 (fun _ => true) true m2 4 (List.take (Try.prog.cellsOf 4) [c, d]) = ys[0]? := hg 0 _ rfl
  have g1 : DataW.trod enc Try.prog W 0 (fun _ => true) true m2 23 (List.take (Try.prog.cellsOf 23) [d]) = ys[1]? := hg 1 _ rfl
  rw [q4, f0] at g0
  rw [cells23, f1] at g1
  obtain ⟨on, eo, _⟩ := DataW.trod_bool Try.underlying4 g0
  obtain ⟨u, eu, _, wu⟩ := DataW.trod_int Try.underlying23 g1
  obtain ⟨A, cc, L, el, r1, r2, r3, r4⟩ := open_list h3
  simp at ek en eo eu el
  subst ek en eo eu el
  obtain ⟨N, rfl, hN⟩ := u64_of wn
  obtain ⟨U, rfl, _⟩ := u64_of wu
  obtain ⟨b0, b1⟩ : 0 ≤ k ∧ k < 256 := by simp [Lit.wf, IntKind.min, IntKind.max, IntKind.bits, IntKind.signed] at wk; omega
  obtain ⟨K, rfl⟩ := Int.eq_ofNat_of_zero_le b0
  exact ⟨K, N, U, on, A, cc, L, rfl, by omega, hN, r1, r2, r3, r4⟩
theorem open_act {v : Value} {d : DataW H} {p : List MemPlace} {r : Reach} {b0 : Nat} (hv : Value.okWide Try.prog W r b0 33 v) (h : DataW.Trod enc Try.prog W 0 (fun _ => true) true 33 v d p) :
    ∃ K N at_ on A c L, v = .agg #[.int .u8 (K : Nat), .int .u64 (N : Nat), .bool on, .int .u64 (at_ : Nat), .slice A L.length c] ∧ ActCells W v.cells.toList K N at_ on A c L := by
  obtain ⟨cs, rfl, hsz⟩ := okWide_struct Try.underlying33 hv
  obtain ⟨fuel, ht⟩ := h
  obtain ⟨K, N, U, on, A, c, L, hc⟩ := act_cells ht
  refine ⟨K, N, U, on, A, c, L, ?_, hc⟩
  obtain ⟨l⟩ := cs
  have e : l = _ := hc.1
  rw [e]
end
end Go.Proofs.Ytmnndheddlkbgaa
