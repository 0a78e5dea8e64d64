/- Rehashed queues are placed; the chapter's example. -/
import Derived.Test.YtjblpdnhkoemjaaF5
namespace Go.Proofs.Ytjblpdnhkoemjaa
open Go.RowKit

theorem pl_reh (h : Nat → Nat) (n : Nat) (E : List Ent) : Pl h (reh h n E) := fun i hi j hj => by
  rw [reh_len] at hi
  rw [reh_at h E hi] at hj ⊢
  have hm : el (bk h i E) j ∈ bk h i E := by
    unfold el
    rw [getElem!_pos _ j hj]
    exact List.getElem_mem hj
  generalize el (bk h i E) j = e at *
  unfold bk at hm
  rw [List.mem_filter] at hm
  simpa using hm.2
theorem keys_bk {h : Nat → Nat} {E : List Ent} (hk : Keys E) (n : Nat) : Keys (reh h n E).flatten := fun e he => by
  rw [List.mem_flatten] at he
  obtain ⟨l, hl, he⟩ := he
  simp only [reh, List.mem_map] at hl
  obtain ⟨i, _, rfl⟩ := hl
  exact hk e (List.mem_filter.1 he).1
/-- A cell of queues of a call's own, and what stands there. -/
theorem Tab.at {w : World} {base m c : Nat} {A : Option Addr} {ss : List Value} {Ls : List (List Ent)} (h : Tab w base (.slice A m c) ss Ls) {i : Nat} (hi : i < Ls.length) : ∃ g o A' c', A = some ⟨g, o, none⟩ ∧ w.cell? ⟨g, o + i, none⟩ = some (.slice A' Ls[i]!.length c') ∧ Ls[i]!.length ≤ c' ∧ c' ≤ 9223372036854775807 ∧ Rd w w.heap.size A' (flat Ls[i]!) := by
  obtain ⟨g, o, A', c', e, _, h1, h2, h3, h4⟩ := h.rd.2.at hi
  exact ⟨g, o, A', c', e, h1, h2, h3, h4⟩
def e1 : Ent := ⟨1, 0, 0⟩
def e2 : Ent := ⟨2, 1, 0⟩
set_option maxHeartbeats 4000000 in
set_option maxRecDepth 20000 in
theorem lives_any (w : World) : Calls Try.prog 7 #[] w fun e w' => e = .returned (.bool true) ∧ Below w.heap.size w w' := by
  obtain ⟨h, hh, -, hl, -, h20, h21⟩ := hash_kit
  have hs : ∀ w, Calls Try.prog 20 #[.int .i64 2] w fun e w' => e = .returned (.int .i64 (4 : Nat)) ∧ w = w' := fun w => by
    have := size_any 2 w
    rwa [show sizeN 2 = 4 by decide] at this
  have hh2 : ∀ (k : Nat) w, k < 4294967296 → Calls Try.prog 16 #[.int .u32 k, .int .i64 2] w fun e w' => e = .returned (.int .i64 (h 2 k : Nat)) ∧ w = w' := fun k w hk => hh 2 (by omega) (by omega) k w hk
  have hlt : ∀ k, k < 4294967296 → h 2 k < 4 := fun k _ => hl 2 (by omega) k
  have hk12 : Keys [e1, e2] := fun e he => by
    simp at he
    rcases he with rfl | rfl
    · exact ⟨0, rfl, by omega⟩
    · exact ⟨1, rfl, by omega⟩
  have hfl : ([[e1, e2]] : List (List Ent)).flatten = [e1, e2] := rfl
  -- the queues that are handed over
  have hmade : ∀ W : World, Qs ((W.alloc (.cells #[.int .i64 1, .int .u32 0, .int .u64 0, .int .i64 2, .int .u32 1, .int .u64 0] 39)).alloc (.cells #[.slice (some ⟨W.heap.size, 0, none⟩) 2 2] 32)) (W.heap.size + 2) (some ⟨W.heap.size + 1, 0, none⟩) [[e1, e2]] := fun W => by
    have k1 := heap_alloc_new W (.cells #[Value.int .i64 1, .int .u32 0, .int .u64 0, .int .i64 2, .int .u32 1, .int .u64 0] 39)
    have s1 : (W.alloc (.cells #[Value.int .i64 1, .int .u32 0, .int .u64 0, .int .i64 2, .int .u32 1, .int .u64 0] 39)).heap.size = W.heap.size + 1 := by simp
    generalize W.alloc (.cells #[Value.int .i64 1, .int .u32 0, .int .u64 0, .int .i64 2, .int .u32 1, .int .u64 0] 39) = W1 at *
    have k2 := heap_alloc_new W1 (.cells #[Value.slice (some ⟨W.heap.size, 0, none⟩) 2 2] 32)
    have j2 : (W1.alloc (.cells #[Value.slice (some ⟨W.heap.size, 0, none⟩) 2 2] 32)).heap[W.heap.size]? = W1.heap[W.heap.size]? := Below.heap_alloc W1 _ _ (by omega)
    rw [s1] at k2
    rw [k1] at j2
    generalize W1.alloc (.cells #[Value.slice (some ⟨W.heap.size, 0, none⟩) 2 2] 32) = W2 at *
    refine ⟨[.slice (some ⟨W.heap.size, 0, none⟩) 2 2], rfl, fun _ => ⟨_, 0, rfl, by omega, fun j u e => ?_⟩, fun i hi => ?_⟩
    · rw [cell_row k2, Nat.zero_add]
      simpa using e
    · obtain rfl : i = 0 := by simpa using hi
      refine ⟨some ⟨W.heap.size, 0, none⟩, 2, rfl, by decide, by decide, fun _ => ⟨_, 0, rfl, by omega, fun j u e => ?_⟩⟩
      rw [cell_row j2, Nat.zero_add]
      have : flat ([[e1, e2]] : List (List Ent))[0]! = [.int .i64 1, .int .u32 0, .int .u64 0, .int .i64 2, .int .u32 1, .int .u64 0] := rfl
      rw [this] at e
      simpa using e
  have hre : ∀ W : World, Calls Try.prog 9 #[.slice (some ⟨W.heap.size + 1, 0, none⟩) 1 1, .int .i64 2] ((W.alloc (.cells #[.int .i64 1, .int .u32 0, .int .u64 0, .int .i64 2, .int .u32 1, .int .u64 0] 39)).alloc (.cells #[.slice (some ⟨W.heap.size, 0, none⟩) 2 2] 32))
      fun e w' => ∃ s ss, e = .returned s ∧ Tab w' (W.heap.size + 2) s ss (reh (h 2) 4 [e1, e2]) ∧ Below W.heap.size W w' := fun W => by
    have := rehash_any (Ls := [[e1, e2]]) (c := 1) (h 2) hs hh2 hlt (by omega) (by omega) (hmade W) (by simp) (by decide) (by decide) hk12 (by decide) (by decide)
    refine this.mono ?_
    rintro e w' ⟨s, ss, he, ht, _, hb⟩
    have hsz : ((W.alloc (.cells #[Value.int .i64 1, .int .u32 0, .int .u64 0, .int .i64 2, .int .u32 1, .int .u64 0] 39)).alloc (.cells #[Value.slice (some ⟨W.heap.size, 0, none⟩) 2 2] 32)).heap.size = W.heap.size + 2 := by simp
    rw [hsz] at ht hb
    refine ⟨s, ss, he, ht, ?_⟩
    exact (((Below.refl _ W).alloc (Nat.le_refl _) _).alloc (by simp) _).trans (hb.mono (by omega))
  have hb0 : bk (h 2) 0 [e1, e2] = [e1] := by
    simp only [bk, List.filter_cons, List.filter_nil, show e1.k.toNat = 0 from rfl, show e2.k.toNat = 1 from rfl, h20, h21]
    rfl
  have hb2 : bk (h 2) 2 [e1, e2] = [e2] := by
    simp only [bk, List.filter_cons, List.filter_nil, show e1.k.toNat = 0 from rfl, show e2.k.toNat = 1 from rfl, h20, h21]
    rfl
  have hpl : ∀ (W : World) (A : Option Addr) (c : Nat) (ss : List Value), Tab W (w.heap.size + 2) (.slice A 4 c) ss (reh (h 2) 4 [e1, e2]) → 4 ≤ c → c ≤ 9223372036854775807 → Calls Try.prog 12 #[.slice A 4 c, .int .i64 2] W fun e w' => e = .returned (.bool true) ∧ Below W.heap.size W w' := fun W A c ss ht h4 h9 => by
    have hp := placed_any (c := c) (h 2) hs hh2 (by omega) (by omega) ht.rd.2 (Nat.le_refl _) (by rw [reh_len]; exact h4) h9 (keys_bk hk12 4)
    rw [reh_len] at hp
    refine hp.mono ?_
    rintro e w' ⟨f, rfl, hf, hb⟩
    have : f = true := hf.2 ⟨by omega, reh_len _ _ _, pl_reh _ _ _⟩
    subst this
    exact ⟨rfl, hb⟩
  have HRE := Lib.hid hre; have HB0 := Lib.hid hb0; have HB2 := Lib.hid hb2; have HPL := Lib.hid hpl
  clear hs hh hh2 hl hlt h20 h21 hk12 hfl hmade hre hb0 hb2 hpl
  go_enter Try.func7, Try.ntmps7
  go_wp2_with fail
  refine (HRE.out w).mono ?_
  rintro e w1 ⟨s, ss, rfl, ht, hb⟩
  obtain ⟨A, c, hse, hc4, hc9⟩ := ht.shape
  rw [reh_len] at hse hc4
  subst hse
  obtain ⟨g, o, A0, c0, hA, q0, l0, l09, r0⟩ := ht.at (i := 0) (by rw [reh_len]; omega)
  obtain ⟨g', o', A2, c2, hA', q2, l2, l29, r2⟩ := ht.at (i := 2) (by rw [reh_len]; omega)
  have HPP := Lib.hid (HPL.out w1 A c ss ht hc4 hc9)
  rw [hA] at hA' HPP
  cases hA'
  subst hA
  rw [reh_at _ _ (by omega), HB0.out] at q0 l0 r0
  rw [reh_at _ _ (by omega), HB2.out] at q2 l2 r2
  obtain ⟨g0, o0, rfl, hg0, a0, a1, a2⟩ := r0.ent (i := 0) (by decide)
  obtain ⟨g2, o2, rfl, hg2, b0, b1, b2⟩ := r2.ent (i := 0) (by decide)
  have a0' : w1.cell? ⟨g0, o0, none⟩ = some (.int .i64 1) := a0
  have b0' : w1.cell? ⟨g2, o2, none⟩ = some (.int .i64 2) := b0
  have q0' : w1.cell? ⟨g, o, none⟩ = some (.slice (some ⟨g0, o0, none⟩) 1 c0) := q0
  have q2' : w1.cell? ⟨g, o + 2, none⟩ = some (.slice (some ⟨g2, o2, none⟩) 1 c2) := q2
  have l0' : 1 ≤ c0 := l0
  have l2' : 1 ≤ c2 := l2
  have HB := Lib.hid hb
  clear a0 a1 a2 b0 b1 b2 q0 q2 l0 l2 r0 r2 ht hb
  go_wp2_with fail
  refine HPP.out.mono ?_
  rintro e w2 ⟨rfl, hb2⟩
  have HB2 := Lib.hid hb2
  clear hb2
  go_wp2_with fail
  go_ret
  exact ⟨rfl, HB.out.trans (HB2.out.mono HB.out.size)⟩
end Go.Proofs.Ytjblpdnhkoemjaa
