/- The reference's cells in memory; its Byte, its Peek. -/
import Derived.Test.YtikjlmlbbjbcmaaD2
namespace Go.Proofs.Ytikjlmlbbjbcmaa
open Go.RowKit Go.Maps

theorem oneB_iff (f a : Nat) : oneB f a = true ↔ ∃ i, i < 8 ∧ a = f + 4 * i := by
  unfold oneB
  simp only [Bool.and_eq_true, decide_eq_true_eq]
  constructor
  · rintro ⟨⟨h1, h2⟩, h3⟩
    exact ⟨(a - f) / 4, by omega, by omega⟩
  · rintro ⟨i, hi, rfl⟩
    omega
theorem byteB_iff (a : Nat) : byteB a = true ↔ ∃ i, i < 8 ∧ (a = 1024 + 4 * i ∨ a = 1120 + 4 * i) := by
  unfold byteB
  rw [Bool.or_eq_true, oneB_iff, oneB_iff]
  constructor
  · rintro (⟨i, hi, h⟩ | ⟨i, hi, h⟩)
    · exact ⟨i, hi, .inl h⟩
    · exact ⟨i, hi, .inr h⟩
  · rintro ⟨i, hi, h | h⟩
    · exact .inl ⟨i, hi, h⟩
    · exact .inr ⟨i, hi, h⟩
theorem ret_bool {a b : Bool} (h : a = b) : Ending.returned (.bool a) = Ending.returned (.bool b) := by rw [h]
set_option maxHeartbeats 400000 in
theorem rbyte_any (a : Nat) (ha : a < 4294967296) (w : World) : Calls Try.prog 15 #[.int .u32 a] w fun e w' => e = .returned (.bool (byteB a)) ∧ w = w' := by
  have hb := byteB_iff a
  have HBB := Lib.hid hb
  clear hb
  generalize byteB a = x at *
  go_enter Try.func15, Try.ntmps15
  go_wp2
  go_loop [3] (fun i => ∃ k : Nat, k ≤ 8 ∧ i = .int .i64 k ∧ ∀ j, j < k → a ≠ 1024 + 4 * j ∧ a ≠ 1120 + 4 * j) (fun i => 8 - (intOf i).toNat)
  case atStart => exact ⟨0, by omega, rfl, fun j hj => by omega⟩
  case round =>
    obtain ⟨k, hk, rfl, hn⟩ := hrel
    have HN := Lib.hid hn
    clear hn
    by_cases hlt : k < 8
    · have e1 : IntKind.u32.wrap (1024 + 4 * (k : Int)) = 1024 + 4 * (k : Int) := by simp [IntKind.wrap, IntKind.bits, IntKind.signed]; omega
      have e2 : IntKind.u32.wrap (1120 + 4 * (k : Int)) = 1120 + 4 * (k : Int) := by simp [IntKind.wrap, IntKind.bits, IntKind.signed]; omega
      by_cases h1 : a = 1024 + 4 * k
      · have t1 : ((a : Int) == 1024 + 4 * (k : Int)) = true := by rw [beq_iff_eq]; omega
        have hx : x = true := HBB.out.2 ⟨k, hlt, .inl h1⟩
        have HX := Lib.hid hx
        clear h1 hx
        go_wp2
        go_ret
        exact ⟨ret_bool HX.out.symm, rfl⟩
      · have t1 : ((a : Int) == 1024 + 4 * (k : Int)) = false := by rw [beq_eq_false_iff_ne]; omega
        by_cases h2 : a = 1120 + 4 * k
        · have t2 : ((a : Int) == 1120 + 4 * (k : Int)) = true := by rw [beq_iff_eq]; omega
          have hx : x = true := HBB.out.2 ⟨k, hlt, .inr h2⟩
          have HX := Lib.hid hx
          clear h1 h2 hx
          go_wp2
          go_ret
          exact ⟨ret_bool HX.out.symm, rfl⟩
        · have t2 : ((a : Int) == 1120 + 4 * (k : Int)) = false := by rw [beq_eq_false_iff_ne]; omega
          have H1 := Lib.hid h1; have H2 := Lib.hid h2
          clear h1 h2
          go_wp2
          go_round
          case rel =>
            refine ⟨k + 1, by omega, by go_num, fun j hj => ?_⟩
            by_cases e : j = k
            · subst e; exact ⟨H1.out, H2.out⟩
            · exact HN.out j (by omega)
          case measure => simp [intOf]; omega
    · have hx : x = false := by
        cases hx : x
        · rfl
        · obtain ⟨i, hi, h⟩ := HBB.out.1 hx
          have := HN.out i (by omega)
          omega
      have HX := Lib.hid hx
      clear hx
      go_wp2
      go_ret
      exact ⟨ret_bool HX.out.symm, rfl⟩

structure RefAt (w : World) (base R : Nat) (s : Value) (L : LL) (n k a was is : Nat) : Prop where
  good : Good L
  row : w.heap[R]? = some (.cells #[s, .int .i64 n, .int .u8 k, .int .u32 a, .int .u64 was, .int .u64 is] 56 (0, 0))
  own : w.ownsRow base 31 2 s L.length (flatW L)
  ne : s.ownBlock ≠ some R
theorem row_slice {w : World} {base e n : Nat} {s : Value} {xs : List Value} (h : w.ownsRow base e 2 s n xs) : ∃ p cap, s = .slice p n cap ∧ (0 < n → ∃ g, p = some ⟨g, 0, none⟩) := by
  obtain ⟨_, h2⟩ := h
  rcases h2 with ⟨rfl, rfl⟩ | ⟨g, cap, cur, rfl, _⟩
  · exact ⟨_, _, rfl, fun h => by omega⟩
  · exact ⟨_, _, rfl, fun _ => ⟨g, rfl⟩⟩
theorem row_pair {w : World} {base g e cap : Nat} {L : LL} (h : w.ownsRow base e 2 (.slice (some ⟨g, 0, none⟩) L.length cap) L.length (flatW L)) (i : Nat) (hi : i < L.length) :
    w.cell? ⟨g, i * 2, none⟩ = some (.int .u32 (L[i]!).1) ∧ w.cell? ⟨g, i * 2 + 1, none⟩ = some (.int .u64 (L[i]!).2) := by
  obtain ⟨_, h2⟩ := h
  rcases h2 with ⟨h2, _⟩ | ⟨g', cap', cur, hv, hg, hh, hc, _, hs, hx⟩
  · cases h2
  · cases hv
    have key : ∀ t, t < L.length * 2 → w.cell? ⟨g, t, none⟩ = some ((encW L[t / 2]!)[t % 2]!) := by
      intro t ht
      have e1 : w.cell? ⟨g, t, none⟩ = cur[t]? := by simp [World.cell?, hh]
      have e2 : (cur.toList.take (L.length * 2))[t]? = (flatW L)[t]? := by rw [hx]
      rw [List.getElem?_take_of_lt ht, flatW_get L t ht] at e2
      rw [e1, ← Array.getElem?_toList, e2]
    refine ⟨?_, ?_⟩
    · rw [key (i * 2) (by omega), show i * 2 / 2 = i by omega, show i * 2 % 2 = 0 by omega]; rfl
    · rw [key (i * 2 + 1) (by omega), show (i * 2 + 1) / 2 = i by omega, show (i * 2 + 1) % 2 = 1 by omega]; rfl
theorem look_none {L : LL} {a : Nat} (h : ∀ i, i < L.length → (L[i]!).1 ≠ a) : look L a = 0 := by
  unfold look
  rw [List.find?_eq_none.2]
  intro p hp
  obtain ⟨i, hi, rfl⟩ := List.mem_iff_getElem.1 hp
  have := h i hi
  rw [getElem!_pos L i hi] at this
  simpa using this
theorem look_idx {L : LL} (h : Good L) {i : Nat} (hi : i < L.length) : look L (L[i]!).1 = (L[i]!).2 := by
  rw [getElem!_pos L i hi]
  exact look_mem h (List.getElem_mem hi)
theorem ret_u64 {a b : Nat} (h : a = b) : Ending.returned (.int .u64 a) = Ending.returned (.int .u64 b) := by rw [h]
set_option maxHeartbeats 1000000 in
theorem rpeek_any (w : World) (base R : Nat) (s : Value) (L : LL) (n k0 a0 was is a : Nat) (h : RefAt w base R s L n k0 a0 was is) :
    Calls Try.prog 13 #[Pt R, .int .u32 a] w fun e w' => e = .returned (.int .u64 (look L a : Nat)) ∧ w = w' := by
  have c0 : w.cell? ⟨R, 0, none⟩ = some s := cell_row h.row 0
  have hlen := h.good.length
  obtain ⟨p, cap, rfl, hp⟩ := row_slice h.own
  have H := Lib.hid h
  clear h
  have HP := Lib.hid hp
  clear hp
  go_enter Try.func13, Try.ntmps13
  go_wp2
  go_loop [5] (fun i => ∃ k : Nat, k ≤ L.length ∧ i = .int .i64 k ∧ ∀ j, j < k → (L[j]!).1 ≠ a) (fun i => L.length - (intOf i).toNat)
  case atStart => exact ⟨0, by omega, rfl, fun j hj => by omega⟩
  case round =>
    obtain ⟨k, hk, rfl, hn⟩ := hrel
    have HN := Lib.hid hn
    clear hn
    by_cases hlt : k < L.length
    · obtain ⟨g, rfl⟩ := HP.out (by omega)
      obtain ⟨d1, d2⟩ := row_pair H.out.own k hlt
      have hl := look_idx H.out.good hlt
      generalize hx : (L[k]!).1 = x at *
      generalize hy : (L[k]!).2 = y at *
      have HX := Lib.hid hx; have HL := Lib.hid hl
      clear hl hx hy
      by_cases e : x = a
      · subst e
        go_wp2
        go_ret
        exact ⟨ret_u64 HL.out.symm, rfl⟩
      · have t1 : ((x : Int) == (a : Int)) = false := by rw [beq_eq_false_iff_ne]; omega
        have HE := Lib.hid e
        clear e
        go_wp2
        go_round
        case rel =>
          refine ⟨k + 1, by omega, by go_num, fun j hj => ?_⟩
          by_cases ej : j = k
          · subst ej; rw [HX.out]; exact HE.out
          · exact HN.out j (by omega)
        case measure => simp [intOf]; omega
    · have hl : look L a = 0 := look_none (fun i hi => HN.out i (by omega))
      have HL := Lib.hid hl
      clear hl
      go_wp2
      go_ret
      exact ⟨ret_u64 HL.out.symm, rfl⟩
end Go.Proofs.Ytikjlmlbbjbcmaa
