import Derived.Test.YtopkdnjploipaaaDoorW3
namespace Go.Proofs.YtopkdnjploipaaaDoor
open Go.RowKit Go.Sort Go.Lib

theorem half_pow (u k : Nat) : u / 2 ^ k / 2 = u / 2 ^ (k + 1) := by
  rw [Nat.div_div_eq_div_mul, Nat.pow_succ]
theorem div_le' (u k : Nat) : u / 2 ^ k ≤ u := Nat.div_le_self _ _
def bitB (u n : Nat) : Bool := decide (u / 2 ^ n % 2 = 1)
theorem bit_any (u n : Nat) (hn : n ≤ 63) (hu : u < 18446744073709551616) (w : World) :
    Calls Tryd.prog 24 #[.int .u64 u, .int .i64 n] w fun e w' => e = .returned (.bool (bitB u n)) ∧ w = w' := by
  go_enter Tryd.func24, Tryd.ntmps24
  go_wp2
  go_loop [0, 5] (fun a i => ∃ k : Nat, k ≤ n ∧ i = .int .i64 k ∧ a = .int .u64 ((u / 2 ^ k : Nat) : Int)) (fun _ i => n - (RowKit.intOf i).toNat)
  case atStart => exact ⟨0, by omega, rfl, by simp⟩
  case round =>
    obtain ⟨k, hk, rfl, rfl⟩ := hrel
    have h1 := div_le' u k
    have h2 := half_pow u k
    generalize hq : u / 2 ^ k = q at *
    have HQ := Lib.hid hq
    have H2 := Lib.hid h2
    clear hq h2
    by_cases hlt : k < n
    · go_wp2
      go_round
      case rel => exact ⟨k + 1, by omega, by go_num, by rw [← H2.out]; go_num⟩
      case measure => simp [RowKit.intOf]; omega
    · have hkn : k = n := by omega
      have HK := Lib.hid hkn
      clear hkn
      by_cases ho : q % 2 = 1
      · have ho' : ((q : Int) % 2 == 1) = true := by rw [beq_iff_eq]; omega
        go_wp2
        go_ret
        refine ⟨?_, rfl⟩
        rw [← HK.out, bitB, HQ.out, decide_eq_true ho]
        rfl
      · have ho' : ((q : Int) % 2 == 1) = false := by rw [beq_eq_false_iff_ne]; omega
        go_wp2
        go_ret
        refine ⟨?_, rfl⟩
        rw [← HK.out, bitB, HQ.out, decide_eq_false ho]
        rfl
theorem counted_none (s : ByteArray) (w : World) : Calls Tryd.prog 27 #[.string s, .int .u64 0] w fun e w' => e = .returned (.string ⟨#[]⟩) ∧ w = w' := by
  go_enter Tryd.func27, Tryd.ntmps27
  go_wp2
  go_ret
  exact ⟨rfl, rfl⟩
def cnt (s : ByteArray) (u : Nat) : ByteArray := s ++ ⟨(decDigits u).toArray⟩
theorem counted_some (s : ByteArray) (hs : s.size ≤ 1) (u : Nat) (h1 : 1 ≤ u) (hu64 : u < 18446744073709551616) (w : World) (htab : TabIs Tryd.prog w "internal/strconv.uint64pow10" .u64 pow10Tab) :
    Calls Tryd.prog 27 #[.string s, .int .u64 u] w fun e w' => e = .returned (.string (cnt s u)) ∧ Below w.heap.size w w' := by
  have hl := nDigits_le u hu64
  have h0 : ((u : Int) == 0) = false := by rw [beq_eq_false_iff_ne]; omega
  go_enter Tryd.func27, Tryd.ntmps27
  go_wp2_with (go_at_call 31; refine (fmtu_any u hu64 _ htab).mono ?_; rintro e w' ⟨rfl, hb⟩)
  go_ret
  exact ⟨rfl, hb⟩
def outJ (L : List ByteArray) : ByteArray := if L = [] then ⟨#[48]⟩ else ⟨(join (L.map (·.data.toList)) [43]).toArray⟩
theorem joinL (L : List ByteArray) (h : L ≠ []) (v : Value) (B : Nat) (w : World) (hown : w.ownsRow B 9 1 v L.length (L.map Value.string)) (hB : B ≤ w.heap.size) (hn : L.length ≤ 5) (hlen : (join (L.map (·.data.toList)) [43]).length ≤ 140737488355328) :
    Calls Tryd.prog 30 #[v, .string ⟨#[43]⟩] w fun e w' => e = .returned (.string (outJ L)) ∧ Below w.heap.size w w' := by
  rcases hown.2 with ⟨rfl, h0⟩ | ⟨g, cap, cur, rfl, hg1, hg2, hg3, hg4, hg5, hg6⟩
  · exact absurd (List.eq_nil_of_length_eq_zero h0) h
  · have hlt : g < w.heap.size := by
      rcases Nat.lt_or_ge g w.heap.size with h' | h'
      · exact h'
      · rw [Array.getElem?_eq_none h'] at hg2; simp at hg2
    have := Tryd.strings_Join g 0 cap L ⟨#[43]⟩ w (fun j x hx => by
      rw [World.cell?, hg2]
      simp
      have h5 : cur.toList[j]? = some (.string x) := by
        have := congrArg (fun l => l[j]?) hg6
        simp only [List.getElem?_map, hx] at this
        rw [List.getElem?_take] at this
        split at this
        · simpa using this
        · simp at this
      simpa using h5) hlt (by omega) hg3 hlen
    unfold outJ
    rw [if_neg h]
    exact this
end Go.Proofs.YtopkdnjploipaaaDoor
