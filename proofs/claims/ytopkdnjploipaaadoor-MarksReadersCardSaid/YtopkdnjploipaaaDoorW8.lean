import Derived.Test.YtopkdnjploipaaaDoorW7
import Derived.WalkSpells
import Derived.Lib.IndexBytes
namespace Go.Proofs.YtopkdnjploipaaaDoor
open Go.RowKit Go.Sort Go.Lib

def nmsB (u : Nat) (S : Nat → ByteArray) : Nat → List ByteArray
  | 0 => []
  | k + 1 => if bitB u k then nmsB u S k ++ [S k] else nmsB u S k
def plus : List ByteArray → List UInt8
  | [] => []
  | x :: r => (43 :: x.data.toList) ++ plus r
def plusB (L : List ByteArray) : ByteArray := ⟨(plus L).toArray⟩
theorem plus_app (L M : List ByteArray) : plus (L ++ M) = plus L ++ plus M := by
  induction L with
  | nil => rfl
  | cons x r ih => simp only [List.cons_append, plus, ih, List.append_assoc]
theorem plusB_snoc (L : List ByteArray) (x : ByteArray) : (plusB L ++ ⟨#[43]⟩) ++ x = plusB (L ++ [x]) := by
  apply ByteArray.ext
  simp [plusB, plus_app, plus]
theorem plus_len (b : Nat) : ∀ (L : List ByteArray), (∀ x ∈ L, x.size ≤ b) → (plus L).length ≤ L.length * (b + 1)
  | [], _ => by simp [plus]
  | y :: s, h => by
    have h1 : y.data.toList.length ≤ b := by have := h y (List.mem_cons_self ..); rw [Array.length_toList]; exact this
    have h2 := plus_len b s (fun z hz => h z (List.mem_cons_of_mem _ hz))
    have e : (plus (y :: s)).length = y.data.toList.length + 1 + (plus s).length := by
      rw [plus, List.length_append, List.length_cons]
    rw [e, List.length_cons, Nat.add_mul]
    omega
theorem plus_join (x : ByteArray) (r : List ByteArray) : (plus (x :: r)).tail = join ((x :: r).map (·.data.toList)) [43] := by
  rw [List.map_cons, join_cons]
  show x.data.toList ++ plus r = _
  congr 1
  induction r with
  | nil => rfl
  | cons y s ih => rw [plus, ih]; simp [joinTail]
theorem nmsB_mem (u : Nat) (S : Nat → ByteArray) (b : Nat) (hS : ∀ k, (S k).size ≤ b) : ∀ k, (∀ x ∈ nmsB u S k, x.size ≤ b) ∧ (nmsB u S k).length ≤ k
  | 0 => ⟨by simp [nmsB], by simp [nmsB]⟩
  | k + 1 => by
    have ih := nmsB_mem u S b hS k
    unfold nmsB
    split
    · refine ⟨fun x hx => ?_, by simp; omega⟩
      rcases List.mem_append.1 hx with h | h
      · exact ih.1 x h
      · rw [List.mem_singleton.1 h]; exact hS k
    · exact ⟨ih.1, by omega⟩
theorem plusB_size (u : Nat) (S : Nat → ByteArray) (hS : ∀ k, (S k).size ≤ 6) (k : Nat) (hk : k ≤ 4) : (plusB (nmsB u S k)).size ≤ 28 := by
  have h := nmsB_mem u S 6 hS k
  have := plus_len 6 (nmsB u S k) h.1
  have h2 : (nmsB u S k).length * (6 + 1) ≤ 4 * 7 := Nat.mul_le_mul_right _ (by omega)
  show (plus (nmsB u S k)).toArray.size ≤ 28
  simp
  omega

set_option maxHeartbeats 1000000 in
theorem names_loop (u : Nat) (hu : u < 18446744073709551616) (n : Nat) (hn : n ≤ 4) (S : Nat → ByteArray) (hS : ∀ k, (S k).size ≤ 6) (b cap : Nat) (w : World) (hs : ∀ k, k < n → w.cell? ⟨b, k, none⟩ = some (.string (S k))) (bh : ByteArray)
    (last : Option ByteArray) (hl : (last = none ∧ bh = ⟨#[]⟩) ∨ (last = some bh ∧ bh.toList.isEmpty = false ∧ bh.size ≤ 30)) :
    Calls Tryd.prog 29 #[.int .u64 u, .slice (some ⟨b, 0, none⟩) n cap, .string bh] w fun e w' => e = .returned (.string (txt (nmsB u S n) last)) ∧ w = w' := by
  have fin : ∀ (s : ByteArray), s = plusB (nmsB u S n ++ last.toList) → txt (nmsB u S n) last = if s.toList.isEmpty then ⟨#[48]⟩ else s.extract 1 s.size := by
    intro s hs
    subst hs
    unfold txt outJ
    generalize nmsB u S n ++ last.toList = L
    rw [ByteArray.toList_eq]
    cases L with
    | nil => rfl
    | cons x r =>
      rw [if_neg (by simp), if_neg (by simp [plusB, plus])]
      rw [← plus_join]
      apply ByteArray.ext
      rw [← Array.toList_inj]
      rw [extract_to_end]
      simp [plusB, plus]
  have HF := Lib.hid fin
  have hsz := plusB_size u S hS
  clear fin
  go_enter Tryd.func29, Tryd.ntmps29
  go_wp2
  go_loop [7, 8] (fun s i => ∃ k : Nat, k ≤ n ∧ i = .int .i64 k ∧ s = .string (plusB (nmsB u S k))) (fun _ i => n - (RowKit.intOf i).toNat)
  case atStart => exact ⟨0, by omega, rfl, rfl⟩
  case round =>
    obtain ⟨k, hk, rfl, rfl⟩ := hrel
    have hsk := hsz k (by omega)
    by_cases hlt : k < n
    · have hck := hs k hlt
      have hSk := hS k
      clear hs hS hsz
      by_cases hbit : bitB u k = true
      · have hbs : nmsB u S (k + 1) = nmsB u S k ++ [S k] := by rw [nmsB, if_pos hbit]
        have hsn := plusB_snoc (nmsB u S k) (S k)
        rw [← hbs] at hsn
        have HS := Lib.hid hsn
        clear hsn hbs
        go_wp2_with (go_at_call 24; refine (bit_any u k (by omega) hu _).mono ?_; rintro e w' ⟨rfl, rfl⟩)
        go_round
        case rel => exact ⟨k + 1, by omega, by go_num, by rw [← HS.out]⟩
        case measure => simp [RowKit.intOf]; omega
      · have hbs : nmsB u S (k + 1) = nmsB u S k := by rw [nmsB, if_neg hbit]
        have HS := Lib.hid hbs
        clear hbs
        go_wp2_with (go_at_call 24; refine (bit_any u k (by omega) hu _).mono ?_; rintro e w' ⟨rfl, rfl⟩)
        go_round
        case rel => exact ⟨k + 1, by omega, by go_num, by rw [HS.out]⟩
        case measure => simp [RowKit.intOf]; omega
    · have hkn : k = n := by omega
      subst hkn
      clear hs hS hsz
      rcases hl with ⟨rfl, rfl⟩ | ⟨rfl, hne, hbz⟩
      · have hf := HF.out (plusB (nmsB u S k)) (by simp)
        generalize hsB : plusB (nmsB u S k) = s at *
        have HF2 := Lib.hid hf
        clear hf HF hsB
        by_cases he : s.toList.isEmpty = true
        · go_wp2
          go_ret
          refine ⟨?_, rfl⟩
          rw [HF2.out, if_pos he]
          rfl
        · have he' : s.toList.isEmpty = false := by simpa using he
          have hz : 1 ≤ s.size := by
            rw [ByteArray.toList_eq] at he'
            show 1 ≤ s.data.size
            rw [← Array.length_toList]
            cases h : s.data.toList with
            | nil => rw [h] at he'; simp at he'
            | cons a r => simp
          clear he
          go_wp2
          go_ret
          refine ⟨?_, rfl⟩
          rw [HF2.out, if_neg (by simp [he'])]
          rfl
      · have hsn := plusB_snoc (nmsB u S k) bh
        have hf := HF.out (plusB (nmsB u S k) ++ ⟨#[43]⟩ ++ bh) (by rw [hsn]; rfl)
        have he' : (plusB (nmsB u S k) ++ ⟨#[43]⟩ ++ bh).toList.isEmpty = false := by
          rw [ByteArray.toList_eq]; simp
        have hz : 1 ≤ (plusB (nmsB u S k) ++ ⟨#[43]⟩ ++ bh).size := by
          rw [ByteArray.size_append, ByteArray.size_append]
          show 1 ≤ _ + 1 + _
          omega
        rw [if_neg (by simp [he'])] at hf
        generalize hsB : plusB (nmsB u S k) = s at *
        have HF2 := Lib.hid hf
        clear hf HF hsB hsn
        go_wp2
        go_ret
        refine ⟨?_, rfl⟩
        rw [HF2.out, ByteArray.size_append, ByteArray.size_append]
        rfl

/-- The reference's three texts: names by their bits, the number behind. -/
theorem hasB4 (u : Nat) (hu : u < 18446744073709551616) (S : Nat → ByteArray) : ∀ k, k ≤ 4 → nmsK u m4 S k = nmsB u S k := by
  have h : ∀ k, k < 4 → has (u : Int) (m4 k) = bitB u k := fun k hk => by
    have hkc : k = 0 ∨ k = 1 ∨ k = 2 ∨ k = 3 := by omega
    rcases hkc with rfl | rfl | rfl | rfl
    · exact has_pow u 0 hu (by decide)
    · exact has_pow u 1 hu (by decide)
    · exact has_pow u 2 hu (by decide)
    · exact has_pow u 3 hu (by decide)
  intro k
  induction k with
  | zero => intro _; rfl
  | succ k ih =>
    intro hk
    rw [nmsK, nmsB, h k (by omega), ih (by omega)]
theorem hasB2 (u : Nat) (hu : u < 18446744073709551616) (S : Nat → ByteArray) : nmsK u m2 S 4 = nmsB u S 2 := by
  have h0 : has (u : Int) (m2 0) = bitB u 0 := has_pow u 0 hu (by decide)
  have h1 : has (u : Int) (m2 1) = bitB u 1 := has_pow u 1 hu (by decide)
  have h2 : has (u : Int) (m2 2) = false := has_zero u hu
  have h3 : has (u : Int) (m2 3) = false := has_zero u hu
  rw [nmsK, nmsK, nmsK, nmsK, h0, h1, h2, h3, nmsB, nmsB]
  simp [nmsK, nmsB]
theorem cellsOf4 (w : World) (a b c d : ByteArray) (S : Nat → ByteArray) (h0 : S 0 = a) (h1 : S 1 = b) (h2 : S 2 = c) (h3 : S 3 = d) :
    ∀ k, k < 4 → (w.alloc (.cells #[.string a, .string b, .string c, .string d] 9)).cell? ⟨w.heap.size, k, none⟩ = some (.string (S k)) := by
  intro k hk
  have hkc : k = 0 ∨ k = 1 ∨ k = 2 ∨ k = 3 := by omega
  rcases hkc with rfl | rfl | rfl | rfl <;> simp [World.cell?_alloc_at, h0, h1, h2, h3]
theorem cellsOf2 (w : World) (a b : ByteArray) (S : Nat → ByteArray) (h0 : S 0 = a) (h1 : S 1 = b) :
    ∀ k, k < 2 → (w.alloc (.cells #[.string a, .string b] 9)).cell? ⟨w.heap.size, k, none⟩ = some (.string (S k)) := by
  intro k hk
  have hkc : k = 0 ∨ k = 1 := by omega
  rcases hkc with rfl | rfl <;> simp [World.cell?_alloc_at, h0, h1]

theorem ref_once (u : Nat) (hu : u < 18446744073709551616) (w : World) :
    Calls Tryd.prog 23 #[.int .u64 u] w fun e w' => e = .returned (.string (onTxt u)) ∧ Below w.heap.size w w' := by
  have hr : u - u % 16 < 18446744073709551616 := by omega
  unfold onTxt
  rw [hasB4 u hu sOn 4 (by omega)]
  have hc := cellsOf4 w sDone sPoison sLocked sParked sOn rfl rfl rfl rfl
  have hA := names_loop u hu 4 (by omega) sOn sOn_size w.heap.size 4 _ hc
  by_cases h0 : u / 16 = 0
  · have e0 : u - u % 16 = 0 := by omega
    have h1 : ¬ (0 : Int) < (u : Int) / 16 := by omega
    have hB := hA ⟨#[]⟩ none (.inl ⟨rfl, rfl⟩)
    rw [e0]
    have HB := Lib.hid hB
    clear hA hB hc e0
    go_enter Tryd.func23, Tryd.ntmps23
    go_wp2_with (first
      | (go_at_call 29; refine HB.out.mono ?_; rintro e w1 ⟨rfl, rfl⟩)
      | fail)
    go_ret
    exact ⟨rfl, (Below.refl _ _).alloc (Nat.le_refl _) _⟩
  · have h1 : (0 : Int) < (u : Int) / 16 := by omega
    have hD := fun W => digits_any (u - u % 16) hr W
    have hcn := cnt_size sEmpty (u - u % 16) hr
    have he := cnt_ne sEmpty (u - u % 16)
    have hB := hA (cnt sEmpty (u - u % 16)) (some (cnt sEmpty (u - u % 16))) (.inr ⟨rfl, he, Nat.le_trans hcn (by decide)⟩)
    have hx : cnt sEmpty (u - u % 16) = ⟨(decDigits (u - u % 16)).toArray⟩ := by
      apply ByteArray.ext; simp [cnt]
    rw [lastOf_pos _ _ (by omega)]
    rw [hx] at hB ⊢
    have e2 : ((u - u % 16 : Nat) : Int) = (u : Int) - (u : Int) % 16 := by omega
    have hD' : ∀ W, Calls Tryd.prog 28 #[.int .u64 ((u : Int) - (u : Int) % 16)] W fun e w' => e = .returned (.string ⟨(decDigits (u - u % 16)).toArray⟩) ∧ W = w' := by rw [← e2]; exact hD
    generalize decDigits (u - u % 16) = dd at *
    have HB := Lib.hid hB
    have HD := Lib.hid hD'
    clear hA hB hc hcn he hD hx hD' e2 hr h0
    go_enter Tryd.func23, Tryd.ntmps23
    go_wp2_with (first
      | (go_at_call 28; refine (HD.out _).mono ?_; rintro e w1 ⟨rfl, rfl⟩)
      | (go_at_call 29; refine HB.out.mono ?_; rintro e w1 ⟨rfl, rfl⟩)
      | fail)
    go_ret
    exact ⟨rfl, (Below.refl _ _).alloc (Nat.le_refl _) _⟩
theorem ref_mutex (u : Nat) (hu : u < 18446744073709551616) (w : World) :
    Calls Tryd.prog 19 #[.int .u64 u] w fun e w' => e = .returned (.string (muTxt u)) ∧ Below w.heap.size w w' := by
  have hr : u - u % 4 < 18446744073709551616 := by omega
  unfold muTxt
  rw [hasB2 u hu sMu]
  have hc := cellsOf2 w sLocked sParked sMu rfl rfl
  have hA := names_loop u hu 2 (by omega) sMu sMu_size w.heap.size 2 _ hc
  by_cases h0 : u / 4 = 0
  · have e0 : u - u % 4 = 0 := by omega
    have h1 : ¬ (0 : Int) < (u : Int) / 4 := by omega
    have hB := hA ⟨#[]⟩ none (.inl ⟨rfl, rfl⟩)
    rw [e0]
    have HB := Lib.hid hB
    clear hA hB hc e0
    go_enter Tryd.func19, Tryd.ntmps19
    go_wp2_with (first
      | (go_at_call 29; refine HB.out.mono ?_; rintro e w1 ⟨rfl, rfl⟩)
      | fail)
    go_ret
    exact ⟨rfl, (Below.refl _ _).alloc (Nat.le_refl _) _⟩
  · have h1 : (0 : Int) < (u : Int) / 4 := by omega
    have hD := fun W => digits_any (u - u % 4) hr W
    have hcn := cnt_size sEmpty (u - u % 4) hr
    have he := cnt_ne sEmpty (u - u % 4)
    have hB := hA (cnt sEmpty (u - u % 4)) (some (cnt sEmpty (u - u % 4))) (.inr ⟨rfl, he, Nat.le_trans hcn (by decide)⟩)
    have hx : cnt sEmpty (u - u % 4) = ⟨(decDigits (u - u % 4)).toArray⟩ := by
      apply ByteArray.ext; simp [cnt]
    rw [lastOf_pos _ _ (by omega)]
    rw [hx] at hB ⊢
    have e2 : ((u - u % 4 : Nat) : Int) = (u : Int) - (u : Int) % 4 := by omega
    have hD' : ∀ W, Calls Tryd.prog 28 #[.int .u64 ((u : Int) - (u : Int) % 4)] W fun e w' => e = .returned (.string ⟨(decDigits (u - u % 4)).toArray⟩) ∧ W = w' := by rw [← e2]; exact hD
    generalize decDigits (u - u % 4) = dd at *
    have HB := Lib.hid hB
    have HD := Lib.hid hD'
    clear hA hB hc hcn he hD hx hD' e2 hr h0
    go_enter Tryd.func19, Tryd.ntmps19
    go_wp2_with (first
      | (go_at_call 28; refine (HD.out _).mono ?_; rintro e w1 ⟨rfl, rfl⟩)
      | (go_at_call 29; refine HB.out.mono ?_; rintro e w1 ⟨rfl, rfl⟩)
      | fail)
    go_ret
    exact ⟨rfl, (Below.refl _ _).alloc (Nat.le_refl _) _⟩
theorem ref_rw (u : Nat) (hu : u < 18446744073709551616) (w : World) :
    Calls Tryd.prog 21 #[.int .u64 u] w fun e w' => e = .returned (.string (rwTxt u)) ∧ Below w.heap.size w w' := by
  have hr : u / 16 < 18446744073709551616 := by omega
  unfold rwTxt
  rw [hasB4 u hu sRw 4 (by omega)]
  have hc := cellsOf4 w sParked sWaits sUpgr sWriter sRw rfl rfl rfl rfl
  have hA := names_loop u hu 4 (by omega) sRw sRw_size w.heap.size 4 _ hc
  by_cases h0 : u / 16 = 0
  · have h1 : ¬ (0 : Int) < (u : Int) / 16 := by omega
    have hB := hA ⟨#[]⟩ none (.inl ⟨rfl, rfl⟩)
    rw [h0]
    have HB := Lib.hid hB
    clear hA hB hc h0
    go_enter Tryd.func21, Tryd.ntmps21
    go_wp2_with (first
      | (go_at_call 29; refine HB.out.mono ?_; rintro e w1 ⟨rfl, rfl⟩)
      | fail)
    go_ret
    exact ⟨rfl, (Below.refl _ _).alloc (Nat.le_refl _) _⟩
  · have h1 : (0 : Int) < (u : Int) / 16 := by omega
    have hD := fun W => digits_any (u / 16) hr W
    have hcn := cnt_size ⟨#[114]⟩ (u / 16) hr
    have hnd := nDigits_le (u / 16) hr
    have he := cnt_ne ⟨#[114]⟩ (u / 16)
    have hB := hA (cnt ⟨#[114]⟩ (u / 16)) (some (cnt ⟨#[114]⟩ (u / 16))) (.inr ⟨rfl, he, Nat.le_trans hcn (by decide)⟩)
    have hx : cnt ⟨#[114]⟩ (u / 16) = ⟨#[114]⟩ ++ ⟨(decDigits (u / 16)).toArray⟩ := rfl
    rw [lastOf_pos _ _ (by omega)]
    rw [hx] at hB ⊢
    have e2 : ((u / 16 : Nat) : Int) = (u : Int) / 16 := by omega
    have hD' : ∀ W, Calls Tryd.prog 28 #[.int .u64 ((u : Int) / 16)] W fun e w' => e = .returned (.string ⟨(decDigits (u / 16)).toArray⟩) ∧ W = w' := by rw [← e2]; exact hD
    generalize decDigits (u / 16) = dd at *
    have HB := Lib.hid hB
    have HD := Lib.hid hD'
    clear hA hB hc hcn he hD hx hD' e2 hr h0
    go_enter Tryd.func21, Tryd.ntmps21
    go_wp2_with (first
      | (go_at_call 28; refine (HD.out _).mono ?_; rintro e w1 ⟨rfl, rfl⟩)
      | (go_at_call 29; refine HB.out.mono ?_; rintro e w1 ⟨rfl, rfl⟩)
      | fail)
    go_ret
    exact ⟨rfl, (Below.refl _ _).alloc (Nat.le_refl _) _⟩
end Go.Proofs.YtopkdnjploipaaaDoor
