/- Load, Store, CAS, Swap, Add, And, Or of cells; Peek, Count, Last. -/
import Derived.Test.YtikjlmlbbjbcmaaC3
namespace Go.Proofs.Ytikjlmlbbjbcmaa
open Go.RowKit Go.Maps Go.ChangeMaps Go.MapKept

def casV (x u v : Nat) : Nat := if x = u then v else x
theorem casV_lt {x u v : Nat} (h : x < 18446744073709551616) (hv : v < 18446744073709551616) : casV x u v < 18446744073709551616 := by unfold casV; split <;> assumption
/-- At bytes what stands is below 256. -/
def Byt (L : LL) : Prop := ∀ p ∈ L, byteB p.1 = true → p.2 < 256
theorem byt_nil : Byt [] := by simp [Byt]
theorem bring_small {a v : Nat} (h : byteB a = true) : bring a v < 256 := by unfold bring; rw [if_pos h]; omega
theorem Byt.put {L : LL} (h : Byt L) (a v : Nat) : Byt (putL L a (bring a v)) := by
  intro p hp hb
  unfold putL at hp
  split at hp
  · exact h p (mem_strike.1 hp).1 hb
  · rcases mem_ins.1 hp with rfl | hp
    · exact bring_small hb
    · exact h p (mem_strike.1 hp).1 hb
theorem look_mem {L : LL} (h : Good L) {p : Nat × Nat} (hp : p ∈ L) : look L p.1 = p.2 := by
  obtain ⟨hs, hv⟩ := h
  induction L with
  | nil => simp at hp
  | cons q r ih =>
    obtain ⟨h1, h2⟩ := List.pairwise_cons.1 hs
    unfold look
    rw [List.find?_cons]
    rcases List.mem_cons.1 hp with rfl | hp
    · simp
    · have := h1 p hp
      rw [show (q.1 == p.1) = false by simp; omega]
      exact ih hp h2 (fun x hx => hv x (by simp [hx]))
theorem mem_look {L : LL} {a : Nat} (h : look L a ≠ 0) : (a, look L a) ∈ L := by
  unfold look at *
  split
  · rename_i p hp
    have e := List.find?_some hp
    simp at e
    subst e
    exact List.mem_of_find?_eq_some hp
  · rename_i hp
    rw [hp] at h
    exact absurd rfl h
theorem look_small {L : LL} (h : Byt L) {a : Nat} (ha : byteB a = true) : look L a < 256 := by
  by_cases h0 : look L a = 0
  · omega
  · exact h _ (mem_look h0) ha
theorem bring_look {L : LL} (h : Byt L) (a : Nat) : bring a (look L a) = look L a := by
  unfold bring
  split
  · rename_i hb; have := look_small h hb; omega
  · rfl
theorem putL_look {L : LL} (h : Good L) {a : Nat} (ha : a < 4294967296) : putL L a (look L a) = L := by
  refine ext_look (h.put ha (look_lt h a)) h (fun p => ?_)
  unfold putL
  split
  · rename_i h0
    rw [mem_strike]
    refine ⟨fun hp => hp.1, fun hp => ⟨hp, fun e => ?_⟩⟩
    have := look_mem h hp
    rw [e, h0] at this
    have := (h.2 p hp).2.1
    omega
  · rename_i h0
    rw [mem_ins, mem_strike]
    refine ⟨fun hp => ?_, fun hp => ?_⟩
    · rcases hp with rfl | hp
      · exact mem_look h0
      · exact hp.1
    · by_cases e : p.1 = a
      · left; rw [← e, look_mem h hp]
      · exact .inr ⟨hp, e⟩

set_option maxHeartbeats 1000000 in
theorem load_any (w : World) (B : Nat) (M : Option Nat) (L : LL) (n k0 a0 was is a : Nat) (h : CellsAt w B M L n k0 a0 was is) (ha : a < 4294967296) (hn : n < 4611686018427387904) :
    Calls Try.prog 18 #[.pointer (some ⟨B, 0, none⟩), .int .u32 a] w fun e w' => e = .returned (.int .u64 (look L a : Nat)) ∧ ∃ M', CellsAt w' B M' (putL L a (bring a (look L a))) (n + 1) 1 a (look L a) (bring a (look L a)) ∧ Same w M M' ∧ Turns (Fp B M) w w' := by
  have hl := look_lt h.good a
  have hc := access_any w B M L n k0 a0 was is 1 a (look L a) 40 (.agg #[.int .u64 0, .int .u64 0]) h ha hl hn (enters_of Try.func40 (by kernel_rfl) rfl) (fun W => way40 0 0 _ W)
  have HC := Lib.hid hc
  clear hc h
  go_enter Try.func18, Try.ntmps18
  go_wp2_with (go_at_call 38; refine HC.out.mono ?_; rintro e w' ⟨rfl, M', hc, hs, ht⟩; (have HC1 := Lib.hid hc; have HS := Lib.hid hs; have HT := Lib.hid ht; clear hc hs ht))
  go_ret
  exact ⟨rfl, M', HC1.out, HS.out, HT.out⟩
set_option maxHeartbeats 1000000 in
theorem store_any (w : World) (B : Nat) (M : Option Nat) (L : LL) (n k0 a0 was is a v : Nat) (h : CellsAt w B M L n k0 a0 was is) (ha : a < 4294967296) (hv : v < 18446744073709551616) (hn : n < 4611686018427387904) :
    Calls Try.prog 19 #[.pointer (some ⟨B, 0, none⟩), .int .u32 a, .int .u64 v] w fun e w' => e = .returned (.int .u64 (look L a : Nat)) ∧ ∃ M', CellsAt w' B M' (putL L a (bring a (v))) (n + 1) 2 a (look L a) (bring a (v)) ∧ Same w M M' ∧ Turns (Fp B M) w w' := by
  have hl := look_lt h.good a
  have hc := access_any w B M L n k0 a0 was is 2 a (v) 41 (.agg #[.int .u64 0, .int .u64 v]) h ha hv hn (enters_of Try.func41 (by kernel_rfl) rfl) (fun W => way41 0 v _ W)
  have HC := Lib.hid hc
  clear hc h
  go_enter Try.func19, Try.ntmps19
  go_wp2_with (go_at_call 38; refine HC.out.mono ?_; rintro e w' ⟨rfl, M', hc, hs, ht⟩; (have HC1 := Lib.hid hc; have HS := Lib.hid hs; have HT := Lib.hid ht; clear hc hs ht))
  go_ret
  exact ⟨rfl, M', HC1.out, HS.out, HT.out⟩
set_option maxHeartbeats 1000000 in
theorem swap_any (w : World) (B : Nat) (M : Option Nat) (L : LL) (n k0 a0 was is a v : Nat) (h : CellsAt w B M L n k0 a0 was is) (ha : a < 4294967296) (hv : v < 18446744073709551616) (hn : n < 4611686018427387904) :
    Calls Try.prog 20 #[.pointer (some ⟨B, 0, none⟩), .int .u32 a, .int .u64 v] w fun e w' => e = .returned (.int .u64 (look L a : Nat)) ∧ ∃ M', CellsAt w' B M' (putL L a (bring a (v))) (n + 1) 4 a (look L a) (bring a (v)) ∧ Same w M M' ∧ Turns (Fp B M) w w' := by
  have hl := look_lt h.good a
  have hc := access_any w B M L n k0 a0 was is 4 a (v) 41 (.agg #[.int .u64 0, .int .u64 v]) h ha hv hn (enters_of Try.func41 (by kernel_rfl) rfl) (fun W => way41 0 v _ W)
  have HC := Lib.hid hc
  clear hc h
  go_enter Try.func20, Try.ntmps20
  go_wp2_with (go_at_call 38; refine HC.out.mono ?_; rintro e w' ⟨rfl, M', hc, hs, ht⟩; (have HC1 := Lib.hid hc; have HS := Lib.hid hs; have HT := Lib.hid ht; clear hc hs ht))
  go_ret
  exact ⟨rfl, M', HC1.out, HS.out, HT.out⟩
set_option maxHeartbeats 1000000 in
theorem add_any (w : World) (B : Nat) (M : Option Nat) (L : LL) (n k0 a0 was is a v : Nat) (h : CellsAt w B M L n k0 a0 was is) (ha : a < 4294967296) (_hv : v < 18446744073709551616) (hn : n < 4611686018427387904) :
    Calls Try.prog 21 #[.pointer (some ⟨B, 0, none⟩), .int .u32 a, .int .u64 v] w fun e w' => e = .returned (.int .u64 (look L a : Nat)) ∧ ∃ M', CellsAt w' B M' (putL L a (bring a ((look L a + v) % 18446744073709551616))) (n + 1) 5 a (look L a) (bring a ((look L a + v) % 18446744073709551616)) ∧ Same w M M' ∧ Turns (Fp B M) w w' := by
  have hl := look_lt h.good a
  have hc := access_any w B M L n k0 a0 was is 5 a ((look L a + v) % 18446744073709551616) 42 (.agg #[.int .u64 0, .int .u64 v]) h ha (by omega) hn (enters_of Try.func42 (by kernel_rfl) rfl) (fun W => way42 0 v _ W)
  have HC := Lib.hid hc
  clear hc h
  go_enter Try.func21, Try.ntmps21
  go_wp2_with (go_at_call 38; refine HC.out.mono ?_; rintro e w' ⟨rfl, M', hc, hs, ht⟩; (have HC1 := Lib.hid hc; have HS := Lib.hid hs; have HT := Lib.hid ht; clear hc hs ht))
  go_ret
  exact ⟨rfl, M', HC1.out, HS.out, HT.out⟩
set_option maxHeartbeats 1000000 in
theorem and_any (w : World) (B : Nat) (M : Option Nat) (L : LL) (n k0 a0 was is a v : Nat) (h : CellsAt w B M L n k0 a0 was is) (ha : a < 4294967296) (hv : v < 18446744073709551616) (hn : n < 4611686018427387904) :
    Calls Try.prog 22 #[.pointer (some ⟨B, 0, none⟩), .int .u32 a, .int .u64 v] w fun e w' => e = .returned (.int .u64 (look L a : Nat)) ∧ ∃ M', CellsAt w' B M' (putL L a (bring a (look L a &&& v))) (n + 1) 6 a (look L a) (bring a (look L a &&& v)) ∧ Same w M M' ∧ Turns (Fp B M) w w' := by
  have hl := look_lt h.good a
  have hc := access_any w B M L n k0 a0 was is 6 a (look L a &&& v) 43 (.agg #[.int .u64 0, .int .u64 v]) h ha (Nat.lt_of_le_of_lt Nat.and_le_left hl) hn (enters_of Try.func43 (by kernel_rfl) rfl) (fun W => way43 0 v _ hv hl W)
  have HC := Lib.hid hc
  clear hc h
  go_enter Try.func22, Try.ntmps22
  go_wp2_with (go_at_call 38; refine HC.out.mono ?_; rintro e w' ⟨rfl, M', hc, hs, ht⟩; (have HC1 := Lib.hid hc; have HS := Lib.hid hs; have HT := Lib.hid ht; clear hc hs ht))
  go_ret
  exact ⟨rfl, M', HC1.out, HS.out, HT.out⟩
set_option maxHeartbeats 1000000 in
theorem or_any (w : World) (B : Nat) (M : Option Nat) (L : LL) (n k0 a0 was is a v : Nat) (h : CellsAt w B M L n k0 a0 was is) (ha : a < 4294967296) (hv : v < 18446744073709551616) (hn : n < 4611686018427387904) :
    Calls Try.prog 23 #[.pointer (some ⟨B, 0, none⟩), .int .u32 a, .int .u64 v] w fun e w' => e = .returned (.int .u64 (look L a : Nat)) ∧ ∃ M', CellsAt w' B M' (putL L a (bring a (look L a ||| v))) (n + 1) 7 a (look L a) (bring a (look L a ||| v)) ∧ Same w M M' ∧ Turns (Fp B M) w w' := by
  have hl := look_lt h.good a
  have hc := access_any w B M L n k0 a0 was is 7 a (look L a ||| v) 44 (.agg #[.int .u64 0, .int .u64 v]) h ha (Nat.or_lt_two_pow (n := 64) hl hv) hn (enters_of Try.func44 (by kernel_rfl) rfl) (fun W => way44 0 v _ hv hl W)
  have HC := Lib.hid hc
  clear hc h
  go_enter Try.func23, Try.ntmps23
  go_wp2_with (go_at_call 38; refine HC.out.mono ?_; rintro e w' ⟨rfl, M', hc, hs, ht⟩; (have HC1 := Lib.hid hc; have HS := Lib.hid hs; have HT := Lib.hid ht; clear hc hs ht))
  go_ret
  exact ⟨rfl, M', HC1.out, HS.out, HT.out⟩
set_option maxHeartbeats 1000000 in
theorem cas_any (w : World) (B : Nat) (M : Option Nat) (L : LL) (n k0 a0 was is a u v : Nat) (h : CellsAt w B M L n k0 a0 was is) (ha : a < 4294967296) (hv : v < 18446744073709551616) (hn : n < 4611686018427387904) :
    Calls Try.prog 17 #[.pointer (some ⟨B, 0, none⟩), .int .u32 a, .int .u64 u, .int .u64 v] w fun e w' => e = .returned (.tuple #[.int .u64 (look L a : Nat), .bool (decide (look L a = u))]) ∧ ∃ M', CellsAt w' B M' (putL L a (bring a (casV (look L a) u v))) (n + 1) 3 a (look L a) (bring a (casV (look L a) u v)) ∧ Same w M M' ∧ Turns (Fp B M) w w' := by
  have hl := look_lt h.good a
  have hc := access_any w B M L n k0 a0 was is 3 a (casV (look L a) u v) 39 (.agg #[.int .u64 u, .int .u64 v]) h ha (casV_lt hl hv) hn (enters_of Try.func39 (by kernel_rfl) rfl) (fun W => way39 u v _ W)
  have hb : ((look L a : Int) == (u : Int)) = decide (look L a = u) := by
    by_cases e : look L a = u
    · simp [e]
    · rw [decide_eq_false e, beq_eq_false_iff_ne]; omega
  have HC := Lib.hid hc
  clear hc h
  generalize look L a = x at *
  generalize decide (x = u) = b at *
  go_enter Try.func17, Try.ntmps17
  go_wp2_with (go_at_call 38; refine HC.out.mono ?_; rintro e w' ⟨rfl, M', hc, hs, ht⟩; (have HC1 := Lib.hid hc; have HS := Lib.hid hs; have HT := Lib.hid ht; clear hc hs ht))
  go_ret2
  exact ⟨rfl, M', HC1.out, HS.out, HT.out⟩
theorem peek_any (w : World) (B : Nat) (M : Option Nat) (L : LL) (n k0 a0 was is a : Nat) (h : CellsAt w B M L n k0 a0 was is) (ha : a < 4294967296) :
    Calls Try.prog 12 #[.pointer (some ⟨B, 0, none⟩), .int .u32 a] w fun e w' => e = .returned (.int .u64 (look L a : Nat)) ∧ w = w' := by
  have c0 : w.cell? ⟨B, 0, none⟩ = some (.map M) := cell_row h.row 0
  have hat := h.look ha
  generalize look L a = x at *
  clear h
  go_enter Try.func12, Try.ntmps12
  go_wp2
  go_ret
  exact ⟨rfl, rfl⟩
theorem count_any (w : World) (B : Nat) (M : Option Nat) (L : LL) (n k0 a0 was is : Nat) (h : CellsAt w B M L n k0 a0 was is) :
    Calls Try.prog 24 #[.pointer (some ⟨B, 0, none⟩)] w fun e w' => e = .returned (.int .i64 n) ∧ w = w' := by
  have c0 : w.cell? ⟨B, 1, none⟩ = some (.int .i64 n) := cell_row h.row 1
  clear h
  go_enter Try.func24, Try.ntmps24
  go_wp2
  go_ret
  exact ⟨rfl, rfl⟩
theorem last_any (w : World) (B : Nat) (M : Option Nat) (L : LL) (n k0 a0 was is : Nat) (h : CellsAt w B M L n k0 a0 was is) :
    Calls Try.prog 25 #[.pointer (some ⟨B, 0, none⟩)] w fun e w' => e = .returned (.agg #[.int .u8 k0, .int .u32 a0, .int .u64 was, .int .u64 is]) ∧ Below w.heap.size w w' := by
  have d2 : w.cell? ⟨B, 2, none⟩ = some (.int .u8 k0) := cell_row h.row 2
  have d3 : w.cell? ⟨B, 3, none⟩ = some (.int .u32 a0) := cell_row h.row 3
  have d4 : w.cell? ⟨B, 4, none⟩ = some (.int .u64 was) := cell_row h.row 4
  have d5 : w.cell? ⟨B, 5, none⟩ = some (.int .u64 is) := cell_row h.row 5
  have hlt := h.lt B (.inl rfl)
  clear h
  go_enter Try.func25, Try.ntmps25
  go_wp2
  refine bodyPost_ret (v := .agg #[.int .u8 k0, .int .u32 a0, .int .u64 was, .int .u64 is]) (by simp [results, Try.results25, go_sem]) rfl ⟨rfl, ?_⟩
  exact (Below.refl _ _).alloc (Nat.le_refl _) _
end Go.Proofs.Ytikjlmlbbjbcmaa
