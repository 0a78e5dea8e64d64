/- No cells: nothing is told, nothing is kept. -/
import Derived.Test.YtikjlmlbbjbcmaaC6
namespace Go.Proofs.Ytikjlmlbbjbcmaa
open Go.RowKit

theorem acc_nil (k a : Nat) (f : Value) (w : World) : Calls Try.prog 38 #[.pointer none, .int .u8 k, .int .u32 a, f] w fun e w' => e = .returned (.int .u64 0) ∧ w = w' := by
  go_enter Try.func38, Try.ntmps38
  go_wp2
  go_ret
  exact ⟨rfl, rfl⟩
theorem load_nil (a : Nat) (w : World) : Calls Try.prog 18 #[.pointer none, .int .u32 a] w fun e w' => e = .returned (.int .u64 0) ∧ w = w' := by
  have h := fun k f => acc_nil k a f w
  have H := Lib.hid h
  clear h
  go_enter Try.func18, Try.ntmps18
  go_wp2_with (go_at_call 38; refine (H.out _ _).mono ?_; rintro e w' ⟨rfl, rfl⟩)
  go_ret
  exact ⟨rfl, rfl⟩
theorem store_nil (a v : Nat) (w : World) : Calls Try.prog 19 #[.pointer none, .int .u32 a, .int .u64 v] w fun e w' => e = .returned (.int .u64 0) ∧ w = w' := by
  have h := fun k f => acc_nil k a f w
  have H := Lib.hid h
  clear h
  go_enter Try.func19, Try.ntmps19
  go_wp2_with (go_at_call 38; refine (H.out _ _).mono ?_; rintro e w' ⟨rfl, rfl⟩)
  go_ret
  exact ⟨rfl, rfl⟩
theorem swap_nil (a v : Nat) (w : World) : Calls Try.prog 20 #[.pointer none, .int .u32 a, .int .u64 v] w fun e w' => e = .returned (.int .u64 0) ∧ w = w' := by
  have h := fun k f => acc_nil k a f w
  have H := Lib.hid h
  clear h
  go_enter Try.func20, Try.ntmps20
  go_wp2_with (go_at_call 38; refine (H.out _ _).mono ?_; rintro e w' ⟨rfl, rfl⟩)
  go_ret
  exact ⟨rfl, rfl⟩
theorem add_nil (a v : Nat) (w : World) : Calls Try.prog 21 #[.pointer none, .int .u32 a, .int .u64 v] w fun e w' => e = .returned (.int .u64 0) ∧ w = w' := by
  have h := fun k f => acc_nil k a f w
  have H := Lib.hid h
  clear h
  go_enter Try.func21, Try.ntmps21
  go_wp2_with (go_at_call 38; refine (H.out _ _).mono ?_; rintro e w' ⟨rfl, rfl⟩)
  go_ret
  exact ⟨rfl, rfl⟩
theorem and_nil (a v : Nat) (w : World) : Calls Try.prog 22 #[.pointer none, .int .u32 a, .int .u64 v] w fun e w' => e = .returned (.int .u64 0) ∧ w = w' := by
  have h := fun k f => acc_nil k a f w
  have H := Lib.hid h
  clear h
  go_enter Try.func22, Try.ntmps22
  go_wp2_with (go_at_call 38; refine (H.out _ _).mono ?_; rintro e w' ⟨rfl, rfl⟩)
  go_ret
  exact ⟨rfl, rfl⟩
theorem or_nil (a v : Nat) (w : World) : Calls Try.prog 23 #[.pointer none, .int .u32 a, .int .u64 v] w fun e w' => e = .returned (.int .u64 0) ∧ w = w' := by
  have h := fun k f => acc_nil k a f w
  have H := Lib.hid h
  clear h
  go_enter Try.func23, Try.ntmps23
  go_wp2_with (go_at_call 38; refine (H.out _ _).mono ?_; rintro e w' ⟨rfl, rfl⟩)
  go_ret
  exact ⟨rfl, rfl⟩
theorem cas_nil (a u v : Nat) (w : World) : Calls Try.prog 17 #[.pointer none, .int .u32 a, .int .u64 u, .int .u64 v] w fun e w' => e = .returned (.tuple #[.int .u64 0, .bool false]) ∧ w = w' := by
  go_enter Try.func17, Try.ntmps17
  go_wp2
  go_ret2
  exact ⟨rfl, rfl⟩
theorem peek_nil (a : Nat) (w : World) : Calls Try.prog 12 #[.pointer none, .int .u32 a] w fun e w' => e = .returned (.int .u64 0) ∧ w = w' := by
  go_enter Try.func12, Try.ntmps12
  go_wp2
  go_ret
  exact ⟨rfl, rfl⟩
theorem count_nil (w : World) : Calls Try.prog 24 #[.pointer none] w fun e w' => e = .returned (.int .i64 0) ∧ w = w' := by
  go_enter Try.func24, Try.ntmps24
  go_wp2
  go_ret
  exact ⟨rfl, rfl⟩
theorem words_nil (w : World) : Calls Try.prog 16 #[.pointer none] w fun e w' => e = .returned (.slice none 0 0) ∧ w = w' := by
  go_enter Try.func16, Try.ntmps16
  go_wp2
  go_ret
  exact ⟨rfl, rfl⟩
theorem last_nil (w : World) : Calls Try.prog 25 #[.pointer none] w fun e w' => e = .returned (.agg #[.int .u8 0, .int .u32 0, .int .u64 0, .int .u64 0]) ∧ Below w.heap.size w w' := by
  go_enter Try.func25, Try.ntmps25
  go_wp2
  exact bodyPost_ret (v := .agg #[.int .u8 0, .int .u32 0, .int .u64 0, .int .u64 0]) (by simp [results, Try.results25, go_sem]) rfl ⟨rfl, (Below.refl _ _).alloc (Nat.le_refl _) _⟩
end Go.Proofs.Ytikjlmlbbjbcmaa
