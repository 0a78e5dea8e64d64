/- CellsApart of no act, and of more than 200. -/
import Derived.Test.YtikjlmlbbjbcmaaC8
namespace Go.Proofs.Ytikjlmlbbjbcmaa
open Go.RowKit Go.Maps Go.ChangeMaps Go.MapKept
set_option maxHeartbeats 1000000 in
set_option maxRecDepth 100000 in
theorem law_apart_none (a0 : Option Addr) (c : Nat) (w : World) :
    Calls Try.prog 5 #[.slice a0 0 c] w fun e w' => e = .returned (.bool true) ∧ Below w.heap.size w w' := by
  have q0 := st_new w
  have ql := fun W => lives_any W
  have Q0 := Lib.hid q0
  have QL := Lib.hid ql
  clear q0 ql
  go_enter Try.func5, Try.ntmps5
  go_wp2_with fail
  refine Q0.out.mono ?_
  rintro e w1 ⟨rfl, s1, b1⟩
  have B1 := Lib.hid b1; clear s1 b1
  go_wp2_with fail
  refine wp_loop_rounds 1 ?_
  rw [rounds_succ]
  go_wp2_with fail
  refine (QL.out _).mono ?_
  rintro e w2 ⟨rfl, b2⟩
  have B2 := Lib.hid b2; clear b2
  go_wp2_with fail
  go_ret
  exact ⟨rfl, B1.out.trans (B2.out.mono B1.out.size)⟩
set_option maxHeartbeats 1000000 in
set_option maxRecDepth 100000 in
theorem law_apart_big (a0 : Option Addr) (n c : Nat) (hn : 200 < n) (hm : n ≤ 9223372036854775807) (w : World) :
    Calls Try.prog 5 #[.slice a0 n c] w fun e w' => e = .returned (.bool true) ∧ Below w.heap.size w w' := by
  have ql := fun W => lives_any W
  have QL := Lib.hid ql
  clear ql
  go_enter Try.func5, Try.ntmps5
  go_wp2_with fail
  refine (QL.out _).mono ?_
  rintro e w2 ⟨rfl, b2⟩
  have B2 := Lib.hid b2; clear b2
  go_wp2_with fail
  go_ret
  exact ⟨rfl, B2.out⟩
end Go.Proofs.Ytikjlmlbbjbcmaa
