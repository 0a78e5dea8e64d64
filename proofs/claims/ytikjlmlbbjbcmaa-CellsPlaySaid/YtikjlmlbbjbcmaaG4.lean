/- CellsPlay of more words, or more acts, than are gone through. -/
import Derived.Test.YtikjlmlbbjbcmaaG3
namespace Go.Proofs.Ytikjlmlbbjbcmaa
open Go.RowKit Go.Maps
set_option maxHeartbeats 1000000 in
set_option maxRecDepth 100000 in
theorem law_play_big (p p2 : Option Addr) (n c n2 c2 : Nat) (hn : n ≤ 9223372036854775807) (hn2 : n2 ≤ 9223372036854775807) (hbig : 100 < n ∨ 200 < n2) (w : World) :
    Calls Try.prog 3 #[.slice p n c, .slice p2 n2 c2] w fun e w' => e = .returned (.bool true) ∧ Below w.heap.size w w' := by
  have ql := fun W => lives_any W
  have QL := Lib.hid ql
  clear ql
  by_cases h1 : 100 < n
  · clear hbig
    have g1 : decide ((100 : Int) < (n : Int)) = true := by simp; omega
    go_enter Try.func3, Try.ntmps3
    go_wp2_with fail
    refine (QL.out _).mono ?_
    rintro e w2 ⟨rfl, b2⟩
    have B2 := Lib.hid b2; clear b2
    go_wp2_with fail
    go_ret
    exact ⟨rfl, B2.out⟩
  · have h2 : 200 < n2 := by omega
    clear hbig
    have g1 : decide ((100 : Int) < (n : Int)) = false := by simp; omega
    have g2 : decide ((200 : Int) < (n2 : Int)) = true := by simp; omega
    go_enter Try.func3, Try.ntmps3
    go_wp2_with fail
    refine (QL.out _).mono ?_
    rintro e w2 ⟨rfl, b2⟩
    have B2 := Lib.hid b2; clear b2
    go_wp2_with fail
    go_ret
    exact ⟨rfl, B2.out⟩
end Go.Proofs.Ytikjlmlbbjbcmaa
