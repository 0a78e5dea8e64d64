/- PairsOrder's walk. -/
import Derived.Test.YtdfokceecnmocaaS16J1
import Derived.Test.YtdfokceecnmocaaS16J2
import Derived.Test.YtdfokceecnmocaaS16J3
import Derived.Test.YtdfokceecnmocaaS15N
set_option linter.unusedVariables false
set_option linter.unusedSimpArgs false
namespace Go.Proofs.Ytdfokceecnmocaa.S16
open Go.Proofs.Ytdfokceecnmocaa Go.Proofs.Ytdfokceecnmocaa.S11 Go.Proofs.Ytdfokceecnmocaa.S12 Go.Proofs.Ytdfokceecnmocaa.S13 Go.Proofs.Ytdfokceecnmocaa.S14 Go.Proofs.Ytdfokceecnmocaa.S15
open Go.RowKit

theorem law_order (t k0 k1 bits : Nat) (ht : t < 256) (hk0 : k0 < 65536) (hk1 : k1 < 65536) (hb : bits < 256) (w : World) :
    Calls Try.prog 4 #[.int .u8 (t : Int), .agg #[.int .u16 (k0 : Int), .int .u16 (k1 : Int)], .int .u8 (bits : Int)] w fun e w' => e = .returned (.bool true) ∧ Below w.heap.size w w' := by
  obtain ⟨m7, kN, n1, n2, p1, p1', p2, p3, p4, _, _⟩ := bits_facts bits hb
  obtain ⟨who, ka, n3, _, q1, q1', q2, q3, q4, _, _⟩ := who_facts t ht
  obtain ⟨_, y1⟩ := key_facts k0 hk0
  obtain ⟨_, y2⟩ := key_facts k1 hk1
  rcases Nat.lt_trichotomy (bktN k0 kN) (bktN k1 kN) with hc | hc | hc
  · exact law_pairs_gt hk0 hk1 n1 n2 n3 p1 p1' p2 p3 p4 q1 q1' q2 q3 q4 y1 y2 rfl rfl rfl rfl hc w
  · exact law_pairs_eq hk0 hk1 n1 n2 n3 p1 p1' p2 p3 p4 q1 q1' q2 q3 q4 y1 y2 rfl rfl rfl rfl hc w
  · exact law_pairs_lt hk0 hk1 n1 n2 n3 p1 p1' p2 p3 p4 q1 q1' q2 q3 q4 y1 y2 rfl rfl rfl rfl hc w
end Go.Proofs.Ytdfokceecnmocaa.S16
