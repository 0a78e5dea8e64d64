/- Texts of this seat, one behind the other. -/
import Derived.Test.YtieiiabbeglmfaaGreatDoorMLawOldest201
import Derived.Test.YtieiiabbeglmfaaGreatDoorMLawOldest209
import Derived.LoopTactic
import Derived.Deep.LoopGhost
import Derived.Deep.RegionHeld3
import Derived.Maps.RangeWalk
import Derived.OwnWalk
import Derived.BigQuiet
import Derived.Deep.RegionWith
import Derived.Outline
import Derived.WalkSpells
import Derived.Maps.OwnOps
import Derived.Deep.QuietTactic
import Derived.Deep.Cut
import Derived.Deep.CutRange
set_option linter.unusedVariables false
set_option linter.unusedSimpArgs false
set_option linter.unusedVariables false
set_option linter.unusedSimpArgs false
namespace Go.Proofs.YtieiiabbeglmfaaGreatDoor.S2
set_option maxRecDepth 100000
set_option maxHeartbeats 16000000
open Go.Proofs.YtieiiabbeglmfaaGreatDoor
open Go.RowKit Go.Maps
theorem cell_turns {S : Nat → Prop} {xb o : Nat} {v : Value} {w w' : World} (h : w.cell? ⟨xb, o, none⟩ = some v) (t : Turns S w w') (hn : ¬ S xb) : w'.cell? ⟨xb, o, none⟩ = some v :=
  (World.cell?_of_block (w := w) (t.block xb (World.block_lt_of_cell? w _ h) hn)).trans h
def WIn (w : World) (base : Nat) (p : Option Addr) (n : Nat) (A V : Nat → Nat) : Prop := 0 < n → ∃ lb lo, p = some ⟨lb, lo, none⟩ ∧ lb < base ∧ ∀ i, i < n → (w.cell? ⟨lb, lo + i * 2, none⟩ = some (.int .u32 (A i)) ∧ w.cell? ⟨lb, lo + i * 2 + 1, none⟩ = some (.int .u64 (V i)))
def WOk (n : Nat) (A V : Nat → Nat) : Prop := ∀ i, i < n → A i < 4294967296 ∧ V i < 18446744073709551616
theorem WIn.below {w w' : World} {base b : Nat} {p : Option Addr} {n : Nat} {A V : Nat → Nat} (h : WIn w base p n A V) (hb : Below b w w') (hbb : base ≤ b) : WIn w' base p n A V := by
  intro hn
  obtain ⟨lb, lo, e, hl, hc⟩ := h hn
  exact ⟨lb, lo, e, hl, fun i hi => ⟨(hb.cell (by show lb < b; omega)).trans (hc i hi).1, (hb.cell (by show lb < b; omega)).trans (hc i hi).2⟩⟩
def newL (A V : Nat → Nat) : Nat → LL
  | 0 => []
  | k + 1 => putL (newL A V k) (A k) (bring (A k) (V k))
theorem new_any (p : Option Addr) (n c : Nat) (A V : Nat → Nat) (hn : n ≤ 100) (hok : WOk n A V) (w : World) (hin : WIn w w.heap.size p n A V) :
    Calls Tryz.prog 83 #[.slice p n c] w fun e w' => e = .returned (Pt w.heap.size) ∧ St w' w.heap.size w.heap.size (newL A V n) 0 0 0 0 0 ∧ Below w.heap.size w w' := by
  have s0 : St (w.alloc (.cells #[.map none, .int .i64 0, .int .u8 0, .int .u32 0, .int .u64 0, .int .u64 0] 227)) w.heap.size w.heap.size [] 0 0 0 0 0 := ⟨by simp, Nat.le_refl _, none, ⟨good_nil, heap_alloc_new w _, fun _ => rfl, fun m e => by cases e⟩, fun m e => by cases e⟩
  have hb0 : Below w.heap.size w (w.alloc (.cells #[.map none, .int .i64 0, .int .u8 0, .int .u32 0, .int .u64 0, .int .u64 0] 227)) := (Below.refl _ _).alloc (Nat.le_refl _) _
  have S0 := Lib.hid s0; have B0 := Lib.hid hb0; have HIN := Lib.hid hin; have HOK := Lib.hid hok
  clear s0 hb0 hin hok
  go_enter Tryz.func83, Tryz.ntmps83
  go_wp2_with fail
  go_loopg [10] n (fun q s10 wx => ∃ k : Nat, k ≤ n ∧ q = n - k ∧ s10 = .int .i64 k ∧ St wx w.heap.size w.heap.size (newL A V k) 0 0 0 0 0 ∧ Below w.heap.size w wx)
  case atStart => exact ⟨0, by omega, rfl, rfl, S0.out, B0.out⟩
  case round =>
    obtain ⟨k, hk, rfl, rfl, hst, hb⟩ := hrel
    have HST := Lib.hid hst; have HB := Lib.hid hb
    clear hst
    by_cases hkn : k < n
    · obtain ⟨lb, lo, rfl, hlb, hc⟩ := HIN.out.below hb (Nat.le_refl _) (by omega)
      obtain ⟨d0, d1⟩ := hc k hkn
      obtain ⟨hA, hV⟩ := HOK.out k hkn
      clear hc hb
      go_upto_region 5 with (fail)
      obtain ⟨M, cM, mM⟩ := HST.out.own
      have x0 : (wr.alloc (.cells #[.int .u32 (A k), .int .u64 (V k)] 199)).cell? ⟨wr.heap.size, 0, none⟩ = some (.int .u32 (A k)) := by rw [World.cell?_alloc_at _ _ _ _ rfl]; rfl
      have x1 : (wr.alloc (.cells #[.int .u32 (A k), .int .u64 (V k)] 199)).cell? ⟨wr.heap.size, 1, none⟩ = some (.int .u64 (V k)) := by rw [World.cell?_alloc_at _ _ _ _ rfl]; rfl
      have hxF : ¬ Fp w.heap.size M wr.heap.size := fun h => by have := cM.lt _ h; omega
      have ba : Below wr.heap.size wr (wr.alloc (.cells #[.int .u32 (A k), .int .u64 (V k)] 199)).drew := ((Below.refl _ _).alloc (Nat.le_refl _) _).drew
      have cD := cM.kept (Turns.of_below (S := fun _ => False) ba) (fun _ _ h => h)
      have hL : newL A V (k + 1) = putL (newL A V k) (A k) (bring (A k) (V k)) := rfl
      have HL := Lib.hid hL; have XF := Lib.hid hxF; have BA := Lib.hid ba; have CD := Lib.hid cD; have MM := Lib.hid mM
      have hsz := HST.out.size
      clear hL hxF ba cD cM mM d0 d1
      generalize (wr.alloc (.cells #[.int .u32 (A k), .int .u64 (V k)] 199)) = wz at *
      refine wp_region_held_drew (S := fun w' => w'.cell? ⟨wr.heap.size, 0, none⟩ = some (.int .u32 (A k)) ∧ w'.cell? ⟨wr.heap.size, 1, none⟩ = some (.int .u64 (V k))) (by kernel_rfl) ?_ (fun hHeld => ?_)
      · exact ⟨x0, x1⟩
      refine tA 0 ⟨some 14, .move (.tmp 3), 39, "cells.go:51", #[], none⟩ ?vn0 ?rn0
      (try simp only [Act.put, tC, tD, tE])
      refine tA 1 ⟨some 15, .fieldAddr 199 (.tmp 5) 0, 0, "cells.go:51", #[], none⟩ ?vn1 ?rn1
      (try simp only [Act.put, tC, tD, tE])
      refine tA 2 ⟨some 16, .load 35 (.tmp 15), 35, "cells.go:51", #[⟨1, .data⟩], none⟩ ?vn2 ?rn2
      (try simp only [Act.put, tC, tD, tE])
      refine tA 3 ⟨some 17, .fieldAddr 199 (.tmp 5) 0, 0, "cells.go:51", #[], none⟩ ?vn3 ?rn3
      (try simp only [Act.put, tC, tD, tE])
      refine tA 4 ⟨some 18, .load 35 (.tmp 17), 35, "cells.go:51", #[⟨3, .data⟩], none⟩ ?vn4 ?rn4
      (try simp only [Act.put, tC, tD, tE])
      refine tA 5 ⟨some 19, .fieldAddr 199 (.tmp 5) 1, 0, "cells.go:51", #[], none⟩ ?vn5 ?rn5
      (try simp only [Act.put, tC, tD, tE])
      refine tA 6 ⟨some 20, .load 23 (.tmp 19), 23, "cells.go:51", #[⟨5, .data⟩], none⟩ ?vn6 ?rn6
      (try simp only [Act.put, tC, tD, tE])
      refine wpAnyH_ready (rs := [7]) (by kernel_rfl) (by simp) ?_
      refine AllReadyH.cons (o := ⟨some 21, .call ⟨.value (.func 140), #[.tmp 18, .tmp 20], #[35, 23]⟩, 23, "cells.go:51", #[⟨4, .data⟩, ⟨6, .data⟩], none⟩) rfl (fun K hK => ?_) AllReadyH.nil
      go_simp
      (refine (brought_any (A k) (V k) hA hV _).mono ?_; rintro e w1 ⟨rfl, rfl⟩)
      refine hK.out _ _ ?_ (fun hHeld => ?_)
      · exact hHeld
      clear hK K
      (try simp only [Act.put, tC, tD, tE])
      refine wpAnyH_ready (rs := [8]) (by kernel_rfl) (by simp) ?_
      refine AllReadyH.cons (o := ⟨some 22, .call ⟨.value (.func 139), #[.tmp 14, .tmp 16, .tmp 21], #[39, 35, 23]⟩, 0, "cells.go:51", #[⟨0, .data⟩, ⟨2, .data⟩, ⟨7, .data⟩, ⟨7, .chain⟩], none⟩) rfl (fun K hK => ?_) AllReadyH.nil
      go_simp
      (refine (set_any _ w.heap.size M (newL A V k) 0 0 0 0 0 (A k) (bring (A k) (V k)) CD.out hA (bring_lt hV)).mono ?_; rintro e w2 ⟨rfl, M', hc2, hs2, ht2⟩)
      refine hK.out _ _ ?_ (fun hHeld => ?_)
      · exact ⟨cell_turns hHeld.1 ht2 XF.out, cell_turns hHeld.2 ht2 XF.out⟩
      clear hK K
      (try simp only [Act.put, tC, tD, tE])
      refine wpAnyH_done (by kernel_rfl) ?_ _
      have hl : Left wz.drew w2 w.heap.size M (putL (newL A V k) (A k) (bring (A k) (V k))) 0 0 0 0 0 := ⟨M', hc2, hs2, ht2⟩
      have hst2 := St.left ((HST.out).new BA.out) MM.out hl
      have HST2 := Lib.hid hst2
      clear hst2 hl hc2 hs2 ht2 x0 x1
      go_wp2_with fail
      go_roundg (n - (k + 1))
      case measure => omega
      case rel => exact ⟨k + 1, by omega, rfl, by go_num, by rw [HL.out]; exact HST2.out.1, (HB.out.trans (BA.out.mono hsz)).trans HST2.out.2⟩
    · obtain rfl : k = n := by omega
      go_wp2_with fail
      go_ret
      exact ⟨rfl, HST.out, HB.out⟩
end Go.Proofs.YtieiiabbeglmfaaGreatDoor.S2
