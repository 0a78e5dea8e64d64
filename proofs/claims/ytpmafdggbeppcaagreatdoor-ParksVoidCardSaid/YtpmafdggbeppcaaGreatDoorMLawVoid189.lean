/- Texts of this seat, one behind the other. -/
import Derived.Test.YtpmafdggbeppcaaGreatDoorMLawVoid184
import Derived.Test.YtpmafdggbeppcaaGreatDoorMLawVoid188
import Derived.LoopTactic
import Derived.Deep.LoopGhost
import Derived.Deep.RegionHeld3
import Derived.Maps.RangeWalk
import Derived.OwnWalk
import Derived.BigQuiet
import Derived.Deep.RegionWith
import Derived.Outline
import Derived.WalkSpells
import Derived.Maps.OwnOps
import Derived.Deep.QuietTactic
import Derived.Deep.Cut
import Derived.Deep.CutRange
set_option linter.unusedVariables false
set_option linter.unusedSimpArgs false
namespace Go.Proofs.YtpmafdggbeppcaaGreatDoor.S2
set_option maxRecDepth 100000
set_option maxHeartbeats 16000000
open Go.Proofs.YtpmafdggbeppcaaGreatDoor
open Go.RowKit Go.Maps
theorem cell_turns {S : Nat → Prop} {xb o : Nat} {v : Value} {w w' : World} (h : w.cell? ⟨xb, o, none⟩ = some v) (t : Turns S w w') (hn : ¬ S xb) : w'.cell? ⟨xb, o, none⟩ = some v :=
  (World.cell?_of_block (w := w) (t.block xb (World.block_lt_of_cell? w _ h) hn)).trans h
def WIn (w : World) (base : Nat) (p : Option Addr) (n : Nat) (A V : Nat → Nat) : Prop := 0 < n → ∃ lb lo, p = some ⟨lb, lo, none⟩ ∧ lb < base ∧ ∀ i, i < n → (w.cell? ⟨lb, lo + i * 2, none⟩ = some (.int .u32 (A i)) ∧ w.cell? ⟨lb, lo + i * 2 + 1, none⟩ = some (.int .u64 (V i)))
def WOk (n : Nat) (A V : Nat → Nat) : Prop := ∀ i, i < n → A i < 4294967296 ∧ V i < 18446744073709551616
theorem WIn.below {w w' : World} {base b : Nat} {p : Option Addr} {n : Nat} {A V : Nat → Nat} (h : WIn w base p n A V) (hb : Below b w w') (hbb : base ≤ b) : WIn w' base p n A V := by
  intro hn
  obtain ⟨lb, lo, e, hl, hc⟩ := h hn
  exact ⟨lb, lo, e, hl, fun i hi => ⟨(hb.cell (by show lb < b; omega)).trans (hc i hi).1, (hb.cell (by show lb < b; omega)).trans (hc i hi).2⟩⟩
def newL (A V : Nat → Nat) : Nat → LL
  | 0 => []
  | k + 1 => putL (newL A V k) (A k) (bring (A k) (V k))
theorem new_any (p : Option Addr) (n c : Nat) (A V : Nat → Nat) (hn : n ≤ 100) (hok : WOk n A V) (w : World) (hin : WIn w w.heap.size p n A V) :
    Calls Tryz.prog 77 #[.slice p n c] w fun e w' => e = .returned (Pt w.heap.size) ∧ St w' w.heap.size w.heap.size (newL A V n) 0 0 0 0 0 ∧ Below w.heap.size w w' := by
  have s0 : St (w.alloc (.cells #[.map none, .int .i64 0, .int .u8 0, .int .u32 0, .int .u64 0, .int .u64 0] 200)) w.heap.size w.heap.size [] 0 0 0 0 0 := ⟨by simp, Nat.le_refl _, none, ⟨good_nil, heap_alloc_new w _, fun _ => rfl, fun m e => by cases e⟩, fun m e => by cases e⟩
  have hb0 : Below w.heap.size w (w.alloc (.cells #[.map none, .int .i64 0, .int .u8 0, .int .u32 0, .int .u64 0, .int .u64 0] 200)) := (Below.refl _ _).alloc (Nat.le_refl _) _
  have S0 := Lib.hid s0; have B0 := Lib.hid hb0; have HIN := Lib.hid hin; have HOK := Lib.hid hok
  clear s0 hb0 hin hok
  go_enter Tryz.func77, Tryz.ntmps77
  go_wp2_with fail
  go_loopg [10] n (fun q s10 wx => ∃ k : Nat, k ≤ n ∧ q = n - k ∧ s10 = .int .i64 k ∧ St wx w.heap.size w.heap.size (newL A V k) 0 0 0 0 0 ∧ Below w.heap.size w wx)
  case atStart => exact ⟨0, by omega, rfl, rfl, S0.out, B0.out⟩
  case round =>
    obtain ⟨k, hk, rfl, rfl, hst, hb⟩ := hrel
    have HST := Lib.hid hst; have HB := Lib.hid hb
    clear hst
    by_cases hkn : k < n
    · obtain ⟨lb, lo, rfl, hlb, hc⟩ := HIN.out.below hb (Nat.le_refl _) (by omega)
      obtain ⟨d0, d1⟩ := hc k hkn
      obtain ⟨hA, hV⟩ := HOK.out k hkn
      clear hc hb
      go_upto_region 5 with (fail)
      obtain ⟨M, cM, mM⟩ := HST.out.own
      have x0 : (wr.alloc (.cells #[.int .u32 (A k), .int .u64 (V k)] 211)).cell? ⟨wr.heap.size, 0, none⟩ = some (.int .u32 (A k)) := by rw [World.cell?_alloc_at _ _ _ _ rfl]; rfl
      have x1 : (wr.alloc (.cells #[.int .u32 (A k), .int .u64 (V k)] 211)).cell? ⟨wr.heap.size, 1, none⟩ = some (.int .u64 (V k)) := by rw [World.cell?_alloc_at _ _ _ _ rfl]; rfl
      have hxF : ¬ Fp w.heap.size M wr.heap.size := fun h => by have := cM.lt _ h; omega
      have ba : Below wr.heap.size wr (wr.alloc (.cells #[.int .u32 (A k), .int .u64 (V k)] 211)).drew := ((Below.refl _ _).alloc (Nat.le_refl _) _).drew
      have cD := cM.kept (Turns.of_below (S := fun _ => False) ba) (fun _ _ h => h)
      have hL : newL A V (k + 1) = putL (newL A V k) (A k) (bring (A k) (V k)) := rfl
      have HL := Lib.hid hL; have XF := Lib.hid hxF; have BA := Lib.hid ba; have CD := Lib.hid cD; have MM := Lib.hid mM
      have hsz := HST.out.size
      clear hL hxF ba cD cM mM d0 d1
      generalize (wr.alloc (.cells #[.int .u32 (A k), .int .u64 (V k)] 211)) = wz at *
      refine wp_region_held_drew (S := fun w' => w'.cell? ⟨wr.heap.size, 0, none⟩ = some (.int .u32 (A k)) ∧ w'.cell? ⟨wr.heap.size, 1, none⟩ = some (.int .u64 (V k))) (by kernel_rfl) ?_ (fun hHeld => ?_)
      · exact ⟨x0, x1⟩
      refine tA 0 ⟨some 14, .move (.tmp 3), 66, "cells.go:51", #[], none⟩ ?vn0 ?rn0
      (try simp only [Act.put, tC, tD, tE])
      refine tA 1 ⟨some 15, .fieldAddr 211 (.tmp 5) 0, 0, "cells.go:51", #[], none⟩ ?vn1 ?rn1
      (try simp only [Act.put, tC, tD, tE])
      refine tA 2 ⟨some 16, .load 23 (.tmp 15), 23, "cells.go:51", #[⟨1, .data⟩], none⟩ ?vn2 ?rn2
      (try simp only [Act.put, tC, tD, tE])
      refine tA 3 ⟨some 17, .fieldAddr 211 (.tmp 5) 0, 0, "cells.go:51", #[], none⟩ ?vn3 ?rn3
      (try simp only [Act.put, tC, tD, tE])
      refine tA 4 ⟨some 18, .load 23 (.tmp 17), 23, "cells.go:51", #[⟨3, .data⟩], none⟩ ?vn4 ?rn4
      (try simp only [Act.put, tC, tD, tE])
      refine tA 5 ⟨some 19, .fieldAddr 211 (.tmp 5) 1, 0, "cells.go:51", #[], none⟩ ?vn5 ?rn5
      (try simp only [Act.put, tC, tD, tE])
      refine tA 6 ⟨some 20, .load 29 (.tmp 19), 29, "cells.go:51", #[⟨5, .data⟩], none⟩ ?vn6 ?rn6
      (try simp only [Act.put, tC, tD, tE])
      refine wpAnyH_ready (rs := [7]) (by kernel_rfl) (by simp) ?_
      refine AllReadyH.cons (o := ⟨some 21, .call ⟨.value (.func 113), #[.tmp 18, .tmp 20], #[23, 29]⟩, 29, "cells.go:51", #[⟨4, .data⟩, ⟨6, .data⟩], none⟩) rfl (fun K hK => ?_) AllReadyH.nil
      go_simp
      (refine (brought_any (A k) (V k) hA hV _).mono ?_; rintro e w1 ⟨rfl, rfl⟩)
      refine hK.out _ _ ?_ (fun hHeld => ?_)
      · exact hHeld
      clear hK K
      (try simp only [Act.put, tC, tD, tE])
      refine wpAnyH_ready (rs := [8]) (by kernel_rfl) (by simp) ?_
      refine AllReadyH.cons (o := ⟨some 22, .call ⟨.value (.func 114), #[.tmp 14, .tmp 16, .tmp 21], #[66, 23, 29]⟩, 0, "cells.go:51", #[⟨0, .data⟩, ⟨2, .data⟩, ⟨7, .data⟩, ⟨7, .chain⟩], none⟩) rfl (fun K hK => ?_) AllReadyH.nil
      go_simp
      (refine (set_any _ w.heap.size M (newL A V k) 0 0 0 0 0 (A k) (bring (A k) (V k)) CD.out hA (bring_lt hV)).mono ?_; rintro e w2 ⟨rfl, M', hc2, hs2, ht2⟩)
      refine hK.out _ _ ?_ (fun hHeld => ?_)
      · exact ⟨cell_turns hHeld.1 ht2 XF.out, cell_turns hHeld.2 ht2 XF.out⟩
      clear hK K
      (try simp only [Act.put, tC, tD, tE])
      refine wpAnyH_done (by kernel_rfl) ?_ _
      have hl : Left wz.drew w2 w.heap.size M (putL (newL A V k) (A k) (bring (A k) (V k))) 0 0 0 0 0 := ⟨M', hc2, hs2, ht2⟩
      have hst2 := St.left ((HST.out).new BA.out) MM.out hl
      have HST2 := Lib.hid hst2
      clear hst2 hl hc2 hs2 ht2 x0 x1
      go_wp2_with fail
      go_roundg (n - (k + 1))
      case measure => omega
      case rel => exact ⟨k + 1, by omega, rfl, by go_num, by rw [HL.out]; exact HST2.out.1, (HB.out.trans (BA.out.mono hsz)).trans HST2.out.2⟩
    · obtain rfl : k = n := by omega
      go_wp2_with fail
      go_ret
      exact ⟨rfl, HST.out, HB.out⟩
end Go.Proofs.YtpmafdggbeppcaaGreatDoor.S2
namespace Go.Proofs.YtpmafdggbeppcaaGreatDoor.S3
open Go.Proofs.YtpmafdggbeppcaaGreatDoor
open Go.RowKit
structure Turns (S : Nat → Prop) (w w' : World) : Prop where
  os : w'.os = w.os
  tape : w'.tape = w.tape
  output : w'.output = w.output
  size : w.heap.size ≤ w'.heap.size
  block : ∀ k, k < w.heap.size → ¬ S k → w'.heap[k]? = w.heap[k]?
theorem Turns.refl (S : Nat → Prop) (w : World) : Turns S w w := ⟨rfl, rfl, rfl, Nat.le_refl _, fun _ _ _ => rfl⟩
theorem Turns.trans {S T : Nat → Prop} {a b c : World} (h : Turns S a b) (g : Turns T b c) (hs : ∀ k, k < a.heap.size → T k → S k) : Turns S a c :=
  ⟨g.os.trans h.os, g.tape.trans h.tape, g.output.trans h.output, Nat.le_trans h.size g.size, fun k hk hn => (g.block k (Nat.lt_of_lt_of_le hk h.size) (fun ht => hn (hs k hk ht))).trans (h.block k hk hn)⟩
theorem Turns.mono {S T : Nat → Prop} {a b : World} (h : Turns S a b) (hs : ∀ k, k < a.heap.size → S k → T k) : Turns T a b :=
  (Turns.refl T a).trans h hs
theorem Turns.below {S : Nat → Prop} {a b : World} {B : Nat} (h : Turns S a b) (hB : B ≤ a.heap.size) (hs : ∀ k, k < B → ¬ S k) : Below B a b :=
  ⟨h.os, h.tape, h.output, h.size, fun k hk => h.block k (by omega) (hs k hk)⟩
theorem Turns.alloc {S : Nat → Prop} {a b : World} (h : Turns S a b) (o : Obj) : Turns S a (b.alloc o) :=
  h.trans (T := fun _ => False) ⟨rfl, rfl, rfl, by simp, fun k hk _ => Below.heap_alloc _ _ _ hk⟩ (fun _ _ h => h.elim)
theorem Turns.drew {S : Nat → Prop} {a b : World} (h : Turns S a b) : Turns S a b.drew :=
  ⟨h.os, h.tape, h.output, h.size, h.block⟩
theorem Turns.setCell {S : Nat → Prop} {a b : World} (h : Turns S a b) (p : Addr) (u : Value) (hp : S p.block) : Turns S a (b.setCell p u) :=
  h.trans (T := fun k => k = p.block) ⟨rfl, rfl, rfl, by simp [World.setCell], fun k _ hn => Below.heap_setCell _ _ _ _ hn⟩ (fun k _ e => e ▸ hp)
theorem Turns.setCells {S : Nat → Prop} {a b : World} (h : Turns S a b) (g : Nat) (hg : S g) : ∀ (vs : List Value) (o : Nat), Turns S a (b.setCells g o vs)
  | [], _ => h
  | v :: r, o => by
    have h1 := h.setCell ⟨g, o, none⟩ v hg
    exact Turns.setCells h1 g hg r (o + 1)
theorem Turns.cell {S : Nat → Prop} {a b : World} (h : Turns S a b) {g o : Nat} (hg : g < a.heap.size) (hn : ¬ S g) : b.cell? ⟨g, o, none⟩ = a.cell? ⟨g, o, none⟩ :=
  World.cell?_of_block (a := ⟨g, o, none⟩) (h.block g hg hn)
theorem Turns.frozen {S : Nat → Prop} {a b : World} (h : Turns S a b) {g o : Nat} (hg : g < a.heap.size) (hn : ¬ S g) : b.frozen? ⟨g, o, none⟩ = a.frozen? ⟨g, o, none⟩ :=
  World.frozen?_of_block (a := ⟨g, o, none⟩) (h.block g hg hn)
theorem cell_row {w : World} {B : Nat} {cs : Array Value} {T : TypeId} (h : w.heap[B]? = some (.cells cs T (0, 0))) (o : Nat) : w.cell? ⟨B, o, none⟩ = cs[o]? := by
  simp [World.cell?, h]
theorem froz_row {w : World} {B : Nat} {cs : Array Value} {T : TypeId} (h : w.heap[B]? = some (.cells cs T (0, 0))) (o : Nat) : w.frozen? ⟨B, o, none⟩ = false := by
  simp [World.frozen?, h]
theorem row_set {w : World} {B : Nat} {cs : Array Value} {T : TypeId} (h : w.heap[B]? = some (.cells cs T (0, 0))) (o : Nat) (v : Value) : (w.setCell ⟨B, o, none⟩ v).heap[B]? = some (.cells (cs.setIfInBounds o v) T (0, 0)) := by
  simp [World.setCell, Array.getElem?_modify, h]
def uv (d : Nat) : Value := .int .u64 (d : Int)
def Lies (w : World) (g o : Nat) (D : List Nat) : Prop := ∀ i, i < D.length → w.cell? ⟨g, o + i, none⟩ = some (uv D[i]!)
def Rd (w : World) (base : Nat) (A : Option Addr) (D : List Nat) : Prop := 0 < D.length → ∃ g o, A = some ⟨g, o, none⟩ ∧ g < base ∧ Lies w g o D
def Row (w : World) (base : Nat) (s : Value) (D : List Nat) : Prop :=
  ∃ A cap, s = .slice A D.length cap ∧ D.length ≤ cap ∧ cap ≤ maxLen ∧ (A = none → cap = 0) ∧
    ∀ ad, A = some ad → ∃ g o, ad = ⟨g, o, none⟩ ∧ base ≤ g ∧ g < w.heap.size ∧ Lies w g o D ∧ ∀ j, j < cap → (w.cell? ⟨g, o + j, none⟩).isSome = true ∧ w.frozen? ⟨g, o + j, none⟩ = false
theorem Rd.below {w w' : World} {base b : Nat} {A : Option Addr} {D : List Nat} (h : Rd w base A D) (hb : Below b w w') (hbb : base ≤ b) : Rd w' base A D := fun hp => by
  obtain ⟨g, o, e, hg, hl⟩ := h hp
  exact ⟨g, o, e, hg, fun i hi => (hb.cell (p := ⟨g, o + i, none⟩) (by show g < b; omega)).trans (hl i hi)⟩
theorem Rd.more {w : World} {base b : Nat} {A : Option Addr} {D : List Nat} (h : Rd w base A D) (hb : base ≤ b) : Rd w b A D := fun hp => by
  obtain ⟨g, o, e, hg, hl⟩ := h hp
  exact ⟨g, o, e, by omega, hl⟩
theorem Rd.kept {S : Nat → Prop} {w w' : World} {base : Nat} {A : Option Addr} {D : List Nat} (h : Rd w base A D) (t : Turns S w w') (hb : base ≤ w.heap.size) (hs : ∀ k, k < base → ¬ S k) : Rd w' base A D := fun hp => by
  obtain ⟨g, o, e, hg, hl⟩ := h hp
  exact ⟨g, o, e, hg, fun i hi => (t.cell (by omega) (hs g hg)).trans (hl i hi)⟩
theorem getD_take {D : List Nat} {k i : Nat} (h : i < (D.take k).length) : (D.take k)[i]! = D[i]! := by
  have h2 : i < D.length := by rw [List.length_take] at h; omega
  rw [getElem!_pos _ i h, getElem!_pos _ i h2, List.getElem_take]
theorem Rd.take {w : World} {base : Nat} {A : Option Addr} {D : List Nat} (h : Rd w base A D) (k : Nat) : Rd w base A (D.take k) := fun hp => by
  rw [List.length_take] at hp
  obtain ⟨g, o, e, hg, hl⟩ := h (by omega)
  refine ⟨g, o, e, hg, fun i hi => ?_⟩
  rw [getD_take hi]
  rw [List.length_take] at hi
  exact hl i (by omega)
theorem Rd.nil {w : World} {base : Nat} {A : Option Addr} : Rd w base A [] := fun h => by simp at h
theorem Row.drew {w : World} {base : Nat} {s : Value} {D : List Nat} (h : Row w base s D) : Row w.drew base s D := h
theorem Rd.drew {w : World} {base : Nat} {A : Option Addr} {D : List Nat} (h : Rd w base A D) : Rd w.drew base A D := h
theorem row_nil (w : World) (base : Nat) : Row w base (.slice none 0 0) [] :=
  ⟨none, 0, rfl, Nat.le_refl _, Nat.zero_le _, fun _ => rfl, fun _ e => by cases e⟩
theorem Row.keep {S : Nat → Prop} {w w' : World} {base : Nat} {s : Value} {D : List Nat} (h : Row w base s D) (t : Turns S w w') (hs : ∀ g, s.ownBlock = some g → ¬ S g) : Row w' base s D := by
  obtain ⟨A, cap, rfl, h1, h2, h3, h4⟩ := h
  refine ⟨A, cap, rfl, h1, h2, h3, fun ad e => ?_⟩
  obtain ⟨g, o, rfl, hb, hg, hl, hc⟩ := h4 ad e
  have hn := hs g (by rw [e]; rfl)
  exact ⟨g, o, rfl, hb, Nat.lt_of_lt_of_le hg t.size, fun i hi => (t.cell hg hn).trans (hl i hi), fun j hj => ⟨by rw [t.cell hg hn]; exact (hc j hj).1, (t.frozen hg hn).trans (hc j hj).2⟩⟩
theorem Row.lt {w : World} {base : Nat} {s : Value} {D : List Nat} (h : Row w base s D) : ∀ g, s.ownBlock = some g → base ≤ g ∧ g < w.heap.size := by
  obtain ⟨A, cap, rfl, h1, h2, h3, h4⟩ := h
  intro g hg
  cases A with
  | none => simp [Value.ownBlock] at hg
  | some ad =>
    obtain ⟨g', o, rfl, hb, hlt, _⟩ := h4 ad rfl
    have : g' = g := by simpa [Value.ownBlock] using hg
    subst this
    exact ⟨hb, hlt⟩
theorem Row.rd {w : World} {base : Nat} {A : Option Addr} {n cap : Nat} {D : List Nat} (h : Row w base (.slice A n cap) D) : Rd w w.heap.size A D := fun hp => by
  obtain ⟨A', cap', e, h1, h2, h3, h4⟩ := h
  cases e
  cases A with
  | none => have := h3 rfl; omega
  | some ad =>
    obtain ⟨g, o, rfl, hb, hlt, hl, _⟩ := h4 ad rfl
    exact ⟨g, o, rfl, hlt, hl⟩
theorem info23p : (Tryz.prog.info? 29).map (fun i => (i.zero, i.size, i.bytes)) = some (some (.int .u64 0), 1, 8) := by kernel_rfl
theorem info23 : ∃ i, Tryz.prog.info? 29 = some i ∧ i.zero = some (.int .u64 0) ∧ i.size = 1 ∧ i.bytes = 8 := by
  have h := info23p
  cases e : Tryz.prog.info? 29 with
  | none => rw [e] at h; cases h
  | some i =>
    rw [e] at h
    simp at h
    exact ⟨i, rfl, h.1, h.2.1, h.2.2⟩
theorem len_uv (D : List Nat) : (D.map uv).length = D.length := List.length_map ..
theorem one_uv (D : List Nat) : ∀ u ∈ D.map uv, u.oneCell' = true := fun u hu => by
  obtain ⟨_, _, rfl⟩ := List.mem_map.1 hu
  rfl
theorem get_uv {D : List Nat} {j : Nat} (h : j < D.length) : (D.map uv)[j]? = some (uv D[j]!) := by
  rw [List.getElem?_map, List.getElem?_eq_getElem h, getElem!_pos D j h]; rfl
theorem add_none (b o n : Nat) : (⟨b, o, none⟩ : Addr).add n = ⟨b, o + n, none⟩ := by unfold Addr.add; split <;> simp_all
theorem Rd.src {w : World} {base : Nat} {A : Option Addr} {E : List Nat} (h : Rd w base A E) (c : Nat) : Src Tryz.prog 1 30 (.slice A E.length c) E.length (E.map uv) w := by
  cases E with
  | nil =>
    cases A with
    | none => exact Src.ofNil w Tryz.underlying30 c
    | some ad => exact Src.ofSlice w Tryz.underlying30 ad 0 c [] rfl (fun j u e => by simp at e) (fun u hu => by cases hu)
  | cons d D =>
    obtain ⟨g, o, rfl, _, hl⟩ := h (by simp)
    refine Src.ofSlice w Tryz.underlying30 _ _ c _ (by simp) (fun j u e => ?_) (one_uv _)
    have hj : j < (d :: D).length := by
      have := (List.getElem?_eq_some_iff.1 e).1
      simpa using this
    rw [add_none, hl j hj, ← e, get_uv hj]
theorem get_app {D E : List Nat} {i : Nat} (h : i < D.length) : (D ++ E)[i]! = D[i]! := by
  rw [getElem!_pos _ i (by simp; omega), getElem!_pos _ i h, List.getElem_append_left h]
theorem get_app2 {D E : List Nat} {i : Nat} (h : D.length ≤ i) (h2 : i < D.length + E.length) : (D ++ E)[i]! = E[i - D.length]! := by
  rw [getElem!_pos _ i (by simp; omega), getElem!_pos _ (i - D.length) (by omega), List.getElem_append_right h]
theorem some_setCells (b : Nat) : ∀ (vs : List Value) (o : Nat) (w : World) (x : Addr), (w.cell? x).isSome = true → ((w.setCells b o vs).cell? x).isSome = true
  | [], _, _, _, h => h
  | v :: r, o, w, x, h => by
    refine some_setCells b r (o + 1) _ x ?_
    by_cases e : (⟨b, o, none⟩ : Addr) = x
    · subst e
      obtain ⟨u, hu⟩ := Option.isSome_iff_exists.1 h
      rw [World.cell?_setCell_same _ _ _ hu]; rfl
    · rw [World.cell?_setCell_other _ _ _ _ (fun e' => e (by rw [e']))]; exact h
theorem size_setCells' (b : Nat) : ∀ (vs : List Value) (o : Nat) (w : World), (w.setCells b o vs).heap.size = w.heap.size
  | [], _, _ => rfl
  | v :: r, o, w => by rw [World.setCells, size_setCells' b r]; simp [World.setCell]
theorem row_append {w : World} {base : Nat} {s : Value} {D : List Nat} (h : Row w base s D) (hbase : base ≤ w.heap.size) {b2 : Nat} {A : Option Addr} {E : List Nat} (c : Nat) (hr : Rd w b2 A E) (hlen : D.length + E.length ≤ 3000000) (ty : TypeId) :
    ∃ s' w', (Builtin.append_ #[30, 30] ty #[s, .slice A E.length c]).run Tryz.prog w = .ok s' w' ∧ Row w' base s' (D ++ E) ∧ Turns (fun k => s.ownBlock = some k) w w' ∧ (s'.ownBlock = s.ownBlock ∨ s'.ownBlock = some w.heap.size) := by
  obtain ⟨i, hi, hz, hsz, hby⟩ := info23
  obtain ⟨B, cap, rfl, h1, h2, h3, h4⟩ := h
  have hs := hr.src c
  rw [← hsz] at hs
  by_cases hE : E.length = 0
  · obtain rfl : E = [] := List.eq_nil_of_length_eq_zero hE
    refine ⟨_, w, run_append_nothing w 30 30 ty 29 i Tryz.underlying30 hi B D.length cap h1 _ hs, ?_, Turns.refl _ _, .inl rfl⟩
    rw [List.append_nil]
    exact ⟨B, cap, rfl, h1, h2, h3, h4⟩
  · have hmax : D.length + E.length ≤ maxLen := by unfold maxLen; omega
    by_cases hroom : D.length + E.length ≤ cap
    · cases B with
      | none => have := h3 rfl; omega
      | some ad =>
        obtain ⟨g, o, rfl, hb, hlt, hl, hc⟩ := h4 ad rfl
        have hlu := len_uv E
        have hrun := run_append_room_src (P := Tryz.prog) w 30 30 ty 29 i Tryz.underlying30 hi g o D.length cap _ E.length (E.map uv) hs hroom
          (fun j hj => by rw [hsz, Nat.mul_one, Nat.add_assoc]; exact (hc (D.length + j) (by omega)).1) (fun j hj => by rw [hsz, Nat.mul_one, Nat.add_assoc]; exact (hc (D.length + j) (by omega)).2)
        rw [hsz, Nat.mul_one] at hrun
        refine ⟨_, _, hrun, ?_, Turns.setCells (S := fun k => (Value.slice (some ⟨g, o, none⟩) D.length cap).ownBlock = some k) (Turns.refl _ w) g rfl _ _, .inl rfl⟩
        refine ⟨some ⟨g, o, none⟩, cap, by rw [List.length_append], by rw [List.length_append]; exact hroom, h2, (fun e => by cases e), fun ad e => ?_⟩
        cases e
        refine ⟨g, o, rfl, hb, by rw [size_setCells']; exact hlt, fun k hk => ?_, fun j hj => ⟨some_setCells _ _ _ _ _ (hc j hj).1, by rw [World.frozen?_setCells]; exact (hc j hj).2⟩⟩
        rw [List.length_append] at hk
        by_cases hkd : k < D.length
        · rw [World.cell?_setCells_out _ _ _ _ _ (fun _ _ => .inl (by show o + k < _; omega)), get_app hkd]
          exact hl k hkd
        · have hin := World.cell?_setCells_in g (E.map uv) (o + D.length) w (fun j hj => by rw [Nat.add_assoc]; exact (hc (D.length + j) (by omega)).1) (k - D.length) (by omega)
          rw [show o + D.length + (k - D.length) = o + k by omega] at hin
          rw [hin, get_app2 (by omega) hk]
          have := get_uv (D := E) (j := k - D.length) (by omega)
          rw [List.getElem?_eq_getElem (by omega)] at this
          exact this
    · have hold : (Builtin.firstCells i.size D.length (.slice B D.length cap)).run Tryz.prog w.drew = .ok (D.map uv).toArray w.drew := by
        have hr2 : Rd w.drew w.heap.size B D := Row.rd (w := w.drew) (base := base) (cap := cap) ⟨B, cap, rfl, h1, h2, h3, h4⟩
        have := (hr2.src cap).cells
        rwa [hsz]
      have hlu := len_uv E
      have hld := len_uv D
      have hge := grownCap_ge w (D.length + E.length) cap 29
      have hcm := grownCap_le_maxLen w (D.length + E.length) cap 29 hmax
      have hrun := run_append_grow_src (P := Tryz.prog) w 30 30 ty 29 i (.int .u64 0) Tryz.underlying30 hi hz B D.length cap (D.map uv) hold _ E.length (E.map uv) hs (by omega) (by omega) (growslice_fits (by omega) (by rw [hby]; omega))
      have hnew := heap_alloc_new w.drew (.cells ((D.map uv ++ E.map uv).toArray ++ Builtin.zeroCells (Value.int .u64 0).cells (grownCap w (D.length + E.length) cap 29 - (D.length + E.length))) 29)
      rw [show w.drew.heap.size = w.heap.size from rfl] at hnew
      refine ⟨_, _, hrun, ?_, ((Turns.refl _ w).drew).alloc _, .inr rfl⟩
      generalize grownCap w (D.length + E.length) cap 29 = cc at *
      have hzs : (Builtin.zeroCells (Value.int .u64 0).cells (cc - (D.length + E.length))).size = cc - (D.length + E.length) := by rw [size_zeroCells]; simp [Value.cells]
      refine ⟨_, cc, by rw [List.length_append], by rw [List.length_append]; exact hge, hcm, (fun e => by cases e), fun ad e => ?_⟩
      cases e
      refine ⟨w.heap.size, 0, rfl, hbase, by simp, fun k hk => ?_, fun j hj => ⟨?_, froz_row hnew _⟩⟩
      · rw [cell_row hnew, Nat.zero_add, ← List.map_append]
        rw [List.length_append] at hk
        rw [Array.getElem?_append_left (by simp; omega)]
        simp only [List.getElem?_toArray]
        exact get_uv (by simp; omega)
      · rw [cell_row hnew, Nat.zero_add]
        have : j < ((D.map uv ++ E.map uv).toArray ++ Builtin.zeroCells (Value.int .u64 0).cells (cc - (D.length + E.length))).size := by
          rw [Array.size_append, hzs]; simp; omega
        rw [Array.getElem?_eq_getElem this]; rfl
end Go.Proofs.YtpmafdggbeppcaaGreatDoor.S3
