/- Texts of this seat, one behind the other. -/
import Derived.Test.YtokplfkhpjcfcaaGreatMLawAny151
import Derived.Test.YtokplfkhpjcfcaaGreatMLawAny159
import Derived.Deep.RegionHeld3
import Derived.Deep.DeepCutAuto
set_option linter.unusedVariables false
set_option linter.unusedSimpArgs false
set_option linter.unusedVariables false
set_option linter.unusedSimpArgs false
namespace Go.Proofs.YtokplfkhpjcfcaaGreat.S2
set_option maxRecDepth 100000
set_option maxHeartbeats 16000000
open Go.Proofs.YtokplfkhpjcfcaaGreat
open Go.RowKit Go.Maps
theorem cell_turns {S : Nat → Prop} {xb o : Nat} {v : Value} {w w' : World} (h : w.cell? ⟨xb, o, none⟩ = some v) (t : Turns S w w') (hn : ¬ S xb) : w'.cell? ⟨xb, o, none⟩ = some v :=
  (World.cell?_of_block (w := w) (t.block xb (World.block_lt_of_cell? w _ h) hn)).trans h
theorem turns_drew (S : Nat → Prop) (w : World) : Turns S w w.drew := Turns.of_below ((Below.refl _ _).drew)
end Go.Proofs.YtokplfkhpjcfcaaGreat.S2
namespace Go.Proofs.YtokplfkhpjcfcaaGreat.S2
set_option maxRecDepth 100000
set_option maxHeartbeats 16000000
open Go.Proofs.YtokplfkhpjcfcaaGreat
open Go.RowKit Go.Maps
theorem neq50 (k a x y : Int) (w : World) : (binOp .neq 227 (.agg #[.int .u8 k, .int .u32 a, .int .u64 x, .int .u64 y]) (.agg #[.int .u8 k, .int .u32 a, .int .u64 x, .int .u64 y])).run Tryz.prog w = .ok (.bool false) w := by
  simp [go_sem, Tryz.underlying227]
theorem Both.new {w w' : World} {base B R : Nat} {L : LL} {n k a was is : Nat} (h : Both w base B R L n k a was is) (b : Below w.heap.size w w') : Both w' base B R L n k a was is := by
  obtain ⟨h1, h2, h3, h4, h5, M, s, c, r, hm, hs⟩ := h
  exact ⟨Nat.le_trans h1 b.size, h2, h3, h4, h5, M, s, c.kept (Turns.of_below (S := fun _ => False) b) (fun _ _ e => e), r.kept (Turns.of_below (S := fun _ => False) b) (fun e => e) (fun _ _ e => e), hm, hs⟩
def Told2 (w : World) (L : LL) (e : Ending) (w' : World) : Prop := ∃ p, e = .returned (.slice p L.length L.length) ∧ (0 < L.length → ∃ g, p = some ⟨g, 0, none⟩ ∧ w.heap.size ≤ g ∧ g < w'.heap.size ∧ Go.Sort.HoldsK encW 2 w' g 0 L.toArray) ∧ Below w.heap.size w w'
theorem tells_2 {w w' : World} {L : LL} {e : Ending} (h : Tells w L e w') : Told2 w L e w' := by
  rcases h with ⟨rfl, rfl, rfl⟩ | ⟨hp, g, rfl, h1, h2, h3, h4⟩
  · exact ⟨none, rfl, fun h => by simp at h, Below.refl _ _⟩
  · exact ⟨_, rfl, fun _ => ⟨g, rfl, h1, h2, h3⟩, h4⟩
theorem holds_pair {w : World} {g : Nat} {L : LL} (h : Go.Sort.HoldsK encW 2 w g 0 L.toArray) (i : Nat) (hi : i < L.length) : w.cell? ⟨g, i * 2, none⟩ = some (.int .u32 (L[i]!).1) ∧ w.cell? ⟨g, i * 2 + 1, none⟩ = some (.int .u64 (L[i]!).2) := by
  have h0 := (h.cell (i := i) (c := 0) (by simpa using hi) (by omega)).1
  have h1 := (h.cell (i := i) (c := 1) (by simpa using hi) (by omega)).1
  simp only [Nat.zero_add, Nat.add_zero] at h0 h1
  have e : L.toArray[i]! = L[i]! := by simp
  rw [e] at h0 h1
  exact ⟨h0, h1⟩
theorem keepR {w1 w w' : World} {R n k a was is len cap : Nat} {p0 : Option Addr} (hb : Below w.heap.size w w') (hR : R < w1.heap.size)
    (h : w.cell? ⟨R, 0, none⟩ = some (.slice p0 len cap) ∧ w.cell? ⟨R, 1, none⟩ = some (.int .i64 n) ∧ w.cell? ⟨R, 2, none⟩ = some (.int .u8 k) ∧ w.cell? ⟨R, 3, none⟩ = some (.int .u32 a) ∧ w.cell? ⟨R, 4, none⟩ = some (.int .u64 was) ∧ w.cell? ⟨R, 5, none⟩ = some (.int .u64 is) ∧ Below w1.heap.size w1 w) :
    w'.cell? ⟨R, 0, none⟩ = some (.slice p0 len cap) ∧ w'.cell? ⟨R, 1, none⟩ = some (.int .i64 n) ∧ w'.cell? ⟨R, 2, none⟩ = some (.int .u8 k) ∧ w'.cell? ⟨R, 3, none⟩ = some (.int .u32 a) ∧ w'.cell? ⟨R, 4, none⟩ = some (.int .u64 was) ∧ w'.cell? ⟨R, 5, none⟩ = some (.int .u64 is) ∧ Below w1.heap.size w1 w' := by
  obtain ⟨c0, c1, c2, c3, c4, c5, hl⟩ := h
  have hr : R < w.heap.size := Nat.lt_of_lt_of_le hR hl.size
  exact ⟨(hb.cell (by exact hr)).trans c0, (hb.cell (by exact hr)).trans c1, (hb.cell (by exact hr)).trans c2, (hb.cell (by exact hr)).trans c3, (hb.cell (by exact hr)).trans c4, (hb.cell (by exact hr)).trans c5, hl.trans (hb.mono hl.size)⟩
theorem same_any (w : World) (base B R : Nat) (L : LL) (n k a was is : Nat) (hb : Both w base B R L n k a was is) : Calls Tryz.prog 52 #[Pt B, Pt R] w fun e w' => e = .returned (.bool true) ∧ Below w.heap.size w w' := by
  obtain ⟨hbase, fb, fr, hne, byt, M, s, c0, r0, hm, hs⟩ := hb
  have hwd := (words_any w B M L n k a was is c0).mono fun _ _ h => tells_2 h
  have hlen := c0.good.length
  have HWD := Lib.hid hwd; have C0 := Lib.hid c0; have R0 := Lib.hid r0
  clear hm hs c0 r0 byt hne fb fr hwd
  go_enter Tryz.func52, Tryz.ntmps52
  go_wp2_with fail
  refine HWD.out.mono ?_
  rintro e w1 ⟨p, rfl, hp, hb1⟩
  have cW := C0.out.kept (Turns.of_below (S := fun _ => False) hb1) (fun _ _ e => e)
  have rW := R0.out.kept (Turns.of_below (S := fun _ => False) hb1) (fun e => e) (fun _ _ e => e)
  have hR := rW.lt
  obtain ⟨p0, cap, rfl, hp0⟩ := row_slice rW.own
  have e0 : w1.cell? ⟨R, 0, none⟩ = some (.slice p0 L.length cap) := cell_row rW.row 0
  have e1 : w1.cell? ⟨R, 1, none⟩ = some (.int .i64 n) := cell_row rW.row 1
  have e2 : w1.cell? ⟨R, 2, none⟩ = some (.int .u8 k) := cell_row rW.row 2
  have e3 : w1.cell? ⟨R, 3, none⟩ = some (.int .u32 a) := cell_row rW.row 3
  have e4 : w1.cell? ⟨R, 4, none⟩ = some (.int .u64 was) := cell_row rW.row 4
  have e5 : w1.cell? ⟨R, 5, none⟩ = some (.int .u64 is) := cell_row rW.row 5
  have HB1 := Lib.hid hb1; have HPP := Lib.hid hp; have HP0 := Lib.hid hp0; have CW := Lib.hid cW; have RW := Lib.hid rW; have E0 := Lib.hid e0
  have hn50 := neq50 k a was is
  clear hb1 hp hp0 cW rW
  go_upto_region 2 with (fail)
  refine wp_region_held_drew (S := fun w' => w'.cell? ⟨R, 0, none⟩ = some (.slice p0 L.length cap) ∧ w'.cell? ⟨R, 1, none⟩ = some (.int .i64 n) ∧ w'.cell? ⟨R, 2, none⟩ = some (.int .u8 k) ∧ w'.cell? ⟨R, 3, none⟩ = some (.int .u32 a) ∧ w'.cell? ⟨R, 4, none⟩ = some (.int .u64 was) ∧ w'.cell? ⟨R, 5, none⟩ = some (.int .u64 is) ∧ Below w1.heap.size w1 w') (by kernel_rfl) ?_ (fun hHeld => ?_)
  · exact ⟨e0, e1, e2, e3, e4, e5, (Below.refl _ _).drew⟩
  refine tA 0 ⟨some 9, .move (.tmp 0), 96, "law.go:93", #[], none⟩ ?vs0 ?rs0
  (try simp only [Act.put, tC, tD, tE])
  refine tA 2 ⟨some 11, .move (.tmp 1), 105, "law.go:93", #[], none⟩ ?vs2 ?rs2
  (try simp only [Act.put, tC, tD, tE])
  refine tA 3 ⟨some 12, .nilCheck (.tmp 11), 0, "law.go:93", #[⟨2, .data⟩], none⟩ ?vs3 ?rs3
  (try simp only [Act.put, tC, tD, tE])
  refine tA 4 ⟨some 13, .fieldAddr 230 (.tmp 12) 1, 0, "law.go:93", #[⟨3, .data⟩], none⟩ ?vs4 ?rs4
  (try simp only [Act.put, tC, tD, tE])
  refine tA 5 ⟨some 14, .load 3 (.tmp 13), 3, "law.go:93", #[⟨4, .data⟩], none⟩ ?vs5 ?rs5
  (try simp only [Act.put, tC, tD, tE])
  refine wpAnyH_ready (rs := [1]) (by kernel_rfl) (by simp) ?_
  refine AllReadyH.cons (o := ⟨some 10, .call ⟨.value (.func 103), #[.tmp 9], #[96]⟩, 3, "law.go:93", #[⟨0, .data⟩], none⟩) rfl (fun K hK => ?_) AllReadyH.nil
  go_simp
  (refine (count_any _ B M L n k a was is (CW.out.kept (Turns.of_below (S := fun _ => False) hHeld.2.2.2.2.2.2) (fun _ _ e => e))).mono ?_; rintro e w2 ⟨rfl, rfl⟩)
  refine hK.out _ _ ?_ (fun hHeld => ?_)
  · exact hHeld
  clear hK K
  (try simp only [Act.put, tC, tD, tE])
  refine tA 6 ⟨some 15, .binOp .neq 3 (.tmp 10) (.tmp 14) 3, 4, "law.go:93", #[⟨1, .data⟩, ⟨5, .data⟩], none⟩ ?vs6 ?rs6
  (try simp only [Act.put, tC, tD, tE])
  refine tA 7 ⟨some 16, .move (.tmp 15), 4, "law.go:93", #[⟨6, .data⟩, ⟨1, .chain⟩], none⟩ ?vs7 ?rs7
  (try simp only [Act.put, tC, tD, tE])
  refine tA 8 ⟨some 17, .move (.tmp 0), 96, "law.go:93", #[⟨7, .guard⟩], some (7, false)⟩ ?vs8 ?rs8
  (try simp only [Act.put, tC, tD, tE])
  refine tA 10 ⟨some 19, .move (.tmp 1), 105, "law.go:93", #[⟨7, .guard⟩], some (7, false)⟩ ?vs10 ?rs10
  (try simp only [Act.put, tC, tD, tE])
  refine tA 11 ⟨some 20, .nilCheck (.tmp 19), 0, "law.go:93", #[⟨10, .data⟩, ⟨7, .guard⟩], some (7, false)⟩ ?vs11 ?rs11
  (try simp only [Act.put, tC, tD, tE])
  refine tA 12 ⟨some 21, .fieldAddr 230 (.tmp 20) 2, 0, "law.go:93", #[⟨11, .data⟩, ⟨7, .guard⟩], some (7, false)⟩ ?vs12 ?rs12
  (try simp only [Act.put, tC, tD, tE])
  refine tA 13 ⟨some 22, .load 227 (.tmp 21), 227, "law.go:93", #[⟨12, .data⟩, ⟨7, .guard⟩], some (7, false)⟩ ?vs13 ?rs13
  (try simp only [Act.put, tC, tD, tE])
  refine wpAnyH_ready (rs := [9]) (by kernel_rfl) (by simp) ?_
  refine AllReadyH.cons (o := ⟨some 18, .call ⟨.value (.func 99), #[.tmp 17], #[96]⟩, 227, "law.go:93", #[⟨8, .data⟩, ⟨7, .chain⟩, ⟨7, .guard⟩], some (7, false)⟩) rfl (fun K hK => ?_) AllReadyH.nil
  go_simp
  (refine (last_any _ B M L n k a was is (CW.out.kept (Turns.of_below (S := fun _ => False) hHeld.2.2.2.2.2.2) (fun _ _ e => e))).mono ?_; rintro e w2 ⟨rfl, hb2⟩)
  refine hK.out _ _ ?_ (fun hHeld => ?_)
  · exact keepR hb2 hR hHeld
  clear hK K
  (try simp only [Act.put, tC, tD, tE])
  refine tA 14 ⟨some 23, .binOp .neq 227 (.tmp 18) (.tmp 22) 227, 4, "law.go:93", #[⟨9, .data⟩, ⟨13, .data⟩, ⟨7, .guard⟩], some (7, false)⟩ ?vs14 ?rs14
  (try simp only [Act.put, tC, tD, tE])
  refine tA 15 ⟨some 24, .pick (.tmp 16) (.const (.bool true)) (.tmp 23), 4, "law.go:93", #[⟨7, .data⟩, ⟨14, .data⟩], none⟩ ?vs15 ?rs15
  (try simp only [Act.put, tC, tD, tE])
  refine tA 16 ⟨some 25, .move (.tmp 24), 4, "law.go:93", #[⟨15, .data⟩, ⟨9, .chain⟩], none⟩ ?vs16 ?rs16
  (try simp only [Act.put, tC, tD, tE])
  refine tA 17 ⟨some 26, .move (.tmp 5), 231, "law.go:93", #[⟨16, .guard⟩], some (16, false)⟩ ?vs17 ?rs17
  (try simp only [Act.put, tC, tD, tE])
  refine tA 18 ⟨some 27, .call ⟨.builtin .len, #[.tmp 26], #[231]⟩, 3, "law.go:93", #[⟨17, .data⟩, ⟨16, .guard⟩], some (16, false)⟩ ?vs18 ?rs18
  (try simp only [Act.put, tC, tD, tE])
  refine tA 19 ⟨some 28, .move (.tmp 1), 105, "law.go:93", #[⟨16, .guard⟩], some (16, false)⟩ ?vs19 ?rs19
  (try simp only [Act.put, tC, tD, tE])
  refine tA 20 ⟨some 29, .nilCheck (.tmp 28), 0, "law.go:93", #[⟨19, .data⟩, ⟨16, .guard⟩], some (16, false)⟩ ?vs20 ?rs20
  (try simp only [Act.put, tC, tD, tE])
  refine tA 21 ⟨some 30, .fieldAddr 230 (.tmp 29) 0, 0, "law.go:93", #[⟨20, .data⟩, ⟨16, .guard⟩], some (16, false)⟩ ?vs21 ?rs21
  (try simp only [Act.put, tC, tD, tE])
  refine tA 22 ⟨some 31, .load 173 (.tmp 30), 173, "law.go:93", #[⟨21, .data⟩, ⟨16, .guard⟩], some (16, false)⟩ ?vs22 ?rs22
  (try simp only [Act.put, tC, tD, tE])
  refine tA 23 ⟨some 32, .call ⟨.builtin .len, #[.tmp 31], #[173]⟩, 3, "law.go:93", #[⟨22, .data⟩, ⟨16, .guard⟩], some (16, false)⟩ ?vs23 ?rs23
  (try simp only [Act.put, tC, tD, tE])
  refine tA 24 ⟨some 33, .binOp .neq 3 (.tmp 27) (.tmp 32) 3, 4, "law.go:93", #[⟨18, .data⟩, ⟨23, .data⟩, ⟨16, .guard⟩], some (16, false)⟩ ?vs24 ?rs24
  (try simp only [Act.put, tC, tD, tE])
  refine tA 25 ⟨some 34, .pick (.tmp 25) (.const (.bool true)) (.tmp 33), 4, "law.go:93", #[⟨16, .data⟩, ⟨24, .data⟩], none⟩ ?vs25 ?rs25
  (try simp only [Act.put, tC, tD, tE])
  refine wpAnyH_done (by kernel_rfl) ?_ _
  have hb2 := hHeld.2.2.2.2.2.2
  have HB2 := Lib.hid hb2
  clear e0 e1 e2 e3 e4 e5 hn50 hb2
  go_wp2_with fail
  go_loopg [6] L.length (fun q s6 wx => ∃ t : Nat, t ≤ L.length ∧ q = L.length - t ∧ s6 = .int .i64 t ∧ Below w1.heap.size w1 wx)
  case atStart => exact ⟨0, by omega, rfl, rfl, HB2.out⟩
  case round =>
    obtain ⟨t, ht, rfl, rfl, hbx⟩ := hrel
    have HBX := Lib.hid hbx
    clear hbx
    by_cases htl : t < L.length
    · obtain ⟨g, rfl, hg1, hg2, hH⟩ := HPP.out (by omega)
      obtain ⟨g', rfl⟩ := HP0.out (by omega)
      have hg'l : g' < w1.heap.size := (RW.out.own.lt g' rfl).2
      obtain ⟨l1, l2⟩ := holds_pair hH t htl
      obtain ⟨m1, m2⟩ := row_pair RW.out.own t htl
      have x0 := (HBX.out.cell (p := ⟨R, 0, none⟩) (by exact hR)).trans E0.out
      have x1 := (HBX.out.cell (p := ⟨g, t * 2, none⟩) (by exact hg2)).trans l1
      have x2 := (HBX.out.cell (p := ⟨g, t * 2 + 1, none⟩) (by exact hg2)).trans l2
      have x3 := (HBX.out.cell (p := ⟨g', t * 2, none⟩) (by exact hg'l)).trans m1
      have x4 := (HBX.out.cell (p := ⟨g', t * 2 + 1, none⟩) (by exact hg'l)).trans m2
      generalize (L[t]!).1 = y1 at *
      generalize (L[t]!).2 = y2 at *
      have z1 : ((y1 : Int) != (y1 : Int)) = false := by simp
      clear l1 l2 m1 m2 hH
      go_upto_region 7 with (fail)
      go_quiet (fail)
      go_wp2_with fail
      go_roundg (L.length - (t + 1))
      case measure => omega
      case rel => exact ⟨t + 1, by omega, rfl, by go_num, HBX.out.trans ⟨rfl, rfl, rfl, Nat.le_refl _, fun _ _ => rfl⟩⟩
    · go_wp2_with fail
      go_ret
      exact ⟨rfl, HB1.out.trans (HBX.out.mono HB1.out.size)⟩
end Go.Proofs.YtokplfkhpjcfcaaGreat.S2
namespace Go.Proofs.YtokplfkhpjcfcaaGreat.S2
set_option maxRecDepth 100000
set_option maxHeartbeats 16000000
open Go.Proofs.YtokplfkhpjcfcaaGreat
open Go.RowKit Go.Maps
def WIn (w : World) (base : Nat) (p : Option Addr) (n : Nat) (A V : Nat → Nat) : Prop := 0 < n → ∃ lb lo, p = some ⟨lb, lo, none⟩ ∧ lb < base ∧ ∀ i, i < n → (w.cell? ⟨lb, lo + i * 2, none⟩ = some (.int .u32 (A i)) ∧ w.cell? ⟨lb, lo + i * 2 + 1, none⟩ = some (.int .u64 (V i)))
def WOk (n : Nat) (A V : Nat → Nat) : Prop := ∀ i, i < n → A i < 4294967296 ∧ V i < 18446744073709551616
theorem WIn.below {w w' : World} {base b : Nat} {p : Option Addr} {n : Nat} {A V : Nat → Nat} (h : WIn w base p n A V) (hb : Below b w w') (hbb : base ≤ b) : WIn w' base p n A V := by
  intro hn
  obtain ⟨lb, lo, e, hl, hc⟩ := h hn
  exact ⟨lb, lo, e, hl, fun i hi => ⟨(hb.cell (by show lb < b; omega)).trans (hc i hi).1, (hb.cell (by show lb < b; omega)).trans (hc i hi).2⟩⟩
def newL (A V : Nat → Nat) : Nat → LL
  | 0 => []
  | k + 1 => putL (newL A V k) (A k) (bring (A k) (V k))
theorem new_any (p : Option Addr) (n c : Nat) (A V : Nat → Nat) (hn : n ≤ 100) (hok : WOk n A V) (w : World) (hin : WIn w w.heap.size p n A V) :
    Calls Tryz.prog 75 #[.slice p n c] w fun e w' => e = .returned (Pt w.heap.size) ∧ St w' w.heap.size w.heap.size (newL A V n) 0 0 0 0 0 ∧ Below w.heap.size w w' := by
  have s0 : St (w.alloc (.cells #[.map none, .int .i64 0, .int .u8 0, .int .u32 0, .int .u64 0, .int .u64 0] 265)) w.heap.size w.heap.size [] 0 0 0 0 0 := ⟨by simp, Nat.le_refl _, none, ⟨good_nil, heap_alloc_new w _, fun _ => rfl, fun m e => by cases e⟩, fun m e => by cases e⟩
  have hb0 : Below w.heap.size w (w.alloc (.cells #[.map none, .int .i64 0, .int .u8 0, .int .u32 0, .int .u64 0, .int .u64 0] 265)) := (Below.refl _ _).alloc (Nat.le_refl _) _
  have S0 := Lib.hid s0; have B0 := Lib.hid hb0; have HIN := Lib.hid hin; have HOK := Lib.hid hok
  clear s0 hb0 hin hok
  go_enter Tryz.func75, Tryz.ntmps75
  go_wp2_with fail
  go_loopg [10] n (fun q s10 wx => ∃ k : Nat, k ≤ n ∧ q = n - k ∧ s10 = .int .i64 k ∧ St wx w.heap.size w.heap.size (newL A V k) 0 0 0 0 0 ∧ Below w.heap.size w wx)
  case atStart => exact ⟨0, by omega, rfl, rfl, S0.out, B0.out⟩
  case round =>
    obtain ⟨k, hk, rfl, rfl, hst, hb⟩ := hrel
    have HST := Lib.hid hst; have HB := Lib.hid hb
    clear hst
    by_cases hkn : k < n
    · obtain ⟨lb, lo, rfl, hlb, hc⟩ := HIN.out.below hb (Nat.le_refl _) (by omega)
      obtain ⟨d0, d1⟩ := hc k hkn
      obtain ⟨hA, hV⟩ := HOK.out k hkn
      clear hc hb
      go_upto_region 5 with (fail)
      obtain ⟨M, cM, mM⟩ := HST.out.own
      have x0 : (wr.alloc (.cells #[.int .u32 (A k), .int .u64 (V k)] 181)).cell? ⟨wr.heap.size, 0, none⟩ = some (.int .u32 (A k)) := by rw [World.cell?_alloc_at _ _ _ _ rfl]; rfl
      have x1 : (wr.alloc (.cells #[.int .u32 (A k), .int .u64 (V k)] 181)).cell? ⟨wr.heap.size, 1, none⟩ = some (.int .u64 (V k)) := by rw [World.cell?_alloc_at _ _ _ _ rfl]; rfl
      have hxF : ¬ Fp w.heap.size M wr.heap.size := fun h => by have := cM.lt _ h; omega
      have ba : Below wr.heap.size wr (wr.alloc (.cells #[.int .u32 (A k), .int .u64 (V k)] 181)).drew := ((Below.refl _ _).alloc (Nat.le_refl _) _).drew
      have cD := cM.kept (Turns.of_below (S := fun _ => False) ba) (fun _ _ h => h)
      have hL : newL A V (k + 1) = putL (newL A V k) (A k) (bring (A k) (V k)) := rfl
      have HL := Lib.hid hL; have XF := Lib.hid hxF; have BA := Lib.hid ba; have CD := Lib.hid cD; have MM := Lib.hid mM
      have hsz := HST.out.size
      clear hL hxF ba cD cM mM d0 d1
      generalize (wr.alloc (.cells #[.int .u32 (A k), .int .u64 (V k)] 181)) = wz at *
      refine wp_region_held_drew (S := fun w' => w'.cell? ⟨wr.heap.size, 0, none⟩ = some (.int .u32 (A k)) ∧ w'.cell? ⟨wr.heap.size, 1, none⟩ = some (.int .u64 (V k))) (by kernel_rfl) ?_ (fun hHeld => ?_)
      · exact ⟨x0, x1⟩
      refine tA 0 ⟨some 14, .move (.tmp 3), 96, "cells.go:51", #[], none⟩ ?vn0 ?rn0
      (try simp only [Act.put, tC, tD, tE])
      refine tA 1 ⟨some 15, .fieldAddr 181 (.tmp 5) 0, 0, "cells.go:51", #[], none⟩ ?vn1 ?rn1
      (try simp only [Act.put, tC, tD, tE])
      refine tA 2 ⟨some 16, .load 24 (.tmp 15), 24, "cells.go:51", #[⟨1, .data⟩], none⟩ ?vn2 ?rn2
      (try simp only [Act.put, tC, tD, tE])
      refine tA 3 ⟨some 17, .fieldAddr 181 (.tmp 5) 0, 0, "cells.go:51", #[], none⟩ ?vn3 ?rn3
      (try simp only [Act.put, tC, tD, tE])
      refine tA 4 ⟨some 18, .load 24 (.tmp 17), 24, "cells.go:51", #[⟨3, .data⟩], none⟩ ?vn4 ?rn4
      (try simp only [Act.put, tC, tD, tE])
      refine tA 5 ⟨some 19, .fieldAddr 181 (.tmp 5) 1, 0, "cells.go:51", #[], none⟩ ?vn5 ?rn5
      (try simp only [Act.put, tC, tD, tE])
      refine tA 6 ⟨some 20, .load 22 (.tmp 19), 22, "cells.go:51", #[⟨5, .data⟩], none⟩ ?vn6 ?rn6
      (try simp only [Act.put, tC, tD, tE])
      refine wpAnyH_ready (rs := [7]) (by kernel_rfl) (by simp) ?_
      refine AllReadyH.cons (o := ⟨some 21, .call ⟨.value (.func 127), #[.tmp 18, .tmp 20], #[24, 22]⟩, 22, "cells.go:51", #[⟨4, .data⟩, ⟨6, .data⟩], none⟩) rfl (fun K hK => ?_) AllReadyH.nil
      go_simp
      (refine (brought_any (A k) (V k) hA hV _).mono ?_; rintro e w1 ⟨rfl, rfl⟩)
      refine hK.out _ _ ?_ (fun hHeld => ?_)
      · exact hHeld
      clear hK K
      (try simp only [Act.put, tC, tD, tE])
      refine wpAnyH_ready (rs := [8]) (by kernel_rfl) (by simp) ?_
      refine AllReadyH.cons (o := ⟨some 22, .call ⟨.value (.func 126), #[.tmp 14, .tmp 16, .tmp 21], #[96, 24, 22]⟩, 0, "cells.go:51", #[⟨0, .data⟩, ⟨2, .data⟩, ⟨7, .data⟩, ⟨7, .chain⟩], none⟩) rfl (fun K hK => ?_) AllReadyH.nil
      go_simp
      (refine (set_any _ w.heap.size M (newL A V k) 0 0 0 0 0 (A k) (bring (A k) (V k)) CD.out hA (bring_lt hV)).mono ?_; rintro e w2 ⟨rfl, M', hc2, hs2, ht2⟩)
      refine hK.out _ _ ?_ (fun hHeld => ?_)
      · exact ⟨cell_turns hHeld.1 ht2 XF.out, cell_turns hHeld.2 ht2 XF.out⟩
      clear hK K
      (try simp only [Act.put, tC, tD, tE])
      refine wpAnyH_done (by kernel_rfl) ?_ _
      have hl : Left wz.drew w2 w.heap.size M (putL (newL A V k) (A k) (bring (A k) (V k))) 0 0 0 0 0 := ⟨M', hc2, hs2, ht2⟩
      have hst2 := St.left ((HST.out).new BA.out) MM.out hl
      have HST2 := Lib.hid hst2
      clear hst2 hl hc2 hs2 ht2 x0 x1
      go_wp2_with fail
      go_roundg (n - (k + 1))
      case measure => omega
      case rel => exact ⟨k + 1, by omega, rfl, by go_num, by rw [HL.out]; exact HST2.out.1, (HB.out.trans (BA.out.mono hsz)).trans HST2.out.2⟩
    · obtain rfl : k = n := by omega
      go_wp2_with fail
      go_ret
      exact ⟨rfl, HST.out, HB.out⟩
end Go.Proofs.YtokplfkhpjcfcaaGreat.S2
