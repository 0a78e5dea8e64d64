/- NotesNames. -/
import Derived.Test.YtoefgfolokcdhaaDoorD1
import Derived.Deep.RegionHeld3
namespace Go.Proofs.YtoefgfolokcdhaaDoor
open Go.RowKit

/-- A note in a block of its own. -/
def NtBox (w : World) (X : Nat) (n : Nt) : Prop := w.cell? ⟨X, 0, none⟩ = some (.int .i64 n.s) ∧ w.cell? ⟨X, 1, none⟩ = some (.int .i64 n.t) ∧ w.cell? ⟨X, 2, none⟩ = some (.int .u8 (n.k : Int)) ∧ w.cell? ⟨X, 3, none⟩ = some (.int .u32 n.a) ∧ w.cell? ⟨X, 4, none⟩ = some (.int .i64 n.o) ∧ w.cell? ⟨X, 5, none⟩ = some (.int .u32 n.b) ∧ w.cell? ⟨X, 6, none⟩ = some (.int .u64 n.v)
theorem NtBox.below {w w' : World} {X b : Nat} {n : Nt} (h : NtBox w X n) (hb : Below b w w') (hX : X < b) : NtBox w' X n :=
  ⟨(hb.cell (by exact hX)).trans h.1, (hb.cell (by exact hX)).trans h.2.1, (hb.cell (by exact hX)).trans h.2.2.1, (hb.cell (by exact hX)).trans h.2.2.2.1, (hb.cell (by exact hX)).trans h.2.2.2.2.1, (hb.cell (by exact hX)).trans h.2.2.2.2.2.1, (hb.cell (by exact hX)).trans h.2.2.2.2.2.2⟩
theorem NtBox.kept {S : Nat → Prop} {w w' : World} {X : Nat} {n : Nt} (h : NtBox w X n) (t : Turns S w w') (hX : X < w.heap.size) (hn : ¬ S X) : NtBox w' X n :=
  ⟨(t.cell hX hn).trans h.1, (t.cell hX hn).trans h.2.1, (t.cell hX hn).trans h.2.2.1, (t.cell hX hn).trans h.2.2.2.1, (t.cell hX hn).trans h.2.2.2.2.1, (t.cell hX hn).trans h.2.2.2.2.2.1, (t.cell hX hn).trans h.2.2.2.2.2.2⟩
theorem NtBox.new (w : World) (n : Nt) : NtBox (w.alloc (.cells (nb .u8 n) 37)) w.heap.size n := by
  have h := heap_alloc_new w (.cells (nb .u8 n) 37)
  exact ⟨cell_row h 0, cell_row h 1, cell_row h 2, cell_row h 3, cell_row h 4, cell_row h 5, cell_row h 6⟩
set_option maxHeartbeats 4000000 in
set_option maxRecDepth 100000 in
theorem law_names (k : Nat) (hk : k < 256) (n : Nt) (hnk : n.k < 256) (w : World) (hT : Tab w) : Calls Tryd.prog 4 #[.int .u8 (k : Int), ag .u8 n] w fun e w' => e = .returned (.bool true) ∧ Below w.heap.size w w' := by
  have hb : Below w.heap.size w (w.alloc (.cells (nb .u8 n) 37)) := (Below.refl _ _).alloc (Nat.le_refl _) _
  have hx := NtBox.new w n
  have hT0 := hT.below hb hT.1
  have hq := name_any k hk _ hT0
  have hr := fun W => rname_any k hk W
  have hl := lot_any k hk
  have hrl := rlot_any k hk
  have hwr : IntKind.i64.wrap (k : Int) = k := by rw [IntKind.wrap_i64]; omega
  have hltX : w.heap.size < (w.alloc (.cells (nb .u8 n) 37)).heap.size := by simp
  have HLTX := Lib.hid hltX
  have HT := Lib.hid hT; have HB := Lib.hid hb; have HX := Lib.hid hx; have HQ := Lib.hid hq; have HR := Lib.hid hr; have HL := Lib.hid hl; have HRL := Lib.hid hrl
  clear hT hb hx hT0 hq hr hl hrl hltX
  generalize nmS k = x at *
  generalize lotB k = y at *
  go_enter Tryd.func4, Tryd.ntmps4
  go_upto_region 2 with (fail)
  generalize hX : w.heap.size = X at *
  generalize w.alloc (.cells (nb .u8 n) 37) = wb at *
  have HXX := Lib.hid hX
  clear hX
  go_upto_region 5 with (first
    | (go_at_call 16; refine HQ.out.mono ?_; rintro e w1 ⟨rfl, rfl⟩)
    | (go_at_call 17; refine (HR.out _).mono ?_; rintro e w1 ⟨rfl, hb1⟩; (have HB1 := Lib.hid hb1); (have hx1 := HX.out.below hb1 HLTX.out); (obtain ⟨m0, m1, m2, m3, m4, m5, m6⟩ := hx1); (clear hb1))
    | (go_at_call 18; refine (HL.out _).mono ?_; rintro e w2 ⟨rfl, rfl⟩)
    | (go_at_call 19; refine (HRL.out _).mono ?_; rintro e w2 ⟨rfl, rfl⟩)
    | (go_at_call 9; refine (add_nil _ n).mono ?_; rintro e w2 ⟨rfl, hb2⟩; (have HB2 := Lib.hid hb2); (clear hb2))
    | (go_at_call 12; refine (count_nil _).mono ?_; rintro e w3 ⟨rfl, rfl⟩)
    | (go_at_call 13; refine (all_nil _).mono ?_; rintro e w3 ⟨rfl, rfl⟩)
    | (go_at_call 14; refine (since_nil _ _).mono ?_; rintro e w3 ⟨rfl, rfl⟩))
  have hXb : X < wb.heap.size := HLTX.out
  have hb2 : Below X w w2 := HB.out.trans ((HB1.out.mono (Nat.le_of_lt hXb)).trans (HB2.out.mono (by have := HB1.out.size; omega)))
  have hx2 : NtBox w2 X n := (HX.out.below HB1.out hXb).below HB2.out (by have := HB1.out.size; omega)
  have hX2 : X < w2.heap.size := by have := HB1.out.size; have := HB2.out.size; omega
  have htw := Two.first w2 (w2.alloc (.cells #[.slice none 0 0] 52)) w2.heap.size (LAt.first 52 .u8 w2) (by simp)
  have hx3 : NtBox ((w2.alloc (.cells #[.slice none 0 0] 52)).alloc (.cells #[.slice none 0 0] 29)) X n := (hx2.below (below1 _ _) hX2).below (below1 _ _) (by simp; omega)
  have hb3 : Below X w ((w2.alloc (.cells #[.slice none 0 0] 52)).alloc (.cells #[.slice none 0 0] 29)) := (hb2.alloc (Nat.le_of_lt hX2) _).alloc (by simp; omega) _
  clear hb2 hx2 HB1 HB2 HX HLTX HQ HR HL HRL HB hXb
  go_upto_region 6 with (fail)
  rw [show (w2.alloc (.cells #[.slice none 0 0] 52)).heap.size = w2.heap.size + 1 by simp] at htw
  have HXB := Lib.hid hX2
  have hbs : w2.heap.size ≤ ((w2.alloc (.cells #[.slice none 0 0] 52)).alloc (.cells #[.slice none 0 0] 29)).heap.size := by simp; omega
  clear hX2 m0 m1 m2 m3 m4 m5 m6
  generalize (w2.alloc (.cells #[.slice none 0 0] 52)).alloc (.cells #[.slice none 0 0] 29) = w3 at *
  obtain ⟨q, hq⟩ : ∃ q, q = w2.heap.size + 1 := ⟨_, rfl⟩
  rw [← hq] at htw ⊢
  clear hq
  obtain ⟨b0, hb0⟩ : ∃ b0, b0 = w2.heap.size := ⟨_, rfl⟩
  rw [← hb0] at htw HXB hbs ⊢
  clear hb0
  have hpos : 0 < X := by have := HT.out.1; rw [HXX.out] at this; exact this
  have hadd := add_any htw.l.drew hbs (HT.out.below hb3.drew hpos) n hnk (by simp)
  have hradd := fun W t (hr : LAt 29 .i64 W b0 q t []) (hs : b0 ≤ W.heap.size) => radd_any hr hs n hnk (by simp)
  have hfl : (addD [] n).length ≤ 1 := (addD_len [] n).2
  have hfk : ∀ d ∈ addD [] n, d.k < 256 := addD_k (fun d hd => by cases hd) hnk
  generalize addD [] n = F at *
  generalize addE [] n = E at *
  have HTW := Lib.hid htw; have HNX := Lib.hid hx3; have HB3 := Lib.hid hb3; have HBS := Lib.hid hbs; have HX0 := Lib.hid hpos; have HADD := Lib.hid hadd; have HRADD := Lib.hid hradd; have HFL := Lib.hid hfl; have HFK := Lib.hid hfk
  clear htw hx3 hb3 hbs hpos hadd hradd hfl hfk
  refine wp_region_held_drew (S := fun w' => (w'.cell? ⟨X, 0, none⟩ = some (.int .i64 n.s) ∧ w'.cell? ⟨X, 1, none⟩ = some (.int .i64 n.t) ∧ w'.cell? ⟨X, 2, none⟩ = some (.int .u8 (n.k : Int)) ∧ w'.cell? ⟨X, 3, none⟩ = some (.int .u32 n.a) ∧ w'.cell? ⟨X, 4, none⟩ = some (.int .i64 n.o) ∧ w'.cell? ⟨X, 5, none⟩ = some (.int .u32 n.b) ∧ w'.cell? ⟨X, 6, none⟩ = some (.int .u64 n.v)) ∧ Below X w w') (by kernel_rfl) ?_ (fun hHeld => ?_)
  · exact ⟨HNX.out, HB3.out.drew⟩
  refine wpAnyH_take (i := 0) (oi := ({ dst := some 47, op := Op.load 37 (Operand.tmp 3), type := 37, pos := "law.go:46", after := #[], guard := none } : Oper)) (v := ?va0) rfl (by kernel_rfl) (by kernel_rfl) (by kernel_rfl) (fun _ _ _ h => h) (Or.inl ⟨by rfl, fun w hSw => ?hya0⟩) (by assumption) ?ra0
  case hya0 => (try dsimp only at hSw); go_simp; (try with_reducible rfl)
  (try simp only [Act.put, List.setIfInBounds_toArray, List.set_cons_zero, List.set_cons_succ])
  refine wpAnyH_take (i := 2) (oi := ({ dst := some 49, op := Op.move (Operand.tmp 7), type := 26, pos := "law.go:46", after := #[], guard := none } : Oper)) (v := ?va2) rfl (by kernel_rfl) (by kernel_rfl) (by kernel_rfl) (fun _ _ _ h => h) (Or.inl ⟨by rfl, fun w hSw => ?hya2⟩) (by assumption) ?ra2
  case hya2 => (try dsimp only at hSw); go_simp; (try with_reducible rfl)
  (try simp only [Act.put, List.setIfInBounds_toArray, List.set_cons_zero, List.set_cons_succ])
  refine wpAnyH_take (i := 3) (oi := ({ dst := some 50, op := Op.load 37 (Operand.tmp 3), type := 37, pos := "law.go:46", after := #[], guard := none } : Oper)) (v := ?va3) rfl (by kernel_rfl) (by kernel_rfl) (by kernel_rfl) (fun _ _ _ h => h) (Or.inl ⟨by rfl, fun w hSw => ?hya3⟩) (by assumption) ?ra3
  case hya3 => (try dsimp only at hSw); go_simp; (try with_reducible rfl)
  (try simp only [Act.put, List.setIfInBounds_toArray, List.set_cons_zero, List.set_cons_succ])
  refine wpAnyH_ready (rs := [1]) (by kernel_rfl) (by simp) ?_
  refine AllReadyH.cons (o := ({ dst := some 48, op := Op.call { callee := Callee.value (Operand.func 9), args := #[Operand.tmp 6, Operand.tmp 47], argTypes := #[52, 37] }, type := 30, pos := "law.go:46", after := #[{ on := 0, ground := Ground.data }], guard := none } : Oper)) rfl (fun Kq hKq => ?_) AllReadyH.nil
  go_simp
  (refine HADD.out.mono ?_; rintro e w4 ⟨rfl, hl4⟩; have hb4 := hl4.step HTW.out.drew.l HBS.out; obtain ⟨s4, two4⟩ := HTW.out.drew.addL hl4)
  refine hKq.out _ _ ?_ (fun hHeld => ?_)
  · exact ⟨NtBox.below hHeld.1 hb4 HXB.out, hHeld.2.trans (hb4.mono (Nat.le_of_lt HXB.out))⟩
  clear hKq Kq
  (try simp only [Act.put, List.setIfInBounds_toArray, List.set_cons_zero, List.set_cons_succ])
  refine wpAnyH_ready (rs := [4]) (by kernel_rfl) (by simp) ?_
  refine AllReadyH.cons (o := ({ dst := some 51, op := Op.call { callee := Callee.value (Operand.func 11), args := #[Operand.tmp 50], argTypes := #[37] }, type := 40, pos := "law.go:46", after := #[{ on := 3, ground := Ground.data }, { on := 1, ground := Ground.chain }], guard := none } : Oper)) rfl (fun Kq hKq => ?_) AllReadyH.nil
  go_simp
  (refine (other_any n hnk _).mono ?_; rintro e w5 ⟨rfl, hb5⟩; have two5 := two4.new hb5)
  refine hKq.out _ _ ?_ (fun hHeld => ?_)
  · exact ⟨NtBox.below hHeld.1 hb5 (by have := two4.l.lt; have := two4.l.low; have := HXB.out; omega), hHeld.2.trans (hb5.mono (by have := two4.l.lt; have := two4.l.low; have := HXB.out; omega))⟩
  clear hKq Kq
  (try simp only [Act.put, List.setIfInBounds_toArray, List.set_cons_zero, List.set_cons_succ])
  refine wpAnyH_ready (rs := [5]) (by kernel_rfl) (by simp) ?_
  refine AllReadyH.cons (o := ({ dst := some 52, op := Op.call { callee := Callee.value (Operand.func 10), args := #[Operand.tmp 49, Operand.tmp 51], argTypes := #[26, 40] }, type := 30, pos := "law.go:46", after := #[{ on := 2, ground := Ground.data }, { on := 4, ground := Ground.data }, { on := 4, ground := Ground.chain }], guard := none } : Oper)) rfl (fun Kq hKq => ?_) AllReadyH.nil
  go_simp
  (refine (HRADD.out _ _ two5.r (by have := two5.l.lt; have := two5.l.low; omega)).mono ?_; rintro e w6 ⟨rfl, hl6⟩; have hb6 := hl6.step two5.r (by have := two5.l.lt; have := two5.l.low; omega); obtain ⟨t6, two6⟩ := two5.addR hl6; obtain ⟨A6, c6, ht6, hc6, hc69, hrd6⟩ := two6.rd; subst ht6)
  refine hKq.out _ _ ?_ (fun hHeld => ?_)
  · exact ⟨NtBox.below hHeld.1 hb6 HXB.out, hHeld.2.trans (hb6.mono (Nat.le_of_lt HXB.out))⟩
  clear hKq Kq
  (try simp only [Act.put, List.setIfInBounds_toArray, List.set_cons_zero, List.set_cons_succ])
  have HS6 : Hid (X < w6.heap.size ∧ q < w6.heap.size) := Lib.hid ⟨by have := two6.l.lt; have := two6.l.low; have := HXB.out; omega, two6.r.lt⟩
  refine wpAnyH_more (S' := fun w' => ((w'.cell? ⟨X, 0, none⟩ = some (.int .i64 n.s) ∧ w'.cell? ⟨X, 1, none⟩ = some (.int .i64 n.t) ∧ w'.cell? ⟨X, 2, none⟩ = some (.int .u8 (n.k : Int)) ∧ w'.cell? ⟨X, 3, none⟩ = some (.int .u32 n.a) ∧ w'.cell? ⟨X, 4, none⟩ = some (.int .i64 n.o) ∧ w'.cell? ⟨X, 5, none⟩ = some (.int .u32 n.b) ∧ w'.cell? ⟨X, 6, none⟩ = some (.int .u64 n.v)) ∧ Below X w w') ∧ w'.cell? ⟨q, 0, none⟩ = some (.slice A6 F.length c6) ∧ Below w6.heap.size w6 w') (fun _ h => h.1) _ _ _ _ ?_
  have hHeld : (fun w' => ((w'.cell? ⟨X, 0, none⟩ = some (.int .i64 n.s) ∧ w'.cell? ⟨X, 1, none⟩ = some (.int .i64 n.t) ∧ w'.cell? ⟨X, 2, none⟩ = some (.int .u8 (n.k : Int)) ∧ w'.cell? ⟨X, 3, none⟩ = some (.int .u32 n.a) ∧ w'.cell? ⟨X, 4, none⟩ = some (.int .i64 n.o) ∧ w'.cell? ⟨X, 5, none⟩ = some (.int .u32 n.b) ∧ w'.cell? ⟨X, 6, none⟩ = some (.int .u64 n.v)) ∧ Below X w w') ∧ w'.cell? ⟨q, 0, none⟩ = some (.slice A6 F.length c6) ∧ Below w6.heap.size w6 w') w6 := ⟨hHeld, two6.r.cell, Below.refl _ _⟩
  refine wpAnyH_take (i := 6) (oi := ({ dst := some 53, op := Op.binOp BinOp.eql 30 (Operand.tmp 48) (Operand.tmp 52) 30, type := 4, pos := "law.go:46", after := #[{ on := 1, ground := Ground.data }, { on := 5, ground := Ground.data }], guard := none } : Oper)) (v := ?va6) rfl (by kernel_rfl) (by kernel_rfl) (by kernel_rfl) (fun _ _ _ h => h) (Or.inl ⟨by rfl, fun w hSw => ?hya6⟩) (by assumption) ?ra6
  case hya6 => (try dsimp only at hSw); go_simp; (try with_reducible rfl)
  (try simp only [Act.put, List.setIfInBounds_toArray, List.set_cons_zero, List.set_cons_succ])
  refine wpAnyH_take (i := 7) (oi := ({ dst := some 54, op := Op.move (Operand.tmp 53), type := 4, pos := "law.go:46", after := #[{ on := 6, ground := Ground.data }, { on := 5, ground := Ground.chain }], guard := none } : Oper)) (v := ?va7) rfl (by kernel_rfl) (by kernel_rfl) (by kernel_rfl) (fun _ _ _ h => h) (Or.inl ⟨by rfl, fun w hSw => ?hya7⟩) (by assumption) ?ra7
  case hya7 => (try dsimp only at hSw); go_simp; (try with_reducible rfl)
  (try simp only [Act.put, List.setIfInBounds_toArray, List.set_cons_zero, List.set_cons_succ])
  refine wpAnyH_take (i := 9) (oi := ({ dst := some 56, op := Op.move (Operand.tmp 7), type := 26, pos := "law.go:46", after := #[{ on := 7, ground := Ground.guard }], guard := some (7, true) } : Oper)) (v := ?va9) rfl (by kernel_rfl) (by kernel_rfl) (by kernel_rfl) (fun _ _ _ h => h) (Or.inl ⟨by rfl, fun w hSw => ?hya9⟩) (by assumption) ?ra9
  case hya9 => (try dsimp only at hSw); go_simp; (try with_reducible rfl)
  (try simp only [Act.put, List.setIfInBounds_toArray, List.set_cons_zero, List.set_cons_succ])
  refine wpAnyH_take (i := 10) (oi := ({ dst := some 57, op := Op.nilCheck (Operand.tmp 56), type := 0, pos := "law.go:46", after := #[{ on := 9, ground := Ground.data }, { on := 7, ground := Ground.guard }], guard := some (7, true) } : Oper)) (v := ?va10) rfl (by kernel_rfl) (by kernel_rfl) (by kernel_rfl) (fun _ _ _ h => h) (Or.inl ⟨by rfl, fun w hSw => ?hya10⟩) (by assumption) ?ra10
  case hya10 => (try dsimp only at hSw); go_simp; (try with_reducible rfl)
  (try simp only [Act.put, List.setIfInBounds_toArray, List.set_cons_zero, List.set_cons_succ])
  refine wpAnyH_take (i := 11) (oi := ({ dst := some 58, op := Op.fieldAddr 29 (Operand.tmp 57) 0, type := 0, pos := "law.go:46", after := #[{ on := 10, ground := Ground.data }, { on := 7, ground := Ground.guard }], guard := some (7, true) } : Oper)) (v := ?va11) rfl (by kernel_rfl) (by kernel_rfl) (by kernel_rfl) (fun _ _ _ h => h) (Or.inl ⟨by rfl, fun w hSw => ?hya11⟩) (by assumption) ?ra11
  case hya11 => (try dsimp only at hSw); go_simp; (try with_reducible rfl)
  (try simp only [Act.put, List.setIfInBounds_toArray, List.set_cons_zero, List.set_cons_succ])
  refine wpAnyH_take (i := 12) (oi := ({ dst := some 59, op := Op.load 27 (Operand.tmp 58), type := 27, pos := "law.go:46", after := #[{ on := 11, ground := Ground.data }, { on := 7, ground := Ground.guard }], guard := some (7, true) } : Oper)) (v := ?va12) rfl (by kernel_rfl) (by kernel_rfl) (by kernel_rfl) (fun _ _ _ h => h) (Or.inl ⟨by rfl, fun w hSw => ?hya12⟩) (by assumption) ?ra12
  case hya12 => (try dsimp only at hSw); go_simp; (try with_reducible rfl)
  (try simp only [Act.put, List.setIfInBounds_toArray, List.set_cons_zero, List.set_cons_succ])
  refine wpAnyH_ready (rs := [8]) (by kernel_rfl) (by simp) ?_
  refine AllReadyH.cons (o := ({ dst := some 55, op := Op.call { callee := Callee.value (Operand.func 13), args := #[Operand.tmp 6], argTypes := #[52] }, type := 22, pos := "law.go:46", after := #[{ on := 7, ground := Ground.chain }, { on := 7, ground := Ground.guard }], guard := some (7, true) } : Oper)) rfl (fun Kq hKq => ?_) AllReadyH.nil
  go_simp
  (refine (all_any (two6.l.new hHeld.2.2) (by have := HFL.out; omega)).mono ?_; rintro e w7 ⟨A7, rfl, hr7, hb7⟩)
  refine hKq.out _ _ ?_ (fun hHeld => ?_)
  · exact ⟨⟨NtBox.below hHeld.1.1 hb7 (by have := hHeld.2.2.size; have := HS6.out.1; omega), hHeld.1.2.trans (hb7.mono (by have := hHeld.2.2.size; have := HS6.out.1; omega))⟩, (hb7.cell (p := ⟨q, 0, none⟩) (by have := hHeld.2.2.size; have := HS6.out.2; show q < _; omega)).trans hHeld.2.1, hHeld.2.2.trans (hb7.mono hHeld.2.2.size)⟩
  clear hKq Kq
  (try simp only [Act.put, List.setIfInBounds_toArray, List.set_cons_zero, List.set_cons_succ])
  refine wpAnyH_ready (rs := [13]) (by kernel_rfl) (by simp) ?_
  refine AllReadyH.cons (o := ({ dst := some 60, op := Op.call { callee := Callee.value (Operand.func 15), args := #[Operand.tmp 55, Operand.tmp 59], argTypes := #[22, 27] }, type := 4, pos := "law.go:46", after := #[{ on := 8, ground := Ground.data }, { on := 12, ground := Ground.data }, { on := 8, ground := Ground.chain }, { on := 7, ground := Ground.guard }], guard := some (7, true) } : Oper)) rfl (fun Kq hKq => ?_) AllReadyH.nil
  go_simp
  (refine (same_any _ _ hr7.rd (hrd6.below hHeld.2.2 (Nat.le_refl _)) (Nat.le_refl _) hHeld.2.2.size (by have := HFL.out; omega) HFK.out).mono ?_; rintro e w8 ⟨rfl, hb8⟩)
  refine hKq.out _ _ ?_ (fun hHeld => ?_)
  · exact ⟨⟨NtBox.below hHeld.1.1 hb8 (by have := hHeld.2.2.size; have := HS6.out.1; omega), hHeld.1.2.trans (hb8.mono (by have := hHeld.2.2.size; have := HS6.out.1; omega))⟩, (hb8.cell (p := ⟨q, 0, none⟩) (by have := hHeld.2.2.size; have := HS6.out.2; show q < _; omega)).trans hHeld.2.1, hHeld.2.2.trans (hb8.mono hHeld.2.2.size)⟩
  clear hKq Kq
  (try simp only [Act.put, List.setIfInBounds_toArray, List.set_cons_zero, List.set_cons_succ])
  refine wpAnyH_take (i := 14) (oi := ({ dst := some 61, op := Op.pick (Operand.tmp 54) (Operand.tmp 60) (Operand.const (Value.bool false)), type := 4, pos := "law.go:46", after := #[{ on := 7, ground := Ground.data }, { on := 13, ground := Ground.data }], guard := none } : Oper)) (v := ?va14) rfl (by kernel_rfl) (by kernel_rfl) (by kernel_rfl) (fun _ _ _ h => h) (Or.inl ⟨by rfl, fun w hSw => ?hya14⟩) (by assumption) ?ra14
  case hya14 => (try dsimp only at hSw); go_simp; (try with_reducible rfl)
  (try simp only [Act.put, List.setIfInBounds_toArray, List.set_cons_zero, List.set_cons_succ])
  refine wpAnyH_take (i := 15) (oi := ({ dst := some 62, op := Op.move (Operand.tmp 61), type := 4, pos := "law.go:46", after := #[{ on := 14, ground := Ground.data }, { on := 13, ground := Ground.chain }], guard := none } : Oper)) (v := ?va15) rfl (by kernel_rfl) (by kernel_rfl) (by kernel_rfl) (fun _ _ _ h => h) (Or.inl ⟨by rfl, fun w hSw => ?hya15⟩) (by assumption) ?ra15
  case hya15 => (try dsimp only at hSw); go_simp; (try with_reducible rfl)
  (try simp only [Act.put, List.setIfInBounds_toArray, List.set_cons_zero, List.set_cons_succ])
  refine wpAnyH_ready (rs := [16]) (by kernel_rfl) (by simp) ?_
  refine AllReadyH.cons (o := ({ dst := some 63, op := Op.call { callee := Callee.value (Operand.func 7), args := #[], argTypes := #[] }, type := 4, pos := "law.go:46", after := #[{ on := 15, ground := Ground.chain }, { on := 15, ground := Ground.guard }], guard := some (15, true) } : Oper)) rfl (fun Kq hKq => ?_) AllReadyH.nil
  go_simp
  (refine (lives_any _ (HT.out.below hHeld.1.2 HX0.out)).mono ?_; rintro e w9 ⟨rfl, hb9⟩)
  refine hKq.out _ _ ?_ (fun hHeld => ?_)
  · exact ⟨⟨NtBox.below hHeld.1.1 hb9 (by have := hHeld.2.2.size; have := HS6.out.1; omega), hHeld.1.2.trans (hb9.mono (by have := hHeld.2.2.size; have := HS6.out.1; omega))⟩, (hb9.cell (p := ⟨q, 0, none⟩) (by have := hHeld.2.2.size; have := HS6.out.2; show q < _; omega)).trans hHeld.2.1, hHeld.2.2.trans (hb9.mono hHeld.2.2.size)⟩
  clear hKq Kq
  (try simp only [Act.put, List.setIfInBounds_toArray, List.set_cons_zero, List.set_cons_succ])
  refine wpAnyH_take (i := 17) (oi := ({ dst := some 64, op := Op.pick (Operand.tmp 62) (Operand.tmp 63) (Operand.const (Value.bool false)), type := 4, pos := "law.go:46", after := #[{ on := 15, ground := Ground.data }, { on := 16, ground := Ground.data }], guard := none } : Oper)) (v := ?va17) rfl (by kernel_rfl) (by kernel_rfl) (by kernel_rfl) (fun _ _ _ h => h) (Or.inl ⟨by rfl, fun w hSw => ?hya17⟩) (by assumption) ?ra17
  case hya17 => (try dsimp only at hSw); go_simp; (try with_reducible rfl)
  (try simp only [Act.put, List.setIfInBounds_toArray, List.set_cons_zero, List.set_cons_succ])
  refine wpAnyH_take (i := 18) (oi := ({ dst := some 4, op := Op.assign (Operand.tmp 64), type := 4, pos := "law.go:46", after := #[{ on := 17, ground := Ground.data }, { on := 16, ground := Ground.chain }, { on := 0, ground := Ground.phase }, { on := 1, ground := Ground.phase }, { on := 2, ground := Ground.phase }, { on := 3, ground := Ground.phase }, { on := 4, ground := Ground.phase }, { on := 5, ground := Ground.phase }, { on := 6, ground := Ground.phase }, { on := 7, ground := Ground.phase }, { on := 8, ground := Ground.phase }, { on := 9, ground := Ground.phase }, { on := 10, ground := Ground.phase }, { on := 11, ground := Ground.phase }, { on := 12, ground := Ground.phase }, { on := 13, ground := Ground.phase }, { on := 14, ground := Ground.phase }, { on := 15, ground := Ground.phase }, { on := 16, ground := Ground.phase }, { on := 17, ground := Ground.phase }], guard := none } : Oper)) (v := ?va18) rfl (by kernel_rfl) (by kernel_rfl) (by kernel_rfl) (fun _ _ _ h => h) (Or.inl ⟨by rfl, fun w hSw => ?hya18⟩) (by assumption) ?ra18
  case hya18 => (try dsimp only at hSw); go_simp; (try with_reducible rfl)
  (try simp only [Act.put, List.setIfInBounds_toArray, List.set_cons_zero, List.set_cons_succ])
  refine wpAnyH_done (by kernel_rfl) ?_ _
  have HH := Lib.hid hHeld.1.2
  clear hHeld
  go_wp2_with fail
  go_ret
  exact ⟨rfl, by rw [HXX.out]; exact HH.out⟩
end Go.Proofs.YtoefgfolokcdhaaDoor
