/- NotesPlay. -/
import Derived.Test.YtoefgfolokcdhaaDoorE1
import Derived.Deep.RegionHeld3
namespace Go.Proofs.YtoefgfolokcdhaaDoor
open Go.RowKit

def Ntc (w : World) (n : Nt) (g1 o1 : Nat) : Prop := w.cell? ⟨g1, o1, none⟩ = some (.int .i64 n.s) ∧ w.cell? ⟨g1, o1 + 1, none⟩ = some (.int .i64 n.t) ∧ w.cell? ⟨g1, o1 + 2, none⟩ = some (.int .u8 (n.k : Int)) ∧ w.cell? ⟨g1, o1 + 3, none⟩ = some (.int .u32 n.a) ∧ w.cell? ⟨g1, o1 + 4, none⟩ = some (.int .i64 n.o) ∧ w.cell? ⟨g1, o1 + 5, none⟩ = some (.int .u32 n.b) ∧ w.cell? ⟨g1, o1 + 6, none⟩ = some (.int .u64 n.v)
theorem Ntc.below {w w' : World} {g1 o1 b : Nat} {n : Nt} (h : Ntc w n g1 o1) (hb : Below b w w') (hX : g1 < b) : Ntc w' n g1 o1 :=
  ⟨(hb.cell (by exact hX)).trans h.1, (hb.cell (by exact hX)).trans h.2.1, (hb.cell (by exact hX)).trans h.2.2.1, (hb.cell (by exact hX)).trans h.2.2.2.1, (hb.cell (by exact hX)).trans h.2.2.2.2.1, (hb.cell (by exact hX)).trans h.2.2.2.2.2.1, (hb.cell (by exact hX)).trans h.2.2.2.2.2.2⟩
theorem play_big (A : Option Addr) (n c : Nat) (x : Int) (hn : 200 < n) (w : World) (hT : Tab w) : Calls Tryd.prog 3 #[.slice A n c, .int .i64 x] w fun e w' => e = .returned (.bool true) ∧ Below w.heap.size w w' := by
  have hlv := lives_any w hT
  have h1 : (200 : Int) < (n : Int) := by omega
  go_enter Tryd.func3, Tryd.ntmps3
  go_wp2_with (go_at_call 7; refine hlv.mono ?_; rintro e w1 ⟨rfl, hb⟩)
  go_ret
  exact ⟨rfl, hb⟩
set_option maxHeartbeats 8000000 in
set_option maxRecDepth 100000 in
theorem law_play {A : Option Addr} {D : List Nt} (c : Nat) (x : Int) {w : World} (hT : Tab w) (hr : Rd w w.heap.size A (flat .u8 D)) (hks : ∀ d ∈ D, d.k < 256) (hlen : D.length ≤ 200) :
    Calls Tryd.prog 3 #[.slice A D.length c, .int .i64 x] w fun e w' => e = .returned (.bool true) ∧ Below w.heap.size w w' := by
  have hnew := new_any w
  have HT := Lib.hid hT; have HR := Lib.hid hr; have HKS := Lib.hid hks; have HX0 : Hid (0 < w.heap.size) := Lib.hid hT.1
  have hfirst := fun w1 (h1 : LAt 52 .u8 w1 w.heap.size w.heap.size (.slice none 0 0) []) (b1 : Below w.heap.size w w1) => Two.first w w1 w.heap.size h1 b1.size
  have HFIRST := Lib.hid hfirst
  clear hT hr hks hfirst
  obtain ⟨m, hm⟩ : ∃ m, m = D.length := ⟨_, rfl⟩
  rw [← hm] at hlen ⊢
  have HM := Lib.hid hm
  have h200 : ¬ (200 : Int) < (m : Int) := by omega
  clear hm
  go_enter Tryd.func3, Tryd.ntmps3
  go_upto_region 5 with (go_at_call 8; refine hnew.mono ?_; rintro e w1 ⟨rfl, h1, b1⟩)
  have htw := HFIRST.out _ h1 b1
  have hb1 : Below w.heap.size w (w1.alloc (.cells #[.slice none 0 0] 29)) := b1.alloc b1.size _
  have HTW0 := Lib.hid htw; have HB1 := Lib.hid hb1
  clear htw hb1 h1 b1 hnew HFIRST
  generalize hq : w1.heap.size = q at *
  have HQQ := Lib.hid hq
  clear hq
  generalize w1.alloc (.cells #[.slice none 0 0] 29) = w2 at *
  generalize hb0 : w.heap.size = b0 at *
  have HB0 := Lib.hid hb0
  clear hb0
  go_wp2_with fail
  go_loopg [7] m (fun y s7 wx => ∃ (k : Nat) (F : List Nt) (s t : Value), k ≤ m ∧ y = m - k ∧ s7 = .int .i64 (k : Int) ∧ F.length ≤ k ∧ (∀ d ∈ F, d.k < 256) ∧ Two wx b0 b0 q s t F F ∧ Below b0 w wx)
  case atStart => exact ⟨0, [], _, _, by omega, rfl, rfl, by simp, (fun d hd => by cases hd), HTW0.out, HB1.out⟩
  case round =>
    obtain ⟨k, F, s, t, hk, rfl, rfl, hFk, hFK, htw, hb⟩ := hrel
    obtain ⟨wo, rfl⟩ : ∃ wo : World, wo = wr := ⟨_, rfl⟩
    have hbs : b0 ≤ wo.heap.size := by have := htw.l.lt; have := htw.l.low; omega
    have HTW := Lib.hid htw; have HB := Lib.hid hb; have HBS := Lib.hid hbs
    have hF200 : F.length ≤ 200 := by omega
    have HFL := Lib.hid hF200
    have HFK0 := Lib.hid hFK
    clear htw hb hFK HTW0 HB1 hF200
    have HFKk := Lib.hid hFk
    clear hFk
    by_cases hkm : k < m
    · obtain ⟨g1, o1, rfl, hg1, hn1⟩ := HR.out.note (i := k) (by have := HM.out; omega)
      have hn1 : NtAt wo .u8 g1 (o1 + k * 7) D[k]! := by
        have e : ∀ j v, w.cell? ⟨g1, j, none⟩ = some v → wo.cell? ⟨g1, j, none⟩ = some v := fun j v h => (HB.out.cell (p := ⟨g1, j, none⟩) (by exact hg1)).trans h
        exact ⟨e _ _ hn1.c0, e _ _ hn1.c1, e _ _ hn1.c2, e _ _ hn1.c3, e _ _ hn1.c4, e _ _ hn1.c5, e _ _ hn1.c6⟩
      have hnk : D[k]!.k < 256 := HKS.out _ (by have := HM.out; rw [getElem!_pos D k (by omega)]; exact List.getElem_mem _)
      generalize hnn : D[k]! = n at *
      clear hnn
      have hN1 : Ntc wo n g1 (o1 + k * 7) := ⟨hn1.c0, hn1.c1, hn1.c2, hn1.c3, hn1.c4, hn1.c5, hn1.c6⟩
      have hadd := add_any HTW.out.l.drew HBS.out (HT.out.below HB.out.drew HX0.out) n hnk (by have := HFL.out; omega)
      have hradd := fun W t (hr : LAt 29 .i64 W b0 q t F) (hs : b0 ≤ W.heap.size) => radd_any hr hs n hnk (by have := HFL.out; omega)
      have hfl := addD_len F n
      have hfk := addD_k HFK0.out hnk
      obtain ⟨F2, hF2⟩ : ∃ F2, F2 = addD F n := ⟨_, rfl⟩
      obtain ⟨E, hE⟩ : ∃ E, E = addE F n := ⟨_, rfl⟩
      rw [← hF2, ← hE] at hadd
      simp only [← hF2, ← hE] at hradd
      rw [← hF2] at hfl hfk
      have hfl2 : F2.length ≤ k + 1 ∧ F2.length ≤ 200 := by have := HFKk.out; omega
      have HADD := Lib.hid hadd; have HRADD := Lib.hid hradd; have HFL2 := Lib.hid hfl2; have HFK := Lib.hid hfk; have HN1 := Lib.hid hN1; have HG1 := Lib.hid hg1; have HNK := Lib.hid hnk
      clear hadd hradd hfl hfk hfl2 hN1 hn1 hg1 hnk hF2 hE HFK0 HFKk hbs
      go_upto_region 8 with (fail)
      refine wp_region_held_drew (S := fun w' => (w'.cell? ⟨g1, o1 + k * 7, none⟩ = some (.int .i64 n.s) ∧ w'.cell? ⟨g1, o1 + k * 7 + 1, none⟩ = some (.int .i64 n.t) ∧ w'.cell? ⟨g1, o1 + k * 7 + 2, none⟩ = some (.int .u8 (n.k : Int)) ∧ w'.cell? ⟨g1, o1 + k * 7 + 3, none⟩ = some (.int .u32 n.a) ∧ w'.cell? ⟨g1, o1 + k * 7 + 4, none⟩ = some (.int .i64 n.o) ∧ w'.cell? ⟨g1, o1 + k * 7 + 5, none⟩ = some (.int .u32 n.b) ∧ w'.cell? ⟨g1, o1 + k * 7 + 6, none⟩ = some (.int .u64 n.v)) ∧ Below b0 w w') (by kernel_rfl) ?_ (fun hHeld => ?_)
      · exact ⟨HN1.out, HB.out.drew⟩
      refine wpAnyH_take (i := 0) (oi := ({ dst := some 25, op := Op.move (Operand.tmp 5), type := 24, pos := "law.go:19", after := #[], guard := none } : Oper)) (v := ?va0) rfl (by kernel_rfl) (by kernel_rfl) (by kernel_rfl) (fun _ _ _ h => h) (Or.inl ⟨by rfl, fun w hSw => ?hya0⟩) (by assumption) ?ra0
      case hya0 => (try dsimp only at hSw); go_simp; (try with_reducible rfl)
      (try simp only [Act.put, List.setIfInBounds_toArray, List.set_cons_zero, List.set_cons_succ])
      refine wpAnyH_take (i := 1) (oi := ({ dst := some 26, op := Op.move (Operand.tmp 0), type := 22, pos := "law.go:19", after := #[], guard := none } : Oper)) (v := ?va1) rfl (by kernel_rfl) (by kernel_rfl) (by kernel_rfl) (fun _ _ _ h => h) (Or.inl ⟨by rfl, fun w hSw => ?hya1⟩) (by assumption) ?ra1
      case hya1 => (try dsimp only at hSw); go_simp; (try with_reducible rfl)
      (try simp only [Act.put, List.setIfInBounds_toArray, List.set_cons_zero, List.set_cons_succ])
      refine wpAnyH_take (i := 2) (oi := ({ dst := some 27, op := Op.move (Operand.tmp 7), type := 3, pos := "law.go:19", after := #[], guard := none } : Oper)) (v := ?va2) rfl (by kernel_rfl) (by kernel_rfl) (by kernel_rfl) (fun _ _ _ h => h) (Or.inl ⟨by rfl, fun w hSw => ?hya2⟩) (by assumption) ?ra2
      case hya2 => (try dsimp only at hSw); go_simp; (try with_reducible rfl)
      (try simp only [Act.put, List.setIfInBounds_toArray, List.set_cons_zero, List.set_cons_succ])
      refine wpAnyH_take (i := 3) (oi := ({ dst := some 28, op := Op.indexAddr 22 (Operand.tmp 26) (Operand.tmp 27), type := 0, pos := "law.go:19", after := #[{ on := 1, ground := Ground.data }, { on := 2, ground := Ground.data }], guard := none } : Oper)) (v := ?va3) rfl (by kernel_rfl) (by kernel_rfl) (by kernel_rfl) (fun _ _ _ h => h) (Or.inl ⟨by rfl, fun w hSw => ?hya3⟩) (by assumption) ?ra3
      case hya3 => (try dsimp only at hSw); go_simp; (try with_reducible rfl)
      (try simp only [Act.put, List.setIfInBounds_toArray, List.set_cons_zero, List.set_cons_succ])
      refine wpAnyH_take (i := 4) (oi := ({ dst := some 29, op := Op.load 37 (Operand.tmp 28), type := 37, pos := "law.go:19", after := #[{ on := 3, ground := Ground.data }], guard := none } : Oper)) (v := ?va4) rfl (by kernel_rfl) (by kernel_rfl) (by kernel_rfl) (fun _ _ _ h => h) (Or.inl ⟨by rfl, fun w hSw => ?hya4⟩) (by assumption) ?ra4
      case hya4 => (try dsimp only at hSw); go_simp; (try with_reducible rfl)
      (try simp only [Act.put, List.setIfInBounds_toArray, List.set_cons_zero, List.set_cons_succ])
      refine wpAnyH_take (i := 6) (oi := ({ dst := some 31, op := Op.move (Operand.tmp 6), type := 26, pos := "law.go:19", after := #[], guard := none } : Oper)) (v := ?va6) rfl (by kernel_rfl) (by kernel_rfl) (by kernel_rfl) (fun _ _ _ h => h) (Or.inl ⟨by rfl, fun w hSw => ?hya6⟩) (by assumption) ?ra6
      case hya6 => (try dsimp only at hSw); go_simp; (try with_reducible rfl)
      (try simp only [Act.put, List.setIfInBounds_toArray, List.set_cons_zero, List.set_cons_succ])
      refine wpAnyH_take (i := 7) (oi := ({ dst := some 32, op := Op.move (Operand.tmp 0), type := 22, pos := "law.go:19", after := #[], guard := none } : Oper)) (v := ?va7) rfl (by kernel_rfl) (by kernel_rfl) (by kernel_rfl) (fun _ _ _ h => h) (Or.inl ⟨by rfl, fun w hSw => ?hya7⟩) (by assumption) ?ra7
      case hya7 => (try dsimp only at hSw); go_simp; (try with_reducible rfl)
      (try simp only [Act.put, List.setIfInBounds_toArray, List.set_cons_zero, List.set_cons_succ])
      refine wpAnyH_take (i := 8) (oi := ({ dst := some 33, op := Op.move (Operand.tmp 7), type := 3, pos := "law.go:19", after := #[], guard := none } : Oper)) (v := ?va8) rfl (by kernel_rfl) (by kernel_rfl) (by kernel_rfl) (fun _ _ _ h => h) (Or.inl ⟨by rfl, fun w hSw => ?hya8⟩) (by assumption) ?ra8
      case hya8 => (try dsimp only at hSw); go_simp; (try with_reducible rfl)
      (try simp only [Act.put, List.setIfInBounds_toArray, List.set_cons_zero, List.set_cons_succ])
      refine wpAnyH_take (i := 9) (oi := ({ dst := some 34, op := Op.indexAddr 22 (Operand.tmp 32) (Operand.tmp 33), type := 0, pos := "law.go:19", after := #[{ on := 7, ground := Ground.data }, { on := 8, ground := Ground.data }], guard := none } : Oper)) (v := ?va9) rfl (by kernel_rfl) (by kernel_rfl) (by kernel_rfl) (fun _ _ _ h => h) (Or.inl ⟨by rfl, fun w hSw => ?hya9⟩) (by assumption) ?ra9
      case hya9 => (try dsimp only at hSw); go_simp; (try with_reducible rfl)
      (try simp only [Act.put, List.setIfInBounds_toArray, List.set_cons_zero, List.set_cons_succ])
      refine wpAnyH_take (i := 10) (oi := ({ dst := some 35, op := Op.load 37 (Operand.tmp 34), type := 37, pos := "law.go:19", after := #[{ on := 9, ground := Ground.data }], guard := none } : Oper)) (v := ?va10) rfl (by kernel_rfl) (by kernel_rfl) (by kernel_rfl) (fun _ _ _ h => h) (Or.inl ⟨by rfl, fun w hSw => ?hya10⟩) (by assumption) ?ra10
      case hya10 => (try dsimp only at hSw); go_simp; (try with_reducible rfl)
      (try simp only [Act.put, List.setIfInBounds_toArray, List.set_cons_zero, List.set_cons_succ])
      refine wpAnyH_ready (rs := [5]) (by kernel_rfl) (by simp) ?_
      refine AllReadyH.cons (o := ({ dst := some 30, op := Op.call { callee := Callee.value (Operand.func 9), args := #[Operand.tmp 25, Operand.tmp 29], argTypes := #[24, 37] }, type := 30, pos := "law.go:19", after := #[{ on := 0, ground := Ground.data }, { on := 4, ground := Ground.data }], guard := none } : Oper)) rfl (fun Kq hKq => ?_) AllReadyH.nil
      go_simp
      (refine HADD.out.mono ?_; rintro e w4 ⟨rfl, hl4⟩; have hb4 := hl4.step HTW.out.drew.l HBS.out; obtain ⟨s4, two4⟩ := HTW.out.drew.addL hl4)
      refine hKq.out _ _ ?_ (fun hHeld => ?_)
      · exact ⟨Ntc.below hHeld.1 hb4 HG1.out, hHeld.2.trans hb4⟩
      clear hKq Kq
      (try simp only [Act.put, List.setIfInBounds_toArray, List.set_cons_zero, List.set_cons_succ])
      refine wpAnyH_ready (rs := [11]) (by kernel_rfl) (by simp) ?_
      refine AllReadyH.cons (o := ({ dst := some 36, op := Op.call { callee := Callee.value (Operand.func 11), args := #[Operand.tmp 35], argTypes := #[37] }, type := 40, pos := "law.go:19", after := #[{ on := 10, ground := Ground.data }, { on := 5, ground := Ground.chain }], guard := none } : Oper)) rfl (fun Kq hKq => ?_) AllReadyH.nil
      go_simp
      (refine (other_any n HNK.out _).mono ?_; rintro e w5 ⟨rfl, hb5⟩; have two5 := two4.new hb5)
      refine hKq.out _ _ ?_ (fun hHeld => ?_)
      · exact ⟨Ntc.below hHeld.1 hb5 (by have := two4.l.lt; have := two4.l.low; have := HG1.out; omega), hHeld.2.trans (hb5.mono (by have := two4.l.lt; have := two4.l.low; omega))⟩
      clear hKq Kq
      (try simp only [Act.put, List.setIfInBounds_toArray, List.set_cons_zero, List.set_cons_succ])
      refine wpAnyH_ready (rs := [12]) (by kernel_rfl) (by simp) ?_
      refine AllReadyH.cons (o := ({ dst := some 37, op := Op.call { callee := Callee.value (Operand.func 10), args := #[Operand.tmp 31, Operand.tmp 36], argTypes := #[26, 40] }, type := 30, pos := "law.go:19", after := #[{ on := 6, ground := Ground.data }, { on := 11, ground := Ground.data }, { on := 11, ground := Ground.chain }], guard := none } : Oper)) rfl (fun Kq hKq => ?_) AllReadyH.nil
      go_simp
      (refine (HRADD.out _ _ two5.r (by have := two5.l.lt; have := two5.l.low; omega)).mono ?_; rintro e w6 ⟨rfl, hl6⟩; have hb6 := hl6.step two5.r (by have := two5.l.lt; have := two5.l.low; omega); obtain ⟨t6, two6⟩ := two5.addR hl6; obtain ⟨A6, c6, ht6, hc6, hc69, hrd6⟩ := two6.rd; subst ht6)
      refine hKq.out _ _ ?_ (fun hHeld => ?_)
      · exact ⟨Ntc.below hHeld.1 hb6 HG1.out, hHeld.2.trans hb6⟩
      clear hKq Kq
      (try simp only [Act.put, List.setIfInBounds_toArray, List.set_cons_zero, List.set_cons_succ])
      have HS6 : Hid (g1 < w6.heap.size ∧ q < w6.heap.size ∧ b0 ≤ w6.heap.size) := Lib.hid ⟨by have := two6.l.lt; have := two6.l.low; have := HG1.out; omega, two6.r.lt, by have := two6.l.lt; have := two6.l.low; omega⟩
      refine wpAnyH_more (S' := fun w' => ((w'.cell? ⟨g1, o1 + k * 7, none⟩ = some (.int .i64 n.s) ∧ w'.cell? ⟨g1, o1 + k * 7 + 1, none⟩ = some (.int .i64 n.t) ∧ w'.cell? ⟨g1, o1 + k * 7 + 2, none⟩ = some (.int .u8 (n.k : Int)) ∧ w'.cell? ⟨g1, o1 + k * 7 + 3, none⟩ = some (.int .u32 n.a) ∧ w'.cell? ⟨g1, o1 + k * 7 + 4, none⟩ = some (.int .i64 n.o) ∧ w'.cell? ⟨g1, o1 + k * 7 + 5, none⟩ = some (.int .u32 n.b) ∧ w'.cell? ⟨g1, o1 + k * 7 + 6, none⟩ = some (.int .u64 n.v)) ∧ Below b0 w w') ∧ w'.cell? ⟨q, 0, none⟩ = some (.slice A6 F2.length c6) ∧ Below w6.heap.size w6 w') (fun _ h => h.1) _ _ _ _ ?_
      have hHeld : (fun w' => ((w'.cell? ⟨g1, o1 + k * 7, none⟩ = some (.int .i64 n.s) ∧ w'.cell? ⟨g1, o1 + k * 7 + 1, none⟩ = some (.int .i64 n.t) ∧ w'.cell? ⟨g1, o1 + k * 7 + 2, none⟩ = some (.int .u8 (n.k : Int)) ∧ w'.cell? ⟨g1, o1 + k * 7 + 3, none⟩ = some (.int .u32 n.a) ∧ w'.cell? ⟨g1, o1 + k * 7 + 4, none⟩ = some (.int .i64 n.o) ∧ w'.cell? ⟨g1, o1 + k * 7 + 5, none⟩ = some (.int .u32 n.b) ∧ w'.cell? ⟨g1, o1 + k * 7 + 6, none⟩ = some (.int .u64 n.v)) ∧ Below b0 w w') ∧ w'.cell? ⟨q, 0, none⟩ = some (.slice A6 F2.length c6) ∧ Below w6.heap.size w6 w') w6 := ⟨hHeld, two6.r.cell, Below.refl _ _⟩
      refine wpAnyH_take (i := 13) (oi := ({ dst := some 38, op := Op.binOp BinOp.neq 30 (Operand.tmp 30) (Operand.tmp 37) 30, type := 4, pos := "law.go:19", after := #[{ on := 5, ground := Ground.data }, { on := 12, ground := Ground.data }], guard := none } : Oper)) (v := ?va13) rfl (by kernel_rfl) (by kernel_rfl) (by kernel_rfl) (fun _ _ _ h => h) (Or.inl ⟨by rfl, fun w hSw => ?hya13⟩) (by assumption) ?ra13
      case hya13 => (try dsimp only at hSw); go_simp; (try with_reducible rfl)
      (try simp only [Act.put, List.setIfInBounds_toArray, List.set_cons_zero, List.set_cons_succ])
      refine wpAnyH_take (i := 14) (oi := ({ dst := some 39, op := Op.move (Operand.tmp 38), type := 4, pos := "law.go:19", after := #[{ on := 13, ground := Ground.data }, { on := 12, ground := Ground.chain }], guard := none } : Oper)) (v := ?va14) rfl (by kernel_rfl) (by kernel_rfl) (by kernel_rfl) (fun _ _ _ h => h) (Or.inl ⟨by rfl, fun w hSw => ?hya14⟩) (by assumption) ?ra14
      case hya14 => (try dsimp only at hSw); go_simp; (try with_reducible rfl)
      (try simp only [Act.put, List.setIfInBounds_toArray, List.set_cons_zero, List.set_cons_succ])
      refine wpAnyH_take (i := 15) (oi := ({ dst := some 40, op := Op.move (Operand.tmp 5), type := 24, pos := "law.go:19", after := #[{ on := 14, ground := Ground.guard }], guard := some (14, false) } : Oper)) (v := ?va15) rfl (by kernel_rfl) (by kernel_rfl) (by kernel_rfl) (fun _ _ _ h => h) (Or.inl ⟨by rfl, fun w hSw => ?hya15⟩) (by assumption) ?ra15
      case hya15 => (try dsimp only at hSw); go_simp; (try with_reducible rfl)
      (try simp only [Act.put, List.setIfInBounds_toArray, List.set_cons_zero, List.set_cons_succ])
      refine wpAnyH_take (i := 17) (oi := ({ dst := some 42, op := Op.move (Operand.tmp 6), type := 26, pos := "law.go:19", after := #[{ on := 14, ground := Ground.guard }], guard := some (14, false) } : Oper)) (v := ?va17) rfl (by kernel_rfl) (by kernel_rfl) (by kernel_rfl) (fun _ _ _ h => h) (Or.inl ⟨by rfl, fun w hSw => ?hya17⟩) (by assumption) ?ra17
      case hya17 => (try dsimp only at hSw); go_simp; (try with_reducible rfl)
      (try simp only [Act.put, List.setIfInBounds_toArray, List.set_cons_zero, List.set_cons_succ])
      refine wpAnyH_take (i := 18) (oi := ({ dst := some 43, op := Op.nilCheck (Operand.tmp 42), type := 0, pos := "law.go:19", after := #[{ on := 17, ground := Ground.data }, { on := 14, ground := Ground.guard }], guard := some (14, false) } : Oper)) (v := ?va18) rfl (by kernel_rfl) (by kernel_rfl) (by kernel_rfl) (fun _ _ _ h => h) (Or.inl ⟨by rfl, fun w hSw => ?hya18⟩) (by assumption) ?ra18
      case hya18 => (try dsimp only at hSw); go_simp; (try with_reducible rfl)
      (try simp only [Act.put, List.setIfInBounds_toArray, List.set_cons_zero, List.set_cons_succ])
      refine wpAnyH_take (i := 19) (oi := ({ dst := some 44, op := Op.fieldAddr 29 (Operand.tmp 43) 0, type := 0, pos := "law.go:19", after := #[{ on := 18, ground := Ground.data }, { on := 14, ground := Ground.guard }], guard := some (14, false) } : Oper)) (v := ?va19) rfl (by kernel_rfl) (by kernel_rfl) (by kernel_rfl) (fun _ _ _ h => h) (Or.inl ⟨by rfl, fun w hSw => ?hya19⟩) (by assumption) ?ra19
      case hya19 => (try dsimp only at hSw); go_simp; (try with_reducible rfl)
      (try simp only [Act.put, List.setIfInBounds_toArray, List.set_cons_zero, List.set_cons_succ])
      refine wpAnyH_take (i := 20) (oi := ({ dst := some 45, op := Op.load 27 (Operand.tmp 44), type := 27, pos := "law.go:19", after := #[{ on := 19, ground := Ground.data }, { on := 14, ground := Ground.guard }], guard := some (14, false) } : Oper)) (v := ?va20) rfl (by kernel_rfl) (by kernel_rfl) (by kernel_rfl) (fun _ _ _ h => h) (Or.inl ⟨by rfl, fun w hSw => ?hya20⟩) (by assumption) ?ra20
      case hya20 => (try dsimp only at hSw); go_simp; (try with_reducible rfl)
      (try simp only [Act.put, List.setIfInBounds_toArray, List.set_cons_zero, List.set_cons_succ])
      refine wpAnyH_take (i := 21) (oi := ({ dst := some 46, op := Op.call { callee := Callee.builtin Builtin.len, args := #[Operand.tmp 45], argTypes := #[27] }, type := 3, pos := "law.go:19", after := #[{ on := 20, ground := Ground.data }, { on := 14, ground := Ground.guard }], guard := some (14, false) } : Oper)) (v := ?va21) rfl (by kernel_rfl) (by kernel_rfl) (by kernel_rfl) (fun _ _ _ h => h) (Or.inl ⟨by rfl, fun w hSw => ?hya21⟩) (by assumption) ?ra21
      case hya21 => (try dsimp only at hSw); go_simp; (try with_reducible rfl)
      (try simp only [Act.put, List.setIfInBounds_toArray, List.set_cons_zero, List.set_cons_succ])
      refine wpAnyH_ready (rs := [16]) (by kernel_rfl) (by simp) ?_
      refine AllReadyH.cons (o := ({ dst := some 41, op := Op.call { callee := Callee.value (Operand.func 12), args := #[Operand.tmp 40], argTypes := #[24] }, type := 3, pos := "law.go:19", after := #[{ on := 15, ground := Ground.data }, { on := 14, ground := Ground.chain }, { on := 14, ground := Ground.guard }], guard := some (14, false) } : Oper)) rfl (fun Kq hKq => ?_) AllReadyH.nil
      go_simp
      (refine (count_any (two6.l.new hHeld.2.2)).mono ?_; rintro e w7 ⟨rfl, rfl⟩)
      refine hKq.out _ _ ?_ (fun hHeld => ?_)
      · exact hHeld
      clear hKq Kq
      (try simp only [Act.put, List.setIfInBounds_toArray, List.set_cons_zero, List.set_cons_succ])
      refine wpAnyH_take (i := 22) (oi := ({ dst := some 47, op := Op.binOp BinOp.neq 3 (Operand.tmp 41) (Operand.tmp 46) 3, type := 4, pos := "law.go:19", after := #[{ on := 16, ground := Ground.data }, { on := 21, ground := Ground.data }, { on := 14, ground := Ground.guard }], guard := some (14, false) } : Oper)) (v := ?va22) rfl (by kernel_rfl) (by kernel_rfl) (by kernel_rfl) (fun _ _ _ h => h) (Or.inl ⟨by rfl, fun w hSw => ?hya22⟩) (by assumption) ?ra22
      case hya22 => (try dsimp only at hSw); go_simp; (try with_reducible rfl)
      (try simp only [Act.put, List.setIfInBounds_toArray, List.set_cons_zero, List.set_cons_succ])
      refine wpAnyH_take (i := 23) (oi := ({ dst := some 48, op := Op.pick (Operand.tmp 39) (Operand.const (Value.bool true)) (Operand.tmp 47), type := 4, pos := "law.go:19", after := #[{ on := 14, ground := Ground.data }, { on := 22, ground := Ground.data }], guard := none } : Oper)) (v := ?va23) rfl (by kernel_rfl) (by kernel_rfl) (by kernel_rfl) (fun _ _ _ h => h) (Or.inl ⟨by rfl, fun w hSw => ?hya23⟩) (by assumption) ?ra23
      case hya23 => (try dsimp only at hSw); go_simp; (try with_reducible rfl)
      (try simp only [Act.put, List.setIfInBounds_toArray, List.set_cons_zero, List.set_cons_succ])
      refine wpAnyH_done (by kernel_rfl) ?_ _
      have HTW6 := Lib.hid two6
      have HB6 := Lib.hid hHeld.1.2
      have hall := all_any two6.l (by have := HFL2.out; omega)
      obtain ⟨kk, hkk⟩ : ∃ kk, kk = fromN F2 x := ⟨_, rfl⟩
      obtain ⟨G, hG⟩ : ∃ G, G = F2.drop kk := ⟨_, rfl⟩
      obtain ⟨mm, hmm⟩ : ∃ mm, mm = G.length := ⟨_, rfl⟩
      have hkn : kk ≤ F2.length := by rw [hkk]; unfold fromN; omega
      have hmk : F2.length - kk = mm := by rw [hmm, hG, List.length_drop]
      have hxk : min (max x 0) (F2.length : Int) = (kk : Int) := by rw [hkk]; unfold fromN; omega
      have hsince := fun W (b : Below w6.heap.size w6 W) => since_any (two6.l.new b) (by have := HFL2.out; omega) x
      unfold Told at hsince
      rw [← hkk] at hsince
      rw [← hG, ← hmm] at hsince
      have hsl := sl27 A6 F2.length c6 kk hkn hc6
      rw [hmk] at hsl
      have hrdx : ∀ W b, Rd W b A6 (flat .i64 F2) → Rd W b (fromA A6 c6 kk) (flat .i64 G) := fun W b h => by rw [hG]; exact rd_from h hc6 hkn
      have hgk : ∀ d ∈ G, d.k < 256 := fun d hd => HFK.out d (by rw [hG] at hd; exact List.mem_of_mem_drop hd)
      have hq6 : q < w6.heap.size := two6.r.lt
      have hmm200 : mm ≤ 200 := by have := HFL2.out; omega
      generalize fromA A6 c6 kk = Ax at *
      generalize c6 - kk = cx at *
      have HALL := Lib.hid hall; have HSINCE := Lib.hid hsince; have HSL := Lib.hid hsl; have HRDX := Lib.hid hrdx; have HGK := Lib.hid hgk; have HQ6 := Lib.hid hq6; have HMM := Lib.hid hmm; have HXK := Lib.hid hxk; have HM200 := Lib.hid hmm200; have HRD6 := Lib.hid hrd6
      clear hHeld two6 hall hsince hsl hrdx hgk hq6 hxk hmk hkn hkk hG hmm hmm200 hrd6 two5 two4 hl4 hl6 hb4 hb5 hb6 HADD HRADD HN1 HR HS6 HNK
      go_upto_region 12 with (first
        | (go_at_call 13; refine HALL.out.mono ?_; rintro e w8 ⟨A8, rfl, hr8, hb8⟩; (have HR8 := Lib.hid hr8); (have HB8 := Lib.hid hb8); (clear hr8 hb8))
        | (go_at_call 14; refine (HSINCE.out _ HB8.out).mono ?_; rintro e w9 ⟨A9, rfl, hr9, hb9⟩; (have HR9 := Lib.hid hr9); (have HB9 := Lib.hid hb9); (clear hr9 hb9)))
      have hb69 : Below w6.heap.size w6 w9 := HB8.out.trans (HB9.out.mono HB8.out.size)
      have two9 := HTW6.out.new hb69
      have hrd8 : Rd w9 w9.heap.size A8 (flat .u8 F2) := (HR8.out.rd.below HB9.out (Nat.le_refl _)).more HB9.out.size
      have hrd9 : Rd w9 w9.heap.size A6 (flat .i64 F2) := two9.r.own.rd
      have hrdg : Rd w9 w9.heap.size A9 (flat .u8 G) := HR9.out.rd
      have hrdh : Rd w9 w9.heap.size Ax (flat .i64 G) := HRDX.out _ _ hrd9
      have hsame2 : ∀ W, Below w9.heap.size w9 W → Calls Tryd.prog 15 #[.slice A9 mm mm, .slice Ax mm cx] W fun e w' => e = .returned (.bool true) ∧ Below W.heap.size W w' := fun W b => by
        have := same_any (D := G) mm cx (hrdg.below b (Nat.le_refl _)) (hrdh.below b (Nat.le_refl _)) b.size b.size (by have := HM200.out; have := HMM.out; omega) HGK.out
        rw [← HMM.out] at this
        exact this
      have hf8 : Free w9 w6.heap.size A8 F2.length := HR8.out.free.below HB9.out
      have hf9 : Free w9 w6.heap.size A9 mm := (HR9.out.free).base HB8.out.size
      have HC9 := Lib.hid two9.r.cell
      have HQ9 := Lib.hid two9.r.lt
      have HB69 := Lib.hid hb69; have HTR8 := Lib.hid hrd8; have HRD9 := Lib.hid hrd9; have HSAME2 := Lib.hid hsame2; have HF8 := Lib.hid hf8; have HF9 := Lib.hid hf9
      have hfl9 : F2.length ≤ 1000000 := by have := HFL2.out; omega
      have HFL9 := Lib.hid hfl9
      clear hb69 two9 hrd8 hrd9 hrdg hrdh hsame2 hf8 hf9 hfl9 HALL HSINCE HR8 HR9 HB8 HB9 HRDX
      have hxk := HXK.out
      have hsl := HSL.out
      refine wp_region_held_drew (S := fun w' => w'.cell? ⟨q, 0, none⟩ = some (.slice A6 F2.length c6) ∧ Below w9.heap.size w9 w') (by kernel_rfl) ?_ (fun hHeld => ?_)
      · exact ⟨HC9.out, (Below.refl _ _).drew⟩
      refine wpAnyH_take (i := 0) (oi := ({ dst := some 54, op := Op.move (Operand.tmp 8), type := 22, pos := "law.go:24", after := #[], guard := none } : Oper)) (v := ?vb0) rfl (by kernel_rfl) (by kernel_rfl) (by kernel_rfl) (fun _ _ _ h => h) (Or.inl ⟨by rfl, fun w hSw => ?hyb0⟩) (by assumption) ?rb0
      case hyb0 => (try dsimp only at hSw); go_simp; (try with_reducible rfl)
      (try simp only [Act.put, List.setIfInBounds_toArray, List.set_cons_zero, List.set_cons_succ])
      refine wpAnyH_take (i := 1) (oi := ({ dst := some 55, op := Op.move (Operand.tmp 6), type := 26, pos := "law.go:24", after := #[], guard := none } : Oper)) (v := ?vb1) rfl (by kernel_rfl) (by kernel_rfl) (by kernel_rfl) (fun _ _ _ h => h) (Or.inl ⟨by rfl, fun w hSw => ?hyb1⟩) (by assumption) ?rb1
      case hyb1 => (try dsimp only at hSw); go_simp; (try with_reducible rfl)
      (try simp only [Act.put, List.setIfInBounds_toArray, List.set_cons_zero, List.set_cons_succ])
      refine wpAnyH_take (i := 2) (oi := ({ dst := some 56, op := Op.nilCheck (Operand.tmp 55), type := 0, pos := "law.go:24", after := #[{ on := 1, ground := Ground.data }], guard := none } : Oper)) (v := ?vb2) rfl (by kernel_rfl) (by kernel_rfl) (by kernel_rfl) (fun _ _ _ h => h) (Or.inl ⟨by rfl, fun w hSw => ?hyb2⟩) (by assumption) ?rb2
      case hyb2 => (try dsimp only at hSw); go_simp; (try with_reducible rfl)
      (try simp only [Act.put, List.setIfInBounds_toArray, List.set_cons_zero, List.set_cons_succ])
      refine wpAnyH_take (i := 3) (oi := ({ dst := some 57, op := Op.fieldAddr 29 (Operand.tmp 56) 0, type := 0, pos := "law.go:24", after := #[{ on := 2, ground := Ground.data }], guard := none } : Oper)) (v := ?vb3) rfl (by kernel_rfl) (by kernel_rfl) (by kernel_rfl) (fun _ _ _ h => h) (Or.inl ⟨by rfl, fun w hSw => ?hyb3⟩) (by assumption) ?rb3
      case hyb3 => (try dsimp only at hSw); go_simp; (try with_reducible rfl)
      (try simp only [Act.put, List.setIfInBounds_toArray, List.set_cons_zero, List.set_cons_succ])
      refine wpAnyH_take (i := 4) (oi := ({ dst := some 58, op := Op.load 27 (Operand.tmp 57), type := 27, pos := "law.go:24", after := #[{ on := 3, ground := Ground.data }], guard := none } : Oper)) (v := ?vb4) rfl (by kernel_rfl) (by kernel_rfl) (by kernel_rfl) (fun _ _ _ h => h) (Or.inl ⟨by rfl, fun w hSw => ?hyb4⟩) (by assumption) ?rb4
      case hyb4 => (try dsimp only at hSw); go_simp; (try with_reducible rfl)
      (try simp only [Act.put, List.setIfInBounds_toArray, List.set_cons_zero, List.set_cons_succ])
      refine wpAnyH_ready (rs := [5]) (by kernel_rfl) (by simp) ?_
      refine AllReadyH.cons (o := ({ dst := some 59, op := Op.call { callee := Callee.value (Operand.func 15), args := #[Operand.tmp 54, Operand.tmp 58], argTypes := #[22, 27] }, type := 4, pos := "law.go:24", after := #[{ on := 0, ground := Ground.data }, { on := 4, ground := Ground.data }], guard := none } : Oper)) rfl (fun Kq hKq => ?_) AllReadyH.nil
      go_simp
      (refine (same_any _ _ (HTR8.out.below hHeld.2 (Nat.le_refl _)) (HRD9.out.below hHeld.2 (Nat.le_refl _)) hHeld.2.size hHeld.2.size HFL9.out HFK.out).mono ?_; rintro e wa ⟨rfl, hba⟩)
      refine hKq.out _ _ ?_ (fun hHeld => ?_)
      · exact ⟨(hba.cell (p := ⟨q, 0, none⟩) (by have := hHeld.2.size; have := HQ9.out; show q < _; omega)).trans hHeld.1, hHeld.2.trans (hba.mono hHeld.2.size)⟩
      clear hKq Kq
      (try simp only [Act.put, List.setIfInBounds_toArray, List.set_cons_zero, List.set_cons_succ])
      refine wpAnyH_take (i := 6) (oi := ({ dst := some 60, op := Op.unOp UnOp.not 4 (Operand.tmp 59), type := 4, pos := "law.go:24", after := #[{ on := 5, ground := Ground.data }], guard := none } : Oper)) (v := ?vb6) rfl (by kernel_rfl) (by kernel_rfl) (by kernel_rfl) (fun _ _ _ h => h) (Or.inl ⟨by rfl, fun w hSw => ?hyb6⟩) (by assumption) ?rb6
      case hyb6 => (try dsimp only at hSw); go_simp; (try with_reducible rfl)
      (try simp only [Act.put, List.setIfInBounds_toArray, List.set_cons_zero, List.set_cons_succ])
      refine wpAnyH_take (i := 7) (oi := ({ dst := some 61, op := Op.move (Operand.tmp 60), type := 4, pos := "law.go:24", after := #[{ on := 6, ground := Ground.data }, { on := 5, ground := Ground.chain }], guard := none } : Oper)) (v := ?vb7) rfl (by kernel_rfl) (by kernel_rfl) (by kernel_rfl) (fun _ _ _ h => h) (Or.inl ⟨by rfl, fun w hSw => ?hyb7⟩) (by assumption) ?rb7
      case hyb7 => (try dsimp only at hSw); go_simp; (try with_reducible rfl)
      (try simp only [Act.put, List.setIfInBounds_toArray, List.set_cons_zero, List.set_cons_succ])
      refine wpAnyH_take (i := 8) (oi := ({ dst := some 62, op := Op.move (Operand.tmp 9), type := 22, pos := "law.go:24", after := #[{ on := 7, ground := Ground.guard }], guard := some (7, false) } : Oper)) (v := ?vb8) rfl (by kernel_rfl) (by kernel_rfl) (by kernel_rfl) (fun _ _ _ h => h) (Or.inl ⟨by rfl, fun w hSw => ?hyb8⟩) (by assumption) ?rb8
      case hyb8 => (try dsimp only at hSw); go_simp; (try with_reducible rfl)
      (try simp only [Act.put, List.setIfInBounds_toArray, List.set_cons_zero, List.set_cons_succ])
      refine wpAnyH_take (i := 9) (oi := ({ dst := some 63, op := Op.move (Operand.tmp 6), type := 26, pos := "law.go:24", after := #[{ on := 7, ground := Ground.guard }], guard := some (7, false) } : Oper)) (v := ?vb9) rfl (by kernel_rfl) (by kernel_rfl) (by kernel_rfl) (fun _ _ _ h => h) (Or.inl ⟨by rfl, fun w hSw => ?hyb9⟩) (by assumption) ?rb9
      case hyb9 => (try dsimp only at hSw); go_simp; (try with_reducible rfl)
      (try simp only [Act.put, List.setIfInBounds_toArray, List.set_cons_zero, List.set_cons_succ])
      refine wpAnyH_take (i := 10) (oi := ({ dst := some 64, op := Op.nilCheck (Operand.tmp 63), type := 0, pos := "law.go:24", after := #[{ on := 9, ground := Ground.data }, { on := 7, ground := Ground.guard }], guard := some (7, false) } : Oper)) (v := ?vb10) rfl (by kernel_rfl) (by kernel_rfl) (by kernel_rfl) (fun _ _ _ h => h) (Or.inl ⟨by rfl, fun w hSw => ?hyb10⟩) (by assumption) ?rb10
      case hyb10 => (try dsimp only at hSw); go_simp; (try with_reducible rfl)
      (try simp only [Act.put, List.setIfInBounds_toArray, List.set_cons_zero, List.set_cons_succ])
      refine wpAnyH_take (i := 11) (oi := ({ dst := some 65, op := Op.fieldAddr 29 (Operand.tmp 64) 0, type := 0, pos := "law.go:24", after := #[{ on := 10, ground := Ground.data }, { on := 7, ground := Ground.guard }], guard := some (7, false) } : Oper)) (v := ?vb11) rfl (by kernel_rfl) (by kernel_rfl) (by kernel_rfl) (fun _ _ _ h => h) (Or.inl ⟨by rfl, fun w hSw => ?hyb11⟩) (by assumption) ?rb11
      case hyb11 => (try dsimp only at hSw); go_simp; (try with_reducible rfl)
      (try simp only [Act.put, List.setIfInBounds_toArray, List.set_cons_zero, List.set_cons_succ])
      refine wpAnyH_take (i := 12) (oi := ({ dst := some 66, op := Op.load 27 (Operand.tmp 65), type := 27, pos := "law.go:24", after := #[{ on := 11, ground := Ground.data }, { on := 7, ground := Ground.guard }], guard := some (7, false) } : Oper)) (v := ?vb12) rfl (by kernel_rfl) (by kernel_rfl) (by kernel_rfl) (fun _ _ _ h => h) (Or.inl ⟨by rfl, fun w hSw => ?hyb12⟩) (by assumption) ?rb12
      case hyb12 => (try dsimp only at hSw); go_simp; (try with_reducible rfl)
      (try simp only [Act.put, List.setIfInBounds_toArray, List.set_cons_zero, List.set_cons_succ])
      refine wpAnyH_take (i := 13) (oi := ({ dst := some 67, op := Op.move (Operand.tmp 1), type := 3, pos := "law.go:24", after := #[{ on := 7, ground := Ground.guard }], guard := some (7, false) } : Oper)) (v := ?vb13) rfl (by kernel_rfl) (by kernel_rfl) (by kernel_rfl) (fun _ _ _ h => h) (Or.inl ⟨by rfl, fun w hSw => ?hyb13⟩) (by assumption) ?rb13
      case hyb13 => (try dsimp only at hSw); go_simp; (try with_reducible rfl)
      (try simp only [Act.put, List.setIfInBounds_toArray, List.set_cons_zero, List.set_cons_succ])
      refine wpAnyH_take (i := 14) (oi := ({ dst := some 68, op := Op.call { callee := Callee.builtin Builtin.max, args := #[Operand.tmp 67, Operand.const (Value.int IntKind.i64 0)], argTypes := #[3, 3] }, type := 3, pos := "law.go:24", after := #[{ on := 13, ground := Ground.data }, { on := 7, ground := Ground.guard }], guard := some (7, false) } : Oper)) (v := ?vb14) rfl (by kernel_rfl) (by kernel_rfl) (by kernel_rfl) (fun _ _ _ h => h) (Or.inl ⟨by rfl, fun w hSw => ?hyb14⟩) (by assumption) ?rb14
      case hyb14 => (try dsimp only at hSw); go_simp; (try with_reducible rfl)
      (try simp only [Act.put, List.setIfInBounds_toArray, List.set_cons_zero, List.set_cons_succ])
      refine wpAnyH_take (i := 15) (oi := ({ dst := some 69, op := Op.move (Operand.tmp 6), type := 26, pos := "law.go:24", after := #[{ on := 7, ground := Ground.guard }], guard := some (7, false) } : Oper)) (v := ?vb15) rfl (by kernel_rfl) (by kernel_rfl) (by kernel_rfl) (fun _ _ _ h => h) (Or.inl ⟨by rfl, fun w hSw => ?hyb15⟩) (by assumption) ?rb15
      case hyb15 => (try dsimp only at hSw); go_simp; (try with_reducible rfl)
      (try simp only [Act.put, List.setIfInBounds_toArray, List.set_cons_zero, List.set_cons_succ])
      refine wpAnyH_take (i := 16) (oi := ({ dst := some 70, op := Op.nilCheck (Operand.tmp 69), type := 0, pos := "law.go:24", after := #[{ on := 15, ground := Ground.data }, { on := 7, ground := Ground.guard }], guard := some (7, false) } : Oper)) (v := ?vb16) rfl (by kernel_rfl) (by kernel_rfl) (by kernel_rfl) (fun _ _ _ h => h) (Or.inl ⟨by rfl, fun w hSw => ?hyb16⟩) (by assumption) ?rb16
      case hyb16 => (try dsimp only at hSw); go_simp; (try with_reducible rfl)
      (try simp only [Act.put, List.setIfInBounds_toArray, List.set_cons_zero, List.set_cons_succ])
      refine wpAnyH_take (i := 17) (oi := ({ dst := some 71, op := Op.fieldAddr 29 (Operand.tmp 70) 0, type := 0, pos := "law.go:24", after := #[{ on := 16, ground := Ground.data }, { on := 7, ground := Ground.guard }], guard := some (7, false) } : Oper)) (v := ?vb17) rfl (by kernel_rfl) (by kernel_rfl) (by kernel_rfl) (fun _ _ _ h => h) (Or.inl ⟨by rfl, fun w hSw => ?hyb17⟩) (by assumption) ?rb17
      case hyb17 => (try dsimp only at hSw); go_simp; (try with_reducible rfl)
      (try simp only [Act.put, List.setIfInBounds_toArray, List.set_cons_zero, List.set_cons_succ])
      refine wpAnyH_take (i := 18) (oi := ({ dst := some 72, op := Op.load 27 (Operand.tmp 71), type := 27, pos := "law.go:24", after := #[{ on := 17, ground := Ground.data }, { on := 7, ground := Ground.guard }], guard := some (7, false) } : Oper)) (v := ?vb18) rfl (by kernel_rfl) (by kernel_rfl) (by kernel_rfl) (fun _ _ _ h => h) (Or.inl ⟨by rfl, fun w hSw => ?hyb18⟩) (by assumption) ?rb18
      case hyb18 => (try dsimp only at hSw); go_simp; (try with_reducible rfl)
      (try simp only [Act.put, List.setIfInBounds_toArray, List.set_cons_zero, List.set_cons_succ])
      refine wpAnyH_take (i := 19) (oi := ({ dst := some 73, op := Op.call { callee := Callee.builtin Builtin.len, args := #[Operand.tmp 72], argTypes := #[27] }, type := 3, pos := "law.go:24", after := #[{ on := 18, ground := Ground.data }, { on := 7, ground := Ground.guard }], guard := some (7, false) } : Oper)) (v := ?vb19) rfl (by kernel_rfl) (by kernel_rfl) (by kernel_rfl) (fun _ _ _ h => h) (Or.inl ⟨by rfl, fun w hSw => ?hyb19⟩) (by assumption) ?rb19
      case hyb19 => (try dsimp only at hSw); go_simp; (try with_reducible rfl)
      (try simp only [Act.put, List.setIfInBounds_toArray, List.set_cons_zero, List.set_cons_succ])
      refine wpAnyH_take (i := 20) (oi := ({ dst := some 74, op := Op.call { callee := Callee.builtin Builtin.min, args := #[Operand.tmp 68, Operand.tmp 73], argTypes := #[3, 3] }, type := 3, pos := "law.go:24", after := #[{ on := 14, ground := Ground.data }, { on := 19, ground := Ground.data }, { on := 7, ground := Ground.guard }], guard := some (7, false) } : Oper)) (v := ?vb20) rfl (by kernel_rfl) (by kernel_rfl) (by kernel_rfl) (fun _ _ _ h => h) (Or.inl ⟨by rfl, fun w hSw => ?hyb20⟩) (by assumption) ?rb20
      case hyb20 => (try dsimp only at hSw); go_simp; (try with_reducible rfl)
      (try simp only [Act.put, List.setIfInBounds_toArray, List.set_cons_zero, List.set_cons_succ])
      refine wpAnyH_take (i := 21) (oi := ({ dst := some 75, op := Op.slice 27 (Operand.tmp 66) (some (Operand.tmp 74)) none none, type := 27, pos := "law.go:24", after := #[{ on := 12, ground := Ground.data }, { on := 20, ground := Ground.data }, { on := 7, ground := Ground.guard }], guard := some (7, false) } : Oper)) (v := ?vb21) rfl (by kernel_rfl) (by kernel_rfl) (by kernel_rfl) (fun _ _ _ h => h) (Or.inl ⟨by rfl, fun w hSw => ?hyb21⟩) (by assumption) ?rb21
      case hyb21 => (try dsimp only at hSw); go_simp; (try with_reducible rfl)
      (try simp only [Act.put, List.setIfInBounds_toArray, List.set_cons_zero, List.set_cons_succ])
      refine wpAnyH_ready (rs := [22]) (by kernel_rfl) (by simp) ?_
      refine AllReadyH.cons (o := ({ dst := some 76, op := Op.call { callee := Callee.value (Operand.func 15), args := #[Operand.tmp 62, Operand.tmp 75], argTypes := #[22, 27] }, type := 4, pos := "law.go:24", after := #[{ on := 8, ground := Ground.data }, { on := 21, ground := Ground.data }, { on := 7, ground := Ground.chain }, { on := 7, ground := Ground.guard }], guard := some (7, false) } : Oper)) rfl (fun Kq hKq => ?_) AllReadyH.nil
      go_simp
      (refine (HSAME2.out _ hHeld.2).mono ?_; rintro e wc ⟨rfl, hbc⟩)
      refine hKq.out _ _ ?_ (fun hHeld => ?_)
      · exact ⟨(hbc.cell (p := ⟨q, 0, none⟩) (by have := hHeld.2.size; have := HQ9.out; show q < _; omega)).trans hHeld.1, hHeld.2.trans (hbc.mono hHeld.2.size)⟩
      clear hKq Kq
      (try simp only [Act.put, List.setIfInBounds_toArray, List.set_cons_zero, List.set_cons_succ])
      refine wpAnyH_take (i := 23) (oi := ({ dst := some 77, op := Op.unOp UnOp.not 4 (Operand.tmp 76), type := 4, pos := "law.go:24", after := #[{ on := 22, ground := Ground.data }, { on := 7, ground := Ground.guard }], guard := some (7, false) } : Oper)) (v := ?vb23) rfl (by kernel_rfl) (by kernel_rfl) (by kernel_rfl) (fun _ _ _ h => h) (Or.inl ⟨by rfl, fun w hSw => ?hyb23⟩) (by assumption) ?rb23
      case hyb23 => (try dsimp only at hSw); go_simp; (try with_reducible rfl)
      (try simp only [Act.put, List.setIfInBounds_toArray, List.set_cons_zero, List.set_cons_succ])
      refine wpAnyH_take (i := 24) (oi := ({ dst := some 78, op := Op.pick (Operand.tmp 61) (Operand.const (Value.bool true)) (Operand.tmp 77), type := 4, pos := "law.go:24", after := #[{ on := 7, ground := Ground.data }, { on := 23, ground := Ground.data }], guard := none } : Oper)) (v := ?vb24) rfl (by kernel_rfl) (by kernel_rfl) (by kernel_rfl) (fun _ _ _ h => h) (Or.inl ⟨by rfl, fun w hSw => ?hyb24⟩) (by assumption) ?rb24
      case hyb24 => (try dsimp only at hSw); go_simp; (try with_reducible rfl)
      (try simp only [Act.put, List.setIfInBounds_toArray, List.set_cons_zero, List.set_cons_succ])
      refine wpAnyH_take (i := 25) (oi := ({ dst := some 79, op := Op.move (Operand.tmp 78), type := 4, pos := "law.go:24", after := #[{ on := 24, ground := Ground.data }, { on := 22, ground := Ground.chain }], guard := none } : Oper)) (v := ?vb25) rfl (by kernel_rfl) (by kernel_rfl) (by kernel_rfl) (fun _ _ _ h => h) (Or.inl ⟨by rfl, fun w hSw => ?hyb25⟩) (by assumption) ?rb25
      case hyb25 => (try dsimp only at hSw); go_simp; (try with_reducible rfl)
      (try simp only [Act.put, List.setIfInBounds_toArray, List.set_cons_zero, List.set_cons_succ])
      refine wpAnyH_take (i := 26) (oi := ({ dst := some 80, op := Op.move (Operand.tmp 8), type := 22, pos := "law.go:24", after := #[{ on := 25, ground := Ground.guard }], guard := some (25, false) } : Oper)) (v := ?vb26) rfl (by kernel_rfl) (by kernel_rfl) (by kernel_rfl) (fun _ _ _ h => h) (Or.inl ⟨by rfl, fun w hSw => ?hyb26⟩) (by assumption) ?rb26
      case hyb26 => (try dsimp only at hSw); go_simp; (try with_reducible rfl)
      (try simp only [Act.put, List.setIfInBounds_toArray, List.set_cons_zero, List.set_cons_succ])
      refine wpAnyH_take (i := 27) (oi := ({ dst := some 81, op := Op.call { callee := Callee.builtin Builtin.cap, args := #[Operand.tmp 80], argTypes := #[22] }, type := 3, pos := "law.go:24", after := #[{ on := 26, ground := Ground.data }, { on := 25, ground := Ground.guard }], guard := some (25, false) } : Oper)) (v := ?vb27) rfl (by kernel_rfl) (by kernel_rfl) (by kernel_rfl) (fun _ _ _ h => h) (Or.inl ⟨by rfl, fun w hSw => ?hyb27⟩) (by assumption) ?rb27
      case hyb27 => (try dsimp only at hSw); go_simp; (try with_reducible rfl)
      (try simp only [Act.put, List.setIfInBounds_toArray, List.set_cons_zero, List.set_cons_succ])
      refine wpAnyH_take (i := 28) (oi := ({ dst := some 82, op := Op.move (Operand.tmp 8), type := 22, pos := "law.go:24", after := #[{ on := 25, ground := Ground.guard }], guard := some (25, false) } : Oper)) (v := ?vb28) rfl (by kernel_rfl) (by kernel_rfl) (by kernel_rfl) (fun _ _ _ h => h) (Or.inl ⟨by rfl, fun w hSw => ?hyb28⟩) (by assumption) ?rb28
      case hyb28 => (try dsimp only at hSw); go_simp; (try with_reducible rfl)
      (try simp only [Act.put, List.setIfInBounds_toArray, List.set_cons_zero, List.set_cons_succ])
      refine wpAnyH_take (i := 29) (oi := ({ dst := some 83, op := Op.call { callee := Callee.builtin Builtin.len, args := #[Operand.tmp 82], argTypes := #[22] }, type := 3, pos := "law.go:24", after := #[{ on := 28, ground := Ground.data }, { on := 25, ground := Ground.guard }], guard := some (25, false) } : Oper)) (v := ?vb29) rfl (by kernel_rfl) (by kernel_rfl) (by kernel_rfl) (fun _ _ _ h => h) (Or.inl ⟨by rfl, fun w hSw => ?hyb29⟩) (by assumption) ?rb29
      case hyb29 => (try dsimp only at hSw); go_simp; (try with_reducible rfl)
      (try simp only [Act.put, List.setIfInBounds_toArray, List.set_cons_zero, List.set_cons_succ])
      refine wpAnyH_take (i := 30) (oi := ({ dst := some 84, op := Op.binOp BinOp.neq 3 (Operand.tmp 81) (Operand.tmp 83) 3, type := 4, pos := "law.go:24", after := #[{ on := 27, ground := Ground.data }, { on := 29, ground := Ground.data }, { on := 25, ground := Ground.guard }], guard := some (25, false) } : Oper)) (v := ?vb30) rfl (by kernel_rfl) (by kernel_rfl) (by kernel_rfl) (fun _ _ _ h => h) (Or.inl ⟨by rfl, fun w hSw => ?hyb30⟩) (by assumption) ?rb30
      case hyb30 => (try dsimp only at hSw); go_simp; (try with_reducible rfl)
      (try simp only [Act.put, List.setIfInBounds_toArray, List.set_cons_zero, List.set_cons_succ])
      refine wpAnyH_take (i := 31) (oi := ({ dst := some 85, op := Op.pick (Operand.tmp 79) (Operand.const (Value.bool true)) (Operand.tmp 84), type := 4, pos := "law.go:24", after := #[{ on := 25, ground := Ground.data }, { on := 30, ground := Ground.data }], guard := none } : Oper)) (v := ?vb31) rfl (by kernel_rfl) (by kernel_rfl) (by kernel_rfl) (fun _ _ _ h => h) (Or.inl ⟨by rfl, fun w hSw => ?hyb31⟩) (by assumption) ?rb31
      case hyb31 => (try dsimp only at hSw); go_simp; (try with_reducible rfl)
      (try simp only [Act.put, List.setIfInBounds_toArray, List.set_cons_zero, List.set_cons_succ])
      refine wpAnyH_take (i := 32) (oi := ({ dst := some 86, op := Op.move (Operand.tmp 85), type := 4, pos := "law.go:24", after := #[{ on := 31, ground := Ground.data }, { on := 25, ground := Ground.chain }], guard := none } : Oper)) (v := ?vb32) rfl (by kernel_rfl) (by kernel_rfl) (by kernel_rfl) (fun _ _ _ h => h) (Or.inl ⟨by rfl, fun w hSw => ?hyb32⟩) (by assumption) ?rb32
      case hyb32 => (try dsimp only at hSw); go_simp; (try with_reducible rfl)
      (try simp only [Act.put, List.setIfInBounds_toArray, List.set_cons_zero, List.set_cons_succ])
      refine wpAnyH_take (i := 33) (oi := ({ dst := some 87, op := Op.move (Operand.tmp 9), type := 22, pos := "law.go:24", after := #[{ on := 32, ground := Ground.guard }], guard := some (32, false) } : Oper)) (v := ?vb33) rfl (by kernel_rfl) (by kernel_rfl) (by kernel_rfl) (fun _ _ _ h => h) (Or.inl ⟨by rfl, fun w hSw => ?hyb33⟩) (by assumption) ?rb33
      case hyb33 => (try dsimp only at hSw); go_simp; (try with_reducible rfl)
      (try simp only [Act.put, List.setIfInBounds_toArray, List.set_cons_zero, List.set_cons_succ])
      refine wpAnyH_take (i := 34) (oi := ({ dst := some 88, op := Op.call { callee := Callee.builtin Builtin.cap, args := #[Operand.tmp 87], argTypes := #[22] }, type := 3, pos := "law.go:24", after := #[{ on := 33, ground := Ground.data }, { on := 32, ground := Ground.guard }], guard := some (32, false) } : Oper)) (v := ?vb34) rfl (by kernel_rfl) (by kernel_rfl) (by kernel_rfl) (fun _ _ _ h => h) (Or.inl ⟨by rfl, fun w hSw => ?hyb34⟩) (by assumption) ?rb34
      case hyb34 => (try dsimp only at hSw); go_simp; (try with_reducible rfl)
      (try simp only [Act.put, List.setIfInBounds_toArray, List.set_cons_zero, List.set_cons_succ])
      refine wpAnyH_take (i := 35) (oi := ({ dst := some 89, op := Op.move (Operand.tmp 9), type := 22, pos := "law.go:24", after := #[{ on := 32, ground := Ground.guard }], guard := some (32, false) } : Oper)) (v := ?vb35) rfl (by kernel_rfl) (by kernel_rfl) (by kernel_rfl) (fun _ _ _ h => h) (Or.inl ⟨by rfl, fun w hSw => ?hyb35⟩) (by assumption) ?rb35
      case hyb35 => (try dsimp only at hSw); go_simp; (try with_reducible rfl)
      (try simp only [Act.put, List.setIfInBounds_toArray, List.set_cons_zero, List.set_cons_succ])
      refine wpAnyH_take (i := 36) (oi := ({ dst := some 90, op := Op.call { callee := Callee.builtin Builtin.len, args := #[Operand.tmp 89], argTypes := #[22] }, type := 3, pos := "law.go:24", after := #[{ on := 35, ground := Ground.data }, { on := 32, ground := Ground.guard }], guard := some (32, false) } : Oper)) (v := ?vb36) rfl (by kernel_rfl) (by kernel_rfl) (by kernel_rfl) (fun _ _ _ h => h) (Or.inl ⟨by rfl, fun w hSw => ?hyb36⟩) (by assumption) ?rb36
      case hyb36 => (try dsimp only at hSw); go_simp; (try with_reducible rfl)
      (try simp only [Act.put, List.setIfInBounds_toArray, List.set_cons_zero, List.set_cons_succ])
      refine wpAnyH_take (i := 37) (oi := ({ dst := some 91, op := Op.binOp BinOp.neq 3 (Operand.tmp 88) (Operand.tmp 90) 3, type := 4, pos := "law.go:24", after := #[{ on := 34, ground := Ground.data }, { on := 36, ground := Ground.data }, { on := 32, ground := Ground.guard }], guard := some (32, false) } : Oper)) (v := ?vb37) rfl (by kernel_rfl) (by kernel_rfl) (by kernel_rfl) (fun _ _ _ h => h) (Or.inl ⟨by rfl, fun w hSw => ?hyb37⟩) (by assumption) ?rb37
      case hyb37 => (try dsimp only at hSw); go_simp; (try with_reducible rfl)
      (try simp only [Act.put, List.setIfInBounds_toArray, List.set_cons_zero, List.set_cons_succ])
      refine wpAnyH_take (i := 38) (oi := ({ dst := some 92, op := Op.pick (Operand.tmp 86) (Operand.const (Value.bool true)) (Operand.tmp 91), type := 4, pos := "law.go:24", after := #[{ on := 32, ground := Ground.data }, { on := 37, ground := Ground.data }], guard := none } : Oper)) (v := ?vb38) rfl (by kernel_rfl) (by kernel_rfl) (by kernel_rfl) (fun _ _ _ h => h) (Or.inl ⟨by rfl, fun w hSw => ?hyb38⟩) (by assumption) ?rb38
      case hyb38 => (try dsimp only at hSw); go_simp; (try with_reducible rfl)
      (try simp only [Act.put, List.setIfInBounds_toArray, List.set_cons_zero, List.set_cons_succ])
      refine wpAnyH_done (by kernel_rfl) ?_ _
      have hbl : Below w6.heap.size w6 wc := HB69.out.trans (hHeld.2.mono HB69.out.size)
      have hf8 := HF8.out.below hHeld.2
      have hf9 := HF9.out.below hHeld.2
      have HBL := Lib.hid hbl; have HF8 := Lib.hid hf8; have HF9 := Lib.hid hf9
      clear hHeld hbl hf8 hf9 hxk hsl HSL HXK
      go_wp2_with fail
      go_loopg [10] F2.length (fun y s10 wx => ∃ j : Nat, j ≤ F2.length ∧ y = F2.length - j ∧ s10 = .int .i64 (j : Int) ∧ Below w6.heap.size w6 wx ∧ Free wx w6.heap.size A8 F2.length ∧ Free wx w6.heap.size A9 mm)
      case atStart => exact ⟨0, by omega, rfl, rfl, HBL.out, HF8.out, HF9.out⟩
      case round =>
        clear HBL HF8 HF9
        obtain ⟨j, hj, rfl, rfl, hbl, hf8, hf9⟩ := hrel
        have HBL := Lib.hid hbl; have HF8 := Lib.hid hf8; have HF9 := Lib.hid hf9
        clear hbl hf8 hf9
        by_cases hjn : j < F2.length
        · obtain ⟨g8, o8, old, rfl, hg8, cc, ff⟩ := HF8.out.at hjn
          have HG8 := Lib.hid hg8
          clear hg8
          go_wp2_with fail
          go_roundg (F2.length - (j + 1))
          case measure => omega
          case rel => exact ⟨j + 1, by omega, rfl, by go_num, HBL.out.setCell HG8.out _, HF8.out.setCell _ _ _, HF9.out.setCell _ _ _⟩
        · obtain ⟨wj, rfl⟩ : ∃ wj : World, wj = wr := ⟨_, rfl⟩
          go_wp2_with fail
          go_loopg [11] mm (fun y s11 wx => ∃ j : Nat, j ≤ mm ∧ y = mm - j ∧ s11 = .int .i64 (j : Int) ∧ Below w6.heap.size w6 wx ∧ Free wx w6.heap.size A9 mm)
          case atStart => exact ⟨0, by omega, rfl, rfl, HBL.out, HF9.out⟩
          case round =>
            clear HBL HF8 HF9
            obtain ⟨i, hi, rfl, rfl, hbl, hf9⟩ := hrel
            have HBL := Lib.hid hbl; have HF9 := Lib.hid hf9
            clear hbl hf9
            by_cases hin : i < mm
            · have hm2 := HM200.out
              obtain ⟨g9, o9, old, rfl, hg9, cc, ff⟩ := HF9.out.at hin
              have HG9 := Lib.hid hg9
              clear hg9
              go_wp2_with fail
              go_roundg (mm - (i + 1))
              case measure => omega
              case rel => exact ⟨i + 1, by omega, rfl, by go_num, HBL.out.setCell HG9.out _, HF9.out.setCell _ _ _⟩
            · obtain ⟨wi, rfl⟩ : ∃ wi : World, wi = wr := ⟨_, rfl⟩
              go_wp2_with fail
              go_roundg (m - (k + 1))
              case measure => omega
              case rel => exact ⟨k + 1, F2, _, _, by omega, rfl, by go_num, HFL2.out.1, HFK.out, HTW6.out.new HBL.out, HB6.out.trans (HBL.out.mono (by have := HTW6.out.l.lt; have := HTW6.out.l.low; omega))⟩
    · obtain rfl : k = m := by omega
      obtain ⟨A6, c6, ht6, hc6, hc69, hrd6⟩ := HTW.out.rd
      subst ht6
      have HRD6 := Lib.hid hrd6
      have HFK := HFK0
      clear hrd6 HR HKS hbs HFK0
      go_upto_region 22 with (fail)
      refine wp_region_held_drew (S := fun w' => w'.cell? ⟨q, 0, none⟩ = some (.slice A6 F.length c6) ∧ Below wo.heap.size wo w') (by kernel_rfl) ?_ (fun hHeld => ?_)
      · exact ⟨HTW.out.r.cell, (Below.refl _ _).drew⟩
      refine wpAnyH_take (i := 0) (oi := ({ dst := some 113, op := Op.move (Operand.tmp 5), type := 24, pos := "law.go:34", after := #[], guard := none } : Oper)) (v := ?vc0) rfl (by kernel_rfl) (by kernel_rfl) (by kernel_rfl) (fun _ _ _ h => h) (Or.inl ⟨by rfl, fun w hSw => ?hyc0⟩) (by assumption) ?rc0
      case hyc0 => (try dsimp only at hSw); go_simp; (try with_reducible rfl)
      (try simp only [Act.put, List.setIfInBounds_toArray, List.set_cons_zero, List.set_cons_succ])
      refine wpAnyH_take (i := 2) (oi := ({ dst := some 115, op := Op.move (Operand.tmp 6), type := 26, pos := "law.go:34", after := #[], guard := none } : Oper)) (v := ?vc2) rfl (by kernel_rfl) (by kernel_rfl) (by kernel_rfl) (fun _ _ _ h => h) (Or.inl ⟨by rfl, fun w hSw => ?hyc2⟩) (by assumption) ?rc2
      case hyc2 => (try dsimp only at hSw); go_simp; (try with_reducible rfl)
      (try simp only [Act.put, List.setIfInBounds_toArray, List.set_cons_zero, List.set_cons_succ])
      refine wpAnyH_take (i := 3) (oi := ({ dst := some 116, op := Op.nilCheck (Operand.tmp 115), type := 0, pos := "law.go:34", after := #[{ on := 2, ground := Ground.data }], guard := none } : Oper)) (v := ?vc3) rfl (by kernel_rfl) (by kernel_rfl) (by kernel_rfl) (fun _ _ _ h => h) (Or.inl ⟨by rfl, fun w hSw => ?hyc3⟩) (by assumption) ?rc3
      case hyc3 => (try dsimp only at hSw); go_simp; (try with_reducible rfl)
      (try simp only [Act.put, List.setIfInBounds_toArray, List.set_cons_zero, List.set_cons_succ])
      refine wpAnyH_take (i := 4) (oi := ({ dst := some 117, op := Op.fieldAddr 29 (Operand.tmp 116) 0, type := 0, pos := "law.go:34", after := #[{ on := 3, ground := Ground.data }], guard := none } : Oper)) (v := ?vc4) rfl (by kernel_rfl) (by kernel_rfl) (by kernel_rfl) (fun _ _ _ h => h) (Or.inl ⟨by rfl, fun w hSw => ?hyc4⟩) (by assumption) ?rc4
      case hyc4 => (try dsimp only at hSw); go_simp; (try with_reducible rfl)
      (try simp only [Act.put, List.setIfInBounds_toArray, List.set_cons_zero, List.set_cons_succ])
      refine wpAnyH_take (i := 5) (oi := ({ dst := some 118, op := Op.load 27 (Operand.tmp 117), type := 27, pos := "law.go:34", after := #[{ on := 4, ground := Ground.data }], guard := none } : Oper)) (v := ?vc5) rfl (by kernel_rfl) (by kernel_rfl) (by kernel_rfl) (fun _ _ _ h => h) (Or.inl ⟨by rfl, fun w hSw => ?hyc5⟩) (by assumption) ?rc5
      case hyc5 => (try dsimp only at hSw); go_simp; (try with_reducible rfl)
      (try simp only [Act.put, List.setIfInBounds_toArray, List.set_cons_zero, List.set_cons_succ])
      refine wpAnyH_ready (rs := [1]) (by kernel_rfl) (by simp) ?_
      refine AllReadyH.cons (o := ({ dst := some 114, op := Op.call { callee := Callee.value (Operand.func 13), args := #[Operand.tmp 113], argTypes := #[24] }, type := 22, pos := "law.go:34", after := #[{ on := 0, ground := Ground.data }], guard := none } : Oper)) rfl (fun Kq hKq => ?_) AllReadyH.nil
      go_simp
      (refine (all_any (HTW.out.l.new hHeld.2) (by have := HFL.out; omega)).mono ?_; rintro e wa ⟨Aa, rfl, hra, hba⟩)
      refine hKq.out _ _ ?_ (fun hHeld => ?_)
      · exact ⟨(hba.cell (p := ⟨q, 0, none⟩) (by have := hHeld.2.size; have := HTW.out.r.lt; show q < _; omega)).trans hHeld.1, hHeld.2.trans (hba.mono hHeld.2.size)⟩
      clear hKq Kq
      (try simp only [Act.put, List.setIfInBounds_toArray, List.set_cons_zero, List.set_cons_succ])
      refine wpAnyH_ready (rs := [6]) (by kernel_rfl) (by simp) ?_
      refine AllReadyH.cons (o := ({ dst := some 119, op := Op.call { callee := Callee.value (Operand.func 15), args := #[Operand.tmp 114, Operand.tmp 118], argTypes := #[22, 27] }, type := 4, pos := "law.go:34", after := #[{ on := 1, ground := Ground.data }, { on := 5, ground := Ground.data }, { on := 1, ground := Ground.chain }], guard := none } : Oper)) rfl (fun Kq hKq => ?_) AllReadyH.nil
      go_simp
      (refine (same_any _ _ hra.rd (HRD6.out.below hHeld.2 (Nat.le_refl _)) (Nat.le_refl _) hHeld.2.size (by have := HFL.out; omega) HFK.out).mono ?_; rintro e wc ⟨rfl, hbc⟩)
      refine hKq.out _ _ ?_ (fun hHeld => ?_)
      · exact ⟨(hbc.cell (p := ⟨q, 0, none⟩) (by have := hHeld.2.size; have := HTW.out.r.lt; show q < _; omega)).trans hHeld.1, hHeld.2.trans (hbc.mono hHeld.2.size)⟩
      clear hKq Kq
      (try simp only [Act.put, List.setIfInBounds_toArray, List.set_cons_zero, List.set_cons_succ])
      refine wpAnyH_take (i := 7) (oi := ({ dst := some 120, op := Op.move (Operand.tmp 119), type := 4, pos := "law.go:34", after := #[{ on := 6, ground := Ground.data }, { on := 6, ground := Ground.chain }], guard := none } : Oper)) (v := ?vc7) rfl (by kernel_rfl) (by kernel_rfl) (by kernel_rfl) (fun _ _ _ h => h) (Or.inl ⟨by rfl, fun w hSw => ?hyc7⟩) (by assumption) ?rc7
      case hyc7 => (try dsimp only at hSw); go_simp; (try with_reducible rfl)
      (try simp only [Act.put, List.setIfInBounds_toArray, List.set_cons_zero, List.set_cons_succ])
      refine wpAnyH_ready (rs := [8]) (by kernel_rfl) (by simp) ?_
      refine AllReadyH.cons (o := ({ dst := some 121, op := Op.call { callee := Callee.value (Operand.func 7), args := #[], argTypes := #[] }, type := 4, pos := "law.go:34", after := #[{ on := 7, ground := Ground.chain }, { on := 7, ground := Ground.guard }], guard := some (7, true) } : Oper)) rfl (fun Kq hKq => ?_) AllReadyH.nil
      go_simp
      (refine (lives_any _ (HT.out.below (HB.out.trans (hHeld.2.mono HBS.out)) HX0.out)).mono ?_; rintro e wd ⟨rfl, hbd⟩)
      refine hKq.out _ _ ?_ (fun hHeld => ?_)
      · exact ⟨(hbd.cell (p := ⟨q, 0, none⟩) (by have := hHeld.2.size; have := HTW.out.r.lt; show q < _; omega)).trans hHeld.1, hHeld.2.trans (hbd.mono hHeld.2.size)⟩
      clear hKq Kq
      (try simp only [Act.put, List.setIfInBounds_toArray, List.set_cons_zero, List.set_cons_succ])
      refine wpAnyH_take (i := 9) (oi := ({ dst := some 122, op := Op.pick (Operand.tmp 120) (Operand.tmp 121) (Operand.const (Value.bool false)), type := 4, pos := "law.go:34", after := #[{ on := 7, ground := Ground.data }, { on := 8, ground := Ground.data }], guard := none } : Oper)) (v := ?vc9) rfl (by kernel_rfl) (by kernel_rfl) (by kernel_rfl) (fun _ _ _ h => h) (Or.inl ⟨by rfl, fun w hSw => ?hyc9⟩) (by assumption) ?rc9
      case hyc9 => (try dsimp only at hSw); go_simp; (try with_reducible rfl)
      (try simp only [Act.put, List.setIfInBounds_toArray, List.set_cons_zero, List.set_cons_succ])
      refine wpAnyH_take (i := 10) (oi := ({ dst := some 4, op := Op.assign (Operand.tmp 122), type := 4, pos := "law.go:34", after := #[{ on := 9, ground := Ground.data }, { on := 8, ground := Ground.chain }, { on := 0, ground := Ground.phase }, { on := 1, ground := Ground.phase }, { on := 2, ground := Ground.phase }, { on := 3, ground := Ground.phase }, { on := 4, ground := Ground.phase }, { on := 5, ground := Ground.phase }, { on := 6, ground := Ground.phase }, { on := 7, ground := Ground.phase }, { on := 8, ground := Ground.phase }, { on := 9, ground := Ground.phase }], guard := none } : Oper)) (v := ?vc10) rfl (by kernel_rfl) (by kernel_rfl) (by kernel_rfl) (fun _ _ _ h => h) (Or.inl ⟨by rfl, fun w hSw => ?hyc10⟩) (by assumption) ?rc10
      case hyc10 => (try dsimp only at hSw); go_simp; (try with_reducible rfl)
      (try simp only [Act.put, List.setIfInBounds_toArray, List.set_cons_zero, List.set_cons_succ])
      refine wpAnyH_done (by kernel_rfl) ?_ _
      have HH := Lib.hid (HB.out.trans (hHeld.2.mono HBS.out))
      clear hHeld
      go_wp2_with fail
      go_ret
      exact ⟨rfl, by rw [HB0.out]; exact HH.out⟩
end Go.Proofs.YtoefgfolokcdhaaDoor
