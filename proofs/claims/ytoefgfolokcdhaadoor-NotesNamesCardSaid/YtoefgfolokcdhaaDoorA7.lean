/- A note more, by the document. -/
import Derived.Test.YtoefgfolokcdhaaDoorA6
import Derived.Deep.RegionHeld3
namespace Go.Proofs.YtoefgfolokcdhaaDoor
open Go.RowKit

theorem rd_noteR (w : World) (n : Nt) : Rd (w.alloc (.cells (nb .i64 n) 40)) (w.heap.size + 1) (some ⟨w.heap.size, 0, none⟩) (flat .i64 [n]) := fun _ =>
  ⟨w.heap.size, 0, rfl, by omega, fun j u e => by rw [Nat.zero_add, cell_row (heap_alloc_new w _)]; rw [flat_one] at e; simpa using e⟩
set_option maxHeartbeats 4000000 in
set_option maxRecDepth 100000 in
theorem radd_any {w : World} {base p : Nat} {s : Value} {D : List Nt} (h : LAt 29 .i64 w base p s D) (hbase : base ≤ w.heap.size) (n : Nt) (hk : n.k < 256) (hlen : D.length ≤ 100000) :
    Calls Tryd.prog 10 #[Pt p, ag .i64 n] w fun e w' => e = .returned (.int .i64 (addE D n)) ∧ Leaves 29 .i64 w w' base p s (addD D n) := by
  have hb : Below w.heap.size w (w.alloc (.cells (nb .i64 n) 40)) := (Below.refl _ _).alloc (Nat.le_refl _) _
  have hnew := heap_alloc_new w (.cells (nb .i64 n) 40)
  have n0 := cell_row hnew 0; have n1 := cell_row hnew 1; have n2 := cell_row hnew 2; have n3 := cell_row hnew 3; have n4 := cell_row hnew 4; have n5 := cell_row hnew 5; have n6 := cell_row hnew 6
  simp only [List.getElem?_toArray, List.getElem?_cons_zero, List.getElem?_cons_succ] at n0 n1 n2 n3 n4 n5 n6
  have hq := fun W => rname_any n.k hk W
  have hi := isK_iff n.k
  have h1 := h.new hb
  have H := Lib.hid h; have HB := Lib.hid hb; have HBS := Lib.hid hbase; have H1 := Lib.hid h1
  have hlt := h.lt
  have c0 := h1.cell
  have f0 := h1.froz
  obtain ⟨A, cap, hs, hcap, hc9⟩ := h1.own.shape
  have hltX : w.heap.size < (w.alloc (.cells (nb .i64 n) 40)).heap.size := by simp
  have HLTX := Lib.hid hltX
  have HLTP := Lib.hid h1.lt
  subst hs
  have hrow := h1.own
  have hrd := hrow.rd
  clear hnew h hbase h1 hltX
  go_enter Tryd.func10, Tryd.ntmps10
  go_upto_region 1 with (fail)
  have hsame := fun w' (b : Below (w.alloc (.cells (nb .i64 n) 40)).heap.size (w.alloc (.cells (nb .i64 n) 40)) w') => Leaves.same (w' := w') H.out (hb.trans (b.mono hb.size))
  have HSAME := Lib.hid hsame
  have hfin := fun wy w3 s3 (hy : Below w.heap.size w wy) => leaves_put (w' := wy) (w3 := w3) (s3 := s3) (F := D ++ [n]) H.out hy
  have HFIN := Lib.hid hfin
  clear hfin
  have HRD := Lib.hid hrd
  have HROW := Lib.hid hrow
  clear hsame hb hrd hrow
  generalize w.heap.size = X at *
  generalize w.alloc (.cells (nb .i64 n) 40) = wb at *
  cases hki : isK n.k
  · have hr : refB D n = true := by simp [refB, hki]
    rw [hi.2 hki] at hq
    have HQ := Lib.hid hq
    clear hq hi
    refine wp_region_held_drew (S := fun w' => (w'.cell? ⟨X, 2, none⟩ = some (.int .i64 (n.k : Int)) ∧ w'.cell? ⟨X, 0, none⟩ = some (.int .i64 n.s) ∧ w'.cell? ⟨p, 0, none⟩ = some (.slice A D.length cap)) ∧ Below wb.heap.size wb w') (by kernel_rfl) ?_ (fun hHeld => ?_)
    · exact ⟨⟨n2, n0, c0⟩, (Below.refl _ wb).drew⟩
    refine wpAnyH_take (i := 0) (oi := ({ dst := some 5, op := Op.fieldAddr 40 (Operand.tmp 3) 2, type := 0, pos := "ref.go:47", after := #[], guard := none } : Oper)) (v := ?va0) rfl (by kernel_rfl) (by kernel_rfl) (by kernel_rfl) (fun _ _ _ h => h) (Or.inl ⟨by rfl, fun w hSw => ?hya0⟩) (by assumption) ?ra0
    case hya0 => (try dsimp only at hSw); go_simp; (try with_reducible rfl)
    (try simp only [Act.put, List.setIfInBounds_toArray, List.set_cons_zero, List.set_cons_succ])
    refine wpAnyH_take (i := 1) (oi := ({ dst := some 6, op := Op.load 3 (Operand.tmp 5), type := 3, pos := "ref.go:47", after := #[{ on := 0, ground := Ground.data }], guard := none } : Oper)) (v := ?va1) rfl (by kernel_rfl) (by kernel_rfl) (by kernel_rfl) (fun _ _ _ h => h) (Or.inl ⟨by rfl, fun w hSw => ?hya1⟩) (by assumption) ?ra1
    case hya1 => (try dsimp only at hSw); go_simp; (try with_reducible rfl)
    (try simp only [Act.put, List.setIfInBounds_toArray, List.set_cons_zero, List.set_cons_succ])
    refine wpAnyH_ready (rs := [2]) (by kernel_rfl) (by simp) ?_
    refine AllReadyH.cons (o := ({ dst := some 7, op := Op.call { callee := Callee.value (Operand.func 17), args := #[Operand.tmp 6], argTypes := #[3] }, type := 9, pos := "ref.go:47", after := #[{ on := 1, ground := Ground.data }], guard := none } : Oper)) rfl (fun Kq hKq => ?_) AllReadyH.nil
    go_simp
    (refine (HQ.out _).mono ?_; rintro e w1 ⟨rfl, hb1⟩)
    refine hKq.out _ _ ?_ (fun hHeld => ?_)
    · exact ⟨⟨(hb1.cell (by have := hHeld.2.size; have := HLTX.out; show X < _; omega)).trans hHeld.1.1, (hb1.cell (by have := hHeld.2.size; have := HLTX.out; show X < _; omega)).trans hHeld.1.2.1, (hb1.cell (by have := hHeld.2.size; have := HLTP.out; show p < _; omega)).trans hHeld.1.2.2⟩, hHeld.2.trans (hb1.mono hHeld.2.size)⟩
    clear hKq Kq
    (try simp only [Act.put, List.setIfInBounds_toArray, List.set_cons_zero, List.set_cons_succ])
    refine wpAnyH_take (i := 3) (oi := ({ dst := some 8, op := Op.binOp BinOp.eql 9 (Operand.tmp 7) (Operand.const (Value.string { data := #[] })) 9, type := 4, pos := "ref.go:47", after := #[{ on := 2, ground := Ground.data }], guard := none } : Oper)) (v := ?va3) rfl (by kernel_rfl) (by kernel_rfl) (by kernel_rfl) (fun _ _ _ h => h) (Or.inl ⟨by rfl, fun w hSw => ?hya3⟩) (by assumption) ?ra3
    case hya3 => (try dsimp only at hSw); go_simp; (try with_reducible rfl)
    (try simp only [Act.put, List.setIfInBounds_toArray, List.set_cons_zero, List.set_cons_succ])
    refine wpAnyH_take (i := 4) (oi := ({ dst := some 9, op := Op.move (Operand.tmp 8), type := 4, pos := "ref.go:47", after := #[{ on := 3, ground := Ground.data }, { on := 2, ground := Ground.chain }], guard := none } : Oper)) (v := ?va4) rfl (by kernel_rfl) (by kernel_rfl) (by kernel_rfl) (fun _ _ _ h => h) (Or.inl ⟨by rfl, fun w hSw => ?hya4⟩) (by assumption) ?ra4
    case hya4 => (try dsimp only at hSw); go_simp; (try with_reducible rfl)
    (try simp only [Act.put, List.setIfInBounds_toArray, List.set_cons_zero, List.set_cons_succ])
    refine wpAnyH_take (i := 5) (oi := ({ dst := some 10, op := Op.move (Operand.tmp 0), type := 26, pos := "ref.go:47", after := #[{ on := 4, ground := Ground.guard }], guard := some (4, false) } : Oper)) (v := undef) rfl (by kernel_rfl) (by kernel_rfl) (by kernel_rfl) (fun _ _ _ h => h) (Or.inr ⟨by rfl, rfl⟩) (by assumption) ?_
    (try simp only [Act.put, List.setIfInBounds_toArray, List.set_cons_zero, List.set_cons_succ])
    refine wpAnyH_take (i := 6) (oi := ({ dst := some 11, op := Op.nilCheck (Operand.tmp 10), type := 0, pos := "ref.go:47", after := #[{ on := 5, ground := Ground.data }, { on := 4, ground := Ground.guard }], guard := some (4, false) } : Oper)) (v := undef) rfl (by kernel_rfl) (by kernel_rfl) (by kernel_rfl) (fun _ _ _ h => h) (Or.inr ⟨by rfl, rfl⟩) (by assumption) ?_
    (try simp only [Act.put, List.setIfInBounds_toArray, List.set_cons_zero, List.set_cons_succ])
    refine wpAnyH_take (i := 7) (oi := ({ dst := some 12, op := Op.fieldAddr 29 (Operand.tmp 11) 0, type := 0, pos := "ref.go:47", after := #[{ on := 6, ground := Ground.data }, { on := 4, ground := Ground.guard }], guard := some (4, false) } : Oper)) (v := undef) rfl (by kernel_rfl) (by kernel_rfl) (by kernel_rfl) (fun _ _ _ h => h) (Or.inr ⟨by rfl, rfl⟩) (by assumption) ?_
    (try simp only [Act.put, List.setIfInBounds_toArray, List.set_cons_zero, List.set_cons_succ])
    refine wpAnyH_take (i := 8) (oi := ({ dst := some 13, op := Op.load 27 (Operand.tmp 12), type := 27, pos := "ref.go:47", after := #[{ on := 7, ground := Ground.data }, { on := 4, ground := Ground.guard }], guard := some (4, false) } : Oper)) (v := undef) rfl (by kernel_rfl) (by kernel_rfl) (by kernel_rfl) (fun _ _ _ h => h) (Or.inr ⟨by rfl, rfl⟩) (by assumption) ?_
    (try simp only [Act.put, List.setIfInBounds_toArray, List.set_cons_zero, List.set_cons_succ])
    refine wpAnyH_take (i := 9) (oi := ({ dst := some 14, op := Op.call { callee := Callee.builtin Builtin.len, args := #[Operand.tmp 13], argTypes := #[27] }, type := 3, pos := "ref.go:47", after := #[{ on := 8, ground := Ground.data }, { on := 4, ground := Ground.guard }], guard := some (4, false) } : Oper)) (v := undef) rfl (by kernel_rfl) (by kernel_rfl) (by kernel_rfl) (fun _ _ _ h => h) (Or.inr ⟨by rfl, rfl⟩) (by assumption) ?_
    (try simp only [Act.put, List.setIfInBounds_toArray, List.set_cons_zero, List.set_cons_succ])
    refine wpAnyH_take (i := 10) (oi := ({ dst := some 15, op := Op.binOp BinOp.gtr 3 (Operand.tmp 14) (Operand.const (Value.int IntKind.i64 0)) 3, type := 4, pos := "ref.go:47", after := #[{ on := 9, ground := Ground.data }, { on := 4, ground := Ground.guard }], guard := some (4, false) } : Oper)) (v := undef) rfl (by kernel_rfl) (by kernel_rfl) (by kernel_rfl) (fun _ _ _ h => h) (Or.inr ⟨by rfl, rfl⟩) (by assumption) ?_
    (try simp only [Act.put, List.setIfInBounds_toArray, List.set_cons_zero, List.set_cons_succ])
    refine wpAnyH_take (i := 11) (oi := ({ dst := some 16, op := Op.move (Operand.tmp 15), type := 4, pos := "ref.go:47", after := #[{ on := 10, ground := Ground.data }, { on := 4, ground := Ground.chain }, { on := 4, ground := Ground.guard }], guard := some (4, false) } : Oper)) (v := undef) rfl (by kernel_rfl) (by kernel_rfl) (by kernel_rfl) (fun _ _ _ h => h) (Or.inr ⟨by rfl, rfl⟩) (by assumption) ?_
    (try simp only [Act.put, List.setIfInBounds_toArray, List.set_cons_zero, List.set_cons_succ])
    refine wpAnyH_take (i := 12) (oi := ({ dst := some 17, op := Op.fieldAddr 40 (Operand.tmp 3) 0, type := 0, pos := "ref.go:47", after := #[{ on := 11, ground := Ground.guard }], guard := some (11, true) } : Oper)) (v := undef) rfl (by kernel_rfl) (by kernel_rfl) (by kernel_rfl) (fun _ _ _ h => h) (Or.inr ⟨by rfl, rfl⟩) (by assumption) ?_
    (try simp only [Act.put, List.setIfInBounds_toArray, List.set_cons_zero, List.set_cons_succ])
    refine wpAnyH_take (i := 13) (oi := ({ dst := some 18, op := Op.load 3 (Operand.tmp 17), type := 3, pos := "ref.go:47", after := #[{ on := 12, ground := Ground.data }, { on := 11, ground := Ground.guard }], guard := some (11, true) } : Oper)) (v := undef) rfl (by kernel_rfl) (by kernel_rfl) (by kernel_rfl) (fun _ _ _ h => h) (Or.inr ⟨by rfl, rfl⟩) (by assumption) ?_
    (try simp only [Act.put, List.setIfInBounds_toArray, List.set_cons_zero, List.set_cons_succ])
    refine wpAnyH_take (i := 14) (oi := ({ dst := some 19, op := Op.move (Operand.tmp 0), type := 26, pos := "ref.go:47", after := #[{ on := 11, ground := Ground.guard }], guard := some (11, true) } : Oper)) (v := undef) rfl (by kernel_rfl) (by kernel_rfl) (by kernel_rfl) (fun _ _ _ h => h) (Or.inr ⟨by rfl, rfl⟩) (by assumption) ?_
    (try simp only [Act.put, List.setIfInBounds_toArray, List.set_cons_zero, List.set_cons_succ])
    refine wpAnyH_take (i := 15) (oi := ({ dst := some 20, op := Op.nilCheck (Operand.tmp 19), type := 0, pos := "ref.go:47", after := #[{ on := 14, ground := Ground.data }, { on := 11, ground := Ground.guard }], guard := some (11, true) } : Oper)) (v := undef) rfl (by kernel_rfl) (by kernel_rfl) (by kernel_rfl) (fun _ _ _ h => h) (Or.inr ⟨by rfl, rfl⟩) (by assumption) ?_
    (try simp only [Act.put, List.setIfInBounds_toArray, List.set_cons_zero, List.set_cons_succ])
    refine wpAnyH_take (i := 16) (oi := ({ dst := some 21, op := Op.fieldAddr 29 (Operand.tmp 20) 0, type := 0, pos := "ref.go:47", after := #[{ on := 15, ground := Ground.data }, { on := 11, ground := Ground.guard }], guard := some (11, true) } : Oper)) (v := undef) rfl (by kernel_rfl) (by kernel_rfl) (by kernel_rfl) (fun _ _ _ h => h) (Or.inr ⟨by rfl, rfl⟩) (by assumption) ?_
    (try simp only [Act.put, List.setIfInBounds_toArray, List.set_cons_zero, List.set_cons_succ])
    refine wpAnyH_take (i := 17) (oi := ({ dst := some 22, op := Op.load 27 (Operand.tmp 21), type := 27, pos := "ref.go:47", after := #[{ on := 16, ground := Ground.data }, { on := 11, ground := Ground.guard }], guard := some (11, true) } : Oper)) (v := undef) rfl (by kernel_rfl) (by kernel_rfl) (by kernel_rfl) (fun _ _ _ h => h) (Or.inr ⟨by rfl, rfl⟩) (by assumption) ?_
    (try simp only [Act.put, List.setIfInBounds_toArray, List.set_cons_zero, List.set_cons_succ])
    refine wpAnyH_take (i := 18) (oi := ({ dst := some 23, op := Op.move (Operand.tmp 0), type := 26, pos := "ref.go:47", after := #[{ on := 11, ground := Ground.guard }], guard := some (11, true) } : Oper)) (v := undef) rfl (by kernel_rfl) (by kernel_rfl) (by kernel_rfl) (fun _ _ _ h => h) (Or.inr ⟨by rfl, rfl⟩) (by assumption) ?_
    (try simp only [Act.put, List.setIfInBounds_toArray, List.set_cons_zero, List.set_cons_succ])
    refine wpAnyH_take (i := 19) (oi := ({ dst := some 24, op := Op.nilCheck (Operand.tmp 23), type := 0, pos := "ref.go:47", after := #[{ on := 18, ground := Ground.data }, { on := 11, ground := Ground.guard }], guard := some (11, true) } : Oper)) (v := undef) rfl (by kernel_rfl) (by kernel_rfl) (by kernel_rfl) (fun _ _ _ h => h) (Or.inr ⟨by rfl, rfl⟩) (by assumption) ?_
    (try simp only [Act.put, List.setIfInBounds_toArray, List.set_cons_zero, List.set_cons_succ])
    refine wpAnyH_take (i := 20) (oi := ({ dst := some 25, op := Op.fieldAddr 29 (Operand.tmp 24) 0, type := 0, pos := "ref.go:47", after := #[{ on := 19, ground := Ground.data }, { on := 11, ground := Ground.guard }], guard := some (11, true) } : Oper)) (v := undef) rfl (by kernel_rfl) (by kernel_rfl) (by kernel_rfl) (fun _ _ _ h => h) (Or.inr ⟨by rfl, rfl⟩) (by assumption) ?_
    (try simp only [Act.put, List.setIfInBounds_toArray, List.set_cons_zero, List.set_cons_succ])
    refine wpAnyH_take (i := 21) (oi := ({ dst := some 26, op := Op.load 27 (Operand.tmp 25), type := 27, pos := "ref.go:47", after := #[{ on := 20, ground := Ground.data }, { on := 11, ground := Ground.guard }], guard := some (11, true) } : Oper)) (v := undef) rfl (by kernel_rfl) (by kernel_rfl) (by kernel_rfl) (fun _ _ _ h => h) (Or.inr ⟨by rfl, rfl⟩) (by assumption) ?_
    (try simp only [Act.put, List.setIfInBounds_toArray, List.set_cons_zero, List.set_cons_succ])
    refine wpAnyH_take (i := 22) (oi := ({ dst := some 27, op := Op.call { callee := Callee.builtin Builtin.len, args := #[Operand.tmp 26], argTypes := #[27] }, type := 3, pos := "ref.go:47", after := #[{ on := 21, ground := Ground.data }, { on := 11, ground := Ground.guard }], guard := some (11, true) } : Oper)) (v := undef) rfl (by kernel_rfl) (by kernel_rfl) (by kernel_rfl) (fun _ _ _ h => h) (Or.inr ⟨by rfl, rfl⟩) (by assumption) ?_
    (try simp only [Act.put, List.setIfInBounds_toArray, List.set_cons_zero, List.set_cons_succ])
    refine wpAnyH_take (i := 23) (oi := ({ dst := some 28, op := Op.binOp BinOp.sub 3 (Operand.tmp 27) (Operand.const (Value.int IntKind.i64 1)) 3, type := 3, pos := "ref.go:47", after := #[{ on := 22, ground := Ground.data }, { on := 11, ground := Ground.guard }], guard := some (11, true) } : Oper)) (v := undef) rfl (by kernel_rfl) (by kernel_rfl) (by kernel_rfl) (fun _ _ _ h => h) (Or.inr ⟨by rfl, rfl⟩) (by assumption) ?_
    (try simp only [Act.put, List.setIfInBounds_toArray, List.set_cons_zero, List.set_cons_succ])
    refine wpAnyH_take (i := 24) (oi := ({ dst := some 29, op := Op.indexAddr 27 (Operand.tmp 22) (Operand.tmp 28), type := 0, pos := "ref.go:47", after := #[{ on := 17, ground := Ground.data }, { on := 23, ground := Ground.data }, { on := 11, ground := Ground.guard }], guard := some (11, true) } : Oper)) (v := undef) rfl (by kernel_rfl) (by kernel_rfl) (by kernel_rfl) (fun _ _ _ h => h) (Or.inr ⟨by rfl, rfl⟩) (by assumption) ?_
    (try simp only [Act.put, List.setIfInBounds_toArray, List.set_cons_zero, List.set_cons_succ])
    refine wpAnyH_take (i := 25) (oi := ({ dst := some 30, op := Op.fieldAddr 40 (Operand.tmp 29) 0, type := 0, pos := "ref.go:47", after := #[{ on := 24, ground := Ground.data }, { on := 11, ground := Ground.guard }], guard := some (11, true) } : Oper)) (v := undef) rfl (by kernel_rfl) (by kernel_rfl) (by kernel_rfl) (fun _ _ _ h => h) (Or.inr ⟨by rfl, rfl⟩) (by assumption) ?_
    (try simp only [Act.put, List.setIfInBounds_toArray, List.set_cons_zero, List.set_cons_succ])
    refine wpAnyH_take (i := 26) (oi := ({ dst := some 31, op := Op.load 3 (Operand.tmp 30), type := 3, pos := "ref.go:47", after := #[{ on := 25, ground := Ground.data }, { on := 11, ground := Ground.guard }], guard := some (11, true) } : Oper)) (v := undef) rfl (by kernel_rfl) (by kernel_rfl) (by kernel_rfl) (fun _ _ _ h => h) (Or.inr ⟨by rfl, rfl⟩) (by assumption) ?_
    (try simp only [Act.put, List.setIfInBounds_toArray, List.set_cons_zero, List.set_cons_succ])
    refine wpAnyH_take (i := 27) (oi := ({ dst := some 32, op := Op.binOp BinOp.lss 3 (Operand.tmp 18) (Operand.tmp 31) 3, type := 4, pos := "ref.go:47", after := #[{ on := 13, ground := Ground.data }, { on := 26, ground := Ground.data }, { on := 11, ground := Ground.guard }], guard := some (11, true) } : Oper)) (v := undef) rfl (by kernel_rfl) (by kernel_rfl) (by kernel_rfl) (fun _ _ _ h => h) (Or.inr ⟨by rfl, rfl⟩) (by assumption) ?_
    (try simp only [Act.put, List.setIfInBounds_toArray, List.set_cons_zero, List.set_cons_succ])
    refine wpAnyH_take (i := 28) (oi := ({ dst := some 33, op := Op.pick (Operand.tmp 16) (Operand.tmp 32) (Operand.const (Value.bool false)), type := 4, pos := "ref.go:47", after := #[{ on := 11, ground := Ground.data }, { on := 27, ground := Ground.data }, { on := 4, ground := Ground.guard }], guard := some (4, false) } : Oper)) (v := undef) rfl (by kernel_rfl) (by kernel_rfl) (by kernel_rfl) (fun _ _ _ h => h) (Or.inr ⟨by rfl, rfl⟩) (by assumption) ?_
    (try simp only [Act.put, List.setIfInBounds_toArray, List.set_cons_zero, List.set_cons_succ])
    refine wpAnyH_take (i := 29) (oi := ({ dst := some 34, op := Op.pick (Operand.tmp 9) (Operand.const (Value.bool true)) (Operand.tmp 33), type := 4, pos := "ref.go:47", after := #[{ on := 4, ground := Ground.data }, { on := 28, ground := Ground.data }], guard := none } : Oper)) (v := ?va29) rfl (by kernel_rfl) (by kernel_rfl) (by kernel_rfl) (fun _ _ _ h => h) (Or.inl ⟨by rfl, fun w hSw => ?hya29⟩) (by assumption) ?ra29
    case hya29 => (try dsimp only at hSw); go_simp; (try with_reducible rfl)
    (try simp only [Act.put, List.setIfInBounds_toArray, List.set_cons_zero, List.set_cons_succ])
    refine wpAnyH_done (by kernel_rfl) ?_ _
    have HH := Lib.hid hHeld.2
    clear hHeld
    go_wp2_with fail
    go_ret
    rw [(addD_yes hr).1, (addD_yes hr).2]
    exact ⟨rfl, HSAME.out _ HH.out⟩
  · have hxe : (nmS n.k).toList.isEmpty = false := by
      rw [bt, decide_eq_false_iff_not]; intro e; have := hi.1 e; rw [hki] at this; cases this
    generalize nmS n.k = x at *
    have HQ := Lib.hid hq
    clear hq hi
    by_cases hn : D.length = 0
    · have hr : refB D n = false := by simp [refB, hki, fallsB, hn]
      obtain rfl : D = [] := List.eq_nil_of_length_eq_zero hn
      simp only [List.length_nil] at c0
      refine wp_region_held_drew (S := fun w' => (w'.cell? ⟨X, 2, none⟩ = some (.int .i64 (n.k : Int)) ∧ w'.cell? ⟨X, 0, none⟩ = some (.int .i64 n.s) ∧ w'.cell? ⟨p, 0, none⟩ = some (.slice A 0 cap)) ∧ Below wb.heap.size wb w') (by kernel_rfl) ?_ (fun hHeld => ?_)
      · exact ⟨⟨n2, n0, c0⟩, (Below.refl _ wb).drew⟩
      refine wpAnyH_take (i := 0) (oi := ({ dst := some 5, op := Op.fieldAddr 40 (Operand.tmp 3) 2, type := 0, pos := "ref.go:47", after := #[], guard := none } : Oper)) (v := ?vb0) rfl (by kernel_rfl) (by kernel_rfl) (by kernel_rfl) (fun _ _ _ h => h) (Or.inl ⟨by rfl, fun w hSw => ?hyb0⟩) (by assumption) ?rb0
      case hyb0 => (try dsimp only at hSw); go_simp; (try with_reducible rfl)
      (try simp only [Act.put, List.setIfInBounds_toArray, List.set_cons_zero, List.set_cons_succ])
      refine wpAnyH_take (i := 1) (oi := ({ dst := some 6, op := Op.load 3 (Operand.tmp 5), type := 3, pos := "ref.go:47", after := #[{ on := 0, ground := Ground.data }], guard := none } : Oper)) (v := ?vb1) rfl (by kernel_rfl) (by kernel_rfl) (by kernel_rfl) (fun _ _ _ h => h) (Or.inl ⟨by rfl, fun w hSw => ?hyb1⟩) (by assumption) ?rb1
      case hyb1 => (try dsimp only at hSw); go_simp; (try with_reducible rfl)
      (try simp only [Act.put, List.setIfInBounds_toArray, List.set_cons_zero, List.set_cons_succ])
      refine wpAnyH_ready (rs := [2]) (by kernel_rfl) (by simp) ?_
      refine AllReadyH.cons (o := ({ dst := some 7, op := Op.call { callee := Callee.value (Operand.func 17), args := #[Operand.tmp 6], argTypes := #[3] }, type := 9, pos := "ref.go:47", after := #[{ on := 1, ground := Ground.data }], guard := none } : Oper)) rfl (fun Kq hKq => ?_) AllReadyH.nil
      go_simp
      (refine (HQ.out _).mono ?_; rintro e w1 ⟨rfl, hb1⟩)
      refine hKq.out _ _ ?_ (fun hHeld => ?_)
      · exact ⟨⟨(hb1.cell (by have := hHeld.2.size; have := HLTX.out; show X < _; omega)).trans hHeld.1.1, (hb1.cell (by have := hHeld.2.size; have := HLTX.out; show X < _; omega)).trans hHeld.1.2.1, (hb1.cell (by have := hHeld.2.size; have := HLTP.out; show p < _; omega)).trans hHeld.1.2.2⟩, hHeld.2.trans (hb1.mono hHeld.2.size)⟩
      clear hKq Kq
      (try simp only [Act.put, List.setIfInBounds_toArray, List.set_cons_zero, List.set_cons_succ])
      refine wpAnyH_take (i := 3) (oi := ({ dst := some 8, op := Op.binOp BinOp.eql 9 (Operand.tmp 7) (Operand.const (Value.string { data := #[] })) 9, type := 4, pos := "ref.go:47", after := #[{ on := 2, ground := Ground.data }], guard := none } : Oper)) (v := ?vb3) rfl (by kernel_rfl) (by kernel_rfl) (by kernel_rfl) (fun _ _ _ h => h) (Or.inl ⟨by rfl, fun w hSw => ?hyb3⟩) (by assumption) ?rb3
      case hyb3 => (try dsimp only at hSw); go_simp; (try with_reducible rfl)
      (try simp only [Act.put, List.setIfInBounds_toArray, List.set_cons_zero, List.set_cons_succ])
      refine wpAnyH_take (i := 4) (oi := ({ dst := some 9, op := Op.move (Operand.tmp 8), type := 4, pos := "ref.go:47", after := #[{ on := 3, ground := Ground.data }, { on := 2, ground := Ground.chain }], guard := none } : Oper)) (v := ?vb4) rfl (by kernel_rfl) (by kernel_rfl) (by kernel_rfl) (fun _ _ _ h => h) (Or.inl ⟨by rfl, fun w hSw => ?hyb4⟩) (by assumption) ?rb4
      case hyb4 => (try dsimp only at hSw); go_simp; (try with_reducible rfl)
      (try simp only [Act.put, List.setIfInBounds_toArray, List.set_cons_zero, List.set_cons_succ])
      refine wpAnyH_take (i := 5) (oi := ({ dst := some 10, op := Op.move (Operand.tmp 0), type := 26, pos := "ref.go:47", after := #[{ on := 4, ground := Ground.guard }], guard := some (4, false) } : Oper)) (v := ?vb5) rfl (by kernel_rfl) (by kernel_rfl) (by kernel_rfl) (fun _ _ _ h => h) (Or.inl ⟨by rfl, fun w hSw => ?hyb5⟩) (by assumption) ?rb5
      case hyb5 => (try dsimp only at hSw); go_simp; (try with_reducible rfl)
      (try simp only [Act.put, List.setIfInBounds_toArray, List.set_cons_zero, List.set_cons_succ])
      refine wpAnyH_take (i := 6) (oi := ({ dst := some 11, op := Op.nilCheck (Operand.tmp 10), type := 0, pos := "ref.go:47", after := #[{ on := 5, ground := Ground.data }, { on := 4, ground := Ground.guard }], guard := some (4, false) } : Oper)) (v := ?vb6) rfl (by kernel_rfl) (by kernel_rfl) (by kernel_rfl) (fun _ _ _ h => h) (Or.inl ⟨by rfl, fun w hSw => ?hyb6⟩) (by assumption) ?rb6
      case hyb6 => (try dsimp only at hSw); go_simp; (try with_reducible rfl)
      (try simp only [Act.put, List.setIfInBounds_toArray, List.set_cons_zero, List.set_cons_succ])
      refine wpAnyH_take (i := 7) (oi := ({ dst := some 12, op := Op.fieldAddr 29 (Operand.tmp 11) 0, type := 0, pos := "ref.go:47", after := #[{ on := 6, ground := Ground.data }, { on := 4, ground := Ground.guard }], guard := some (4, false) } : Oper)) (v := ?vb7) rfl (by kernel_rfl) (by kernel_rfl) (by kernel_rfl) (fun _ _ _ h => h) (Or.inl ⟨by rfl, fun w hSw => ?hyb7⟩) (by assumption) ?rb7
      case hyb7 => (try dsimp only at hSw); go_simp; (try with_reducible rfl)
      (try simp only [Act.put, List.setIfInBounds_toArray, List.set_cons_zero, List.set_cons_succ])
      refine wpAnyH_take (i := 8) (oi := ({ dst := some 13, op := Op.load 27 (Operand.tmp 12), type := 27, pos := "ref.go:47", after := #[{ on := 7, ground := Ground.data }, { on := 4, ground := Ground.guard }], guard := some (4, false) } : Oper)) (v := ?vb8) rfl (by kernel_rfl) (by kernel_rfl) (by kernel_rfl) (fun _ _ _ h => h) (Or.inl ⟨by rfl, fun w hSw => ?hyb8⟩) (by assumption) ?rb8
      case hyb8 => (try dsimp only at hSw); go_simp; (try with_reducible rfl)
      (try simp only [Act.put, List.setIfInBounds_toArray, List.set_cons_zero, List.set_cons_succ])
      refine wpAnyH_take (i := 9) (oi := ({ dst := some 14, op := Op.call { callee := Callee.builtin Builtin.len, args := #[Operand.tmp 13], argTypes := #[27] }, type := 3, pos := "ref.go:47", after := #[{ on := 8, ground := Ground.data }, { on := 4, ground := Ground.guard }], guard := some (4, false) } : Oper)) (v := ?vb9) rfl (by kernel_rfl) (by kernel_rfl) (by kernel_rfl) (fun _ _ _ h => h) (Or.inl ⟨by rfl, fun w hSw => ?hyb9⟩) (by assumption) ?rb9
      case hyb9 => (try dsimp only at hSw); go_simp; (try with_reducible rfl)
      (try simp only [Act.put, List.setIfInBounds_toArray, List.set_cons_zero, List.set_cons_succ])
      refine wpAnyH_take (i := 10) (oi := ({ dst := some 15, op := Op.binOp BinOp.gtr 3 (Operand.tmp 14) (Operand.const (Value.int IntKind.i64 0)) 3, type := 4, pos := "ref.go:47", after := #[{ on := 9, ground := Ground.data }, { on := 4, ground := Ground.guard }], guard := some (4, false) } : Oper)) (v := ?vb10) rfl (by kernel_rfl) (by kernel_rfl) (by kernel_rfl) (fun _ _ _ h => h) (Or.inl ⟨by rfl, fun w hSw => ?hyb10⟩) (by assumption) ?rb10
      case hyb10 => (try dsimp only at hSw); go_simp; (try with_reducible rfl)
      (try simp only [Act.put, List.setIfInBounds_toArray, List.set_cons_zero, List.set_cons_succ])
      refine wpAnyH_take (i := 11) (oi := ({ dst := some 16, op := Op.move (Operand.tmp 15), type := 4, pos := "ref.go:47", after := #[{ on := 10, ground := Ground.data }, { on := 4, ground := Ground.chain }, { on := 4, ground := Ground.guard }], guard := some (4, false) } : Oper)) (v := ?vb11) rfl (by kernel_rfl) (by kernel_rfl) (by kernel_rfl) (fun _ _ _ h => h) (Or.inl ⟨by rfl, fun w hSw => ?hyb11⟩) (by assumption) ?rb11
      case hyb11 => (try dsimp only at hSw); go_simp; (try with_reducible rfl)
      (try simp only [Act.put, List.setIfInBounds_toArray, List.set_cons_zero, List.set_cons_succ])
      refine wpAnyH_take (i := 12) (oi := ({ dst := some 17, op := Op.fieldAddr 40 (Operand.tmp 3) 0, type := 0, pos := "ref.go:47", after := #[{ on := 11, ground := Ground.guard }], guard := some (11, true) } : Oper)) (v := undef) rfl (by kernel_rfl) (by kernel_rfl) (by kernel_rfl) (fun _ _ _ h => h) (Or.inr ⟨by rfl, rfl⟩) (by assumption) ?_
      (try simp only [Act.put, List.setIfInBounds_toArray, List.set_cons_zero, List.set_cons_succ])
      refine wpAnyH_take (i := 13) (oi := ({ dst := some 18, op := Op.load 3 (Operand.tmp 17), type := 3, pos := "ref.go:47", after := #[{ on := 12, ground := Ground.data }, { on := 11, ground := Ground.guard }], guard := some (11, true) } : Oper)) (v := undef) rfl (by kernel_rfl) (by kernel_rfl) (by kernel_rfl) (fun _ _ _ h => h) (Or.inr ⟨by rfl, rfl⟩) (by assumption) ?_
      (try simp only [Act.put, List.setIfInBounds_toArray, List.set_cons_zero, List.set_cons_succ])
      refine wpAnyH_take (i := 14) (oi := ({ dst := some 19, op := Op.move (Operand.tmp 0), type := 26, pos := "ref.go:47", after := #[{ on := 11, ground := Ground.guard }], guard := some (11, true) } : Oper)) (v := undef) rfl (by kernel_rfl) (by kernel_rfl) (by kernel_rfl) (fun _ _ _ h => h) (Or.inr ⟨by rfl, rfl⟩) (by assumption) ?_
      (try simp only [Act.put, List.setIfInBounds_toArray, List.set_cons_zero, List.set_cons_succ])
      refine wpAnyH_take (i := 15) (oi := ({ dst := some 20, op := Op.nilCheck (Operand.tmp 19), type := 0, pos := "ref.go:47", after := #[{ on := 14, ground := Ground.data }, { on := 11, ground := Ground.guard }], guard := some (11, true) } : Oper)) (v := undef) rfl (by kernel_rfl) (by kernel_rfl) (by kernel_rfl) (fun _ _ _ h => h) (Or.inr ⟨by rfl, rfl⟩) (by assumption) ?_
      (try simp only [Act.put, List.setIfInBounds_toArray, List.set_cons_zero, List.set_cons_succ])
      refine wpAnyH_take (i := 16) (oi := ({ dst := some 21, op := Op.fieldAddr 29 (Operand.tmp 20) 0, type := 0, pos := "ref.go:47", after := #[{ on := 15, ground := Ground.data }, { on := 11, ground := Ground.guard }], guard := some (11, true) } : Oper)) (v := undef) rfl (by kernel_rfl) (by kernel_rfl) (by kernel_rfl) (fun _ _ _ h => h) (Or.inr ⟨by rfl, rfl⟩) (by assumption) ?_
      (try simp only [Act.put, List.setIfInBounds_toArray, List.set_cons_zero, List.set_cons_succ])
      refine wpAnyH_take (i := 17) (oi := ({ dst := some 22, op := Op.load 27 (Operand.tmp 21), type := 27, pos := "ref.go:47", after := #[{ on := 16, ground := Ground.data }, { on := 11, ground := Ground.guard }], guard := some (11, true) } : Oper)) (v := undef) rfl (by kernel_rfl) (by kernel_rfl) (by kernel_rfl) (fun _ _ _ h => h) (Or.inr ⟨by rfl, rfl⟩) (by assumption) ?_
      (try simp only [Act.put, List.setIfInBounds_toArray, List.set_cons_zero, List.set_cons_succ])
      refine wpAnyH_take (i := 18) (oi := ({ dst := some 23, op := Op.move (Operand.tmp 0), type := 26, pos := "ref.go:47", after := #[{ on := 11, ground := Ground.guard }], guard := some (11, true) } : Oper)) (v := undef) rfl (by kernel_rfl) (by kernel_rfl) (by kernel_rfl) (fun _ _ _ h => h) (Or.inr ⟨by rfl, rfl⟩) (by assumption) ?_
      (try simp only [Act.put, List.setIfInBounds_toArray, List.set_cons_zero, List.set_cons_succ])
      refine wpAnyH_take (i := 19) (oi := ({ dst := some 24, op := Op.nilCheck (Operand.tmp 23), type := 0, pos := "ref.go:47", after := #[{ on := 18, ground := Ground.data }, { on := 11, ground := Ground.guard }], guard := some (11, true) } : Oper)) (v := undef) rfl (by kernel_rfl) (by kernel_rfl) (by kernel_rfl) (fun _ _ _ h => h) (Or.inr ⟨by rfl, rfl⟩) (by assumption) ?_
      (try simp only [Act.put, List.setIfInBounds_toArray, List.set_cons_zero, List.set_cons_succ])
      refine wpAnyH_take (i := 20) (oi := ({ dst := some 25, op := Op.fieldAddr 29 (Operand.tmp 24) 0, type := 0, pos := "ref.go:47", after := #[{ on := 19, ground := Ground.data }, { on := 11, ground := Ground.guard }], guard := some (11, true) } : Oper)) (v := undef) rfl (by kernel_rfl) (by kernel_rfl) (by kernel_rfl) (fun _ _ _ h => h) (Or.inr ⟨by rfl, rfl⟩) (by assumption) ?_
      (try simp only [Act.put, List.setIfInBounds_toArray, List.set_cons_zero, List.set_cons_succ])
      refine wpAnyH_take (i := 21) (oi := ({ dst := some 26, op := Op.load 27 (Operand.tmp 25), type := 27, pos := "ref.go:47", after := #[{ on := 20, ground := Ground.data }, { on := 11, ground := Ground.guard }], guard := some (11, true) } : Oper)) (v := undef) rfl (by kernel_rfl) (by kernel_rfl) (by kernel_rfl) (fun _ _ _ h => h) (Or.inr ⟨by rfl, rfl⟩) (by assumption) ?_
      (try simp only [Act.put, List.setIfInBounds_toArray, List.set_cons_zero, List.set_cons_succ])
      refine wpAnyH_take (i := 22) (oi := ({ dst := some 27, op := Op.call { callee := Callee.builtin Builtin.len, args := #[Operand.tmp 26], argTypes := #[27] }, type := 3, pos := "ref.go:47", after := #[{ on := 21, ground := Ground.data }, { on := 11, ground := Ground.guard }], guard := some (11, true) } : Oper)) (v := undef) rfl (by kernel_rfl) (by kernel_rfl) (by kernel_rfl) (fun _ _ _ h => h) (Or.inr ⟨by rfl, rfl⟩) (by assumption) ?_
      (try simp only [Act.put, List.setIfInBounds_toArray, List.set_cons_zero, List.set_cons_succ])
      refine wpAnyH_take (i := 23) (oi := ({ dst := some 28, op := Op.binOp BinOp.sub 3 (Operand.tmp 27) (Operand.const (Value.int IntKind.i64 1)) 3, type := 3, pos := "ref.go:47", after := #[{ on := 22, ground := Ground.data }, { on := 11, ground := Ground.guard }], guard := some (11, true) } : Oper)) (v := undef) rfl (by kernel_rfl) (by kernel_rfl) (by kernel_rfl) (fun _ _ _ h => h) (Or.inr ⟨by rfl, rfl⟩) (by assumption) ?_
      (try simp only [Act.put, List.setIfInBounds_toArray, List.set_cons_zero, List.set_cons_succ])
      refine wpAnyH_take (i := 24) (oi := ({ dst := some 29, op := Op.indexAddr 27 (Operand.tmp 22) (Operand.tmp 28), type := 0, pos := "ref.go:47", after := #[{ on := 17, ground := Ground.data }, { on := 23, ground := Ground.data }, { on := 11, ground := Ground.guard }], guard := some (11, true) } : Oper)) (v := undef) rfl (by kernel_rfl) (by kernel_rfl) (by kernel_rfl) (fun _ _ _ h => h) (Or.inr ⟨by rfl, rfl⟩) (by assumption) ?_
      (try simp only [Act.put, List.setIfInBounds_toArray, List.set_cons_zero, List.set_cons_succ])
      refine wpAnyH_take (i := 25) (oi := ({ dst := some 30, op := Op.fieldAddr 40 (Operand.tmp 29) 0, type := 0, pos := "ref.go:47", after := #[{ on := 24, ground := Ground.data }, { on := 11, ground := Ground.guard }], guard := some (11, true) } : Oper)) (v := undef) rfl (by kernel_rfl) (by kernel_rfl) (by kernel_rfl) (fun _ _ _ h => h) (Or.inr ⟨by rfl, rfl⟩) (by assumption) ?_
      (try simp only [Act.put, List.setIfInBounds_toArray, List.set_cons_zero, List.set_cons_succ])
      refine wpAnyH_take (i := 26) (oi := ({ dst := some 31, op := Op.load 3 (Operand.tmp 30), type := 3, pos := "ref.go:47", after := #[{ on := 25, ground := Ground.data }, { on := 11, ground := Ground.guard }], guard := some (11, true) } : Oper)) (v := undef) rfl (by kernel_rfl) (by kernel_rfl) (by kernel_rfl) (fun _ _ _ h => h) (Or.inr ⟨by rfl, rfl⟩) (by assumption) ?_
      (try simp only [Act.put, List.setIfInBounds_toArray, List.set_cons_zero, List.set_cons_succ])
      refine wpAnyH_take (i := 27) (oi := ({ dst := some 32, op := Op.binOp BinOp.lss 3 (Operand.tmp 18) (Operand.tmp 31) 3, type := 4, pos := "ref.go:47", after := #[{ on := 13, ground := Ground.data }, { on := 26, ground := Ground.data }, { on := 11, ground := Ground.guard }], guard := some (11, true) } : Oper)) (v := undef) rfl (by kernel_rfl) (by kernel_rfl) (by kernel_rfl) (fun _ _ _ h => h) (Or.inr ⟨by rfl, rfl⟩) (by assumption) ?_
      (try simp only [Act.put, List.setIfInBounds_toArray, List.set_cons_zero, List.set_cons_succ])
      refine wpAnyH_take (i := 28) (oi := ({ dst := some 33, op := Op.pick (Operand.tmp 16) (Operand.tmp 32) (Operand.const (Value.bool false)), type := 4, pos := "ref.go:47", after := #[{ on := 11, ground := Ground.data }, { on := 27, ground := Ground.data }, { on := 4, ground := Ground.guard }], guard := some (4, false) } : Oper)) (v := ?vb28) rfl (by kernel_rfl) (by kernel_rfl) (by kernel_rfl) (fun _ _ _ h => h) (Or.inl ⟨by rfl, fun w hSw => ?hyb28⟩) (by assumption) ?rb28
      case hyb28 => (try dsimp only at hSw); go_simp; (try with_reducible rfl)
      (try simp only [Act.put, List.setIfInBounds_toArray, List.set_cons_zero, List.set_cons_succ])
      refine wpAnyH_take (i := 29) (oi := ({ dst := some 34, op := Op.pick (Operand.tmp 9) (Operand.const (Value.bool true)) (Operand.tmp 33), type := 4, pos := "ref.go:47", after := #[{ on := 4, ground := Ground.data }, { on := 28, ground := Ground.data }], guard := none } : Oper)) (v := ?vb29) rfl (by kernel_rfl) (by kernel_rfl) (by kernel_rfl) (fun _ _ _ h => h) (Or.inl ⟨by rfl, fun w hSw => ?hyb29⟩) (by assumption) ?rb29
      case hyb29 => (try dsimp only at hSw); go_simp; (try with_reducible rfl)
      (try simp only [Act.put, List.setIfInBounds_toArray, List.set_cons_zero, List.set_cons_succ])
      refine wpAnyH_done (by kernel_rfl) ?_ _
      have HH := Lib.hid hHeld.2
      clear hHeld
      have hs1 := HH.out.size
      have c1 : w1.cell? ⟨p, 0, none⟩ = some (.slice A 0 cap) := (HH.out.cell (p := ⟨p, 0, none⟩) HLTP.out).trans c0
      have g1 : w1.frozen? ⟨p, 0, none⟩ = false := ((Turns.of_below (S := fun _ => False) HH.out).frozen HLTP.out (fun e => e)).trans f0
      have m0 := (HH.out.cell (p := ⟨X, 0, none⟩) HLTX.out).trans n0; have m1 := (HH.out.cell (p := ⟨X, 1, none⟩) HLTX.out).trans n1; have m2 := (HH.out.cell (p := ⟨X, 2, none⟩) HLTX.out).trans n2; have m3 := (HH.out.cell (p := ⟨X, 3, none⟩) HLTX.out).trans n3; have m4 := (HH.out.cell (p := ⟨X, 4, none⟩) HLTX.out).trans n4; have m5 := (HH.out.cell (p := ⟨X, 5, none⟩) HLTX.out).trans n5; have m6 := (HH.out.cell (p := ⟨X, 6, none⟩) HLTX.out).trans n6
      have HROW1 := Lib.hid (HROW.out.new HH.out)
      have HB1 : Hid (∀ o, Below X w (w1.alloc o).drew) := Lib.hid fun o => HB.out.trans (((HH.out.mono (Nat.le_of_lt HLTX.out)).alloc (by have := HLTX.out; omega) _).drew)
      have hbs1 : base ≤ w1.heap.size := by have := HBS.out; have := HLTX.out; omega
      have hlt1' : p < w1.heap.size := by have := HLTP.out; omega
      have HNE := Lib.hid H.out.ne
      clear n0 n1 n2 n3 n4 n5 n6 c0 f0 HROW HQ
      go_upto_region 3 with (fail)
      go_region_law (first
        | (refine step_append_row (v := .slice A 0 cap) layR rfl _ _ rfl (by rfl) (HROW1.out.new (below1 _ _)).drew (flat_one' _ _) (by simp; omega) 1 rfl (rd_noteR w1 n) rfl (flat_one' _ _) (by first | omega | (simp)) ?_; intro v3 w3 hr3 ht3 ho3; obtain ⟨A3, cap3, hv3, _, _⟩ := hr3.shape; subst hv3; (have c3 : w3.cell? ⟨p, 0, none⟩ = some (.slice A 0 cap) := (ht3.cell (by simp; omega) HNE.out).trans (((below1 w1.drew _).cell (p := ⟨p, 0, none⟩) hlt1').trans c1)); (have f3 : w3.frozen? ⟨p, 0, none⟩ = false := (ht3.frozen (by simp; omega) HNE.out).trans (((Turns.of_below (S := fun _ => False) (below1 w1.drew _)).frozen hlt1' (fun e => e)).trans g1))))
      all_goals
        have hr4 : Row w3 base 7 (.slice A3 (0 + 1) cap3) (([] : List Nt) ++ [n]).length (flat .i64 (([] : List Nt) ++ [n])) := by rw [flat_app, List.length_append]; exact hr3
        have HR4 := Lib.hid hr4; have HT4 := Lib.hid ht3; have HO4 := Lib.hid ho3
        clear hr4 ht3 ho3 hr3 c3 f3 m0 m1 m2 m3 m4 m5 m6
        go_wp2_with fail
        go_ret
        rw [(addD_no hr).1, (addD_no hr).2]
        exact ⟨rfl, HFIN.out _ _ _ (HB1.out _) HR4.out HT4.out HO4.out⟩
    · obtain ⟨g, o, rfl, hg, hN⟩ := HRD.out.note (i := D.length - 1) (by omega)
      have d0 := hN.c0
      have HLTG := Lib.hid hg
      have hwr : IntKind.i64.wrap ((D.length : Int) - 1) = ((D.length - 1 : Nat) : Int) := by rw [IntKind.wrap_i64]; omega
      have hge : (0 : Int) ≤ ((D.length - 1 : Nat) : Int) := by omega
      have hlt1 : ((D.length - 1 : Nat) : Int) < (D.length : Int) := by omega
      have hd0 : decide ((0 : Int) < (D.length : Int)) = true := by rw [decide_eq_true_iff]; omega
      have hpos : 0 < D.length := by omega
      have hDne : ¬ D = [] := fun e => hn (by rw [e]; rfl)
      have hfa : fallsB D n.s = decide (n.s < D[D.length - 1]!.s) := by simp [fallsB]; omega
      clear hN hg
      generalize D[D.length - 1]!.s = y at *
      refine wp_region_held_drew (S := fun w' => (w'.cell? ⟨X, 2, none⟩ = some (.int .i64 (n.k : Int)) ∧ w'.cell? ⟨X, 0, none⟩ = some (.int .i64 n.s) ∧ w'.cell? ⟨p, 0, none⟩ = some (.slice (some ⟨g, o, none⟩) D.length cap) ∧ w'.cell? ⟨g, o + (D.length - 1) * 7, none⟩ = some (.int .i64 y)) ∧ Below wb.heap.size wb w') (by kernel_rfl) ?_ (fun hHeld => ?_)
      · exact ⟨⟨n2, n0, c0, d0⟩, (Below.refl _ wb).drew⟩
      refine wpAnyH_take (i := 0) (oi := ({ dst := some 5, op := Op.fieldAddr 40 (Operand.tmp 3) 2, type := 0, pos := "ref.go:47", after := #[], guard := none } : Oper)) (v := ?vc0) rfl (by kernel_rfl) (by kernel_rfl) (by kernel_rfl) (fun _ _ _ h => h) (Or.inl ⟨by rfl, fun w hSw => ?hyc0⟩) (by assumption) ?rc0
      case hyc0 => (try dsimp only at hSw); go_simp; (try with_reducible rfl)
      (try simp only [Act.put, List.setIfInBounds_toArray, List.set_cons_zero, List.set_cons_succ])
      refine wpAnyH_take (i := 1) (oi := ({ dst := some 6, op := Op.load 3 (Operand.tmp 5), type := 3, pos := "ref.go:47", after := #[{ on := 0, ground := Ground.data }], guard := none } : Oper)) (v := ?vc1) rfl (by kernel_rfl) (by kernel_rfl) (by kernel_rfl) (fun _ _ _ h => h) (Or.inl ⟨by rfl, fun w hSw => ?hyc1⟩) (by assumption) ?rc1
      case hyc1 => (try dsimp only at hSw); go_simp; (try with_reducible rfl)
      (try simp only [Act.put, List.setIfInBounds_toArray, List.set_cons_zero, List.set_cons_succ])
      refine wpAnyH_ready (rs := [2]) (by kernel_rfl) (by simp) ?_
      refine AllReadyH.cons (o := ({ dst := some 7, op := Op.call { callee := Callee.value (Operand.func 17), args := #[Operand.tmp 6], argTypes := #[3] }, type := 9, pos := "ref.go:47", after := #[{ on := 1, ground := Ground.data }], guard := none } : Oper)) rfl (fun Kq hKq => ?_) AllReadyH.nil
      go_simp
      (refine (HQ.out _).mono ?_; rintro e w1 ⟨rfl, hb1⟩)
      refine hKq.out _ _ ?_ (fun hHeld => ?_)
      · exact ⟨⟨(hb1.cell (by have := hHeld.2.size; have := HLTX.out; show X < _; omega)).trans hHeld.1.1, (hb1.cell (by have := hHeld.2.size; have := HLTX.out; show X < _; omega)).trans hHeld.1.2.1, (hb1.cell (by have := hHeld.2.size; have := HLTP.out; show p < _; omega)).trans hHeld.1.2.2.1, (hb1.cell (by have := hHeld.2.size; have := HLTG.out; show g < _; omega)).trans hHeld.1.2.2.2⟩, hHeld.2.trans (hb1.mono hHeld.2.size)⟩
      clear hKq Kq
      (try simp only [Act.put, List.setIfInBounds_toArray, List.set_cons_zero, List.set_cons_succ])
      refine wpAnyH_take (i := 3) (oi := ({ dst := some 8, op := Op.binOp BinOp.eql 9 (Operand.tmp 7) (Operand.const (Value.string { data := #[] })) 9, type := 4, pos := "ref.go:47", after := #[{ on := 2, ground := Ground.data }], guard := none } : Oper)) (v := ?vc3) rfl (by kernel_rfl) (by kernel_rfl) (by kernel_rfl) (fun _ _ _ h => h) (Or.inl ⟨by rfl, fun w hSw => ?hyc3⟩) (by assumption) ?rc3
      case hyc3 => (try dsimp only at hSw); go_simp; (try with_reducible rfl)
      (try simp only [Act.put, List.setIfInBounds_toArray, List.set_cons_zero, List.set_cons_succ])
      refine wpAnyH_take (i := 4) (oi := ({ dst := some 9, op := Op.move (Operand.tmp 8), type := 4, pos := "ref.go:47", after := #[{ on := 3, ground := Ground.data }, { on := 2, ground := Ground.chain }], guard := none } : Oper)) (v := ?vc4) rfl (by kernel_rfl) (by kernel_rfl) (by kernel_rfl) (fun _ _ _ h => h) (Or.inl ⟨by rfl, fun w hSw => ?hyc4⟩) (by assumption) ?rc4
      case hyc4 => (try dsimp only at hSw); go_simp; (try with_reducible rfl)
      (try simp only [Act.put, List.setIfInBounds_toArray, List.set_cons_zero, List.set_cons_succ])
      refine wpAnyH_take (i := 5) (oi := ({ dst := some 10, op := Op.move (Operand.tmp 0), type := 26, pos := "ref.go:47", after := #[{ on := 4, ground := Ground.guard }], guard := some (4, false) } : Oper)) (v := ?vc5) rfl (by kernel_rfl) (by kernel_rfl) (by kernel_rfl) (fun _ _ _ h => h) (Or.inl ⟨by rfl, fun w hSw => ?hyc5⟩) (by assumption) ?rc5
      case hyc5 => (try dsimp only at hSw); go_simp; (try with_reducible rfl)
      (try simp only [Act.put, List.setIfInBounds_toArray, List.set_cons_zero, List.set_cons_succ])
      refine wpAnyH_take (i := 6) (oi := ({ dst := some 11, op := Op.nilCheck (Operand.tmp 10), type := 0, pos := "ref.go:47", after := #[{ on := 5, ground := Ground.data }, { on := 4, ground := Ground.guard }], guard := some (4, false) } : Oper)) (v := ?vc6) rfl (by kernel_rfl) (by kernel_rfl) (by kernel_rfl) (fun _ _ _ h => h) (Or.inl ⟨by rfl, fun w hSw => ?hyc6⟩) (by assumption) ?rc6
      case hyc6 => (try dsimp only at hSw); go_simp; (try with_reducible rfl)
      (try simp only [Act.put, List.setIfInBounds_toArray, List.set_cons_zero, List.set_cons_succ])
      refine wpAnyH_take (i := 7) (oi := ({ dst := some 12, op := Op.fieldAddr 29 (Operand.tmp 11) 0, type := 0, pos := "ref.go:47", after := #[{ on := 6, ground := Ground.data }, { on := 4, ground := Ground.guard }], guard := some (4, false) } : Oper)) (v := ?vc7) rfl (by kernel_rfl) (by kernel_rfl) (by kernel_rfl) (fun _ _ _ h => h) (Or.inl ⟨by rfl, fun w hSw => ?hyc7⟩) (by assumption) ?rc7
      case hyc7 => (try dsimp only at hSw); go_simp; (try with_reducible rfl)
      (try simp only [Act.put, List.setIfInBounds_toArray, List.set_cons_zero, List.set_cons_succ])
      refine wpAnyH_take (i := 8) (oi := ({ dst := some 13, op := Op.load 27 (Operand.tmp 12), type := 27, pos := "ref.go:47", after := #[{ on := 7, ground := Ground.data }, { on := 4, ground := Ground.guard }], guard := some (4, false) } : Oper)) (v := ?vc8) rfl (by kernel_rfl) (by kernel_rfl) (by kernel_rfl) (fun _ _ _ h => h) (Or.inl ⟨by rfl, fun w hSw => ?hyc8⟩) (by assumption) ?rc8
      case hyc8 => (try dsimp only at hSw); go_simp; (try with_reducible rfl)
      (try simp only [Act.put, List.setIfInBounds_toArray, List.set_cons_zero, List.set_cons_succ])
      refine wpAnyH_take (i := 9) (oi := ({ dst := some 14, op := Op.call { callee := Callee.builtin Builtin.len, args := #[Operand.tmp 13], argTypes := #[27] }, type := 3, pos := "ref.go:47", after := #[{ on := 8, ground := Ground.data }, { on := 4, ground := Ground.guard }], guard := some (4, false) } : Oper)) (v := ?vc9) rfl (by kernel_rfl) (by kernel_rfl) (by kernel_rfl) (fun _ _ _ h => h) (Or.inl ⟨by rfl, fun w hSw => ?hyc9⟩) (by assumption) ?rc9
      case hyc9 => (try dsimp only at hSw); go_simp; (try with_reducible rfl)
      (try simp only [Act.put, List.setIfInBounds_toArray, List.set_cons_zero, List.set_cons_succ])
      refine wpAnyH_take (i := 10) (oi := ({ dst := some 15, op := Op.binOp BinOp.gtr 3 (Operand.tmp 14) (Operand.const (Value.int IntKind.i64 0)) 3, type := 4, pos := "ref.go:47", after := #[{ on := 9, ground := Ground.data }, { on := 4, ground := Ground.guard }], guard := some (4, false) } : Oper)) (v := ?vc10) rfl (by kernel_rfl) (by kernel_rfl) (by kernel_rfl) (fun _ _ _ h => h) (Or.inl ⟨by rfl, fun w hSw => ?hyc10⟩) (by assumption) ?rc10
      case hyc10 => (try dsimp only at hSw); go_simp; (try with_reducible rfl)
      (try simp only [Act.put, List.setIfInBounds_toArray, List.set_cons_zero, List.set_cons_succ])
      refine wpAnyH_take (i := 11) (oi := ({ dst := some 16, op := Op.move (Operand.tmp 15), type := 4, pos := "ref.go:47", after := #[{ on := 10, ground := Ground.data }, { on := 4, ground := Ground.chain }, { on := 4, ground := Ground.guard }], guard := some (4, false) } : Oper)) (v := ?vc11) rfl (by kernel_rfl) (by kernel_rfl) (by kernel_rfl) (fun _ _ _ h => h) (Or.inl ⟨by rfl, fun w hSw => ?hyc11⟩) (by assumption) ?rc11
      case hyc11 => (try dsimp only at hSw); go_simp; (try with_reducible rfl)
      (try simp only [Act.put, List.setIfInBounds_toArray, List.set_cons_zero, List.set_cons_succ])
      refine wpAnyH_take (i := 12) (oi := ({ dst := some 17, op := Op.fieldAddr 40 (Operand.tmp 3) 0, type := 0, pos := "ref.go:47", after := #[{ on := 11, ground := Ground.guard }], guard := some (11, true) } : Oper)) (v := ?vc12) rfl (by kernel_rfl) (by kernel_rfl) (by kernel_rfl) (fun _ _ _ h => h) (Or.inl ⟨by rfl, fun w hSw => ?hyc12⟩) (by assumption) ?rc12
      case hyc12 => (try dsimp only at hSw); go_simp; (try with_reducible rfl)
      (try simp only [Act.put, List.setIfInBounds_toArray, List.set_cons_zero, List.set_cons_succ])
      refine wpAnyH_take (i := 13) (oi := ({ dst := some 18, op := Op.load 3 (Operand.tmp 17), type := 3, pos := "ref.go:47", after := #[{ on := 12, ground := Ground.data }, { on := 11, ground := Ground.guard }], guard := some (11, true) } : Oper)) (v := ?vc13) rfl (by kernel_rfl) (by kernel_rfl) (by kernel_rfl) (fun _ _ _ h => h) (Or.inl ⟨by rfl, fun w hSw => ?hyc13⟩) (by assumption) ?rc13
      case hyc13 => (try dsimp only at hSw); go_simp; (try with_reducible rfl)
      (try simp only [Act.put, List.setIfInBounds_toArray, List.set_cons_zero, List.set_cons_succ])
      refine wpAnyH_take (i := 14) (oi := ({ dst := some 19, op := Op.move (Operand.tmp 0), type := 26, pos := "ref.go:47", after := #[{ on := 11, ground := Ground.guard }], guard := some (11, true) } : Oper)) (v := ?vc14) rfl (by kernel_rfl) (by kernel_rfl) (by kernel_rfl) (fun _ _ _ h => h) (Or.inl ⟨by rfl, fun w hSw => ?hyc14⟩) (by assumption) ?rc14
      case hyc14 => (try dsimp only at hSw); go_simp; (try with_reducible rfl)
      (try simp only [Act.put, List.setIfInBounds_toArray, List.set_cons_zero, List.set_cons_succ])
      refine wpAnyH_take (i := 15) (oi := ({ dst := some 20, op := Op.nilCheck (Operand.tmp 19), type := 0, pos := "ref.go:47", after := #[{ on := 14, ground := Ground.data }, { on := 11, ground := Ground.guard }], guard := some (11, true) } : Oper)) (v := ?vc15) rfl (by kernel_rfl) (by kernel_rfl) (by kernel_rfl) (fun _ _ _ h => h) (Or.inl ⟨by rfl, fun w hSw => ?hyc15⟩) (by assumption) ?rc15
      case hyc15 => (try dsimp only at hSw); go_simp; (try with_reducible rfl)
      (try simp only [Act.put, List.setIfInBounds_toArray, List.set_cons_zero, List.set_cons_succ])
      refine wpAnyH_take (i := 16) (oi := ({ dst := some 21, op := Op.fieldAddr 29 (Operand.tmp 20) 0, type := 0, pos := "ref.go:47", after := #[{ on := 15, ground := Ground.data }, { on := 11, ground := Ground.guard }], guard := some (11, true) } : Oper)) (v := ?vc16) rfl (by kernel_rfl) (by kernel_rfl) (by kernel_rfl) (fun _ _ _ h => h) (Or.inl ⟨by rfl, fun w hSw => ?hyc16⟩) (by assumption) ?rc16
      case hyc16 => (try dsimp only at hSw); go_simp; (try with_reducible rfl)
      (try simp only [Act.put, List.setIfInBounds_toArray, List.set_cons_zero, List.set_cons_succ])
      refine wpAnyH_take (i := 17) (oi := ({ dst := some 22, op := Op.load 27 (Operand.tmp 21), type := 27, pos := "ref.go:47", after := #[{ on := 16, ground := Ground.data }, { on := 11, ground := Ground.guard }], guard := some (11, true) } : Oper)) (v := ?vc17) rfl (by kernel_rfl) (by kernel_rfl) (by kernel_rfl) (fun _ _ _ h => h) (Or.inl ⟨by rfl, fun w hSw => ?hyc17⟩) (by assumption) ?rc17
      case hyc17 => (try dsimp only at hSw); go_simp; (try with_reducible rfl)
      (try simp only [Act.put, List.setIfInBounds_toArray, List.set_cons_zero, List.set_cons_succ])
      refine wpAnyH_take (i := 18) (oi := ({ dst := some 23, op := Op.move (Operand.tmp 0), type := 26, pos := "ref.go:47", after := #[{ on := 11, ground := Ground.guard }], guard := some (11, true) } : Oper)) (v := ?vc18) rfl (by kernel_rfl) (by kernel_rfl) (by kernel_rfl) (fun _ _ _ h => h) (Or.inl ⟨by rfl, fun w hSw => ?hyc18⟩) (by assumption) ?rc18
      case hyc18 => (try dsimp only at hSw); go_simp; (try with_reducible rfl)
      (try simp only [Act.put, List.setIfInBounds_toArray, List.set_cons_zero, List.set_cons_succ])
      refine wpAnyH_take (i := 19) (oi := ({ dst := some 24, op := Op.nilCheck (Operand.tmp 23), type := 0, pos := "ref.go:47", after := #[{ on := 18, ground := Ground.data }, { on := 11, ground := Ground.guard }], guard := some (11, true) } : Oper)) (v := ?vc19) rfl (by kernel_rfl) (by kernel_rfl) (by kernel_rfl) (fun _ _ _ h => h) (Or.inl ⟨by rfl, fun w hSw => ?hyc19⟩) (by assumption) ?rc19
      case hyc19 => (try dsimp only at hSw); go_simp; (try with_reducible rfl)
      (try simp only [Act.put, List.setIfInBounds_toArray, List.set_cons_zero, List.set_cons_succ])
      refine wpAnyH_take (i := 20) (oi := ({ dst := some 25, op := Op.fieldAddr 29 (Operand.tmp 24) 0, type := 0, pos := "ref.go:47", after := #[{ on := 19, ground := Ground.data }, { on := 11, ground := Ground.guard }], guard := some (11, true) } : Oper)) (v := ?vc20) rfl (by kernel_rfl) (by kernel_rfl) (by kernel_rfl) (fun _ _ _ h => h) (Or.inl ⟨by rfl, fun w hSw => ?hyc20⟩) (by assumption) ?rc20
      case hyc20 => (try dsimp only at hSw); go_simp; (try with_reducible rfl)
      (try simp only [Act.put, List.setIfInBounds_toArray, List.set_cons_zero, List.set_cons_succ])
      refine wpAnyH_take (i := 21) (oi := ({ dst := some 26, op := Op.load 27 (Operand.tmp 25), type := 27, pos := "ref.go:47", after := #[{ on := 20, ground := Ground.data }, { on := 11, ground := Ground.guard }], guard := some (11, true) } : Oper)) (v := ?vc21) rfl (by kernel_rfl) (by kernel_rfl) (by kernel_rfl) (fun _ _ _ h => h) (Or.inl ⟨by rfl, fun w hSw => ?hyc21⟩) (by assumption) ?rc21
      case hyc21 => (try dsimp only at hSw); go_simp; (try with_reducible rfl)
      (try simp only [Act.put, List.setIfInBounds_toArray, List.set_cons_zero, List.set_cons_succ])
      refine wpAnyH_take (i := 22) (oi := ({ dst := some 27, op := Op.call { callee := Callee.builtin Builtin.len, args := #[Operand.tmp 26], argTypes := #[27] }, type := 3, pos := "ref.go:47", after := #[{ on := 21, ground := Ground.data }, { on := 11, ground := Ground.guard }], guard := some (11, true) } : Oper)) (v := ?vc22) rfl (by kernel_rfl) (by kernel_rfl) (by kernel_rfl) (fun _ _ _ h => h) (Or.inl ⟨by rfl, fun w hSw => ?hyc22⟩) (by assumption) ?rc22
      case hyc22 => (try dsimp only at hSw); go_simp; (try with_reducible rfl)
      (try simp only [Act.put, List.setIfInBounds_toArray, List.set_cons_zero, List.set_cons_succ])
      refine wpAnyH_take (i := 23) (oi := ({ dst := some 28, op := Op.binOp BinOp.sub 3 (Operand.tmp 27) (Operand.const (Value.int IntKind.i64 1)) 3, type := 3, pos := "ref.go:47", after := #[{ on := 22, ground := Ground.data }, { on := 11, ground := Ground.guard }], guard := some (11, true) } : Oper)) (v := ?vc23) rfl (by kernel_rfl) (by kernel_rfl) (by kernel_rfl) (fun _ _ _ h => h) (Or.inl ⟨by rfl, fun w hSw => ?hyc23⟩) (by assumption) ?rc23
      case hyc23 => (try dsimp only at hSw); go_simp; (try with_reducible rfl)
      (try simp only [Act.put, List.setIfInBounds_toArray, List.set_cons_zero, List.set_cons_succ])
      refine wpAnyH_take (i := 24) (oi := ({ dst := some 29, op := Op.indexAddr 27 (Operand.tmp 22) (Operand.tmp 28), type := 0, pos := "ref.go:47", after := #[{ on := 17, ground := Ground.data }, { on := 23, ground := Ground.data }, { on := 11, ground := Ground.guard }], guard := some (11, true) } : Oper)) (v := ?vc24) rfl (by kernel_rfl) (by kernel_rfl) (by kernel_rfl) (fun _ _ _ h => h) (Or.inl ⟨by rfl, fun w hSw => ?hyc24⟩) (by assumption) ?rc24
      case hyc24 => (try dsimp only at hSw); go_simp; (try with_reducible rfl)
      (try simp only [Act.put, List.setIfInBounds_toArray, List.set_cons_zero, List.set_cons_succ])
      refine wpAnyH_take (i := 25) (oi := ({ dst := some 30, op := Op.fieldAddr 40 (Operand.tmp 29) 0, type := 0, pos := "ref.go:47", after := #[{ on := 24, ground := Ground.data }, { on := 11, ground := Ground.guard }], guard := some (11, true) } : Oper)) (v := ?vc25) rfl (by kernel_rfl) (by kernel_rfl) (by kernel_rfl) (fun _ _ _ h => h) (Or.inl ⟨by rfl, fun w hSw => ?hyc25⟩) (by assumption) ?rc25
      case hyc25 => (try dsimp only at hSw); go_simp; (try with_reducible rfl)
      (try simp only [Act.put, List.setIfInBounds_toArray, List.set_cons_zero, List.set_cons_succ])
      refine wpAnyH_take (i := 26) (oi := ({ dst := some 31, op := Op.load 3 (Operand.tmp 30), type := 3, pos := "ref.go:47", after := #[{ on := 25, ground := Ground.data }, { on := 11, ground := Ground.guard }], guard := some (11, true) } : Oper)) (v := ?vc26) rfl (by kernel_rfl) (by kernel_rfl) (by kernel_rfl) (fun _ _ _ h => h) (Or.inl ⟨by rfl, fun w hSw => ?hyc26⟩) (by assumption) ?rc26
      case hyc26 => (try dsimp only at hSw); go_simp; (try with_reducible rfl)
      (try simp only [Act.put, List.setIfInBounds_toArray, List.set_cons_zero, List.set_cons_succ])
      refine wpAnyH_take (i := 27) (oi := ({ dst := some 32, op := Op.binOp BinOp.lss 3 (Operand.tmp 18) (Operand.tmp 31) 3, type := 4, pos := "ref.go:47", after := #[{ on := 13, ground := Ground.data }, { on := 26, ground := Ground.data }, { on := 11, ground := Ground.guard }], guard := some (11, true) } : Oper)) (v := ?vc27) rfl (by kernel_rfl) (by kernel_rfl) (by kernel_rfl) (fun _ _ _ h => h) (Or.inl ⟨by rfl, fun w hSw => ?hyc27⟩) (by assumption) ?rc27
      case hyc27 => (try dsimp only at hSw); go_simp; (try with_reducible rfl)
      (try simp only [Act.put, List.setIfInBounds_toArray, List.set_cons_zero, List.set_cons_succ])
      refine wpAnyH_take (i := 28) (oi := ({ dst := some 33, op := Op.pick (Operand.tmp 16) (Operand.tmp 32) (Operand.const (Value.bool false)), type := 4, pos := "ref.go:47", after := #[{ on := 11, ground := Ground.data }, { on := 27, ground := Ground.data }, { on := 4, ground := Ground.guard }], guard := some (4, false) } : Oper)) (v := ?vc28) rfl (by kernel_rfl) (by kernel_rfl) (by kernel_rfl) (fun _ _ _ h => h) (Or.inl ⟨by rfl, fun w hSw => ?hyc28⟩) (by assumption) ?rc28
      case hyc28 => (try dsimp only at hSw); go_simp; (try with_reducible rfl)
      (try simp only [Act.put, List.setIfInBounds_toArray, List.set_cons_zero, List.set_cons_succ])
      refine wpAnyH_take (i := 29) (oi := ({ dst := some 34, op := Op.pick (Operand.tmp 9) (Operand.const (Value.bool true)) (Operand.tmp 33), type := 4, pos := "ref.go:47", after := #[{ on := 4, ground := Ground.data }, { on := 28, ground := Ground.data }], guard := none } : Oper)) (v := ?vc29) rfl (by kernel_rfl) (by kernel_rfl) (by kernel_rfl) (fun _ _ _ h => h) (Or.inl ⟨by rfl, fun w hSw => ?hyc29⟩) (by assumption) ?rc29
      case hyc29 => (try dsimp only at hSw); go_simp; (try with_reducible rfl)
      (try simp only [Act.put, List.setIfInBounds_toArray, List.set_cons_zero, List.set_cons_succ])
      refine wpAnyH_done (by kernel_rfl) ?_ _
      have HH := Lib.hid hHeld.2
      clear hHeld HLTG d0 hd0 hge hlt1 hwr HRD
      by_cases hfy : n.s < y
      · have hr : refB D n = true := by simp [refB, hki, hfa, hfy]
        rw [decide_eq_true hfy]
        go_wp2_with fail
        go_ret
        rw [(addD_yes hr).1, (addD_yes hr).2]
        exact ⟨rfl, HSAME.out _ HH.out⟩
      · have hr : refB D n = false := by simp [refB, hki, hfa, hfy]
        rw [decide_eq_false hfy]
        have hs1 := HH.out.size
        have c1 : w1.cell? ⟨p, 0, none⟩ = some (.slice (some ⟨g, o, none⟩) D.length cap) := (HH.out.cell (p := ⟨p, 0, none⟩) HLTP.out).trans c0
        have g1 : w1.frozen? ⟨p, 0, none⟩ = false := ((Turns.of_below (S := fun _ => False) HH.out).frozen HLTP.out (fun e => e)).trans f0
        have m0 := (HH.out.cell (p := ⟨X, 0, none⟩) HLTX.out).trans n0; have m1 := (HH.out.cell (p := ⟨X, 1, none⟩) HLTX.out).trans n1; have m2 := (HH.out.cell (p := ⟨X, 2, none⟩) HLTX.out).trans n2; have m3 := (HH.out.cell (p := ⟨X, 3, none⟩) HLTX.out).trans n3; have m4 := (HH.out.cell (p := ⟨X, 4, none⟩) HLTX.out).trans n4; have m5 := (HH.out.cell (p := ⟨X, 5, none⟩) HLTX.out).trans n5; have m6 := (HH.out.cell (p := ⟨X, 6, none⟩) HLTX.out).trans n6
        have HROW1 := Lib.hid (HROW.out.new HH.out)
        have HB1 : Hid (∀ o, Below X w (w1.alloc o).drew) := Lib.hid fun o => HB.out.trans (((HH.out.mono (Nat.le_of_lt HLTX.out)).alloc (by have := HLTX.out; omega) _).drew)
        have hbs1 : base ≤ w1.heap.size := by have := HBS.out; have := HLTX.out; omega
        have hlt1' : p < w1.heap.size := by have := HLTP.out; omega
        have HNE := Lib.hid H.out.ne
        clear n0 n1 n2 n3 n4 n5 n6 c0 f0 HROW HQ
        go_upto_region 3 with (fail)
        go_region_law (first
          | (refine step_append_row (v := .slice (some ⟨g, o, none⟩) D.length cap) layR rfl _ _ rfl (by rfl) (HROW1.out.new (below1 _ _)).drew (flat_one' _ _) (by simp; omega) 1 rfl (rd_noteR w1 n) rfl (flat_one' _ _) (by first | omega | (simp)) ?_; intro v3 w3 hr3 ht3 ho3; obtain ⟨A3, cap3, hv3, _, _⟩ := hr3.shape; subst hv3; (have c3 : w3.cell? ⟨p, 0, none⟩ = some (.slice (some ⟨g, o, none⟩) D.length cap) := (ht3.cell (by simp; omega) HNE.out).trans (((below1 w1.drew _).cell (p := ⟨p, 0, none⟩) hlt1').trans c1)); (have f3 : w3.frozen? ⟨p, 0, none⟩ = false := (ht3.frozen (by simp; omega) HNE.out).trans (((Turns.of_below (S := fun _ => False) (below1 w1.drew _)).frozen hlt1' (fun e => e)).trans g1))))
        all_goals
          have hr4 : Row w3 base 7 (.slice A3 (D.length + 1) cap3) (D ++ [n]).length (flat .i64 (D ++ [n])) := by rw [flat_app, List.length_append]; exact hr3
          have HR4 := Lib.hid hr4; have HT4 := Lib.hid ht3; have HO4 := Lib.hid ho3
          clear hr4 ht3 ho3 hr3 c3 f3 m0 m1 m2 m3 m4 m5 m6
          go_wp2_with fail
          go_ret
          rw [(addD_no hr).1, (addD_no hr).2]
          exact ⟨rfl, HFIN.out _ _ _ (HB1.out _) HR4.out HT4.out HO4.out⟩
end Go.Proofs.YtoefgfolokcdhaaDoor
