/- Texts of this seat, one behind the other. -/
import Derived.Test.YtieiiabbeglmfaaGreatDoorMLawOldest201
import Derived.Test.YtieiiabbeglmfaaGreatDoorMLawOldest2035
set_option linter.unusedVariables false
set_option linter.unusedSimpArgs false
set_option linter.unusedVariables false
set_option linter.unusedSimpArgs false
set_option linter.unusedVariables false
set_option linter.unusedSimpArgs false
namespace Go.Proofs.YtieiiabbeglmfaaGreatDoor.S18
set_option maxRecDepth 100000
set_option maxHeartbeats 16000000
open Go.Proofs.YtieiiabbeglmfaaGreatDoor Go.Proofs.YtieiiabbeglmfaaGreatDoor.S11 Go.Proofs.YtieiiabbeglmfaaGreatDoor.S12 Go.Proofs.YtieiiabbeglmfaaGreatDoor.S13 Go.Proofs.YtieiiabbeglmfaaGreatDoor.S14 Go.Proofs.YtieiiabbeglmfaaGreatDoor.S15 Go.Proofs.YtieiiabbeglmfaaGreatDoor.S16
open Go.RowKit
theorem m_plate (w : World) : (method 558 118 (.agg #[]) "Late").run Tryz.prog w = .ok (296, .agg #[]) w := by kernel_rfl
theorem m_clate (a b c d : Value) (w : World) : (method 558 439 (.agg #[a, b, c, d]) "Late").run Tryz.prog w = .ok (308, .agg #[a, b, c, d]) w := by kernel_rfl
theorem plate_any (k : Int) (s : Bool) (w : World) : Calls Tryz.prog 296 #[.agg #[], .int .u32 k, .bool s] w fun e w' => e = .returned .nilIface ∧ Below w.heap.size w w' := by
  go_enter Tryz.func296, Tryz.ntmps296
  go_wp2_with fail
  go_ret
  exact ⟨rfl, by first | exact Below.refl _ _ | exact below1 _ _⟩
section
variable {w0 w w' : World} {base WB : Nat} {M : Sd} {r : List Part} {j e u B : Nat} {l l' : Rows} {X : Wm} {D : Pd} {pb pi : Int} {p b : Value} {o : Nat}
theorem clate_no {ca cl cn cc : Nat} (k : Int) (s : Bool) (hs : s = false ∨ cc = 0) (w : World) :
    Calls Tryz.prog 308 #[.agg #[.int .u32 (ca : Int), .int .u64 (cl : Int), .int .u64 (cn : Int), .int .u64 (cc : Int)], .int .u32 k, .bool s] w fun e w' => e = .returned .nilIface ∧ Below w.heap.size w w' := by
  have hb := below1 w (.cells #[.int .u32 (ca : Int), .int .u64 (cl : Int), .int .u64 (cn : Int), .int .u64 (cc : Int)] 439)
  have HB := Lib.hid hb
  cases s
  · clear hs hb
    go_enter Tryz.func308, Tryz.ntmps308
    go_wp2_with fail
    go_ret
    exact ⟨rfl, HB.out⟩
  · have h0 : cc = 0 := hs.resolve_left (by decide)
    have k3 : (w.alloc (.cells #[.int .u32 (ca : Int), .int .u64 (cl : Int), .int .u64 (cn : Int), .int .u64 (cc : Int)] 439)).cell? ⟨w.heap.size, 3, none⟩ = some (.int .u64 (cc : Int)) := cell_row (heap_alloc_new w _) 3
    have d1 : ((cc : Int) == 0) = true := by rw [h0]; rfl
    have d2 : (cc : Int) = 0 := by omega
    clear hs hb h0
    obtain ⟨CB, hC⟩ : ∃ CB, CB = w.heap.size := ⟨_, rfl⟩
    rw [← hC] at k3
    have HC := Lib.hid hC
    clear hC
    generalize (cc : Int) = ci at *
    obtain rfl := d2
    go_enter Tryz.func308, Tryz.ntmps308
    go_upto_region 1 with fail
    rw [← HC.out]
    generalize w.alloc (.cells #[.int .u32 (ca : Int), .int .u64 (cl : Int), .int .u64 (cn : Int), .int .u64 0] 439) = w1 at *
    go_wp2_with fail
    go_ret
    exact ⟨rfl, HB.out⟩
theorem clate_yes {ca cl cn cc : Nat} (h : Wq w0 w base WB M r j l X) (k : Int) (hc : ¬ cc = 0) :
    Calls Tryz.prog 308 #[.agg #[.int .u32 (ca : Int), .int .u64 (cl : Int), .int .u64 (cn : Int), .int .u64 (cc : Int)], .int .u32 k, .bool true] w fun e' w' => ∃ CB NB, e' = .returned (.iface 372 (Pw NB)) ∧ Wq w0 w' base WB M r j (l ++ [(CB, ckO ⟨ca, cl, cn, cc⟩), (NB, oneO (.func 311) #[] #[Pw CB] false)]) X := by
  have h1 : Wq w0 (w.alloc (.cells #[.int .u32 (ca : Int), .int .u64 (cl : Int), .int .u64 (cn : Int), .int .u64 (cc : Int)] 439)) base WB M r j (l ++ [(w.heap.size, ckO ⟨ca, cl, cn, cc⟩)]) X := h.push (ckO ⟨ca, cl, cn, cc⟩)
  have k3 : (w.alloc (.cells #[.int .u32 (ca : Int), .int .u64 (cl : Int), .int .u64 (cn : Int), .int .u64 (cc : Int)] 439)).cell? ⟨w.heap.size, 3, none⟩ = some (.int .u64 (cc : Int)) := cell_row (heap_alloc_new w _) 3
  have d1 : ((cc : Int) == 0) = false := by cases cc with | zero => exact absurd rfl hc | succ n => rfl
  have d2 : ¬ (cc : Int) = 0 := by omega
  obtain ⟨CB, hC⟩ : ∃ CB, CB = w.heap.size := ⟨_, rfl⟩
  rw [← hC] at k3 h1
  have HC := Lib.hid hC; have H1 := Lib.hid h1
  clear h h1 hC hc
  go_enter Tryz.func308, Tryz.ntmps308
  go_upto_region 1 with fail
  rw [← HC.out]
  generalize w.alloc (.cells #[.int .u32 (ca : Int), .int .u64 (cl : Int), .int .u64 (cn : Int), .int .u64 (cc : Int)] 439) = w1 at *
  go_wp2_with fail
  go_ret
  have h2 := H1.out.push (oneO (.func 311) #[] #[Pw CB] false)
  rw [List.append_assoc] at h2
  exact ⟨CB, _, rfl, h2⟩
def Left (w0 w' : World) (base WB : Nat) (M : Sd) (r : List Part) (j u B : Nat) (D : Pd) (pb pi : Int) (o n a : Nat) (X : Wm) : Prop :=
  ∃ U XB OB, Wq w0 w' base WB M (r.set u (freeP U (fr0 a))) j [(B, pkO D pb pi (.iface 73 (Pw U)) (fnV 189 #[] #[Pw XB, Pw OB]) o), (XB, xO B), (OB, .cells #[.int .u8 (n : Int)] 50 (0, 0))] X
theorem late1_ {XB k : Nat} (h : Wq w0 w base WB M r j l X) (hb : l[0]? = some (B, pkO D pb pi p b o)) (hx : l[k]? = some (XB, xO B)) (hju : j ≠ u) (hu : u < r.length) {a : Nat} (hz : S10.lockZ pb pi = (a : Int)) :
    Calls Tryz.prog 273 #[Pw XB] w fun e' w' => e' = .returned (.tuple #[]) ∧ Left w0 w' base WB M r j u B D pb pi o 3 a X := by
  have y0 : w.cell? ⟨XB, 0, none⟩ = some (Pw B) := cell_row (h.blk k hx) 0
  have HL := Lib.hid (leave_ h hb hju hu hz 3)
  clear h hb hx hju hu hz
  go_enter Tryz.func273, Tryz.ntmps273
  go_wp2_with (go_at_call 158; refine HL.out.mono ?_; rintro e' w1 ⟨rfl, h1⟩)
  go_end0
  exact ⟨rfl, h1⟩
theorem do_late {XB k : Nat} (h : Wq w0 w base WB M r j l X) (hb : l[0]? = some (B, pkO D pb pi p b o)) (hx : l[k]? = some (XB, xO B)) (hju : j ≠ u) (hu : u < r.length) {a : Nat} (hz : S10.lockZ pb pi = (a : Int)) :
    Calls Tryz.prog 100 #[Pw B, .nilIface, fnV 273 #[] #[Pw XB]] w fun e' w' => e' = .returned (.tuple #[]) ∧ Left w0 w' base WB M r j u B D pb pi o 3 a X := by
  have HS := Lib.hid (late1_ h hb hx hju hu hz)
  have e0 := eqI0
  clear h hb hx hju hu hz
  go_enter Tryz.func100, Tryz.ntmps100
  go_wp2_with (go_at_call 273; refine HS.out.mono ?_; rintro e' w1 ⟨rfl, h1⟩)
  (first | go_end0 | go_ret | (refine bodyPost_ret (results_none rfl _ _ _) rfl ?_))
  exact ⟨rfl, h1⟩
theorem late_p {t k z : Nat} {on : Bool} {at_ : Nat} (h : Wq w0 w base WB M r j l X) (hb : l[0]? = some (B, pkO ⟨t, k, z, on, at_, none⟩ pb pi p b o)) (hju : j ≠ u) (hu : u < r.length) {a : Nat} (hz : S10.lockZ pb pi = (a : Int)) (ky : Nat) (s : Bool) :
    Calls Tryz.prog 271 #[Pw B, .int .u32 (ky : Int), .bool s] w fun e' w' => e' = .returned (.tuple #[]) ∧ Left w0 w' base WB M r j u B ⟨t, k, z, on, at_, none⟩ pb pi o 3 a X := by
  have h1 := h.push (xO B)
  have c5 : (w.alloc (xO B)).cell? ⟨B, 5, none⟩ = some (.iface 118 (.agg #[])) := cell_row (h1.blk 0 (app1 hb)) 5
  have y0 : (w.alloc (xO B)).cell? ⟨w.heap.size, 0, none⟩ = some (Pw B) := cell_row (h1.blk l.length (at_end _ _)) 0
  have hm := m_plate
  obtain ⟨XB, hX⟩ : ∃ XB, XB = w.heap.size := ⟨_, rfl⟩
  rw [← hX] at y0 h1
  obtain ⟨w1, hw1⟩ : ∃ w1, w1 = w.alloc (xO B) := ⟨_, rfl⟩
  rw [← hw1] at y0 c5 h1
  have HB := Lib.hid (plate_any (ky : Int) s)
  have HD := Lib.hid (fun (W : World) (q : Below w1.heap.size w1 W) => do_late (h1.new q) (app1 hb) (at_end _ _) hju hu hz)
  have HX := Lib.hid hX; have HW1 := Lib.hid hw1; have HY0 := Lib.hid y0
  clear h h1 hb hju hu hz hX hw1
  go_enter Tryz.func271, Tryz.ntmps271
  go_upto_region 1 with fail
  rw [← HX.out, ← HW1.out]
  go_region_law (first
    | (go_simp; go_at_call 296; refine (HB.out _).mono ?_; rintro e' w2 ⟨rfl, hb1⟩; have y2 : w2.cell? ⟨XB, 0, none⟩ = some (Pw B) := bcell hb1 HY0.out; have HB1 := Lib.hid hb1; clear hb1)
    | (go_simp; go_at_call 100; refine (HD.out _ ((Below.refl _ _).drew.trans HB1.out)).mono ?_; rintro e' w3 ⟨rfl, h2⟩))
  all_goals
    (first | go_end0 | (go_wp2_with fail; go_end0))
    exact ⟨rfl, h2⟩
theorem late_n {t k z : Nat} {on : Bool} {at_ : Nat} {ca cl cn cc : Nat} (h : Wq w0 w base WB M r j l X) (hb : l[0]? = some (B, pkO ⟨t, k, z, on, at_, some ⟨ca, cl, cn, cc⟩⟩ pb pi p b o)) (hju : j ≠ u) (hu : u < r.length) {a : Nat} (hz : S10.lockZ pb pi = (a : Int)) (ky : Nat) (s : Bool) (hs : s = false ∨ cc = 0) :
    Calls Tryz.prog 271 #[Pw B, .int .u32 (ky : Int), .bool s] w fun e' w' => e' = .returned (.tuple #[]) ∧ Left w0 w' base WB M r j u B ⟨t, k, z, on, at_, some ⟨ca, cl, cn, cc⟩⟩ pb pi o 3 a X := by
  have h1 := h.push (xO B)
  have c5 : (w.alloc (xO B)).cell? ⟨B, 5, none⟩ = some (.iface 439 (.agg #[.int .u32 (ca : Int), .int .u64 (cl : Int), .int .u64 (cn : Int), .int .u64 (cc : Int)])) := cell_row (h1.blk 0 (app1 hb)) 5
  have y0 : (w.alloc (xO B)).cell? ⟨w.heap.size, 0, none⟩ = some (Pw B) := cell_row (h1.blk l.length (at_end _ _)) 0
  have hm := m_clate (.int .u32 (ca : Int)) (.int .u64 (cl : Int)) (.int .u64 (cn : Int)) (.int .u64 (cc : Int))
  obtain ⟨XB, hX⟩ : ∃ XB, XB = w.heap.size := ⟨_, rfl⟩
  rw [← hX] at y0 h1
  obtain ⟨w1, hw1⟩ : ∃ w1, w1 = w.alloc (xO B) := ⟨_, rfl⟩
  rw [← hw1] at y0 c5 h1
  have HB := Lib.hid (clate_no (ca := ca) (cl := cl) (cn := cn) (ky : Int) s hs)
  have HD := Lib.hid (fun (W : World) (q : Below w1.heap.size w1 W) => do_late (h1.new q) (app1 hb) (at_end _ _) hju hu hz)
  have HX := Lib.hid hX; have HW1 := Lib.hid hw1; have HY0 := Lib.hid y0
  clear h h1 hb hju hu hz hX hw1 hs
  go_enter Tryz.func271, Tryz.ntmps271
  go_upto_region 1 with fail
  rw [← HX.out, ← HW1.out]
  go_region_law (first
    | (go_simp; go_at_call 308; refine (HB.out _).mono ?_; rintro e' w2 ⟨rfl, hb1⟩; have y2 : w2.cell? ⟨XB, 0, none⟩ = some (Pw B) := bcell hb1 HY0.out; have HB1 := Lib.hid hb1; clear hb1)
    | (go_simp; go_at_call 100; refine (HD.out _ ((Below.refl _ _).drew.trans HB1.out)).mono ?_; rintro e' w3 ⟨rfl, h2⟩))
  all_goals
    (first | go_end0 | (go_wp2_with fail; go_end0))
    exact ⟨rfl, h2⟩
end
end Go.Proofs.YtieiiabbeglmfaaGreatDoor.S18
set_option linter.unusedVariables false
set_option linter.unusedSimpArgs false
namespace Go.Proofs.YtieiiabbeglmfaaGreatDoor.S18
set_option maxRecDepth 100000
set_option maxHeartbeats 16000000
open Go.Proofs.YtieiiabbeglmfaaGreatDoor Go.Proofs.YtieiiabbeglmfaaGreatDoor.S11 Go.Proofs.YtieiiabbeglmfaaGreatDoor.S12 Go.Proofs.YtieiiabbeglmfaaGreatDoor.S13 Go.Proofs.YtieiiabbeglmfaaGreatDoor.S14 Go.Proofs.YtieiiabbeglmfaaGreatDoor.S15 Go.Proofs.YtieiiabbeglmfaaGreatDoor.S16
open Go.RowKit
section
variable {w0 w w' : World} {base WB : Nat} {M : Sd} {r : List Part} {j e u B : Nat} {l l' : Rows} {X : Wm} {D : Pd} {pb pi : Int} {p b : Value} {o : Nat}
def Clears (w0 w' : World) (base WB : Nat) (M : Sd) (r : List Part) (j B : Nat) (D : Pd) (c : Ck) (pb pi : Int) (o : Nat) (ov : Bool) (X : Wm) : Prop :=
  ∃ XB CB NB, Wq w0 w' base WB M r j [(B, pkO D pb pi (.iface 372 (Pw NB)) (fnV 273 #[] #[Pw XB]) o), (XB, xO B), (CB, ckO c), (NB, oneO (.func 311) #[] #[Pw CB] ov)] X
theorem late_y {t k z ca cl cn cc : Nat} {on : Bool} {at_ : Nat} (h : Wq w0 w base WB M r j l X) (hb : l[0]? = some (B, pkO ⟨t, k, z, on, at_, some ⟨ca, cl, cn, cc⟩⟩ pb pi p b o)) (ky : Nat) (hc : ¬ cc = 0) :
    Calls Tryz.prog 271 #[Pw B, .int .u32 (ky : Int), .bool true] w fun e' w' => e' = .returned (.tuple #[]) ∧ Clears w0 w' base WB M r j B ⟨t, k, z, on, at_, some ⟨ca, cl, cn, cc⟩⟩ ⟨ca, cl, cn, cc⟩ pb pi o false X := by
  have h1 := h.push (xO B)
  have c5 : (w.alloc (xO B)).cell? ⟨B, 5, none⟩ = some (.iface 439 (.agg #[.int .u32 (ca : Int), .int .u64 (cl : Int), .int .u64 (cn : Int), .int .u64 (cc : Int)])) := cell_row (h1.blk 0 (app1 hb)) 5
  have y0 : (w.alloc (xO B)).cell? ⟨w.heap.size, 0, none⟩ = some (Pw B) := cell_row (h1.blk l.length (at_end _ _)) 0
  have hm := m_clate (.int .u32 (ca : Int)) (.int .u64 (cl : Int)) (.int .u64 (cn : Int)) (.int .u64 (cc : Int))
  obtain ⟨XB, hX⟩ : ∃ XB, XB = w.heap.size := ⟨_, rfl⟩
  rw [← hX] at y0 h1
  obtain ⟨w1, hw1⟩ : ∃ w1, w1 = w.alloc (xO B) := ⟨_, rfl⟩
  rw [← hw1] at y0 c5 h1
  have HV := Lib.hid (clate_yes (ca := ca) (cl := cl) (cn := cn) (cc := cc) (h1.new (Below.refl _ _).drew) (ky : Int) hc)
  have HX := Lib.hid hX; have HW1 := Lib.hid hw1; have HB := Lib.hid hb; have HLT := Lib.hid (List.getElem?_eq_some_iff.1 hb).1
  clear h h1 hb hX hw1 hc
  go_enter Tryz.func271, Tryz.ntmps271
  go_upto_region 1 with fail
  rw [← HX.out, ← HW1.out]
  refine wp_region_held_drew (S := fun w' => w'.cell? ⟨XB, 0, none⟩ = some (Pw B) ∧ w'.cell? ⟨B, 5, none⟩ = some (.iface 439 (.agg #[.int .u32 (ca : Int), .int .u64 (cl : Int), .int .u64 (cn : Int), .int .u64 (cc : Int)]))) (by kernel_rfl) ?_ (fun hHeld => ?_)
  · exact ⟨y0, c5⟩
  refine tA 0 ⟨some 6, .load 32 (.tmp 3), 32, "parts.go:126", #[], none⟩ ?vym1 ?rym1
  (try simp only [Act.put, tC, tD, tE])
  refine tA 1 ⟨some 7, .load 32 (.tmp 3), 32, "parts.go:126", #[], none⟩ ?vym2 ?rym2
  (try simp only [Act.put, tC, tD, tE])
  refine tA 2 ⟨some 8, .nilCheck (.tmp 7), 0, "parts.go:126", #[⟨1, .data⟩], none⟩ ?vym3 ?rym3
  (try simp only [Act.put, tC, tD, tE])
  refine tA 3 ⟨some 9, .fieldAddr 125 (.tmp 8) 2, 0, "parts.go:126", #[⟨2, .data⟩], none⟩ ?vym4 ?rym4
  (try simp only [Act.put, tC, tD, tE])
  refine tA 4 ⟨some 10, .load 123 (.tmp 9), 123, "parts.go:126", #[⟨3, .data⟩], none⟩ ?vym5 ?rym5
  (try simp only [Act.put, tC, tD, tE])
  refine tA 5 ⟨some 11, .move (.tmp 1), 35, "parts.go:126", #[], none⟩ ?vym6 ?rym6
  (try simp only [Act.put, tC, tD, tE])
  refine tA 6 ⟨some 12, .move (.tmp 2), 4, "parts.go:126", #[], none⟩ ?vym7 ?rym7
  (try simp only [Act.put, tC, tD, tE])
  refine tA 8 ⟨some 14, .makeFunc (Fn.func 273) #[] #[.tmp 3], 1, "parts.go:126", #[], none⟩ ?vym8 ?rym8
  (try simp only [Act.put, tC, tD, tE])
  refine wpAnyH_ready (rs := [7]) (by kernel_rfl) (by simp) ?_
  refine AllReadyH.cons (o := ({ dst := some 13, op := Op.call { callee := Callee.invoke (Operand.tmp 10) "Late", args := #[Operand.tmp 11, Operand.tmp 12], argTypes := #[35, 4] }, type := 72, pos := "parts.go:126", after := #[{ on := 4, ground := Ground.data }, { on := 5, ground := Ground.data }, { on := 6, ground := Ground.data }], guard := none } : Oper)) rfl (fun Kq hKq => ?_) AllReadyH.nil
  go_simp; (refine HV.out.mono ?_; rintro e' w2 ⟨CB, NB, rfl, h2⟩; have H2 := Lib.hid h2; clear h2)
  refine hKq.out _ _ ?_ (fun hHeld => ?_)
  · exact ⟨cell_row (H2.out.blk l.length (app1 (at_end _ _))) 0, cell_row (H2.out.blk 0 (app2 HB.out)) 5⟩
  clear hKq Kq
  (try simp only [Act.put, tC, tD, tE])
  refine wpAnyH_ready (rs := [9]) (by kernel_rfl) (by simp) ?_
  refine AllReadyH.cons (o := ⟨some 15, .call ⟨.value (.func 100), #[.tmp 6, .tmp 13, .tmp 14], #[32, 72, 1]⟩, 0, "parts.go:126", #[⟨0, .data⟩, ⟨7, .data⟩, ⟨8, .data⟩, ⟨7, .chain⟩], none⟩) rfl (fun Kq hKq => ?_) AllReadyH.nil
  go_simp
  (refine (do_ H2.out (app2 HB.out) _ _ _ _ _).mono ?_; rintro e' w3 ⟨rfl, h4⟩)
  refine hKq.out _ _ ?_ (fun hHeld => ?_)
  · exact ⟨cell_row (h4.blk l.length (by rw [List.getElem?_set_ne (by have := HLT.out; omega)]; exact app1 (at_end _ _))) 0, cell_row (h4.blk 0 (List.getElem?_set_self (List.getElem?_eq_some_iff.1 (app2 HB.out)).1)) 5⟩
  clear hKq Kq
  (try simp only [Act.put, tC, tD, tE])
  refine wpAnyH_done (by kernel_rfl) ?_ _
  go_end0
  rw [List.append_assoc] at h4
  exact ⟨rfl, XB, CB, NB, h4.keep HLT.out⟩
def Asks (w0 w' : World) (base WB : Nat) (M : Sd) (r : List Part) (j B : Nat) (D : Pd) (pb pi : Int) (o ky : Nat) (ov lt ls : Bool) (X : Wm) : Prop :=
  ∃ XB KB LB QB NB, Wq w0 w' base WB M r j [(B, pkO D pb pi (.iface 372 (Pw NB)) (fnV 270 #[] #[Pw LB, Pw XB, Pw KB, Pw QB]) o), (XB, xO B), (KB, .cells #[.int .u32 (ky : Int)] 35 (0, 0)), (LB, .cells #[.bool lt] 4 (0, 0)), (QB, .cells #[.bool ls] 4 (0, 0)), (NB, oneO (.func 267) #[] #[Pw XB, Pw LB, Pw KB, Pw QB] ov)] X
theorem ask_ (h : Wq w0 w base WB M r j l X) (hb : l[0]? = some (B, pkO D pb pi p b o)) (ky : Nat) :
    Calls Tryz.prog 266 #[Pw B, .int .u32 (ky : Int)] w fun e' w' => e' = .returned (.tuple #[]) ∧ Asks w0 w' base WB M r j B D pb pi o ky false false false X := by
  have h1 := h.push (xO B)
  have h2 := h1.push (.cells #[.int .u32 (ky : Int)] 35)
  have h3 := h2.push (.cells #[.bool false] 4)
  have h4 := h3.push (.cells #[.bool false] 4)
  simp only [alloc_size, Nat.add_assoc] at h4
  have y0 : ((((w.alloc (xO B)).alloc (.cells #[.int .u32 (ky : Int)] 35)).alloc (.cells #[.bool false] 4)).alloc (.cells #[.bool false] 4)).cell? ⟨w.heap.size, 0, none⟩ = some (Pw B) := cell_row (h4.blk l.length (app3 (at_end _ _))) 0
  have HO := Lib.hid (once_ h4 (app4 hb) (.func 267) #[] #[Pw w.heap.size, Pw (w.heap.size + 2), Pw (w.heap.size + 1), Pw (w.heap.size + 3)] (.func 270) #[] #[Pw (w.heap.size + 2), Pw w.heap.size, Pw (w.heap.size + 1), Pw (w.heap.size + 3)])
  have HLT := Lib.hid (List.getElem?_eq_some_iff.1 hb).1
  clear h h1 h2 h3 h4 hb
  go_enter Tryz.func266, Tryz.ntmps266
  go_upto_region 2 with fail
  obtain ⟨n, hn⟩ : ∃ n, n = w.heap.size := ⟨_, rfl⟩
  simp only [alloc_size, Nat.add_assoc]
  rw [← hn] at y0 HO ⊢
  have HN := Lib.hid hn
  clear hn
  generalize (((w.alloc (xO B)).alloc (.cells #[.int .u32 (ky : Int)] 35)).alloc (.cells #[.bool false] 4)).alloc (.cells #[.bool false] 4) = w4 at *
  go_wp2_with (go_at_call 185; refine HO.out.mono ?_; rintro e' w5 ⟨rfl, h5⟩)
  go_end0
  rw [List.append_assoc, List.append_assoc, List.append_assoc, List.append_assoc] at h5
  exact ⟨rfl, n, n + 1, n + 2, n + 3, w4.heap.size, h5.keep HLT.out⟩
theorem own1_ {VB XB kv kx : Nat} {E : En} {Z : Wb} (h : Wq w0 w base WB M r j l X) (s : EwS r e u E Z) (hje : j ≠ e) (hju : j ≠ u) (h0 : E.ln = 0) (how : E.ow = true) (hkw : E.kw < 4294967296)
    (hb : l[0]? = some (B, pkO D pb pi p b o)) (hv : l[kv]? = some (VB, .cells #[Pw Z.B] 411 (0, 0))) (hx : l[kx]? = some (XB, xO B)) :
    Calls Tryz.prog 264 #[Pw VB, Pw XB] w fun e' w' => e' = .returned (.tuple #[]) ∧ Asks w0 w' base WB M r j B D (bitsN E.tw : Int) (bktN E.kw E.tw : Int) o E.kw false false false X := by
  have v0 : w.cell? ⟨VB, 0, none⟩ = some (Pw Z.B) := cell_row (h.blk kv hv) 0
  obtain ⟨hpb, hpi⟩ := s.pl (.inr h0)
  have hgot := ogot_yes (wq_ew h s hje hju).wy (ews_got s h0)
  rw [hpb, hpi, Nat.mod_eq_of_lt hkw] at hgot
  obtain ⟨qb, hqb⟩ : ∃ qb, qb = (bitsN E.tw : Int) := ⟨_, rfl⟩
  obtain ⟨qi, hqi⟩ : ∃ qi, qi = (bktN E.kw E.tw : Int) := ⟨_, rfl⟩
  obtain ⟨ky, hky⟩ : ∃ ky, ky = E.kw := ⟨_, rfl⟩
  rw [← hqb, ← hqi, ← hky] at hgot
  rw [← hqb, ← hqi, ← hky]
  have HG := Lib.hid hgot; have H := Lib.hid h; have HB := Lib.hid hb; have HXR := Lib.hid hx; have HLT := Lib.hid (List.getElem?_eq_some_iff.1 hb).1
  clear h s hje hju h0 how hkw hb hv hx hpb hpi hgot hqb hqi hky
  go_enter Tryz.func264, Tryz.ntmps264
  go_upto_region 1 with (go_at_call 265; refine HG.out.mono ?_; rintro e' w2 ⟨rfl, hb2⟩; have h2 := H.out.new hb2; have H2 := Lib.hid h2; clear hb2 h2)
  have h3 := H2.out.push (.cells #[.int .i64 qb, .int .i64 qi] 97)
  obtain ⟨w3, hw3⟩ : ∃ w3, w3 = w2.alloc (.cells #[.int .i64 qb, .int .i64 qi] 97) := ⟨_, rfl⟩
  obtain ⟨PB, hPB⟩ : ∃ PB, PB = w2.heap.size := ⟨_, rfl⟩
  rw [← hw3, ← hPB] at h3
  have p0 : w3.cell? ⟨PB, 0, none⟩ = some (.int .i64 qb) := cell_row (h3.blk _ (at_end _ _)) 0
  have p1 : w3.cell? ⟨PB, 1, none⟩ = some (.int .i64 qi) := cell_row (h3.blk _ (at_end _ _)) 1
  have x0 : w3.cell? ⟨XB, 0, none⟩ = some (Pw B) := cell_row (h3.blk kx (app1 HXR.out)) 0
  have c6 : w3.cell? ⟨B, 6, none⟩ = some (.int .i64 pb) := cell_row (h3.blk 0 (app1 HB.out)) 6
  have c7 : w3.cell? ⟨B, 7, none⟩ = some (.int .i64 pi) := cell_row (h3.blk 0 (app1 HB.out)) 7
  have f6 : w3.frozen? ⟨B, 6, none⟩ = false := froz_row (h3.blk 0 (app1 HB.out)) 6
  have f7 : w3.frozen? ⟨B, 7, none⟩ = false := froz_row (h3.blk 0 (app1 HB.out)) 7
  rw [← hw3, ← hPB]
  have h4 := h3.put 0 (app1 HB.out) 6 (.int .i64 qb) (cs' := pkC D qb pi p b o) rfl
  have h5 := h4.put 0 (List.getElem?_set_self (List.getElem?_eq_some_iff.1 (app1 HB.out)).1) 7 (.int .i64 qi) (cs' := pkC D qb qi p b o) rfl
  rw [List.set_set] at h5
  have hkx : ¬ 0 = kx := fun e0 => by
    subst e0
    have h6 := HB.out.symm.trans HXR.out
    injection h6 with h6
    injection h6 with _ h6
    injection h6 with h7 h8
    exact absurd h8 (by decide)
  have H5 := Lib.hid h5; have HKX := Lib.hid hkx
  clear h3 h4 h5 hw3 hPB v0 hkx
  go_upto_region 2 with fail
  have x1 : ((w3.setCell ⟨B, 6, none⟩ (.int .i64 qb)).setCell ⟨B, 7, none⟩ (.int .i64 qi)).cell? ⟨XB, 0, none⟩ = some (Pw B) := cell_row (H5.out.blk kx ((List.getElem?_set_ne HKX.out).trans (app1 HXR.out))) 0
  clear p0 p1 x0 c6 c7 f6 f7
  generalize (w3.setCell ⟨B, 6, none⟩ (.int .i64 qb)).setCell ⟨B, 7, none⟩ (.int .i64 qi) = w5 at *
  have HA := Lib.hid (ask_ H5.out (List.getElem?_set_self (List.getElem?_eq_some_iff.1 (app1 HB.out)).1) ky)
  go_wp2_with (go_at_call 266; refine HA.out.mono ?_; rintro e' w6 ⟨rfl, h6⟩)
  go_end0
  exact ⟨rfl, h6⟩
theorem ask2_n {LB XB KB QB kl kx kk kq ky : Nat} {ls : Bool} (h : Wq w0 w base WB M r j l X) (hb : l[0]? = some (B, pkO D pb pi p b o)) (hx : l[kx]? = some (XB, xO B)) (hl : l[kl]? = some (LB, .cells #[.bool false] 4 (0, 0))) (hju : j ≠ u) (hu : u < r.length) {a : Nat} (hz : S10.lockZ pb pi = (a : Int)) :
    Calls Tryz.prog 270 #[Pw LB, Pw XB, Pw KB, Pw QB] w fun e' w' => e' = .returned (.tuple #[]) ∧ Left w0 w' base WB M r j u B D pb pi o 2 a X := by
  have y0 : w.cell? ⟨XB, 0, none⟩ = some (Pw B) := cell_row (h.blk kx hx) 0
  have y1 : w.cell? ⟨LB, 0, none⟩ = some (.bool false) := cell_row (h.blk kl hl) 0
  have HL := Lib.hid (leave_ h hb hju hu hz 2)
  clear h hb hx hl hju hu hz
  go_enter Tryz.func270, Tryz.ntmps270
  go_wp2_with (go_at_call 158; refine HL.out.mono ?_; rintro e' w1 ⟨rfl, h1⟩)
  go_end0
  exact ⟨rfl, h1⟩
theorem ask2_y {LB XB KB QB kl kx kk kq ky : Nat} {ls : Bool} {Q : World → Prop} (h : Wq w0 w base WB M r j l X) (hx : l[kx]? = some (XB, xO B)) (hl : l[kl]? = some (LB, .cells #[.bool true] 4 (0, 0))) (hk : l[kk]? = some (KB, .cells #[.int .u32 (ky : Int)] 35 (0, 0))) (hq : l[kq]? = some (QB, .cells #[.bool ls] 4 (0, 0)))
    (hlt : Calls Tryz.prog 271 #[Pw B, .int .u32 (ky : Int), .bool ls] w fun e' w' => e' = .returned (.tuple #[]) ∧ Q w') :
    Calls Tryz.prog 270 #[Pw LB, Pw XB, Pw KB, Pw QB] w fun e' w' => e' = .returned (.tuple #[]) ∧ Q w' := by
  have y0 : w.cell? ⟨XB, 0, none⟩ = some (Pw B) := cell_row (h.blk kx hx) 0
  have y1 : w.cell? ⟨LB, 0, none⟩ = some (.bool true) := cell_row (h.blk kl hl) 0
  have y2 : w.cell? ⟨KB, 0, none⟩ = some (.int .u32 (ky : Int)) := cell_row (h.blk kk hk) 0
  have y3 : w.cell? ⟨QB, 0, none⟩ = some (.bool ls) := cell_row (h.blk kq hq) 0
  have HL := Lib.hid hlt
  clear h hx hl hk hq hlt
  go_enter Tryz.func270, Tryz.ntmps270
  go_wp2_with (go_at_call 271; refine HL.out.mono ?_; rintro e' w1 ⟨rfl, h1⟩)
  go_end0
  exact ⟨rfl, h1⟩
theorem leave1_ {XB OB kx ko n : Nat} (h : Wq w0 w base WB M r j l X) (hb : l[0]? = some (B, pkO D pb pi p b o)) (hx : l[kx]? = some (XB, xO B)) (ho : l[ko]? = some (OB, .cells #[.int .u8 (n : Int)] 50 (0, 0))) :
    Calls Tryz.prog 189 #[Pw XB, Pw OB] w fun e' w' => e' = .returned (.tuple #[]) ∧ Wq w0 w' base WB M r j (l.set 0 (B, pkO D pb pi .nilIface .nilFunc n)) X := by
  have y0 : w.cell? ⟨XB, 0, none⟩ = some (Pw B) := cell_row (h.blk kx hx) 0
  have y1 : w.cell? ⟨OB, 0, none⟩ = some (.int .u8 (n : Int)) := cell_row (h.blk ko ho) 0
  have HL := Lib.hid (end_ h hb n)
  clear h hb hx ho
  go_enter Tryz.func189, Tryz.ntmps189
  go_wp2_with (go_at_call 190; refine HL.out.mono ?_; rintro e' w1 ⟨rfl, h1⟩)
  go_end0
  exact ⟨rfl, h1⟩
theorem sleep1_g {SB VB XB kx kv ks : Nat} (h : Wq w0 w base WB M r j l X) (hb : l[0]? = some (B, pkO D pb pi p b o)) (hx : l[kx]? = some (XB, xO B)) (hv : l[kv]? = some (VB, .cells #[Pw SB] 215 (0, 0))) (hs : l[ks]? = some (SB, slpO D.t D.on D.at' 1)) :
    Calls Tryz.prog 258 #[Pw VB, Pw XB] w fun e' w' => e' = .returned (.tuple #[]) ∧ Wq w0 w' base WB M r j (l.set 0 (B, pkO D pb pi .nilIface .nilFunc 2)) X := by
  have y0 : w.cell? ⟨XB, 0, none⟩ = some (Pw B) := cell_row (h.blk kx hx) 0
  have y1 : w.cell? ⟨VB, 0, none⟩ = some (Pw SB) := cell_row (h.blk kv hv) 0
  have y2 : w.cell? ⟨SB, 3, none⟩ = some (.int .u8 1) := cell_row (h.blk ks hs) 3
  have HL := Lib.hid (end_ h hb 2)
  clear h hb hx hv hs
  go_enter Tryz.func258, Tryz.ntmps258
  go_wp2_with (go_at_call 190; refine HL.out.mono ?_; rintro e' w1 ⟨rfl, h1⟩)
  go_end0
  exact ⟨rfl, h1⟩
theorem sleep1_l {SB VB XB kx kv ks : Nat} {Q : World → Prop} (h : Wq w0 w base WB M r j l X) (hx : l[kx]? = some (XB, xO B)) (hv : l[kv]? = some (VB, .cells #[Pw SB] 215 (0, 0))) (hs : l[ks]? = some (SB, slpO D.t D.on D.at' 2))
    (hown : Calls Tryz.prog 259 #[Pw B] w fun e' w' => e' = .returned (.tuple #[]) ∧ Q w') :
    Calls Tryz.prog 258 #[Pw VB, Pw XB] w fun e' w' => e' = .returned (.tuple #[]) ∧ Q w' := by
  have y0 : w.cell? ⟨XB, 0, none⟩ = some (Pw B) := cell_row (h.blk kx hx) 0
  have y1 : w.cell? ⟨VB, 0, none⟩ = some (Pw SB) := cell_row (h.blk kv hv) 0
  have y2 : w.cell? ⟨SB, 3, none⟩ = some (.int .u8 2) := cell_row (h.blk ks hs) 3
  have HL := Lib.hid hown
  clear h hx hv hs hown
  go_enter Tryz.func258, Tryz.ntmps258
  go_wp2_with (go_at_call 259; refine HL.out.mono ?_; rintro e' w1 ⟨rfl, h1⟩)
  go_end0
  exact ⟨rfl, h1⟩
end
end Go.Proofs.YtieiiabbeglmfaaGreatDoor.S18
set_option linter.unusedVariables false
set_option linter.unusedSimpArgs false
namespace Go.Proofs.YtieiiabbeglmfaaGreatDoor.S18
set_option maxRecDepth 100000
set_option maxHeartbeats 16000000
open Go.Proofs.YtieiiabbeglmfaaGreatDoor Go.Proofs.YtieiiabbeglmfaaGreatDoor.S11 Go.Proofs.YtieiiabbeglmfaaGreatDoor.S12 Go.Proofs.YtieiiabbeglmfaaGreatDoor.S13 Go.Proofs.YtieiiabbeglmfaaGreatDoor.S14 Go.Proofs.YtieiiabbeglmfaaGreatDoor.S15 Go.Proofs.YtieiiabbeglmfaaGreatDoor.S16
open Go.RowKit
theorem beqI (x y : Int) : (x == y) = decide (x = y) := rfl
theorem decN (x y : Nat) : decide ((x : Int) = (y : Int)) = decide (x = y) := decide_eq_decide.2 ⟨fun h => by omega, fun h => by omega⟩
theorem decN0 (x : Nat) : decide ((x : Int) = 0) = decide (x = 0) := decide_eq_decide.2 ⟨fun h => by omega, fun h => by omega⟩
theorem holds_b {ca cl cn cc u : Nat} (hl : cl < 18446744073709551616) (hn : cn < 18446744073709551616) (hu : u < 18446744073709551616) (b1 b2 b3 : Bool) (t1 : decide (u &&& cl = cl) = b1) (t2 : decide (cn = 0) = b2) (t3 : decide (u &&& cn = 0) = b3) (w : World) :
    Calls Tryz.prog 310 #[.agg #[.int .u32 (ca : Int), .int .u64 (cl : Int), .int .u64 (cn : Int), .int .u64 (cc : Int)], .int .u64 (u : Int)] w fun e w' => e = .returned (.bool (b1 && (b2 || !b3))) ∧ Below w.heap.size w w' := by
  have a1 := bits_and_u64_nat u cl hu hl
  have a2 := bits_and_u64_nat u cn hu hn
  have p1 : decide (((u &&& cl : Nat) : Int) = (cl : Int)) = b1 := (decN _ _).trans t1
  have p2 : decide ((cn : Int) = 0) = b2 := (decN0 _).trans t2
  have p3 : decide (((u &&& cn : Nat) : Int) = 0) = b3 := (decN0 _).trans t3
  have q1 := (beqI _ _).trans p1
  have q2 := (beqI _ _).trans p2
  have q3 := (beqI _ _).trans p3
  have q4 : ((((u &&& cn : Nat) : Int)) != 0) = !b3 := by show (!(_ == _)) = _; rw [q3]
  have hb := below1 w (.cells #[.int .u32 (ca : Int), .int .u64 (cl : Int), .int .u64 (cn : Int), .int .u64 (cc : Int)] 439)
  have k1 : (w.alloc (.cells #[.int .u32 (ca : Int), .int .u64 (cl : Int), .int .u64 (cn : Int), .int .u64 (cc : Int)] 439)).cell? ⟨w.heap.size, 1, none⟩ = some (.int .u64 (cl : Int)) := cell_row (heap_alloc_new w _) 1
  have k2 : (w.alloc (.cells #[.int .u32 (ca : Int), .int .u64 (cl : Int), .int .u64 (cn : Int), .int .u64 (cc : Int)] 439)).cell? ⟨w.heap.size, 2, none⟩ = some (.int .u64 (cn : Int)) := cell_row (heap_alloc_new w _) 2
  obtain ⟨CB, hC⟩ : ∃ CB, CB = w.heap.size := ⟨_, rfl⟩
  rw [← hC] at k1 k2
  have HC := Lib.hid hC; have HBL := Lib.hid hb
  generalize ((u &&& cl : Nat) : Int) = m1 at *
  generalize ((u &&& cn : Nat) : Int) = m2 at *
  clear hl hn hu t1 t2 t3 hC hb
  go_enter Tryz.func310, Tryz.ntmps310
  go_upto_region 1 with fail
  rw [← HC.out]
  generalize w.alloc (.cells #[.int .u32 (ca : Int), .int .u64 (cl : Int), .int .u64 (cn : Int), .int .u64 (cc : Int)] 439) = w1 at *
  cases b1 <;> cases b2 <;> cases b3
  all_goals
    go_wp2_with fail
    go_ret
    exact ⟨rfl, HBL.out⟩
theorem holds_any (c : Ck) {u : Nat} (hl : c.all < 18446744073709551616) (hn : c.any < 18446744073709551616) (hu : u < 18446744073709551616) (w : World) :
    Calls Tryz.prog 310 #[.agg c.cs, .int .u64 (u : Int)] w fun e w' => e = .returned (.bool (c.holds u)) ∧ Below w.heap.size w w' := by
  obtain ⟨ca, cl, cn, cc⟩ := c
  exact holds_b hl hn hu _ _ _ rfl rfl rfl w
section
variable {w0 w w' : World} {base WB : Nat} {M : Sd} {r : List Part} {j e u B : Nat} {l l' : Rows} {X : Wm} {D : Pd} {pb pi : Int} {p b : Value} {o : Nat}
theorem ok_ {LB k CB LX n : Nat} {c : Ck} (h : Wq w0 w base WB M r j l X) (hk : l[k]? = some (LB, lookO c CB LX true n)) (hl : c.all < 18446744073709551616) (hn : c.any < 18446744073709551616) (hu : n < 18446744073709551616) :
    Calls Tryz.prog 336 #[Pw LB] w fun e' w' => e' = .returned (.bool (c.holds n)) ∧ Below w.heap.size w w' := by
  obtain ⟨ca, cl, cn, cc⟩ := c
  have k1 : w.cell? ⟨LB, 1, none⟩ = some (.bool true) := cell_row (h.blk k hk) 1
  have k2 : w.cell? ⟨LB, 2, none⟩ = some (.int .u32 (ca : Int)) := cell_row (h.blk k hk) 2
  have k3 : w.cell? ⟨LB, 3, none⟩ = some (.int .u64 (cl : Int)) := cell_row (h.blk k hk) 3
  have k4 : w.cell? ⟨LB, 4, none⟩ = some (.int .u64 (cn : Int)) := cell_row (h.blk k hk) 4
  have k5 : w.cell? ⟨LB, 5, none⟩ = some (.int .u64 (cc : Int)) := cell_row (h.blk k hk) 5
  have k6 : w.cell? ⟨LB, 6, none⟩ = some (.int .u64 (n : Int)) := cell_row (h.blk k hk) 6
  have HH := Lib.hid (fun W => holds_any ⟨ca, cl, cn, cc⟩ hl hn hu W)
  unfold Ck.cs at HH
  clear h hk hl hn hu
  generalize Ck.holds ⟨ca, cl, cn, cc⟩ n = bo at *
  go_enter Tryz.func336, Tryz.ntmps336
  go_upto_region 1 with fail
  go_region_law (go_simp; go_at_call 310; refine (HH.out _).mono ?_; rintro e' w2 ⟨rfl, hb2⟩)
  all_goals
    go_wp2_with fail
    go_ret
    exact ⟨rfl, (Below.refl _ w).drew.trans hb2⟩
theorem val1_y {LB VB XB kx kv kl CB LX n : Nat} {c : Ck} (h : Wq w0 w base WB M r j l X) (hb : l[0]? = some (B, pkO D pb pi p b o)) (hx : l[kx]? = some (XB, xO B)) (hv : l[kv]? = some (VB, .cells #[.iface 440 (Pw LB)] 314 (0, 0))) (hk : l[kl]? = some (LB, lookO c CB LX true n)) (hl : c.all < 18446744073709551616) (hn : c.any < 18446744073709551616) (hu : n < 18446744073709551616) (hh : c.holds n = true) :
    Calls Tryz.prog 157 #[Pw VB, Pw XB] w fun e' w' => e' = .returned (.tuple #[]) ∧ ∃ XB NB, Wq w0 w' base WB M r j [(B, pkO D pb pi (.iface 372 (Pw NB)) (fnV 187 #[Pw B] #[]) o), (XB, xO B), (NB, oneO (.func 186) #[] #[Pw XB] false)] X := by
  have y1 : w.cell? ⟨VB, 0, none⟩ = some (.iface 440 (Pw LB)) := cell_row (h.blk kv hv) 0
  have ho := ok_ h hk hl hn hu
  rw [hh] at ho
  have HO := Lib.hid ho; have hm := m_ok ⟨LB, 0, none⟩
  have HS := Lib.hid (fun (W : World) (q : Below w.heap.size w W) => store_ (h.new q) hb)
  have HX := Lib.hid (fun (W : World) (q : Below w.heap.size w W) => (show W.cell? ⟨XB, 0, none⟩ = some (Pw B) from cell_row ((h.new q).blk kx hx) 0))
  clear h hb hx hv hk hl hn hu hh ho
  go_enter Tryz.func157, Tryz.ntmps157
  go_wp2_with (first
    | (go_at_call 336; refine HO.out.mono ?_; rintro e' w1 ⟨rfl, hb1⟩; have x1 := HX.out w1 hb1; have HB1 := Lib.hid hb1; clear hb1)
    | (go_at_call 156; refine (HS.out _ HB1.out).mono ?_; rintro e' w2 ⟨rfl, h2⟩))
  go_end0
  exact ⟨rfl, h2⟩
theorem val1_n {LB VB XB kx kv kl CB LX n : Nat} {c : Ck} (h : Wq w0 w base WB M r j l X) (hb : l[0]? = some (B, pkO D pb pi p b o)) (hx : l[kx]? = some (XB, xO B)) (hv : l[kv]? = some (VB, .cells #[.iface 440 (Pw LB)] 314 (0, 0))) (hk : l[kl]? = some (LB, lookO c CB LX true n)) (hl : c.all < 18446744073709551616) (hn : c.any < 18446744073709551616) (hu : n < 18446744073709551616) (hh : c.holds n = false)
    (hju : j ≠ u) (hu2 : u < r.length) {a : Nat} (hz : S10.lockZ pb pi = (a : Int)) :
    Calls Tryz.prog 157 #[Pw VB, Pw XB] w fun e' w' => e' = .returned (.tuple #[]) ∧ Left w0 w' base WB M r j u B D pb pi o 1 a X := by
  have y1 : w.cell? ⟨VB, 0, none⟩ = some (.iface 440 (Pw LB)) := cell_row (h.blk kv hv) 0
  have ho := ok_ h hk hl hn hu
  rw [hh] at ho
  have HO := Lib.hid ho; have hm := m_ok ⟨LB, 0, none⟩
  have HS := Lib.hid (fun (W : World) (q : Below w.heap.size w W) => leave_ (h.new q) hb hju hu2 hz 1)
  have HX := Lib.hid (fun (W : World) (q : Below w.heap.size w W) => (show W.cell? ⟨XB, 0, none⟩ = some (Pw B) from cell_row ((h.new q).blk kx hx) 0))
  clear h hb hx hv hk hl hn hu hh ho hju hu2 hz
  go_enter Tryz.func157, Tryz.ntmps157
  go_wp2_with (first
    | (go_at_call 336; refine HO.out.mono ?_; rintro e' w1 ⟨rfl, hb1⟩; have x1 := HX.out w1 hb1; have HB1 := Lib.hid hb1; clear hb1)
    | (go_at_call 158; refine (HS.out _ HB1.out).mono ?_; rintro e' w2 ⟨rfl, h2⟩))
  go_end0
  exact ⟨rfl, h2⟩
theorem enter1_ {VB XB kv kx : Nat} {E : En} {Z : Wb} {Q : World → Prop} (h : Wq w0 w base WB M r j l X) (s : EwS r e u E Z) (hje : j ≠ e) (hju : j ≠ u) (h0 : E.ln = 0) (how : E.ow = false) (hkw : E.kw < 4294967296)
    (hb : l[0]? = some (B, pkO D pb pi p b o)) (hv : l[kv]? = some (VB, .cells #[Pw Z.B] 70 (0, 0))) (hx : l[kx]? = some (XB, xO B))
    (hval : ∀ W, Wq w0 W base WB M r j (l.set 0 (B, pkO D (bitsN E.tw : Int) (bktN E.kw E.tw : Int) p b o)) X → Calls Tryz.prog 103 #[Pw B] W fun e' w' => e' = .returned (.tuple #[]) ∧ Q w') :
    Calls Tryz.prog 101 #[Pw VB, Pw XB] w fun e' w' => e' = .returned (.tuple #[]) ∧ Q w' := by
  have v0 : w.cell? ⟨VB, 0, none⟩ = some (Pw Z.B) := cell_row (h.blk kv hv) 0
  have x0 : w.cell? ⟨XB, 0, none⟩ = some (Pw B) := cell_row (h.blk kx hx) 0
  obtain ⟨hpb, hpi⟩ := s.pl (.inr h0)
  have hgot := egot_yes (wq_ew (h.new (Below.refl _ w).drew) s hje hju).wy (ews_got s h0)
  rw [hpb, hpi, Nat.mod_eq_of_lt hkw] at hgot
  obtain ⟨qb, hqb⟩ : ∃ qb, qb = (bitsN E.tw : Int) := ⟨_, rfl⟩
  obtain ⟨qi, hqi⟩ : ∃ qi, qi = (bktN E.kw E.tw : Int) := ⟨_, rfl⟩
  rw [← hqb, ← hqi] at hgot hval
  have hkx : ¬ 0 = kx := fun e0 => by
    subst e0
    have h6 := hb.symm.trans hx
    injection h6 with h6
    injection h6 with _ h6
    injection h6 with h7 h8
    exact absurd h8 (by decide)
  have HG := Lib.hid hgot; have H := Lib.hid (h.new (Below.refl _ w).drew); have HB := Lib.hid hb; have HXR := Lib.hid hx; have HV := Lib.hid hval; have HKX := Lib.hid hkx; have HVR := Lib.hid hv
  have hx0 := x0
  have HX0 := Lib.hid x0; have HV0 := Lib.hid v0
  clear h s hje hju h0 how hkw hb hv hx hpb hpi hgot hqb hqi hval hkx hx0
  go_enter Tryz.func101, Tryz.ntmps101
  refine wp_seq ?_
  refine wp_region_held_drew (S := fun w' => w'.cell? ⟨XB, 0, none⟩ = some (Pw B) ∧ w'.cell? ⟨VB, 0, none⟩ = some (Pw Z.B)) (by kernel_rfl) ?_ (fun hHeld => ?_)
  · exact ⟨HX0.out, HV0.out⟩
  refine tA 0 ⟨some 2, .load 32 (.tmp 1), 32, "parts.go:31", #[], none⟩ ?venm1 ?renm1
  (try simp only [Act.put, tC, tD, tE])
  refine tA 1 ⟨some 3, .load 70 (.tmp 0), 70, "parts.go:31", #[], none⟩ ?venm2 ?renm2
  (try simp only [Act.put, tC, tD, tE])
  refine wpAnyH_ready (rs := [2]) (by kernel_rfl) (by simp) ?_
  refine AllReadyH.cons (o := ⟨some 4, .call ⟨.value (.func 102), #[.tmp 3], #[70]⟩, 97, "parts.go:31", #[⟨1, .data⟩], none⟩) rfl (fun Kq hKq => ?_) AllReadyH.nil
  go_simp
  (refine HG.out.mono ?_; rintro e' w2 ⟨rfl, hb2⟩; have h2 := H.out.new hb2; have H2 := Lib.hid h2; clear h2 hb2)
  refine hKq.out _ _ ?_ (fun hHeld => ?_)
  · exact ⟨cell_row (H2.out.blk kx HXR.out) 0, cell_row (H2.out.blk kv HVR.out) 0⟩
  clear hKq Kq
  (try simp only [Act.put, tC, tD, tE])
  refine tA 3 ⟨some 5, .nilCheck (.tmp 2), 0, "parts.go:31", #[⟨0, .data⟩, ⟨0, .phase⟩, ⟨1, .phase⟩, ⟨2, .phase⟩], none⟩ ?venm3 ?renm3
  (try simp only [Act.put, tC, tD, tE])
  refine tA 4 ⟨some 6, .fieldAddr 125 (.tmp 5) 3, 0, "parts.go:31", #[⟨3, .data⟩, ⟨0, .phase⟩, ⟨1, .phase⟩, ⟨2, .phase⟩], none⟩ ?venm4 ?renm4
  (try simp only [Act.put, tC, tD, tE])
  refine wpAnyH_ready (rs := [5]) (by kernel_rfl) (by simp) ?_
  refine AllReadyH.cons (o := ⟨none, .store 97 (.tmp 6) (.tmp 4), 0, "parts.go:31", #[⟨4, .data⟩, ⟨2, .data⟩, ⟨2, .chain⟩, ⟨0, .phase⟩, ⟨1, .phase⟩, ⟨2, .phase⟩], none⟩) rfl (fun Kq hKq => ?_) AllReadyH.nil
  (have c6 : w2.cell? ⟨B, 6, none⟩ = some (.int .i64 pb) := cell_row (H2.out.blk 0 HB.out) 6; have c7 : w2.cell? ⟨B, 7, none⟩ = some (.int .i64 pi) := cell_row (H2.out.blk 0 HB.out) 7; have f6 : w2.frozen? ⟨B, 6, none⟩ = false := froz_row (H2.out.blk 0 HB.out) 6; have f7 : w2.frozen? ⟨B, 7, none⟩ = false := froz_row (H2.out.blk 0 HB.out) 7; go_simp; have h4 := H2.out.put 0 HB.out 6 (.int .i64 qb) (cs' := pkC D qb pi p b o) rfl; have h5 := h4.put 0 (List.getElem?_set_self (List.getElem?_eq_some_iff.1 HB.out).1) 7 (.int .i64 qi) (cs' := pkC D qb qi p b o) rfl; rw [List.set_set] at h5; have H3 := Lib.hid h5; clear h4 h5 c6 c7 f6 f7; generalize (w2.setCell ⟨B, 6, none⟩ (.int .i64 qb)).setCell ⟨B, 7, none⟩ (.int .i64 qi) = w3 at *)
  refine hKq.out _ _ ?_ (fun hHeld => ?_)
  · exact ⟨cell_row (H3.out.blk kx ((List.getElem?_set_ne HKX.out).trans HXR.out)) 0, by have hv3 : ¬ 0 = kv := (fun e0 => by subst e0; have h6 := HB.out.symm.trans HVR.out; injection h6 with h6; injection h6 with _ h6; injection h6 with h7 h8; exact absurd h8 (by decide)); exact cell_row (H3.out.blk kv ((List.getElem?_set_ne hv3).trans HVR.out)) 0⟩
  clear hKq Kq
  (try simp only [Act.put, tC, tD, tE])
  refine wpAnyH_done (by kernel_rfl) ?_ _
  clear hHeld
  have x3 : w3.cell? ⟨XB, 0, none⟩ = some (Pw B) := cell_row (H3.out.blk kx ((List.getElem?_set_ne HKX.out).trans HXR.out)) 0
  have HVV := Lib.hid (HV.out _ H3.out)
  go_wp2_with (go_at_call 103; refine HVV.out.mono ?_; rintro e' w4 ⟨rfl, h4⟩)
  go_end0
  exact ⟨rfl, h4⟩
end
end Go.Proofs.YtieiiabbeglmfaaGreatDoor.S18
