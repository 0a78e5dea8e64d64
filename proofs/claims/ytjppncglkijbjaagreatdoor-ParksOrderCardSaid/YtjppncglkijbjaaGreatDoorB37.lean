/- Texts of this seat, one behind the other. -/
import Derived.Test.YtjppncglkijbjaaGreatDoorB36
set_option linter.unusedVariables false
set_option linter.unusedSimpArgs false
set_option linter.unusedVariables false
set_option linter.unusedSimpArgs false
namespace Go.Proofs.YtjppncglkijbjaaGreatDoor.S18
open Go.Proofs.YtjppncglkijbjaaGreatDoor Go.Proofs.YtjppncglkijbjaaGreatDoor.S11 Go.Proofs.YtjppncglkijbjaaGreatDoor.S12 Go.Proofs.YtjppncglkijbjaaGreatDoor.S13 Go.Proofs.YtjppncglkijbjaaGreatDoor.S14 Go.Proofs.YtjppncglkijbjaaGreatDoor.S15 Go.Proofs.YtjppncglkijbjaaGreatDoor.S16
open Go.RowKit

theorem m_plate (w : World) : (method 538 108 (.agg #[]) "Late").run Tryz.prog w = .ok (273, .agg #[]) w := by kernel_rfl
theorem m_clate (a b c d : Value) (w : World) : (method 538 419 (.agg #[a, b, c, d]) "Late").run Tryz.prog w = .ok (285, .agg #[a, b, c, d]) w := by kernel_rfl
theorem plate_any (k : Int) (s : Bool) (w : World) : Calls Tryz.prog 273 #[.agg #[], .int .u32 k, .bool s] w fun e w' => e = .returned .nilIface ∧ Below w.heap.size w w' := by
  go_enter Tryz.func273, Tryz.ntmps273
  go_wp2_with fail
  go_ret
  exact ⟨rfl, by first | exact Below.refl _ _ | exact below1 _ _⟩
section
variable {w0 w w' : World} {base WB : Nat} {M : Sd} {r : List Part} {j e u B : Nat} {l l' : Rows} {X : Wm} {D : Pd} {pb pi : Int} {p b : Value} {o : Nat}
set_option maxRecDepth 100000 in
set_option maxHeartbeats 4000000 in
theorem clate_no {ca cl cn cc : Nat} (k : Int) (s : Bool) (hs : s = false ∨ cc = 0) (w : World) :
    Calls Tryz.prog 285 #[.agg #[.int .u32 (ca : Int), .int .u64 (cl : Int), .int .u64 (cn : Int), .int .u64 (cc : Int)], .int .u32 k, .bool s] w fun e w' => e = .returned .nilIface ∧ Below w.heap.size w w' := by
  have hb := below1 w (.cells #[.int .u32 (ca : Int), .int .u64 (cl : Int), .int .u64 (cn : Int), .int .u64 (cc : Int)] 419)
  have HB := Lib.hid hb
  cases s
  · clear hs hb
    go_enter Tryz.func285, Tryz.ntmps285
    go_wp2_with fail
    go_ret
    exact ⟨rfl, HB.out⟩
  · have h0 : cc = 0 := hs.resolve_left (by decide)
    have k3 : (w.alloc (.cells #[.int .u32 (ca : Int), .int .u64 (cl : Int), .int .u64 (cn : Int), .int .u64 (cc : Int)] 419)).cell? ⟨w.heap.size, 3, none⟩ = some (.int .u64 (cc : Int)) := cell_row (heap_alloc_new w _) 3
    have d1 : ((cc : Int) == 0) = true := by rw [h0]; rfl
    have d2 : (cc : Int) = 0 := by omega
    clear hs hb h0
    obtain ⟨CB, hC⟩ : ∃ CB, CB = w.heap.size := ⟨_, rfl⟩
    rw [← hC] at k3
    have HC := Lib.hid hC
    clear hC
    generalize (cc : Int) = ci at *
    obtain rfl := d2
    go_enter Tryz.func285, Tryz.ntmps285
    go_upto_region 1 with fail
    rw [← HC.out]
    generalize w.alloc (.cells #[.int .u32 (ca : Int), .int .u64 (cl : Int), .int .u64 (cn : Int), .int .u64 0] 419) = w1 at *
    go_wp2_with fail
    go_ret
    exact ⟨rfl, HB.out⟩
set_option maxRecDepth 100000 in
set_option maxHeartbeats 4000000 in
theorem clate_yes {ca cl cn cc : Nat} (h : Wq w0 w base WB M r j l X) (k : Int) (hc : ¬ cc = 0) :
    Calls Tryz.prog 285 #[.agg #[.int .u32 (ca : Int), .int .u64 (cl : Int), .int .u64 (cn : Int), .int .u64 (cc : Int)], .int .u32 k, .bool true] w fun e' w' => ∃ CB NB, e' = .returned (.iface 342 (Pw NB)) ∧ Wq w0 w' base WB M r j (l ++ [(CB, ckO ⟨ca, cl, cn, cc⟩), (NB, oneO (.func 288) #[] #[Pw CB] false)]) X := by
  have h1 : Wq w0 (w.alloc (.cells #[.int .u32 (ca : Int), .int .u64 (cl : Int), .int .u64 (cn : Int), .int .u64 (cc : Int)] 419)) base WB M r j (l ++ [(w.heap.size, ckO ⟨ca, cl, cn, cc⟩)]) X := h.push (ckO ⟨ca, cl, cn, cc⟩)
  have k3 : (w.alloc (.cells #[.int .u32 (ca : Int), .int .u64 (cl : Int), .int .u64 (cn : Int), .int .u64 (cc : Int)] 419)).cell? ⟨w.heap.size, 3, none⟩ = some (.int .u64 (cc : Int)) := cell_row (heap_alloc_new w _) 3
  have d1 : ((cc : Int) == 0) = false := by cases cc with | zero => exact absurd rfl hc | succ n => rfl
  have d2 : ¬ (cc : Int) = 0 := by omega
  obtain ⟨CB, hC⟩ : ∃ CB, CB = w.heap.size := ⟨_, rfl⟩
  rw [← hC] at k3 h1
  have HC := Lib.hid hC; have H1 := Lib.hid h1
  clear h h1 hC hc
  go_enter Tryz.func285, Tryz.ntmps285
  go_upto_region 1 with fail
  rw [← HC.out]
  generalize w.alloc (.cells #[.int .u32 (ca : Int), .int .u64 (cl : Int), .int .u64 (cn : Int), .int .u64 (cc : Int)] 419) = w1 at *
  go_wp2_with fail
  go_ret
  have h2 := H1.out.push (oneO (.func 288) #[] #[Pw CB] false)
  rw [List.append_assoc] at h2
  exact ⟨CB, _, rfl, h2⟩
def Left (w0 w' : World) (base WB : Nat) (M : Sd) (r : List Part) (j u B : Nat) (D : Pd) (pb pi : Int) (o n a : Nat) (X : Wm) : Prop :=
  ∃ U XB OB, Wq w0 w' base WB M (r.set u (freeP U (fr0 a))) j [(B, pkO D pb pi (.iface 73 (Pw U)) (fnV 162 #[] #[Pw XB, Pw OB]) o), (XB, xO B), (OB, .cells #[.int .u8 (n : Int)] 50 (0, 0))] X
set_option maxRecDepth 100000 in
set_option maxHeartbeats 4000000 in
theorem late1_ {XB k : Nat} (h : Wq w0 w base WB M r j l X) (hb : l[0]? = some (B, pkO D pb pi p b o)) (hx : l[k]? = some (XB, xO B)) (hju : j ≠ u) (hu : u < r.length) {a : Nat} (hz : S10.lockZ pb pi = (a : Int)) :
    Calls Tryz.prog 250 #[Pw XB] w fun e' w' => e' = .returned (.tuple #[]) ∧ Left w0 w' base WB M r j u B D pb pi o 3 a X := by
  have y0 : w.cell? ⟨XB, 0, none⟩ = some (Pw B) := cell_row (h.blk k hx) 0
  have HL := Lib.hid (leave_ h hb hju hu hz 3)
  clear h hb hx hju hu hz
  go_enter Tryz.func250, Tryz.ntmps250
  go_wp2_with (go_at_call 134; refine HL.out.mono ?_; rintro e' w1 ⟨rfl, h1⟩)
  go_end0
  exact ⟨rfl, h1⟩
set_option maxRecDepth 100000 in
set_option maxHeartbeats 4000000 in
theorem do_late {XB k : Nat} (h : Wq w0 w base WB M r j l X) (hb : l[0]? = some (B, pkO D pb pi p b o)) (hx : l[k]? = some (XB, xO B)) (hju : j ≠ u) (hu : u < r.length) {a : Nat} (hz : S10.lockZ pb pi = (a : Int)) :
    Calls Tryz.prog 85 #[Pw B, .nilIface, fnV 250 #[] #[Pw XB]] w fun e' w' => e' = .returned (.tuple #[]) ∧ Left w0 w' base WB M r j u B D pb pi o 3 a X := by
  have HS := Lib.hid (late1_ h hb hx hju hu hz)
  have e0 := eqI0
  clear h hb hx hju hu hz
  go_enter Tryz.func85, Tryz.ntmps85
  go_wp2_with (go_at_call 250; refine HS.out.mono ?_; rintro e' w1 ⟨rfl, h1⟩)
  (first | go_end0 | go_ret | (refine bodyPost_ret (results_none rfl _ _ _) rfl ?_))
  exact ⟨rfl, h1⟩
set_option maxRecDepth 100000 in
set_option maxHeartbeats 4000000 in
theorem late_p {t k z : Nat} {on : Bool} {at_ : Nat} (h : Wq w0 w base WB M r j l X) (hb : l[0]? = some (B, pkO ⟨t, k, z, on, at_, none⟩ pb pi p b o)) (hju : j ≠ u) (hu : u < r.length) {a : Nat} (hz : S10.lockZ pb pi = (a : Int)) (ky : Nat) (s : Bool) :
    Calls Tryz.prog 248 #[Pw B, .int .u32 (ky : Int), .bool s] w fun e' w' => e' = .returned (.tuple #[]) ∧ Left w0 w' base WB M r j u B ⟨t, k, z, on, at_, none⟩ pb pi o 3 a X := by
  have h1 := h.push (xO B)
  have c5 : (w.alloc (xO B)).cell? ⟨B, 5, none⟩ = some (.iface 108 (.agg #[])) := cell_row (h1.blk 0 (app1 hb)) 5
  have y0 : (w.alloc (xO B)).cell? ⟨w.heap.size, 0, none⟩ = some (Pw B) := cell_row (h1.blk l.length (at_end _ _)) 0
  have hm := m_plate
  obtain ⟨XB, hX⟩ : ∃ XB, XB = w.heap.size := ⟨_, rfl⟩
  rw [← hX] at y0 h1
  obtain ⟨w1, hw1⟩ : ∃ w1, w1 = w.alloc (xO B) := ⟨_, rfl⟩
  rw [← hw1] at y0 c5 h1
  have HB := Lib.hid (plate_any (ky : Int) s)
  have HD := Lib.hid (fun (W : World) (q : Below w1.heap.size w1 W) => do_late (h1.new q) (app1 hb) (at_end _ _) hju hu hz)
  have HX := Lib.hid hX; have HW1 := Lib.hid hw1; have HY0 := Lib.hid y0
  clear h h1 hb hju hu hz hX hw1
  go_enter Tryz.func248, Tryz.ntmps248
  go_upto_region 1 with fail
  rw [← HX.out, ← HW1.out]
  go_region_law (first
    | (go_simp; go_at_call 273; refine (HB.out _).mono ?_; rintro e' w2 ⟨rfl, hb1⟩; have y2 : w2.cell? ⟨XB, 0, none⟩ = some (Pw B) := bcell hb1 HY0.out; have HB1 := Lib.hid hb1; clear hb1)
    | (go_simp; go_at_call 85; refine (HD.out _ ((Below.refl _ _).drew.trans HB1.out)).mono ?_; rintro e' w3 ⟨rfl, h2⟩))
  all_goals
    (first | go_end0 | (go_wp2_with fail; go_end0))
    exact ⟨rfl, h2⟩
set_option maxRecDepth 100000 in
set_option maxHeartbeats 4000000 in
theorem late_n {t k z : Nat} {on : Bool} {at_ : Nat} {ca cl cn cc : Nat} (h : Wq w0 w base WB M r j l X) (hb : l[0]? = some (B, pkO ⟨t, k, z, on, at_, some ⟨ca, cl, cn, cc⟩⟩ pb pi p b o)) (hju : j ≠ u) (hu : u < r.length) {a : Nat} (hz : S10.lockZ pb pi = (a : Int)) (ky : Nat) (s : Bool) (hs : s = false ∨ cc = 0) :
    Calls Tryz.prog 248 #[Pw B, .int .u32 (ky : Int), .bool s] w fun e' w' => e' = .returned (.tuple #[]) ∧ Left w0 w' base WB M r j u B ⟨t, k, z, on, at_, some ⟨ca, cl, cn, cc⟩⟩ pb pi o 3 a X := by
  have h1 := h.push (xO B)
  have c5 : (w.alloc (xO B)).cell? ⟨B, 5, none⟩ = some (.iface 419 (.agg #[.int .u32 (ca : Int), .int .u64 (cl : Int), .int .u64 (cn : Int), .int .u64 (cc : Int)])) := cell_row (h1.blk 0 (app1 hb)) 5
  have y0 : (w.alloc (xO B)).cell? ⟨w.heap.size, 0, none⟩ = some (Pw B) := cell_row (h1.blk l.length (at_end _ _)) 0
  have hm := m_clate (.int .u32 (ca : Int)) (.int .u64 (cl : Int)) (.int .u64 (cn : Int)) (.int .u64 (cc : Int))
  obtain ⟨XB, hX⟩ : ∃ XB, XB = w.heap.size := ⟨_, rfl⟩
  rw [← hX] at y0 h1
  obtain ⟨w1, hw1⟩ : ∃ w1, w1 = w.alloc (xO B) := ⟨_, rfl⟩
  rw [← hw1] at y0 c5 h1
  have HB := Lib.hid (clate_no (ca := ca) (cl := cl) (cn := cn) (ky : Int) s hs)
  have HD := Lib.hid (fun (W : World) (q : Below w1.heap.size w1 W) => do_late (h1.new q) (app1 hb) (at_end _ _) hju hu hz)
  have HX := Lib.hid hX; have HW1 := Lib.hid hw1; have HY0 := Lib.hid y0
  clear h h1 hb hju hu hz hX hw1 hs
  go_enter Tryz.func248, Tryz.ntmps248
  go_upto_region 1 with fail
  rw [← HX.out, ← HW1.out]
  go_region_law (first
    | (go_simp; go_at_call 285; refine (HB.out _).mono ?_; rintro e' w2 ⟨rfl, hb1⟩; have y2 : w2.cell? ⟨XB, 0, none⟩ = some (Pw B) := bcell hb1 HY0.out; have HB1 := Lib.hid hb1; clear hb1)
    | (go_simp; go_at_call 85; refine (HD.out _ ((Below.refl _ _).drew.trans HB1.out)).mono ?_; rintro e' w3 ⟨rfl, h2⟩))
  all_goals
    (first | go_end0 | (go_wp2_with fail; go_end0))
    exact ⟨rfl, h2⟩
end
end Go.Proofs.YtjppncglkijbjaaGreatDoor.S18
set_option linter.unusedVariables false
set_option linter.unusedSimpArgs false
namespace Go.Proofs.YtjppncglkijbjaaGreatDoor.S18
open Go.Proofs.YtjppncglkijbjaaGreatDoor Go.Proofs.YtjppncglkijbjaaGreatDoor.S11 Go.Proofs.YtjppncglkijbjaaGreatDoor.S12 Go.Proofs.YtjppncglkijbjaaGreatDoor.S13 Go.Proofs.YtjppncglkijbjaaGreatDoor.S14 Go.Proofs.YtjppncglkijbjaaGreatDoor.S15 Go.Proofs.YtjppncglkijbjaaGreatDoor.S16
open Go.RowKit

section
variable {w0 w w' : World} {base WB : Nat} {M : Sd} {r : List Part} {j e u B : Nat} {l l' : Rows} {X : Wm} {D : Pd} {pb pi : Int} {p b : Value} {o : Nat}
def Clears (w0 w' : World) (base WB : Nat) (M : Sd) (r : List Part) (j B : Nat) (D : Pd) (c : Ck) (pb pi : Int) (o : Nat) (ov : Bool) (X : Wm) : Prop :=
  ∃ XB CB NB, Wq w0 w' base WB M r j [(B, pkO D pb pi (.iface 342 (Pw NB)) (fnV 250 #[] #[Pw XB]) o), (XB, xO B), (CB, ckO c), (NB, oneO (.func 288) #[] #[Pw CB] ov)] X
set_option maxRecDepth 100000 in
set_option maxHeartbeats 4000000 in
theorem late_y {t k z ca cl cn cc : Nat} {on : Bool} {at_ : Nat} (h : Wq w0 w base WB M r j l X) (hb : l[0]? = some (B, pkO ⟨t, k, z, on, at_, some ⟨ca, cl, cn, cc⟩⟩ pb pi p b o)) (ky : Nat) (hc : ¬ cc = 0) :
    Calls Tryz.prog 248 #[Pw B, .int .u32 (ky : Int), .bool true] w fun e' w' => e' = .returned (.tuple #[]) ∧ Clears w0 w' base WB M r j B ⟨t, k, z, on, at_, some ⟨ca, cl, cn, cc⟩⟩ ⟨ca, cl, cn, cc⟩ pb pi o false X := by
  have h1 := h.push (xO B)
  have c5 : (w.alloc (xO B)).cell? ⟨B, 5, none⟩ = some (.iface 419 (.agg #[.int .u32 (ca : Int), .int .u64 (cl : Int), .int .u64 (cn : Int), .int .u64 (cc : Int)])) := cell_row (h1.blk 0 (app1 hb)) 5
  have y0 : (w.alloc (xO B)).cell? ⟨w.heap.size, 0, none⟩ = some (Pw B) := cell_row (h1.blk l.length (at_end _ _)) 0
  have hm := m_clate (.int .u32 (ca : Int)) (.int .u64 (cl : Int)) (.int .u64 (cn : Int)) (.int .u64 (cc : Int))
  obtain ⟨XB, hX⟩ : ∃ XB, XB = w.heap.size := ⟨_, rfl⟩
  rw [← hX] at y0 h1
  obtain ⟨w1, hw1⟩ : ∃ w1, w1 = w.alloc (xO B) := ⟨_, rfl⟩
  rw [← hw1] at y0 c5 h1
  have HV := Lib.hid (clate_yes (ca := ca) (cl := cl) (cn := cn) (cc := cc) (h1.new (Below.refl _ _).drew) (ky : Int) hc)
  have HX := Lib.hid hX; have HW1 := Lib.hid hw1; have HB := Lib.hid hb; have HLT := Lib.hid (List.getElem?_eq_some_iff.1 hb).1
  clear h h1 hb hX hw1 hc
  go_enter Tryz.func248, Tryz.ntmps248
  go_upto_region 1 with fail
  rw [← HX.out, ← HW1.out]
  refine wp_region_held_drew (S := fun w' => w'.cell? ⟨XB, 0, none⟩ = some (Pw B) ∧ w'.cell? ⟨B, 5, none⟩ = some (.iface 419 (.agg #[.int .u32 (ca : Int), .int .u64 (cl : Int), .int .u64 (cn : Int), .int .u64 (cc : Int)]))) (by kernel_rfl) ?_ (fun hHeld => ?_)
  · exact ⟨y0, c5⟩
  refine wpAnyH_take (i := 0) (oi := ({ dst := some 6, op := Op.load 32 (Operand.tmp 3), type := 32, pos := "parts.go:126", after := #[], guard := none } : Oper)) (v := ?vym1) rfl (by kernel_rfl) (by kernel_rfl) (by kernel_rfl) (fun _ _ _ h => h) (Or.inl ⟨by rfl, fun w hSw => ?hyym1⟩) (by assumption) ?rym1
  case hyym1 => (try dsimp only at hSw); go_simp; (try with_reducible rfl)
  (try simp only [Act.put, List.setIfInBounds_toArray, List.set_cons_zero, List.set_cons_succ])
  refine wpAnyH_take (i := 1) (oi := ({ dst := some 7, op := Op.load 32 (Operand.tmp 3), type := 32, pos := "parts.go:126", after := #[], guard := none } : Oper)) (v := ?vym2) rfl (by kernel_rfl) (by kernel_rfl) (by kernel_rfl) (fun _ _ _ h => h) (Or.inl ⟨by rfl, fun w hSw => ?hyym2⟩) (by assumption) ?rym2
  case hyym2 => (try dsimp only at hSw); go_simp; (try with_reducible rfl)
  (try simp only [Act.put, List.setIfInBounds_toArray, List.set_cons_zero, List.set_cons_succ])
  refine wpAnyH_take (i := 2) (oi := ({ dst := some 8, op := Op.nilCheck (Operand.tmp 7), type := 0, pos := "parts.go:126", after := #[{ on := 1, ground := Ground.data }], guard := none } : Oper)) (v := ?vym3) rfl (by kernel_rfl) (by kernel_rfl) (by kernel_rfl) (fun _ _ _ h => h) (Or.inl ⟨by rfl, fun w hSw => ?hyym3⟩) (by assumption) ?rym3
  case hyym3 => (try dsimp only at hSw); go_simp; (try with_reducible rfl)
  (try simp only [Act.put, List.setIfInBounds_toArray, List.set_cons_zero, List.set_cons_succ])
  refine wpAnyH_take (i := 3) (oi := ({ dst := some 9, op := Op.fieldAddr 116 (Operand.tmp 8) 2, type := 0, pos := "parts.go:126", after := #[{ on := 2, ground := Ground.data }], guard := none } : Oper)) (v := ?vym4) rfl (by kernel_rfl) (by kernel_rfl) (by kernel_rfl) (fun _ _ _ h => h) (Or.inl ⟨by rfl, fun w hSw => ?hyym4⟩) (by assumption) ?rym4
  case hyym4 => (try dsimp only at hSw); go_simp; (try with_reducible rfl)
  (try simp only [Act.put, List.setIfInBounds_toArray, List.set_cons_zero, List.set_cons_succ])
  refine wpAnyH_take (i := 4) (oi := ({ dst := some 10, op := Op.load 114 (Operand.tmp 9), type := 114, pos := "parts.go:126", after := #[{ on := 3, ground := Ground.data }], guard := none } : Oper)) (v := ?vym5) rfl (by kernel_rfl) (by kernel_rfl) (by kernel_rfl) (fun _ _ _ h => h) (Or.inl ⟨by rfl, fun w hSw => ?hyym5⟩) (by assumption) ?rym5
  case hyym5 => (try dsimp only at hSw); go_simp; (try with_reducible rfl)
  (try simp only [Act.put, List.setIfInBounds_toArray, List.set_cons_zero, List.set_cons_succ])
  refine wpAnyH_take (i := 5) (oi := ({ dst := some 11, op := Op.move (Operand.tmp 1), type := 35, pos := "parts.go:126", after := #[], guard := none } : Oper)) (v := ?vym6) rfl (by kernel_rfl) (by kernel_rfl) (by kernel_rfl) (fun _ _ _ h => h) (Or.inl ⟨by rfl, fun w hSw => ?hyym6⟩) (by assumption) ?rym6
  case hyym6 => (try dsimp only at hSw); go_simp; (try with_reducible rfl)
  (try simp only [Act.put, List.setIfInBounds_toArray, List.set_cons_zero, List.set_cons_succ])
  refine wpAnyH_take (i := 6) (oi := ({ dst := some 12, op := Op.move (Operand.tmp 2), type := 4, pos := "parts.go:126", after := #[], guard := none } : Oper)) (v := ?vym7) rfl (by kernel_rfl) (by kernel_rfl) (by kernel_rfl) (fun _ _ _ h => h) (Or.inl ⟨by rfl, fun w hSw => ?hyym7⟩) (by assumption) ?rym7
  case hyym7 => (try dsimp only at hSw); go_simp; (try with_reducible rfl)
  (try simp only [Act.put, List.setIfInBounds_toArray, List.set_cons_zero, List.set_cons_succ])
  refine wpAnyH_take (i := 8) (oi := ({ dst := some 14, op := Op.makeFunc (Fn.func 250) #[] #[Operand.tmp 3], type := 1, pos := "parts.go:126", after := #[], guard := none } : Oper)) (v := ?vym8) rfl (by kernel_rfl) (by kernel_rfl) (by kernel_rfl) (fun _ _ _ h => h) (Or.inl ⟨by rfl, fun w hSw => ?hyym8⟩) (by assumption) ?rym8
  case hyym8 => (try dsimp only at hSw); go_simp; (try with_reducible rfl)
  (try simp only [Act.put, List.setIfInBounds_toArray, List.set_cons_zero, List.set_cons_succ])
  refine wpAnyH_ready (rs := [7]) (by kernel_rfl) (by simp) ?_
  refine AllReadyH.cons (o := ({ dst := some 13, op := Op.call { callee := Callee.invoke (Operand.tmp 10) "Late", args := #[Operand.tmp 11, Operand.tmp 12], argTypes := #[35, 4] }, type := 72, pos := "parts.go:126", after := #[{ on := 4, ground := Ground.data }, { on := 5, ground := Ground.data }, { on := 6, ground := Ground.data }], guard := none } : Oper)) rfl (fun Kq hKq => ?_) AllReadyH.nil
  go_simp; (refine HV.out.mono ?_; rintro e' w2 ⟨CB, NB, rfl, h2⟩; have H2 := Lib.hid h2; clear h2)
  refine hKq.out _ _ ?_ (fun hHeld => ?_)
  · exact ⟨cell_row (H2.out.blk l.length (app1 (at_end _ _))) 0, cell_row (H2.out.blk 0 (app2 HB.out)) 5⟩
  clear hKq Kq
  (try simp only [Act.put, List.setIfInBounds_toArray, List.set_cons_zero, List.set_cons_succ])
  refine wpAnyH_ready (rs := [9]) (by kernel_rfl) (by simp) ?_
  refine AllReadyH.cons (o := ({ dst := some 15, op := Op.call { callee := Callee.value (Operand.func 85), args := #[Operand.tmp 6, Operand.tmp 13, Operand.tmp 14], argTypes := #[32, 72, 1] }, type := 0, pos := "parts.go:126", after := #[{ on := 0, ground := Ground.data }, { on := 7, ground := Ground.data }, { on := 8, ground := Ground.data }, { on := 7, ground := Ground.chain }], guard := none } : Oper)) rfl (fun Kq hKq => ?_) AllReadyH.nil
  go_simp
  (refine (do_ H2.out (app2 HB.out) _ _ _ _ _).mono ?_; rintro e' w3 ⟨rfl, h4⟩)
  refine hKq.out _ _ ?_ (fun hHeld => ?_)
  · exact ⟨cell_row (h4.blk l.length (by rw [List.getElem?_set_ne (by have := HLT.out; omega)]; exact app1 (at_end _ _))) 0, cell_row (h4.blk 0 (List.getElem?_set_self (List.getElem?_eq_some_iff.1 (app2 HB.out)).1)) 5⟩
  clear hKq Kq
  (try simp only [Act.put, List.setIfInBounds_toArray, List.set_cons_zero, List.set_cons_succ])
  refine wpAnyH_done (by kernel_rfl) ?_ _
  go_end0
  rw [List.append_assoc] at h4
  exact ⟨rfl, XB, CB, NB, h4.keep HLT.out⟩
def Asks (w0 w' : World) (base WB : Nat) (M : Sd) (r : List Part) (j B : Nat) (D : Pd) (pb pi : Int) (o ky : Nat) (ov lt ls : Bool) (X : Wm) : Prop :=
  ∃ XB KB LB QB NB, Wq w0 w' base WB M r j [(B, pkO D pb pi (.iface 342 (Pw NB)) (fnV 247 #[] #[Pw LB, Pw XB, Pw KB, Pw QB]) o), (XB, xO B), (KB, .cells #[.int .u32 (ky : Int)] 35 (0, 0)), (LB, .cells #[.bool lt] 4 (0, 0)), (QB, .cells #[.bool ls] 4 (0, 0)), (NB, oneO (.func 244) #[] #[Pw XB, Pw LB, Pw KB, Pw QB] ov)] X
set_option maxRecDepth 100000 in
set_option maxHeartbeats 4000000 in
theorem ask_ (h : Wq w0 w base WB M r j l X) (hb : l[0]? = some (B, pkO D pb pi p b o)) (ky : Nat) :
    Calls Tryz.prog 243 #[Pw B, .int .u32 (ky : Int)] w fun e' w' => e' = .returned (.tuple #[]) ∧ Asks w0 w' base WB M r j B D pb pi o ky false false false X := by
  have h1 := h.push (xO B)
  have h2 := h1.push (.cells #[.int .u32 (ky : Int)] 35)
  have h3 := h2.push (.cells #[.bool false] 4)
  have h4 := h3.push (.cells #[.bool false] 4)
  simp only [alloc_size, Nat.add_assoc] at h4
  have y0 : ((((w.alloc (xO B)).alloc (.cells #[.int .u32 (ky : Int)] 35)).alloc (.cells #[.bool false] 4)).alloc (.cells #[.bool false] 4)).cell? ⟨w.heap.size, 0, none⟩ = some (Pw B) := cell_row (h4.blk l.length (app3 (at_end _ _))) 0
  have HO := Lib.hid (once_ h4 (app4 hb) (.func 244) #[] #[Pw w.heap.size, Pw (w.heap.size + 2), Pw (w.heap.size + 1), Pw (w.heap.size + 3)] (.func 247) #[] #[Pw (w.heap.size + 2), Pw w.heap.size, Pw (w.heap.size + 1), Pw (w.heap.size + 3)])
  have HLT := Lib.hid (List.getElem?_eq_some_iff.1 hb).1
  clear h h1 h2 h3 h4 hb
  go_enter Tryz.func243, Tryz.ntmps243
  go_upto_region 2 with fail
  obtain ⟨n, hn⟩ : ∃ n, n = w.heap.size := ⟨_, rfl⟩
  simp only [alloc_size, Nat.add_assoc]
  rw [← hn] at y0 HO ⊢
  have HN := Lib.hid hn
  clear hn
  generalize (((w.alloc (xO B)).alloc (.cells #[.int .u32 (ky : Int)] 35)).alloc (.cells #[.bool false] 4)).alloc (.cells #[.bool false] 4) = w4 at *
  go_wp2_with (go_at_call 158; refine HO.out.mono ?_; rintro e' w5 ⟨rfl, h5⟩)
  go_end0
  rw [List.append_assoc, List.append_assoc, List.append_assoc, List.append_assoc] at h5
  exact ⟨rfl, n, n + 1, n + 2, n + 3, w4.heap.size, h5.keep HLT.out⟩
set_option maxRecDepth 100000 in
set_option maxHeartbeats 4000000 in
theorem own1_ {VB XB kv kx : Nat} {E : En} {Z : Wb} (h : Wq w0 w base WB M r j l X) (s : EwS r e u E Z) (hje : j ≠ e) (hju : j ≠ u) (h0 : E.ln = 0) (how : E.ow = true) (hkw : E.kw < 4294967296)
    (hb : l[0]? = some (B, pkO D pb pi p b o)) (hv : l[kv]? = some (VB, .cells #[Pw Z.B] 390 (0, 0))) (hx : l[kx]? = some (XB, xO B)) :
    Calls Tryz.prog 241 #[Pw VB, Pw XB] w fun e' w' => e' = .returned (.tuple #[]) ∧ Asks w0 w' base WB M r j B D (bitsN E.tw : Int) (bktN E.kw E.tw : Int) o E.kw false false false X := by
  have v0 : w.cell? ⟨VB, 0, none⟩ = some (Pw Z.B) := cell_row (h.blk kv hv) 0
  obtain ⟨hpb, hpi⟩ := s.pl (.inr h0)
  have hgot := ogot_yes (wq_ew h s hje hju).wy (ews_got s h0)
  rw [hpb, hpi, Nat.mod_eq_of_lt hkw] at hgot
  obtain ⟨qb, hqb⟩ : ∃ qb, qb = (bitsN E.tw : Int) := ⟨_, rfl⟩
  obtain ⟨qi, hqi⟩ : ∃ qi, qi = (bktN E.kw E.tw : Int) := ⟨_, rfl⟩
  obtain ⟨ky, hky⟩ : ∃ ky, ky = E.kw := ⟨_, rfl⟩
  rw [← hqb, ← hqi, ← hky] at hgot
  rw [← hqb, ← hqi, ← hky]
  have HG := Lib.hid hgot; have H := Lib.hid h; have HB := Lib.hid hb; have HXR := Lib.hid hx; have HLT := Lib.hid (List.getElem?_eq_some_iff.1 hb).1
  clear h s hje hju h0 how hkw hb hv hx hpb hpi hgot hqb hqi hky
  go_enter Tryz.func241, Tryz.ntmps241
  go_upto_region 1 with (go_at_call 242; refine HG.out.mono ?_; rintro e' w2 ⟨rfl, hb2⟩; have h2 := H.out.new hb2; have H2 := Lib.hid h2; clear hb2 h2)
  have h3 := H2.out.push (.cells #[.int .i64 qb, .int .i64 qi] 97)
  obtain ⟨w3, hw3⟩ : ∃ w3, w3 = w2.alloc (.cells #[.int .i64 qb, .int .i64 qi] 97) := ⟨_, rfl⟩
  obtain ⟨PB, hPB⟩ : ∃ PB, PB = w2.heap.size := ⟨_, rfl⟩
  rw [← hw3, ← hPB] at h3
  have p0 : w3.cell? ⟨PB, 0, none⟩ = some (.int .i64 qb) := cell_row (h3.blk _ (at_end _ _)) 0
  have p1 : w3.cell? ⟨PB, 1, none⟩ = some (.int .i64 qi) := cell_row (h3.blk _ (at_end _ _)) 1
  have x0 : w3.cell? ⟨XB, 0, none⟩ = some (Pw B) := cell_row (h3.blk kx (app1 HXR.out)) 0
  have c6 : w3.cell? ⟨B, 6, none⟩ = some (.int .i64 pb) := cell_row (h3.blk 0 (app1 HB.out)) 6
  have c7 : w3.cell? ⟨B, 7, none⟩ = some (.int .i64 pi) := cell_row (h3.blk 0 (app1 HB.out)) 7
  have f6 : w3.frozen? ⟨B, 6, none⟩ = false := froz_row (h3.blk 0 (app1 HB.out)) 6
  have f7 : w3.frozen? ⟨B, 7, none⟩ = false := froz_row (h3.blk 0 (app1 HB.out)) 7
  rw [← hw3, ← hPB]
  have h4 := h3.put 0 (app1 HB.out) 6 (.int .i64 qb) (cs' := pkC D qb pi p b o) rfl
  have h5 := h4.put 0 (List.getElem?_set_self (List.getElem?_eq_some_iff.1 (app1 HB.out)).1) 7 (.int .i64 qi) (cs' := pkC D qb qi p b o) rfl
  rw [List.set_set] at h5
  have hkx : ¬ 0 = kx := fun e0 => by
    subst e0
    have h6 := HB.out.symm.trans HXR.out
    injection h6 with h6
    injection h6 with _ h6
    injection h6 with h7 h8
    exact absurd h8 (by decide)
  have H5 := Lib.hid h5; have HKX := Lib.hid hkx
  clear h3 h4 h5 hw3 hPB v0 hkx
  go_upto_region 2 with fail
  have x1 : ((w3.setCell ⟨B, 6, none⟩ (.int .i64 qb)).setCell ⟨B, 7, none⟩ (.int .i64 qi)).cell? ⟨XB, 0, none⟩ = some (Pw B) := cell_row (H5.out.blk kx ((List.getElem?_set_ne HKX.out).trans (app1 HXR.out))) 0
  clear p0 p1 x0 c6 c7 f6 f7
  generalize (w3.setCell ⟨B, 6, none⟩ (.int .i64 qb)).setCell ⟨B, 7, none⟩ (.int .i64 qi) = w5 at *
  have HA := Lib.hid (ask_ H5.out (List.getElem?_set_self (List.getElem?_eq_some_iff.1 (app1 HB.out)).1) ky)
  go_wp2_with (go_at_call 243; refine HA.out.mono ?_; rintro e' w6 ⟨rfl, h6⟩)
  go_end0
  exact ⟨rfl, h6⟩
set_option maxRecDepth 100000 in
set_option maxHeartbeats 4000000 in
theorem ask2_n {LB XB KB QB kl kx kk kq ky : Nat} {ls : Bool} (h : Wq w0 w base WB M r j l X) (hb : l[0]? = some (B, pkO D pb pi p b o)) (hx : l[kx]? = some (XB, xO B)) (hl : l[kl]? = some (LB, .cells #[.bool false] 4 (0, 0))) (hju : j ≠ u) (hu : u < r.length) {a : Nat} (hz : S10.lockZ pb pi = (a : Int)) :
    Calls Tryz.prog 247 #[Pw LB, Pw XB, Pw KB, Pw QB] w fun e' w' => e' = .returned (.tuple #[]) ∧ Left w0 w' base WB M r j u B D pb pi o 2 a X := by
  have y0 : w.cell? ⟨XB, 0, none⟩ = some (Pw B) := cell_row (h.blk kx hx) 0
  have y1 : w.cell? ⟨LB, 0, none⟩ = some (.bool false) := cell_row (h.blk kl hl) 0
  have HL := Lib.hid (leave_ h hb hju hu hz 2)
  clear h hb hx hl hju hu hz
  go_enter Tryz.func247, Tryz.ntmps247
  go_wp2_with (go_at_call 134; refine HL.out.mono ?_; rintro e' w1 ⟨rfl, h1⟩)
  go_end0
  exact ⟨rfl, h1⟩
set_option maxRecDepth 100000 in
set_option maxHeartbeats 4000000 in
theorem ask2_y {LB XB KB QB kl kx kk kq ky : Nat} {ls : Bool} {Q : World → Prop} (h : Wq w0 w base WB M r j l X) (hx : l[kx]? = some (XB, xO B)) (hl : l[kl]? = some (LB, .cells #[.bool true] 4 (0, 0))) (hk : l[kk]? = some (KB, .cells #[.int .u32 (ky : Int)] 35 (0, 0))) (hq : l[kq]? = some (QB, .cells #[.bool ls] 4 (0, 0)))
    (hlt : Calls Tryz.prog 248 #[Pw B, .int .u32 (ky : Int), .bool ls] w fun e' w' => e' = .returned (.tuple #[]) ∧ Q w') :
    Calls Tryz.prog 247 #[Pw LB, Pw XB, Pw KB, Pw QB] w fun e' w' => e' = .returned (.tuple #[]) ∧ Q w' := by
  have y0 : w.cell? ⟨XB, 0, none⟩ = some (Pw B) := cell_row (h.blk kx hx) 0
  have y1 : w.cell? ⟨LB, 0, none⟩ = some (.bool true) := cell_row (h.blk kl hl) 0
  have y2 : w.cell? ⟨KB, 0, none⟩ = some (.int .u32 (ky : Int)) := cell_row (h.blk kk hk) 0
  have y3 : w.cell? ⟨QB, 0, none⟩ = some (.bool ls) := cell_row (h.blk kq hq) 0
  have HL := Lib.hid hlt
  clear h hx hl hk hq hlt
  go_enter Tryz.func247, Tryz.ntmps247
  go_wp2_with (go_at_call 248; refine HL.out.mono ?_; rintro e' w1 ⟨rfl, h1⟩)
  go_end0
  exact ⟨rfl, h1⟩
set_option maxRecDepth 100000 in
set_option maxHeartbeats 4000000 in
theorem leave1_ {XB OB kx ko n : Nat} (h : Wq w0 w base WB M r j l X) (hb : l[0]? = some (B, pkO D pb pi p b o)) (hx : l[kx]? = some (XB, xO B)) (ho : l[ko]? = some (OB, .cells #[.int .u8 (n : Int)] 50 (0, 0))) :
    Calls Tryz.prog 162 #[Pw XB, Pw OB] w fun e' w' => e' = .returned (.tuple #[]) ∧ Wq w0 w' base WB M r j (l.set 0 (B, pkO D pb pi .nilIface .nilFunc n)) X := by
  have y0 : w.cell? ⟨XB, 0, none⟩ = some (Pw B) := cell_row (h.blk kx hx) 0
  have y1 : w.cell? ⟨OB, 0, none⟩ = some (.int .u8 (n : Int)) := cell_row (h.blk ko ho) 0
  have HL := Lib.hid (end_ h hb n)
  clear h hb hx ho
  go_enter Tryz.func162, Tryz.ntmps162
  go_wp2_with (go_at_call 163; refine HL.out.mono ?_; rintro e' w1 ⟨rfl, h1⟩)
  go_end0
  exact ⟨rfl, h1⟩
set_option maxRecDepth 100000 in
set_option maxHeartbeats 4000000 in
theorem sleep1_g {SB VB XB kx kv ks : Nat} (h : Wq w0 w base WB M r j l X) (hb : l[0]? = some (B, pkO D pb pi p b o)) (hx : l[kx]? = some (XB, xO B)) (hv : l[kv]? = some (VB, .cells #[Pw SB] 200 (0, 0))) (hs : l[ks]? = some (SB, slpO D.t D.on D.at' 1)) :
    Calls Tryz.prog 233 #[Pw VB, Pw XB] w fun e' w' => e' = .returned (.tuple #[]) ∧ Wq w0 w' base WB M r j (l.set 0 (B, pkO D pb pi .nilIface .nilFunc 2)) X := by
  have y0 : w.cell? ⟨XB, 0, none⟩ = some (Pw B) := cell_row (h.blk kx hx) 0
  have y1 : w.cell? ⟨VB, 0, none⟩ = some (Pw SB) := cell_row (h.blk kv hv) 0
  have y2 : w.cell? ⟨SB, 3, none⟩ = some (.int .u8 1) := cell_row (h.blk ks hs) 3
  have HL := Lib.hid (end_ h hb 2)
  clear h hb hx hv hs
  go_enter Tryz.func233, Tryz.ntmps233
  go_wp2_with (go_at_call 163; refine HL.out.mono ?_; rintro e' w1 ⟨rfl, h1⟩)
  go_end0
  exact ⟨rfl, h1⟩
set_option maxRecDepth 100000 in
set_option maxHeartbeats 4000000 in
theorem sleep1_l {SB VB XB kx kv ks : Nat} {Q : World → Prop} (h : Wq w0 w base WB M r j l X) (hx : l[kx]? = some (XB, xO B)) (hv : l[kv]? = some (VB, .cells #[Pw SB] 200 (0, 0))) (hs : l[ks]? = some (SB, slpO D.t D.on D.at' 2))
    (hown : Calls Tryz.prog 234 #[Pw B] w fun e' w' => e' = .returned (.tuple #[]) ∧ Q w') :
    Calls Tryz.prog 233 #[Pw VB, Pw XB] w fun e' w' => e' = .returned (.tuple #[]) ∧ Q w' := by
  have y0 : w.cell? ⟨XB, 0, none⟩ = some (Pw B) := cell_row (h.blk kx hx) 0
  have y1 : w.cell? ⟨VB, 0, none⟩ = some (Pw SB) := cell_row (h.blk kv hv) 0
  have y2 : w.cell? ⟨SB, 3, none⟩ = some (.int .u8 2) := cell_row (h.blk ks hs) 3
  have HL := Lib.hid hown
  clear h hx hv hs hown
  go_enter Tryz.func233, Tryz.ntmps233
  go_wp2_with (go_at_call 234; refine HL.out.mono ?_; rintro e' w1 ⟨rfl, h1⟩)
  go_end0
  exact ⟨rfl, h1⟩
end
end Go.Proofs.YtjppncglkijbjaaGreatDoor.S18
set_option linter.unusedVariables false
set_option linter.unusedSimpArgs false
namespace Go.Proofs.YtjppncglkijbjaaGreatDoor.S18
open Go.Proofs.YtjppncglkijbjaaGreatDoor Go.Proofs.YtjppncglkijbjaaGreatDoor.S11 Go.Proofs.YtjppncglkijbjaaGreatDoor.S12 Go.Proofs.YtjppncglkijbjaaGreatDoor.S13 Go.Proofs.YtjppncglkijbjaaGreatDoor.S14 Go.Proofs.YtjppncglkijbjaaGreatDoor.S15 Go.Proofs.YtjppncglkijbjaaGreatDoor.S16
open Go.RowKit

theorem beqI (x y : Int) : (x == y) = decide (x = y) := rfl
theorem decN (x y : Nat) : decide ((x : Int) = (y : Int)) = decide (x = y) := decide_eq_decide.2 ⟨fun h => by omega, fun h => by omega⟩
theorem decN0 (x : Nat) : decide ((x : Int) = 0) = decide (x = 0) := decide_eq_decide.2 ⟨fun h => by omega, fun h => by omega⟩
set_option maxRecDepth 100000 in
set_option maxHeartbeats 4000000 in
theorem holds_b {ca cl cn cc u : Nat} (hl : cl < 18446744073709551616) (hn : cn < 18446744073709551616) (hu : u < 18446744073709551616) (b1 b2 b3 : Bool) (t1 : decide (u &&& cl = cl) = b1) (t2 : decide (cn = 0) = b2) (t3 : decide (u &&& cn = 0) = b3) (w : World) :
    Calls Tryz.prog 287 #[.agg #[.int .u32 (ca : Int), .int .u64 (cl : Int), .int .u64 (cn : Int), .int .u64 (cc : Int)], .int .u64 (u : Int)] w fun e w' => e = .returned (.bool (b1 && (b2 || !b3))) ∧ Below w.heap.size w w' := by
  have a1 := bits_and_u64_nat u cl hu hl
  have a2 := bits_and_u64_nat u cn hu hn
  have p1 : decide (((u &&& cl : Nat) : Int) = (cl : Int)) = b1 := (decN _ _).trans t1
  have p2 : decide ((cn : Int) = 0) = b2 := (decN0 _).trans t2
  have p3 : decide (((u &&& cn : Nat) : Int) = 0) = b3 := (decN0 _).trans t3
  have q1 := (beqI _ _).trans p1
  have q2 := (beqI _ _).trans p2
  have q3 := (beqI _ _).trans p3
  have q4 : ((((u &&& cn : Nat) : Int)) != 0) = !b3 := by show (!(_ == _)) = _; rw [q3]
  have hb := below1 w (.cells #[.int .u32 (ca : Int), .int .u64 (cl : Int), .int .u64 (cn : Int), .int .u64 (cc : Int)] 419)
  have k1 : (w.alloc (.cells #[.int .u32 (ca : Int), .int .u64 (cl : Int), .int .u64 (cn : Int), .int .u64 (cc : Int)] 419)).cell? ⟨w.heap.size, 1, none⟩ = some (.int .u64 (cl : Int)) := cell_row (heap_alloc_new w _) 1
  have k2 : (w.alloc (.cells #[.int .u32 (ca : Int), .int .u64 (cl : Int), .int .u64 (cn : Int), .int .u64 (cc : Int)] 419)).cell? ⟨w.heap.size, 2, none⟩ = some (.int .u64 (cn : Int)) := cell_row (heap_alloc_new w _) 2
  obtain ⟨CB, hC⟩ : ∃ CB, CB = w.heap.size := ⟨_, rfl⟩
  rw [← hC] at k1 k2
  have HC := Lib.hid hC; have HBL := Lib.hid hb
  generalize ((u &&& cl : Nat) : Int) = m1 at *
  generalize ((u &&& cn : Nat) : Int) = m2 at *
  clear hl hn hu t1 t2 t3 hC hb
  go_enter Tryz.func287, Tryz.ntmps287
  go_upto_region 1 with fail
  rw [← HC.out]
  generalize w.alloc (.cells #[.int .u32 (ca : Int), .int .u64 (cl : Int), .int .u64 (cn : Int), .int .u64 (cc : Int)] 419) = w1 at *
  cases b1 <;> cases b2 <;> cases b3
  all_goals
    go_wp2_with fail
    go_ret
    exact ⟨rfl, HBL.out⟩
theorem holds_any (c : Ck) {u : Nat} (hl : c.all < 18446744073709551616) (hn : c.any < 18446744073709551616) (hu : u < 18446744073709551616) (w : World) :
    Calls Tryz.prog 287 #[.agg c.cs, .int .u64 (u : Int)] w fun e w' => e = .returned (.bool (c.holds u)) ∧ Below w.heap.size w w' := by
  obtain ⟨ca, cl, cn, cc⟩ := c
  exact holds_b hl hn hu _ _ _ rfl rfl rfl w
section
variable {w0 w w' : World} {base WB : Nat} {M : Sd} {r : List Part} {j e u B : Nat} {l l' : Rows} {X : Wm} {D : Pd} {pb pi : Int} {p b : Value} {o : Nat}
set_option maxRecDepth 100000 in
set_option maxHeartbeats 4000000 in
theorem ok_ {LB k CB LX n : Nat} {c : Ck} (h : Wq w0 w base WB M r j l X) (hk : l[k]? = some (LB, lookO c CB LX true n)) (hl : c.all < 18446744073709551616) (hn : c.any < 18446744073709551616) (hu : n < 18446744073709551616) :
    Calls Tryz.prog 313 #[Pw LB] w fun e' w' => e' = .returned (.bool (c.holds n)) ∧ Below w.heap.size w w' := by
  obtain ⟨ca, cl, cn, cc⟩ := c
  have k1 : w.cell? ⟨LB, 1, none⟩ = some (.bool true) := cell_row (h.blk k hk) 1
  have k2 : w.cell? ⟨LB, 2, none⟩ = some (.int .u32 (ca : Int)) := cell_row (h.blk k hk) 2
  have k3 : w.cell? ⟨LB, 3, none⟩ = some (.int .u64 (cl : Int)) := cell_row (h.blk k hk) 3
  have k4 : w.cell? ⟨LB, 4, none⟩ = some (.int .u64 (cn : Int)) := cell_row (h.blk k hk) 4
  have k5 : w.cell? ⟨LB, 5, none⟩ = some (.int .u64 (cc : Int)) := cell_row (h.blk k hk) 5
  have k6 : w.cell? ⟨LB, 6, none⟩ = some (.int .u64 (n : Int)) := cell_row (h.blk k hk) 6
  have HH := Lib.hid (fun W => holds_any ⟨ca, cl, cn, cc⟩ hl hn hu W)
  unfold Ck.cs at HH
  clear h hk hl hn hu
  generalize Ck.holds ⟨ca, cl, cn, cc⟩ n = bo at *
  go_enter Tryz.func313, Tryz.ntmps313
  go_upto_region 1 with fail
  go_region_law (go_simp; go_at_call 287; refine (HH.out _).mono ?_; rintro e' w2 ⟨rfl, hb2⟩)
  all_goals
    go_wp2_with fail
    go_ret
    exact ⟨rfl, (Below.refl _ w).drew.trans hb2⟩
set_option maxRecDepth 100000 in
set_option maxHeartbeats 4000000 in
theorem val1_y {LB VB XB kx kv kl CB LX n : Nat} {c : Ck} (h : Wq w0 w base WB M r j l X) (hb : l[0]? = some (B, pkO D pb pi p b o)) (hx : l[kx]? = some (XB, xO B)) (hv : l[kv]? = some (VB, .cells #[.iface 420 (Pw LB)] 293 (0, 0))) (hk : l[kl]? = some (LB, lookO c CB LX true n)) (hl : c.all < 18446744073709551616) (hn : c.any < 18446744073709551616) (hu : n < 18446744073709551616) (hh : c.holds n = true) :
    Calls Tryz.prog 133 #[Pw VB, Pw XB] w fun e' w' => e' = .returned (.tuple #[]) ∧ ∃ XB NB, Wq w0 w' base WB M r j [(B, pkO D pb pi (.iface 342 (Pw NB)) (fnV 160 #[Pw B] #[]) o), (XB, xO B), (NB, oneO (.func 159) #[] #[Pw XB] false)] X := by
  have y1 : w.cell? ⟨VB, 0, none⟩ = some (.iface 420 (Pw LB)) := cell_row (h.blk kv hv) 0
  have ho := ok_ h hk hl hn hu
  rw [hh] at ho
  have HO := Lib.hid ho; have hm := m_ok ⟨LB, 0, none⟩
  have HS := Lib.hid (fun (W : World) (q : Below w.heap.size w W) => store_ (h.new q) hb)
  have HX := Lib.hid (fun (W : World) (q : Below w.heap.size w W) => (show W.cell? ⟨XB, 0, none⟩ = some (Pw B) from cell_row ((h.new q).blk kx hx) 0))
  clear h hb hx hv hk hl hn hu hh ho
  go_enter Tryz.func133, Tryz.ntmps133
  go_wp2_with (first
    | (go_at_call 313; refine HO.out.mono ?_; rintro e' w1 ⟨rfl, hb1⟩; have x1 := HX.out w1 hb1; have HB1 := Lib.hid hb1; clear hb1)
    | (go_at_call 132; refine (HS.out _ HB1.out).mono ?_; rintro e' w2 ⟨rfl, h2⟩))
  go_end0
  exact ⟨rfl, h2⟩
set_option maxRecDepth 100000 in
set_option maxHeartbeats 4000000 in
theorem val1_n {LB VB XB kx kv kl CB LX n : Nat} {c : Ck} (h : Wq w0 w base WB M r j l X) (hb : l[0]? = some (B, pkO D pb pi p b o)) (hx : l[kx]? = some (XB, xO B)) (hv : l[kv]? = some (VB, .cells #[.iface 420 (Pw LB)] 293 (0, 0))) (hk : l[kl]? = some (LB, lookO c CB LX true n)) (hl : c.all < 18446744073709551616) (hn : c.any < 18446744073709551616) (hu : n < 18446744073709551616) (hh : c.holds n = false)
    (hju : j ≠ u) (hu2 : u < r.length) {a : Nat} (hz : S10.lockZ pb pi = (a : Int)) :
    Calls Tryz.prog 133 #[Pw VB, Pw XB] w fun e' w' => e' = .returned (.tuple #[]) ∧ Left w0 w' base WB M r j u B D pb pi o 1 a X := by
  have y1 : w.cell? ⟨VB, 0, none⟩ = some (.iface 420 (Pw LB)) := cell_row (h.blk kv hv) 0
  have ho := ok_ h hk hl hn hu
  rw [hh] at ho
  have HO := Lib.hid ho; have hm := m_ok ⟨LB, 0, none⟩
  have HS := Lib.hid (fun (W : World) (q : Below w.heap.size w W) => leave_ (h.new q) hb hju hu2 hz 1)
  have HX := Lib.hid (fun (W : World) (q : Below w.heap.size w W) => (show W.cell? ⟨XB, 0, none⟩ = some (Pw B) from cell_row ((h.new q).blk kx hx) 0))
  clear h hb hx hv hk hl hn hu hh ho hju hu2 hz
  go_enter Tryz.func133, Tryz.ntmps133
  go_wp2_with (first
    | (go_at_call 313; refine HO.out.mono ?_; rintro e' w1 ⟨rfl, hb1⟩; have x1 := HX.out w1 hb1; have HB1 := Lib.hid hb1; clear hb1)
    | (go_at_call 134; refine (HS.out _ HB1.out).mono ?_; rintro e' w2 ⟨rfl, h2⟩))
  go_end0
  exact ⟨rfl, h2⟩
set_option maxRecDepth 100000 in
set_option maxHeartbeats 4000000 in
theorem enter1_ {VB XB kv kx : Nat} {E : En} {Z : Wb} {Q : World → Prop} (h : Wq w0 w base WB M r j l X) (s : EwS r e u E Z) (hje : j ≠ e) (hju : j ≠ u) (h0 : E.ln = 0) (how : E.ow = false) (hkw : E.kw < 4294967296)
    (hb : l[0]? = some (B, pkO D pb pi p b o)) (hv : l[kv]? = some (VB, .cells #[Pw Z.B] 70 (0, 0))) (hx : l[kx]? = some (XB, xO B))
    (hval : ∀ W, Wq w0 W base WB M r j (l.set 0 (B, pkO D (bitsN E.tw : Int) (bktN E.kw E.tw : Int) p b o)) X → Calls Tryz.prog 88 #[Pw B] W fun e' w' => e' = .returned (.tuple #[]) ∧ Q w') :
    Calls Tryz.prog 86 #[Pw VB, Pw XB] w fun e' w' => e' = .returned (.tuple #[]) ∧ Q w' := by
  have v0 : w.cell? ⟨VB, 0, none⟩ = some (Pw Z.B) := cell_row (h.blk kv hv) 0
  have x0 : w.cell? ⟨XB, 0, none⟩ = some (Pw B) := cell_row (h.blk kx hx) 0
  obtain ⟨hpb, hpi⟩ := s.pl (.inr h0)
  have hgot := egot_yes (wq_ew (h.new (Below.refl _ w).drew) s hje hju).wy (ews_got s h0)
  rw [hpb, hpi, Nat.mod_eq_of_lt hkw] at hgot
  obtain ⟨qb, hqb⟩ : ∃ qb, qb = (bitsN E.tw : Int) := ⟨_, rfl⟩
  obtain ⟨qi, hqi⟩ : ∃ qi, qi = (bktN E.kw E.tw : Int) := ⟨_, rfl⟩
  rw [← hqb, ← hqi] at hgot hval
  have hkx : ¬ 0 = kx := fun e0 => by
    subst e0
    have h6 := hb.symm.trans hx
    injection h6 with h6
    injection h6 with _ h6
    injection h6 with h7 h8
    exact absurd h8 (by decide)
  have HG := Lib.hid hgot; have H := Lib.hid (h.new (Below.refl _ w).drew); have HB := Lib.hid hb; have HXR := Lib.hid hx; have HV := Lib.hid hval; have HKX := Lib.hid hkx; have HVR := Lib.hid hv
  have hx0 := x0
  have HX0 := Lib.hid x0; have HV0 := Lib.hid v0
  clear h s hje hju h0 how hkw hb hv hx hpb hpi hgot hqb hqi hval hkx hx0
  go_enter Tryz.func86, Tryz.ntmps86
  refine wp_seq ?_
  refine wp_region_held_drew (S := fun w' => w'.cell? ⟨XB, 0, none⟩ = some (Pw B) ∧ w'.cell? ⟨VB, 0, none⟩ = some (Pw Z.B)) (by kernel_rfl) ?_ (fun hHeld => ?_)
  · exact ⟨HX0.out, HV0.out⟩
  refine wpAnyH_take (i := 0) (oi := ({ dst := some 2, op := Op.load 32 (Operand.tmp 1), type := 32, pos := "parts.go:31", after := #[], guard := none } : Oper)) (v := ?venm1) rfl (by kernel_rfl) (by kernel_rfl) (by kernel_rfl) (fun _ _ _ h => h) (Or.inl ⟨by rfl, fun w hSw => ?hyenm1⟩) (by assumption) ?renm1
  case hyenm1 => (try dsimp only at hSw); go_simp; (try with_reducible rfl)
  (try simp only [Act.put, List.setIfInBounds_toArray, List.set_cons_zero, List.set_cons_succ])
  refine wpAnyH_take (i := 1) (oi := ({ dst := some 3, op := Op.load 70 (Operand.tmp 0), type := 70, pos := "parts.go:31", after := #[], guard := none } : Oper)) (v := ?venm2) rfl (by kernel_rfl) (by kernel_rfl) (by kernel_rfl) (fun _ _ _ h => h) (Or.inl ⟨by rfl, fun w hSw => ?hyenm2⟩) (by assumption) ?renm2
  case hyenm2 => (try dsimp only at hSw); go_simp; (try with_reducible rfl)
  (try simp only [Act.put, List.setIfInBounds_toArray, List.set_cons_zero, List.set_cons_succ])
  refine wpAnyH_ready (rs := [2]) (by kernel_rfl) (by simp) ?_
  refine AllReadyH.cons (o := ({ dst := some 4, op := Op.call { callee := Callee.value (Operand.func 87), args := #[Operand.tmp 3], argTypes := #[70] }, type := 97, pos := "parts.go:31", after := #[{ on := 1, ground := Ground.data }], guard := none } : Oper)) rfl (fun Kq hKq => ?_) AllReadyH.nil
  go_simp
  (refine HG.out.mono ?_; rintro e' w2 ⟨rfl, hb2⟩; have h2 := H.out.new hb2; have H2 := Lib.hid h2; clear h2 hb2)
  refine hKq.out _ _ ?_ (fun hHeld => ?_)
  · exact ⟨cell_row (H2.out.blk kx HXR.out) 0, cell_row (H2.out.blk kv HVR.out) 0⟩
  clear hKq Kq
  (try simp only [Act.put, List.setIfInBounds_toArray, List.set_cons_zero, List.set_cons_succ])
  refine wpAnyH_take (i := 3) (oi := ({ dst := some 5, op := Op.nilCheck (Operand.tmp 2), type := 0, pos := "parts.go:31", after := #[{ on := 0, ground := Ground.data }, { on := 0, ground := Ground.phase }, { on := 1, ground := Ground.phase }, { on := 2, ground := Ground.phase }], guard := none } : Oper)) (v := ?venm3) rfl (by kernel_rfl) (by kernel_rfl) (by kernel_rfl) (fun _ _ _ h => h) (Or.inl ⟨by rfl, fun w hSw => ?hyenm3⟩) (by assumption) ?renm3
  case hyenm3 => (try dsimp only at hSw); go_simp; (try with_reducible rfl)
  (try simp only [Act.put, List.setIfInBounds_toArray, List.set_cons_zero, List.set_cons_succ])
  refine wpAnyH_take (i := 4) (oi := ({ dst := some 6, op := Op.fieldAddr 116 (Operand.tmp 5) 3, type := 0, pos := "parts.go:31", after := #[{ on := 3, ground := Ground.data }, { on := 0, ground := Ground.phase }, { on := 1, ground := Ground.phase }, { on := 2, ground := Ground.phase }], guard := none } : Oper)) (v := ?venm4) rfl (by kernel_rfl) (by kernel_rfl) (by kernel_rfl) (fun _ _ _ h => h) (Or.inl ⟨by rfl, fun w hSw => ?hyenm4⟩) (by assumption) ?renm4
  case hyenm4 => (try dsimp only at hSw); go_simp; (try with_reducible rfl)
  (try simp only [Act.put, List.setIfInBounds_toArray, List.set_cons_zero, List.set_cons_succ])
  refine wpAnyH_ready (rs := [5]) (by kernel_rfl) (by simp) ?_
  refine AllReadyH.cons (o := ({ dst := none, op := Op.store 97 (Operand.tmp 6) (Operand.tmp 4), type := 0, pos := "parts.go:31", after := #[{ on := 4, ground := Ground.data }, { on := 2, ground := Ground.data }, { on := 2, ground := Ground.chain }, { on := 0, ground := Ground.phase }, { on := 1, ground := Ground.phase }, { on := 2, ground := Ground.phase }], guard := none } : Oper)) rfl (fun Kq hKq => ?_) AllReadyH.nil
  (have c6 : w2.cell? ⟨B, 6, none⟩ = some (.int .i64 pb) := cell_row (H2.out.blk 0 HB.out) 6; have c7 : w2.cell? ⟨B, 7, none⟩ = some (.int .i64 pi) := cell_row (H2.out.blk 0 HB.out) 7; have f6 : w2.frozen? ⟨B, 6, none⟩ = false := froz_row (H2.out.blk 0 HB.out) 6; have f7 : w2.frozen? ⟨B, 7, none⟩ = false := froz_row (H2.out.blk 0 HB.out) 7; go_simp; have h4 := H2.out.put 0 HB.out 6 (.int .i64 qb) (cs' := pkC D qb pi p b o) rfl; have h5 := h4.put 0 (List.getElem?_set_self (List.getElem?_eq_some_iff.1 HB.out).1) 7 (.int .i64 qi) (cs' := pkC D qb qi p b o) rfl; rw [List.set_set] at h5; have H3 := Lib.hid h5; clear h4 h5 c6 c7 f6 f7; generalize (w2.setCell ⟨B, 6, none⟩ (.int .i64 qb)).setCell ⟨B, 7, none⟩ (.int .i64 qi) = w3 at *)
  refine hKq.out _ _ ?_ (fun hHeld => ?_)
  · exact ⟨cell_row (H3.out.blk kx ((List.getElem?_set_ne HKX.out).trans HXR.out)) 0, by have hv3 : ¬ 0 = kv := (fun e0 => by subst e0; have h6 := HB.out.symm.trans HVR.out; injection h6 with h6; injection h6 with _ h6; injection h6 with h7 h8; exact absurd h8 (by decide)); exact cell_row (H3.out.blk kv ((List.getElem?_set_ne hv3).trans HVR.out)) 0⟩
  clear hKq Kq
  (try simp only [Act.put, List.setIfInBounds_toArray, List.set_cons_zero, List.set_cons_succ])
  refine wpAnyH_done (by kernel_rfl) ?_ _
  clear hHeld
  have x3 : w3.cell? ⟨XB, 0, none⟩ = some (Pw B) := cell_row (H3.out.blk kx ((List.getElem?_set_ne HKX.out).trans HXR.out)) 0
  have HVV := Lib.hid (HV.out _ H3.out)
  go_wp2_with (go_at_call 88; refine HVV.out.mono ?_; rintro e' w4 ⟨rfl, h4⟩)
  go_end0
  exact ⟨rfl, h4⟩
end
end Go.Proofs.YtjppncglkijbjaaGreatDoor.S18
