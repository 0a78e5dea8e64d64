/- Texts of this seat, one behind the other. -/
import Derived.Test.YtjppncglkijbjaaGreatDoorB27
set_option linter.unusedVariables false
set_option linter.unusedSimpArgs false
set_option linter.unusedVariables false
set_option linter.unusedSimpArgs false
namespace Go.Proofs.YtjppncglkijbjaaGreatDoor.S15
open Go.Proofs.YtjppncglkijbjaaGreatDoor Go.Proofs.YtjppncglkijbjaaGreatDoor.S11 Go.Proofs.YtjppncglkijbjaaGreatDoor.S12 Go.Proofs.YtjppncglkijbjaaGreatDoor.S13 Go.Proofs.YtjppncglkijbjaaGreatDoor.S14
open Go.RowKit

theorem m_lover (a : Addr) (w : World) : (method 538 424 (.pointer (some a)) "Over").run Tryz.prog w = .ok (314, .pointer (some a)) w := by kernel_rfl
theorem m_fover (a : Addr) (w : World) : (method 538 73 (.pointer (some a)) "Over").run Tryz.prog w = .ok (175, .pointer (some a)) w := by kernel_rfl
theorem set_eq {l : List Part} {i : Nat} {p : Part} (h : l[i]? = some p) : l.set i p = l := by
  apply List.ext_getElem?
  intro k
  by_cases e : k = i
  · subst e
    rw [List.getElem?_set_self (List.getElem?_eq_some_iff.1 h).1, h]
  · rw [List.getElem?_set_ne (fun x => e x.symm)]
section
variable {w0 w w' : World} {base WB : Nat} {M : Sd} {r : List Part} {j u U : Nat} {o : Bool} {t kw tw : Nat} {Z : Wb} {X : Wm}
theorem Wy.newU (h : Wy w0 w base WB M r j o t kw tw Z X) (hju : j ≠ u) (hu : u < r.length) (ob : Obj) : Wy w0 (w.alloc ob) base WB M (r.set u (blockP w.heap.size ob)) j o t kw tw Z X := by
  have e : (r.set j (wayP o t kw tw Z))[u]? = r[u]? := List.getElem?_set_ne hju
  have hp : (r.set j (wayP o t kw tw Z))[u]? = some r[u] := by rw [e]; exact List.getElem?_eq_getElem hu
  have h2 := h.pg.turn hp (blockP w.heap.size ob) (heap_alloc_new w ob) ((Turns.refl _ w).alloc ob) (fun k e => .inr (Nat.le_of_eq (show k = w.heap.size from e).symm))
  rw [List.set_comm _ _ hju] at h2
  exact ⟨h2, by rw [List.length_set]; exact h.hj⟩
theorem Wy.lock {K : Lk} (h : Wy w0 w base WB M r j o t kw tw Z X) (hju : j ≠ u) (hu : r[u]? = some (lockP U K)) : Wl w0 w base WB M (r.set j (wayP o t kw tw Z)) u U K X := by
  have e : (r.set j (wayP o t kw tw Z))[u]? = some (lockP U K) := (List.getElem?_set_ne hju).trans hu
  exact ⟨by rw [set_eq e]; exact h.pg, (List.getElem?_eq_some_iff.1 e).1⟩
theorem Wy.free {K : Fr} (h : Wy w0 w base WB M r j o t kw tw Z X) (hju : j ≠ u) (hu : r[u]? = some (freeP U K)) : Wf w0 w base WB M (r.set j (wayP o t kw tw Z)) u U K X := by
  have e : (r.set j (wayP o t kw tw Z))[u]? = some (freeP U K) := (List.getElem?_set_ne hju).trans hu
  exact ⟨by rw [set_eq e]; exact h.pg, (List.getElem?_eq_some_iff.1 e).1⟩
theorem wy_lock {K : Lk} (h : Wl w0 w base WB M (r.set j (wayP o t kw tw Z)) u U K X) (hju : j ≠ u) (hj : j < r.length) : Wy w0 w base WB M (r.set u (lockP U K)) j o t kw tw Z X := by
  have hp := h.pg
  rw [List.set_comm _ _ hju] at hp
  exact ⟨hp, by rw [List.length_set]; exact hj⟩
theorem wy_free {K : Fr} (h : Wf w0 w base WB M (r.set j (wayP o t kw tw Z)) u U K X) (hju : j ≠ u) (hj : j < r.length) : Wy w0 w base WB M (r.set u (freeP U K)) j o t kw tw Z X := by
  have hp := h.pg
  rw [List.set_comm _ _ hju] at hp
  exact ⟨hp, by rw [List.length_set]; exact hj⟩
theorem Wy.held (h : Wy w0 w base WB M r j o t kw tw Z X) : w.cell? ⟨Z.B, 3, none⟩ = some (Pw Z.KB) ∧ w.cell? ⟨Z.KB, 2, none⟩ = some (.int .u64 (kw : Int)) ∧ w.cell? ⟨Z.B, 4, none⟩ = some (Pw Z.TB) ∧ w.cell? ⟨Z.TB, 2, none⟩ = some (.int .u64 (tw : Int)) := ⟨h.c.2.2.2.1, h.kc.2, h.c.2.2.2.2.1, h.tc.2⟩
set_option maxRecDepth 100000 in
set_option maxHeartbeats 4000000 in
theorem steps_lock {K : Lk} (h : Wy w0 w base WB M r j o t kw tw Z X) (hju : j ≠ u) (hu : r[u]? = some (lockP U K)) (huv : Z.uv = lockU U) (ok : LkOk M K) (h6 : K.ln ≤ 6) :
    Calls Tryz.prog 293 #[.agg #[], sP Z.B, Pw WB] w fun e w' => e = .returned (.bool (decide ((stepK M K).ln = 0))) ∧ ∃ X', Wy w0 w' base WB (stepM M K) (r.set u (lockP U (stepK M K))) j o t kw tw Z X' := by
  have hj := h.hj
  have h1 := h.new (below1 w (.cells #[] 256))
  have c8 := h1.c.2.2.2.2.2.2.2.2
  rw [huv] at c8
  have HST := Lib.hid (step_any (h1.lock hju hu) ok h6)
  have hm1 := meth_step ⟨U, 0, none⟩
  have HJ := Lib.hid hj; have HJU := Lib.hid hju
  clear h h1 hu huv ok h6 hj hju
  generalize decide ((stepK M K).ln = 0) = b at *
  go_enter Tryz.func293, Tryz.ntmps293
  go_upto_region 1 with (fail)
  generalize w.alloc (.cells #[] 256) = w1 at *
  go_wp2_with (go_at_call 315; refine HST.out.mono ?_; rintro e w2 ⟨rfl, hs⟩; have HS := Lib.hid hs; clear hs)
  go_ret
  obtain ⟨X', h'⟩ := HS.out
  exact ⟨rfl, X', wy_lock h' HJU.out HJ.out⟩
set_option maxRecDepth 100000 in
set_option maxHeartbeats 4000000 in
theorem steps_free {K : Fr} (h : Wy w0 w base WB M r j o t kw tw Z X) (hju : j ≠ u) (hu : r[u]? = some (freeP U K)) (huv : Z.uv = freeU U) (ok : FrOk M K) (h7 : K.ln ≤ 7) :
    Calls Tryz.prog 293 #[.agg #[], sP Z.B, Pw WB] w fun e w' => e = .returned (.bool (decide ((fstepK M K).ln = 0))) ∧ ∃ X', Wy w0 w' base WB (fstepM M K) (r.set u (freeP U (fstepK M K))) j o t kw tw Z X' := by
  have hj := h.hj
  have h1 := h.new (below1 w (.cells #[] 256))
  have c8 := h1.c.2.2.2.2.2.2.2.2
  rw [huv] at c8
  have HST := Lib.hid (step_f (h1.free hju hu) ok h7)
  have hm1 := meth_free ⟨U, 0, none⟩
  have HJ := Lib.hid hj; have HJU := Lib.hid hju
  clear h h1 hu huv ok h7 hj hju
  generalize decide ((fstepK M K).ln = 0) = b at *
  go_enter Tryz.func293, Tryz.ntmps293
  go_upto_region 1 with (fail)
  generalize w.alloc (.cells #[] 256) = w1 at *
  go_wp2_with (go_at_call 151; refine HST.out.mono ?_; rintro e w2 ⟨rfl, hs⟩; have HS := Lib.hid hs; clear hs)
  go_ret
  obtain ⟨X', h'⟩ := HS.out
  exact ⟨rfl, X', wy_free h' HJU.out HJ.out⟩
set_option maxRecDepth 100000 in
set_option maxHeartbeats 4000000 in
theorem tbegin_any (h : Wy w0 w base WB M r j o t kw tw Z X) (hju : j ≠ u) (hu : u < r.length) (ht : t < 64) (hk : kw < 18446744073709551616) (hw : tw < 18446744073709551616) :
    Calls Tryz.prog 294 #[.agg #[], sP Z.B] w fun e w' => e = .returned (.bool true) ∧ ∃ UB, Wy w0 w' base WB M (r.set u (lockP UB (lk1 t (lokN (kw % 4294967296) tw)))) j o t kw tw { Z with pb := (bitsN tw : Int), pi := (bktN (kw % 4294967296) tw : Int), uv := lockU UB } X := by
  have h1 := h.new (below1 w (.cells #[] 258))
  obtain ⟨key, hkey⟩ : ∃ key, key = kw % 4294967296 := ⟨_, rfl⟩
  rw [← hkey]
  have hk2 : key < 4294967296 := by rw [hkey]; omega
  have ew : IntKind.u32.wrap (kw : Int) = (key : Int) := by rw [IntKind.wrap_u32, hkey]; omega
  have hpl := fun W => place_any key tw hk2 hw W
  have hlk := fun W => lockOf_any (bitsN tw : Int) (bktN key tw : Int) W
  have hlo := lok_lock key tw
  rw [hlo] at hlk
  obtain ⟨a, ha⟩ : ∃ a, a = lokN key tw := ⟨_, rfl⟩
  rw [← ha] at hlk ⊢
  have hnl : ∀ W, Calls Tryz.prog 295 #[.int .i64 (t : Int), .int .u32 (a : Int)] W fun e w' => e = .returned (Pw W.heap.size) ∧ w' = W.alloc (.cells (lk1 t a).cs 431) := fun W => by
    have := new_lock (t : Int) a W
    rwa [show newK (t : Int) a = lk1 t a by unfold newK; rw [if_pos ⟨by omega, by omega⟩]; rfl] at this
  unfold placeV at hpl
  obtain ⟨b, hb⟩ : ∃ b, b = bitsN tw := ⟨_, rfl⟩
  obtain ⟨k, hkk⟩ : ∃ k, k = bktN key tw := ⟨_, rfl⟩
  rw [← hb, ← hkk] at hpl hlk
  rw [← hb, ← hkk]
  have HPL := Lib.hid hpl; have HLK := Lib.hid hlk; have HNL := Lib.hid hnl; have H1 := Lib.hid h1; have HJU := Lib.hid hju; have HU := Lib.hid hu
  clear h h1 hju hu ht hk hw hkey hk2 hpl hlk hlo hnl ha hb hkk
  go_enter Tryz.func294, Tryz.ntmps294
  go_upto_region 1 with (fail)
  generalize w.alloc (.cells #[] 258) = w1 at *
  refine wp_region_held_drew (S := fun w' => w'.cell? ⟨Z.B, 3, none⟩ = some (Pw Z.KB) ∧ w'.cell? ⟨Z.KB, 2, none⟩ = some (.int .u64 (kw : Int)) ∧ w'.cell? ⟨Z.B, 4, none⟩ = some (Pw Z.TB) ∧ w'.cell? ⟨Z.TB, 2, none⟩ = some (.int .u64 (tw : Int))) (by kernel_rfl) ?_ (fun hHeld => ?_)
  · exact (H1.out.new (Below.refl _ _).drew).held
  refine wpAnyH_take (i := 0) (oi := ({ dst := some 5, op := Op.move (Operand.tmp 1), type := 351, pos := "parts.go:119", after := #[], guard := none } : Oper)) (v := ?vt1m1) rfl (by kernel_rfl) (by kernel_rfl) (by kernel_rfl) (fun _ _ _ h => h) (Or.inl ⟨by rfl, fun w hSw => ?hyt1m1⟩) (by assumption) ?rt1m1
  case hyt1m1 => (try dsimp only at hSw); go_simp; (try with_reducible rfl)
  (try simp only [Act.put, List.setIfInBounds_toArray, List.set_cons_zero, List.set_cons_succ])
  refine wpAnyH_take (i := 1) (oi := ({ dst := some 6, op := Op.move (Operand.tmp 1), type := 351, pos := "parts.go:119", after := #[], guard := none } : Oper)) (v := ?vt1m2) rfl (by kernel_rfl) (by kernel_rfl) (by kernel_rfl) (fun _ _ _ h => h) (Or.inl ⟨by rfl, fun w hSw => ?hyt1m2⟩) (by assumption) ?rt1m2
  case hyt1m2 => (try dsimp only at hSw); go_simp; (try with_reducible rfl)
  (try simp only [Act.put, List.setIfInBounds_toArray, List.set_cons_zero, List.set_cons_succ])
  refine wpAnyH_take (i := 2) (oi := ({ dst := some 7, op := Op.nilCheck (Operand.tmp 6), type := 0, pos := "parts.go:119", after := #[{ on := 1, ground := Ground.data }], guard := none } : Oper)) (v := ?vt1m3) rfl (by kernel_rfl) (by kernel_rfl) (by kernel_rfl) (fun _ _ _ h => h) (Or.inl ⟨by rfl, fun w hSw => ?hyt1m3⟩) (by assumption) ?rt1m3
  case hyt1m3 => (try dsimp only at hSw); go_simp; (try with_reducible rfl)
  (try simp only [Act.put, List.setIfInBounds_toArray, List.set_cons_zero, List.set_cons_succ])
  refine wpAnyH_take (i := 3) (oi := ({ dst := some 8, op := Op.fieldAddr 247 (Operand.tmp 7) 1, type := 0, pos := "parts.go:119", after := #[{ on := 2, ground := Ground.data }], guard := none } : Oper)) (v := ?vt1m4) rfl (by kernel_rfl) (by kernel_rfl) (by kernel_rfl) (fun _ _ _ h => h) (Or.inl ⟨by rfl, fun w hSw => ?hyt1m4⟩) (by assumption) ?rt1m4
  case hyt1m4 => (try dsimp only at hSw); go_simp; (try with_reducible rfl)
  (try simp only [Act.put, List.setIfInBounds_toArray, List.set_cons_zero, List.set_cons_succ])
  refine wpAnyH_take (i := 4) (oi := ({ dst := some 9, op := Op.load 243 (Operand.tmp 8), type := 243, pos := "parts.go:119", after := #[{ on := 3, ground := Ground.data }], guard := none } : Oper)) (v := ?vt1m5) rfl (by kernel_rfl) (by kernel_rfl) (by kernel_rfl) (fun _ _ _ h => h) (Or.inl ⟨by rfl, fun w hSw => ?hyt1m5⟩) (by assumption) ?rt1m5
  case hyt1m5 => (try dsimp only at hSw); go_simp; (try with_reducible rfl)
  (try simp only [Act.put, List.setIfInBounds_toArray, List.set_cons_zero, List.set_cons_succ])
  refine wpAnyH_take (i := 5) (oi := ({ dst := some 10, op := Op.nilCheck (Operand.tmp 9), type := 0, pos := "parts.go:119", after := #[{ on := 4, ground := Ground.data }], guard := none } : Oper)) (v := ?vt1m6) rfl (by kernel_rfl) (by kernel_rfl) (by kernel_rfl) (fun _ _ _ h => h) (Or.inl ⟨by rfl, fun w hSw => ?hyt1m6⟩) (by assumption) ?rt1m6
  case hyt1m6 => (try dsimp only at hSw); go_simp; (try with_reducible rfl)
  (try simp only [Act.put, List.setIfInBounds_toArray, List.set_cons_zero, List.set_cons_succ])
  refine wpAnyH_take (i := 6) (oi := ({ dst := some 11, op := Op.fieldAddr 253 (Operand.tmp 10) 2, type := 0, pos := "parts.go:119", after := #[{ on := 5, ground := Ground.data }], guard := none } : Oper)) (v := ?vt1m7) rfl (by kernel_rfl) (by kernel_rfl) (by kernel_rfl) (fun _ _ _ h => h) (Or.inl ⟨by rfl, fun w hSw => ?hyt1m7⟩) (by assumption) ?rt1m7
  case hyt1m7 => (try dsimp only at hSw); go_simp; (try with_reducible rfl)
  (try simp only [Act.put, List.setIfInBounds_toArray, List.set_cons_zero, List.set_cons_succ])
  refine wpAnyH_take (i := 7) (oi := ({ dst := some 12, op := Op.load 23 (Operand.tmp 11), type := 23, pos := "parts.go:119", after := #[{ on := 6, ground := Ground.data }], guard := none } : Oper)) (v := ?vt1m8) rfl (by kernel_rfl) (by kernel_rfl) (by kernel_rfl) (fun _ _ _ h => h) (Or.inl ⟨by rfl, fun w hSw => ?hyt1m8⟩) (by assumption) ?rt1m8
  case hyt1m8 => (try dsimp only at hSw); go_simp; (try with_reducible rfl)
  (try simp only [Act.put, List.setIfInBounds_toArray, List.set_cons_zero, List.set_cons_succ])
  refine wpAnyH_take (i := 8) (oi := ({ dst := some 13, op := Op.convert 23 35 (Operand.tmp 12), type := 35, pos := "parts.go:119", after := #[{ on := 7, ground := Ground.data }], guard := none } : Oper)) (v := ?vt1m9) rfl (by kernel_rfl) (by kernel_rfl) (by kernel_rfl) (fun _ _ _ h => h) (Or.inl ⟨by rfl, fun w hSw => ?hyt1m9⟩) (by assumption) ?rt1m9
  case hyt1m9 => (try dsimp only at hSw); go_simp; (try with_reducible rfl)
  (try simp only [Act.put, List.setIfInBounds_toArray, List.set_cons_zero, List.set_cons_succ])
  refine wpAnyH_take (i := 9) (oi := ({ dst := some 14, op := Op.move (Operand.tmp 1), type := 351, pos := "parts.go:119", after := #[], guard := none } : Oper)) (v := ?vt1m10) rfl (by kernel_rfl) (by kernel_rfl) (by kernel_rfl) (fun _ _ _ h => h) (Or.inl ⟨by rfl, fun w hSw => ?hyt1m10⟩) (by assumption) ?rt1m10
  case hyt1m10 => (try dsimp only at hSw); go_simp; (try with_reducible rfl)
  (try simp only [Act.put, List.setIfInBounds_toArray, List.set_cons_zero, List.set_cons_succ])
  refine wpAnyH_take (i := 10) (oi := ({ dst := some 15, op := Op.nilCheck (Operand.tmp 14), type := 0, pos := "parts.go:119", after := #[{ on := 9, ground := Ground.data }], guard := none } : Oper)) (v := ?vt1m11) rfl (by kernel_rfl) (by kernel_rfl) (by kernel_rfl) (fun _ _ _ h => h) (Or.inl ⟨by rfl, fun w hSw => ?hyt1m11⟩) (by assumption) ?rt1m11
  case hyt1m11 => (try dsimp only at hSw); go_simp; (try with_reducible rfl)
  (try simp only [Act.put, List.setIfInBounds_toArray, List.set_cons_zero, List.set_cons_succ])
  refine wpAnyH_take (i := 11) (oi := ({ dst := some 16, op := Op.fieldAddr 247 (Operand.tmp 15) 2, type := 0, pos := "parts.go:119", after := #[{ on := 10, ground := Ground.data }], guard := none } : Oper)) (v := ?vt1m12) rfl (by kernel_rfl) (by kernel_rfl) (by kernel_rfl) (fun _ _ _ h => h) (Or.inl ⟨by rfl, fun w hSw => ?hyt1m12⟩) (by assumption) ?rt1m12
  case hyt1m12 => (try dsimp only at hSw); go_simp; (try with_reducible rfl)
  (try simp only [Act.put, List.setIfInBounds_toArray, List.set_cons_zero, List.set_cons_succ])
  refine wpAnyH_take (i := 12) (oi := ({ dst := some 17, op := Op.load 243 (Operand.tmp 16), type := 243, pos := "parts.go:119", after := #[{ on := 11, ground := Ground.data }], guard := none } : Oper)) (v := ?vt1m13) rfl (by kernel_rfl) (by kernel_rfl) (by kernel_rfl) (fun _ _ _ h => h) (Or.inl ⟨by rfl, fun w hSw => ?hyt1m13⟩) (by assumption) ?rt1m13
  case hyt1m13 => (try dsimp only at hSw); go_simp; (try with_reducible rfl)
  (try simp only [Act.put, List.setIfInBounds_toArray, List.set_cons_zero, List.set_cons_succ])
  refine wpAnyH_take (i := 13) (oi := ({ dst := some 18, op := Op.nilCheck (Operand.tmp 17), type := 0, pos := "parts.go:119", after := #[{ on := 12, ground := Ground.data }], guard := none } : Oper)) (v := ?vt1m14) rfl (by kernel_rfl) (by kernel_rfl) (by kernel_rfl) (fun _ _ _ h => h) (Or.inl ⟨by rfl, fun w hSw => ?hyt1m14⟩) (by assumption) ?rt1m14
  case hyt1m14 => (try dsimp only at hSw); go_simp; (try with_reducible rfl)
  (try simp only [Act.put, List.setIfInBounds_toArray, List.set_cons_zero, List.set_cons_succ])
  refine wpAnyH_take (i := 14) (oi := ({ dst := some 19, op := Op.fieldAddr 253 (Operand.tmp 18) 2, type := 0, pos := "parts.go:119", after := #[{ on := 13, ground := Ground.data }], guard := none } : Oper)) (v := ?vt1m15) rfl (by kernel_rfl) (by kernel_rfl) (by kernel_rfl) (fun _ _ _ h => h) (Or.inl ⟨by rfl, fun w hSw => ?hyt1m15⟩) (by assumption) ?rt1m15
  case hyt1m15 => (try dsimp only at hSw); go_simp; (try with_reducible rfl)
  (try simp only [Act.put, List.setIfInBounds_toArray, List.set_cons_zero, List.set_cons_succ])
  refine wpAnyH_take (i := 15) (oi := ({ dst := some 20, op := Op.load 23 (Operand.tmp 19), type := 23, pos := "parts.go:119", after := #[{ on := 14, ground := Ground.data }], guard := none } : Oper)) (v := ?vt1m16) rfl (by kernel_rfl) (by kernel_rfl) (by kernel_rfl) (fun _ _ _ h => h) (Or.inl ⟨by rfl, fun w hSw => ?hyt1m16⟩) (by assumption) ?rt1m16
  case hyt1m16 => (try dsimp only at hSw); go_simp; (try with_reducible rfl)
  (try simp only [Act.put, List.setIfInBounds_toArray, List.set_cons_zero, List.set_cons_succ])
  refine wpAnyH_ready (rs := [16]) (by kernel_rfl) (by simp) ?_
  refine AllReadyH.cons (o := ({ dst := some 21, op := Op.call { callee := Callee.value (Operand.func 32), args := #[Operand.tmp 13, Operand.tmp 20], argTypes := #[35, 23] }, type := 97, pos := "parts.go:119", after := #[{ on := 8, ground := Ground.data }, { on := 15, ground := Ground.data }], guard := none } : Oper)) rfl (fun Kq hKq => ?_) AllReadyH.nil
  go_simp
  (refine (HPL.out _).mono ?_; rintro e w4 ⟨rfl, hb4⟩; have H4 := Lib.hid (H1.out.new ((Below.refl _ _).drew.trans hb4)); clear hb4)
  refine hKq.out _ _ ?_ (fun hHeld => ?_)
  · exact H4.out.held
  clear hKq Kq
  (try simp only [Act.put, List.setIfInBounds_toArray, List.set_cons_zero, List.set_cons_succ])
  refine wpAnyH_take (i := 17) (oi := ({ dst := some 22, op := Op.nilCheck (Operand.tmp 5), type := 0, pos := "parts.go:119", after := #[{ on := 0, ground := Ground.data }, { on := 0, ground := Ground.phase }, { on := 1, ground := Ground.phase }, { on := 2, ground := Ground.phase }, { on := 3, ground := Ground.phase }, { on := 4, ground := Ground.phase }, { on := 5, ground := Ground.phase }, { on := 6, ground := Ground.phase }, { on := 7, ground := Ground.phase }, { on := 8, ground := Ground.phase }, { on := 9, ground := Ground.phase }, { on := 10, ground := Ground.phase }, { on := 11, ground := Ground.phase }, { on := 12, ground := Ground.phase }, { on := 13, ground := Ground.phase }, { on := 14, ground := Ground.phase }, { on := 15, ground := Ground.phase }, { on := 16, ground := Ground.phase }], guard := none } : Oper)) (v := ?vt1m17) rfl (by kernel_rfl) (by kernel_rfl) (by kernel_rfl) (fun _ _ _ h => h) (Or.inl ⟨by rfl, fun w hSw => ?hyt1m17⟩) (by assumption) ?rt1m17
  case hyt1m17 => (try dsimp only at hSw); go_simp; (try with_reducible rfl)
  (try simp only [Act.put, List.setIfInBounds_toArray, List.set_cons_zero, List.set_cons_succ])
  refine wpAnyH_take (i := 18) (oi := ({ dst := some 23, op := Op.fieldAddr 247 (Operand.tmp 22) 3, type := 0, pos := "parts.go:119", after := #[{ on := 17, ground := Ground.data }, { on := 0, ground := Ground.phase }, { on := 1, ground := Ground.phase }, { on := 2, ground := Ground.phase }, { on := 3, ground := Ground.phase }, { on := 4, ground := Ground.phase }, { on := 5, ground := Ground.phase }, { on := 6, ground := Ground.phase }, { on := 7, ground := Ground.phase }, { on := 8, ground := Ground.phase }, { on := 9, ground := Ground.phase }, { on := 10, ground := Ground.phase }, { on := 11, ground := Ground.phase }, { on := 12, ground := Ground.phase }, { on := 13, ground := Ground.phase }, { on := 14, ground := Ground.phase }, { on := 15, ground := Ground.phase }, { on := 16, ground := Ground.phase }], guard := none } : Oper)) (v := ?vt1m18) rfl (by kernel_rfl) (by kernel_rfl) (by kernel_rfl) (fun _ _ _ h => h) (Or.inl ⟨by rfl, fun w hSw => ?hyt1m18⟩) (by assumption) ?rt1m18
  case hyt1m18 => (try dsimp only at hSw); go_simp; (try with_reducible rfl)
  (try simp only [Act.put, List.setIfInBounds_toArray, List.set_cons_zero, List.set_cons_succ])
  refine wpAnyH_ready (rs := [19]) (by kernel_rfl) (by simp) ?_
  refine AllReadyH.cons (o := ({ dst := none, op := Op.store 97 (Operand.tmp 23) (Operand.tmp 21), type := 0, pos := "parts.go:119", after := #[{ on := 18, ground := Ground.data }, { on := 16, ground := Ground.data }, { on := 16, ground := Ground.chain }, { on := 0, ground := Ground.phase }, { on := 1, ground := Ground.phase }, { on := 2, ground := Ground.phase }, { on := 3, ground := Ground.phase }, { on := 4, ground := Ground.phase }, { on := 5, ground := Ground.phase }, { on := 6, ground := Ground.phase }, { on := 7, ground := Ground.phase }, { on := 8, ground := Ground.phase }, { on := 9, ground := Ground.phase }, { on := 10, ground := Ground.phase }, { on := 11, ground := Ground.phase }, { on := 12, ground := Ground.phase }, { on := 13, ground := Ground.phase }, { on := 14, ground := Ground.phase }, { on := 15, ground := Ground.phase }, { on := 16, ground := Ground.phase }], guard := none } : Oper)) rfl (fun Kq hKq => ?_) AllReadyH.nil
  (have y5 := H4.out.c.2.2.2.2.2.1; have y6 := H4.out.c.2.2.2.2.2.2.1; have f5 := (H4.out.fz 5).1; have f6 := (H4.out.fz 6).1; go_simp; have h5 := (H4.out.put 5 (.int .i64 (b : Int)) { Z with pb := (b : Int) } rfl rfl rfl rfl rfl).put 6 (.int .i64 (k : Int)) { Z with pb := (b : Int), pi := (k : Int) } rfl rfl rfl rfl rfl; have H5 := Lib.hid h5; clear y5 y6 f5 f6 h5; generalize (w4.setCell ⟨Z.B, 5, none⟩ (.int .i64 (b : Int))).setCell ⟨Z.B, 6, none⟩ (.int .i64 (k : Int)) = w5 at *)
  refine hKq.out _ _ ?_ (fun hHeld => ?_)
  · exact H5.out.held
  clear hKq Kq
  (try simp only [Act.put, List.setIfInBounds_toArray, List.set_cons_zero, List.set_cons_succ])
  refine wpAnyH_done (by kernel_rfl) ?_ _
  clear hHeld HPL H4 H1
  go_upto_region 2 with (fail)
  refine wp_region_held_drew (S := fun w' => w'.cell? ⟨Z.B, 2, none⟩ = some (.int .i64 (t : Int)) ∧ w'.cell? ⟨Z.B, 5, none⟩ = some (.int .i64 (b : Int)) ∧ w'.cell? ⟨Z.B, 6, none⟩ = some (.int .i64 (k : Int))) (by kernel_rfl) ?_ (fun hHeld => ?_)
  · exact ⟨(H5.out.new (Below.refl _ _).drew).c.2.2.1, (H5.out.new (Below.refl _ _).drew).c.2.2.2.2.2.1, (H5.out.new (Below.refl _ _).drew).c.2.2.2.2.2.2.1⟩
  refine wpAnyH_take (i := 0) (oi := ({ dst := some 24, op := Op.move (Operand.tmp 1), type := 351, pos := "parts.go:120", after := #[], guard := none } : Oper)) (v := ?vt2m1) rfl (by kernel_rfl) (by kernel_rfl) (by kernel_rfl) (fun _ _ _ h => h) (Or.inl ⟨by rfl, fun w hSw => ?hyt2m1⟩) (by assumption) ?rt2m1
  case hyt2m1 => (try dsimp only at hSw); go_simp; (try with_reducible rfl)
  (try simp only [Act.put, List.setIfInBounds_toArray, List.set_cons_zero, List.set_cons_succ])
  refine wpAnyH_take (i := 1) (oi := ({ dst := some 25, op := Op.move (Operand.tmp 1), type := 351, pos := "parts.go:120", after := #[], guard := none } : Oper)) (v := ?vt2m2) rfl (by kernel_rfl) (by kernel_rfl) (by kernel_rfl) (fun _ _ _ h => h) (Or.inl ⟨by rfl, fun w hSw => ?hyt2m2⟩) (by assumption) ?rt2m2
  case hyt2m2 => (try dsimp only at hSw); go_simp; (try with_reducible rfl)
  (try simp only [Act.put, List.setIfInBounds_toArray, List.set_cons_zero, List.set_cons_succ])
  refine wpAnyH_take (i := 2) (oi := ({ dst := some 26, op := Op.nilCheck (Operand.tmp 25), type := 0, pos := "parts.go:120", after := #[{ on := 1, ground := Ground.data }], guard := none } : Oper)) (v := ?vt2m3) rfl (by kernel_rfl) (by kernel_rfl) (by kernel_rfl) (fun _ _ _ h => h) (Or.inl ⟨by rfl, fun w hSw => ?hyt2m3⟩) (by assumption) ?rt2m3
  case hyt2m3 => (try dsimp only at hSw); go_simp; (try with_reducible rfl)
  (try simp only [Act.put, List.setIfInBounds_toArray, List.set_cons_zero, List.set_cons_succ])
  refine wpAnyH_take (i := 3) (oi := ({ dst := some 27, op := Op.fieldAddr 247 (Operand.tmp 26) 0, type := 0, pos := "parts.go:120", after := #[{ on := 2, ground := Ground.data }], guard := none } : Oper)) (v := ?vt2m4) rfl (by kernel_rfl) (by kernel_rfl) (by kernel_rfl) (fun _ _ _ h => h) (Or.inl ⟨by rfl, fun w hSw => ?hyt2m4⟩) (by assumption) ?rt2m4
  case hyt2m4 => (try dsimp only at hSw); go_simp; (try with_reducible rfl)
  (try simp only [Act.put, List.setIfInBounds_toArray, List.set_cons_zero, List.set_cons_succ])
  refine wpAnyH_take (i := 4) (oi := ({ dst := some 28, op := Op.load 3 (Operand.tmp 27), type := 3, pos := "parts.go:120", after := #[{ on := 3, ground := Ground.data }], guard := none } : Oper)) (v := ?vt2m5) rfl (by kernel_rfl) (by kernel_rfl) (by kernel_rfl) (fun _ _ _ h => h) (Or.inl ⟨by rfl, fun w hSw => ?hyt2m5⟩) (by assumption) ?rt2m5
  case hyt2m5 => (try dsimp only at hSw); go_simp; (try with_reducible rfl)
  (try simp only [Act.put, List.setIfInBounds_toArray, List.set_cons_zero, List.set_cons_succ])
  refine wpAnyH_take (i := 5) (oi := ({ dst := some 29, op := Op.move (Operand.tmp 1), type := 351, pos := "parts.go:120", after := #[], guard := none } : Oper)) (v := ?vt2m6) rfl (by kernel_rfl) (by kernel_rfl) (by kernel_rfl) (fun _ _ _ h => h) (Or.inl ⟨by rfl, fun w hSw => ?hyt2m6⟩) (by assumption) ?rt2m6
  case hyt2m6 => (try dsimp only at hSw); go_simp; (try with_reducible rfl)
  (try simp only [Act.put, List.setIfInBounds_toArray, List.set_cons_zero, List.set_cons_succ])
  refine wpAnyH_take (i := 6) (oi := ({ dst := some 30, op := Op.nilCheck (Operand.tmp 29), type := 0, pos := "parts.go:120", after := #[{ on := 5, ground := Ground.data }], guard := none } : Oper)) (v := ?vt2m7) rfl (by kernel_rfl) (by kernel_rfl) (by kernel_rfl) (fun _ _ _ h => h) (Or.inl ⟨by rfl, fun w hSw => ?hyt2m7⟩) (by assumption) ?rt2m7
  case hyt2m7 => (try dsimp only at hSw); go_simp; (try with_reducible rfl)
  (try simp only [Act.put, List.setIfInBounds_toArray, List.set_cons_zero, List.set_cons_succ])
  refine wpAnyH_take (i := 7) (oi := ({ dst := some 31, op := Op.fieldAddr 247 (Operand.tmp 30) 3, type := 0, pos := "parts.go:120", after := #[{ on := 6, ground := Ground.data }], guard := none } : Oper)) (v := ?vt2m8) rfl (by kernel_rfl) (by kernel_rfl) (by kernel_rfl) (fun _ _ _ h => h) (Or.inl ⟨by rfl, fun w hSw => ?hyt2m8⟩) (by assumption) ?rt2m8
  case hyt2m8 => (try dsimp only at hSw); go_simp; (try with_reducible rfl)
  (try simp only [Act.put, List.setIfInBounds_toArray, List.set_cons_zero, List.set_cons_succ])
  refine wpAnyH_take (i := 8) (oi := ({ dst := some 32, op := Op.load 97 (Operand.tmp 31), type := 97, pos := "parts.go:120", after := #[{ on := 7, ground := Ground.data }], guard := none } : Oper)) (v := ?vt2m9) rfl (by kernel_rfl) (by kernel_rfl) (by kernel_rfl) (fun _ _ _ h => h) (Or.inl ⟨by rfl, fun w hSw => ?hyt2m9⟩) (by assumption) ?rt2m9
  case hyt2m9 => (try dsimp only at hSw); go_simp; (try with_reducible rfl)
  (try simp only [Act.put, List.setIfInBounds_toArray, List.set_cons_zero, List.set_cons_succ])
  refine wpAnyH_ready (rs := [9]) (by kernel_rfl) (by simp) ?_
  refine AllReadyH.cons (o := ({ dst := some 33, op := Op.call { callee := Callee.value (Operand.func 148), args := #[Operand.tmp 32], argTypes := #[97] }, type := 35, pos := "parts.go:120", after := #[{ on := 8, ground := Ground.data }], guard := none } : Oper)) rfl (fun Kq hKq => ?_) AllReadyH.nil
  go_simp
  (refine (HLK.out _).mono ?_; rintro e w6 ⟨rfl, hb6⟩; have H6 := Lib.hid (H5.out.new ((Below.refl _ _).drew.trans hb6)); clear hb6)
  refine hKq.out _ _ ?_ (fun hHeld => ?_)
  · exact ⟨H6.out.c.2.2.1, H6.out.c.2.2.2.2.2.1, H6.out.c.2.2.2.2.2.2.1⟩
  clear hKq Kq
  (try simp only [Act.put, List.setIfInBounds_toArray, List.set_cons_zero, List.set_cons_succ])
  refine wpAnyH_ready (rs := [10]) (by kernel_rfl) (by simp) ?_
  refine AllReadyH.cons (o := ({ dst := some 34, op := Op.call { callee := Callee.value (Operand.func 295), args := #[Operand.tmp 28, Operand.tmp 33], argTypes := #[3, 35] }, type := 424, pos := "parts.go:120", after := #[{ on := 4, ground := Ground.data }, { on := 9, ground := Ground.data }, { on := 9, ground := Ground.chain }], guard := none } : Oper)) rfl (fun Kq hKq => ?_) AllReadyH.nil
  go_simp
  (refine (HNL.out _).mono ?_; rintro e w7 ⟨rfl, rfl⟩; obtain ⟨UB, hUB⟩ : ∃ UB, UB = w6.heap.size := ⟨_, rfl⟩; rw [← hUB]; have h7 := H6.out.newU HJU.out HU.out (.cells (lk1 t a).cs 431); rw [← hUB] at h7; have H7 := Lib.hid h7; clear h7 hUB; generalize w6.alloc (.cells (lk1 t a).cs 431) = w7 at *)
  refine hKq.out _ _ ?_ (fun hHeld => ?_)
  · exact ⟨H7.out.c.2.2.1, H7.out.c.2.2.2.2.2.1, H7.out.c.2.2.2.2.2.2.1⟩
  clear hKq Kq
  (try simp only [Act.put, List.setIfInBounds_toArray, List.set_cons_zero, List.set_cons_succ])
  refine wpAnyH_take (i := 11) (oi := ({ dst := some 35, op := Op.makeInterface 424 (Operand.tmp 34), type := 245, pos := "parts.go:120", after := #[{ on := 10, ground := Ground.data }], guard := none } : Oper)) (v := ?vt2m10) rfl (by kernel_rfl) (by kernel_rfl) (by kernel_rfl) (fun _ _ _ h => h) (Or.inl ⟨by rfl, fun w hSw => ?hyt2m10⟩) (by assumption) ?rt2m10
  case hyt2m10 => (try dsimp only at hSw); go_simp; (try with_reducible rfl)
  (try simp only [Act.put, List.setIfInBounds_toArray, List.set_cons_zero, List.set_cons_succ])
  refine wpAnyH_take (i := 12) (oi := ({ dst := some 36, op := Op.nilCheck (Operand.tmp 24), type := 0, pos := "parts.go:120", after := #[{ on := 0, ground := Ground.data }, { on := 0, ground := Ground.phase }, { on := 1, ground := Ground.phase }, { on := 2, ground := Ground.phase }, { on := 3, ground := Ground.phase }, { on := 4, ground := Ground.phase }, { on := 5, ground := Ground.phase }, { on := 6, ground := Ground.phase }, { on := 7, ground := Ground.phase }, { on := 8, ground := Ground.phase }, { on := 9, ground := Ground.phase }, { on := 10, ground := Ground.phase }, { on := 11, ground := Ground.phase }], guard := none } : Oper)) (v := ?vt2m11) rfl (by kernel_rfl) (by kernel_rfl) (by kernel_rfl) (fun _ _ _ h => h) (Or.inl ⟨by rfl, fun w hSw => ?hyt2m11⟩) (by assumption) ?rt2m11
  case hyt2m11 => (try dsimp only at hSw); go_simp; (try with_reducible rfl)
  (try simp only [Act.put, List.setIfInBounds_toArray, List.set_cons_zero, List.set_cons_succ])
  refine wpAnyH_take (i := 13) (oi := ({ dst := some 37, op := Op.fieldAddr 247 (Operand.tmp 36) 5, type := 0, pos := "parts.go:120", after := #[{ on := 12, ground := Ground.data }, { on := 0, ground := Ground.phase }, { on := 1, ground := Ground.phase }, { on := 2, ground := Ground.phase }, { on := 3, ground := Ground.phase }, { on := 4, ground := Ground.phase }, { on := 5, ground := Ground.phase }, { on := 6, ground := Ground.phase }, { on := 7, ground := Ground.phase }, { on := 8, ground := Ground.phase }, { on := 9, ground := Ground.phase }, { on := 10, ground := Ground.phase }, { on := 11, ground := Ground.phase }], guard := none } : Oper)) (v := ?vt2m12) rfl (by kernel_rfl) (by kernel_rfl) (by kernel_rfl) (fun _ _ _ h => h) (Or.inl ⟨by rfl, fun w hSw => ?hyt2m12⟩) (by assumption) ?rt2m12
  case hyt2m12 => (try dsimp only at hSw); go_simp; (try with_reducible rfl)
  (try simp only [Act.put, List.setIfInBounds_toArray, List.set_cons_zero, List.set_cons_succ])
  refine wpAnyH_ready (rs := [14]) (by kernel_rfl) (by simp) ?_
  refine AllReadyH.cons (o := ({ dst := none, op := Op.store 245 (Operand.tmp 37) (Operand.tmp 35), type := 0, pos := "parts.go:120", after := #[{ on := 13, ground := Ground.data }, { on := 11, ground := Ground.data }, { on := 10, ground := Ground.chain }, { on := 0, ground := Ground.phase }, { on := 1, ground := Ground.phase }, { on := 2, ground := Ground.phase }, { on := 3, ground := Ground.phase }, { on := 4, ground := Ground.phase }, { on := 5, ground := Ground.phase }, { on := 6, ground := Ground.phase }, { on := 7, ground := Ground.phase }, { on := 8, ground := Ground.phase }, { on := 9, ground := Ground.phase }, { on := 10, ground := Ground.phase }, { on := 11, ground := Ground.phase }], guard := none } : Oper)) rfl (fun Kq hKq => ?_) AllReadyH.nil
  (have y8 := H7.out.c.2.2.2.2.2.2.2.2; have f8 := (H7.out.fz 8).1; go_simp; have h8 := H7.out.put 8 (lockU UB) { Z with pb := (b : Int), pi := (k : Int), uv := lockU UB } rfl rfl rfl rfl rfl; have H8 := Lib.hid h8; clear y8 f8 h8; generalize w7.setCell ⟨Z.B, 8, none⟩ (lockU UB) = w8 at *)
  refine hKq.out _ _ ?_ (fun hHeld => ?_)
  · exact ⟨H8.out.c.2.2.1, H8.out.c.2.2.2.2.2.1, H8.out.c.2.2.2.2.2.2.1⟩
  clear hKq Kq
  (try simp only [Act.put, List.setIfInBounds_toArray, List.set_cons_zero, List.set_cons_succ])
  refine wpAnyH_done (by kernel_rfl) ?_ _
  clear hHeld HLK HNL H5 H6 H7
  have y8 := H8.out.c.2.2.2.2.2.2.2.2
  have hov := over_any (w := w8) (B := UB) (K := lk1 t a) (by
    have := (H8.out.lock (u := u) (U := UB) (K := lk1 t a) HJU.out (by exact List.getElem?_set_self HU.out)).at
    exact this) (by show 1 ≤ 6; omega)
  rw [show decide ((lk1 t a).ln = 0) = false from rfl] at hov
  have HOV := Lib.hid hov
  have hm1 := m_lover ⟨UB, 0, none⟩
  clear hov
  go_upto_region 3 with (fail)
  go_wp2_with (go_at_call 314; refine HOV.out.mono ?_; rintro e w9 ⟨rfl, rfl⟩)
  go_ret
  exact ⟨rfl, UB, H8.out⟩
set_option maxRecDepth 100000 in
set_option maxHeartbeats 4000000 in
theorem lbegin_no (h : Wy w0 w base WB M r j o t kw tw Z X) (hs : Z.st = false) : Calls Tryz.prog 308 #[.agg #[], sP Z.B] w fun e w' => e = .returned (.bool false) ∧ Below w.heap.size w w' := by
  have hb := below1 w (.cells #[] 260)
  have h1 := h.new hb
  have c7 := h1.c.2.2.2.2.2.2.2.1
  rw [hs] at c7
  have HB := Lib.hid hb
  clear h h1 hb hs
  go_enter Tryz.func308, Tryz.ntmps308
  go_upto_region 1 with (fail)
  generalize w.alloc (.cells #[] 260) = w1 at *
  go_wp2_with fail
  go_ret
  exact ⟨rfl, HB.out⟩
set_option maxRecDepth 100000 in
set_option maxHeartbeats 4000000 in
theorem lbegin_yes (h : Wy w0 w base WB M r j o t kw tw Z X) (hju : j ≠ u) (hu : u < r.length) (hs : Z.st = true) {a : Nat} (ha : S10.lockZ Z.pb Z.pi = (a : Int)) :
    Calls Tryz.prog 308 #[.agg #[], sP Z.B] w fun e w' => e = .returned (.bool true) ∧ ∃ UB, Wy w0 w' base WB M (r.set u (freeP UB (fr0 a))) j o t kw tw { Z with uv := freeU UB } X := by
  have h1 := h.new (below1 w (.cells #[] 260))
  have c7 := h1.c.2.2.2.2.2.2.2.1
  rw [hs] at c7
  have c5 := h1.c.2.2.2.2.2.1; have c6 := h1.c.2.2.2.2.2.2.1
  have hlk := fun W => lockOf_any Z.pb Z.pi W
  rw [ha] at hlk
  obtain ⟨b, hb⟩ : ∃ b, b = Z.pb := ⟨_, rfl⟩
  obtain ⟨k, hkk⟩ : ∃ k, k = Z.pi := ⟨_, rfl⟩
  rw [← hb] at c5; rw [← hkk] at c6
  rw [← hb, ← hkk] at hlk
  have HLK := Lib.hid hlk; have HNF := Lib.hid (fun W => new_free a W); have H1 := Lib.hid h1; have HJU := Lib.hid hju; have HU := Lib.hid hu
  clear h h1 hju hu hs ha hlk hb hkk
  go_enter Tryz.func308, Tryz.ntmps308
  go_upto_region 1 with (fail)
  generalize w.alloc (.cells #[] 260) = w1 at *
  go_upto_region 3 with (fail)
  go_upto_region 4 with (first
    | (go_at_call 148; refine (HLK.out _).mono ?_; rintro e w2 ⟨rfl, hb2⟩; have H2 := Lib.hid (H1.out.new hb2); clear hb2)
    | (go_at_call 147; refine (HNF.out _).mono ?_; rintro e w3 ⟨rfl, rfl⟩; obtain ⟨UB, hUB⟩ : ∃ UB, UB = w2.heap.size := ⟨_, rfl⟩; rw [← hUB]; have h3 := H2.out.newU HJU.out HU.out (.cells (fr0 a).cs 334); rw [← hUB] at h3; have H3 := Lib.hid h3; have y8 := h3.c.2.2.2.2.2.2.2.2; have f8 := (h3.fz 8).1; clear h3 hUB; generalize w2.alloc (.cells (fr0 a).cs 334) = w3 at *))
  have h4 := H3.out.put 8 (freeU UB) { Z with uv := freeU UB } rfl rfl rfl rfl rfl
  have y8b := h4.c.2.2.2.2.2.2.2.2
  have H4 := Lib.hid h4
  clear y8 f8 h4 c5 c6 c7
  generalize w3.setCell ⟨Z.B, 8, none⟩ (freeU UB) = w4 at *
  have hov := over_f (w := w4) (B := UB) (n := 1) (H4.out.free (u := u) (U := UB) (K := fr0 a) HJU.out (by exact List.getElem?_set_self HU.out)).b0
  rw [show decide (1 = 0) = false from rfl] at hov
  have HOV := Lib.hid hov
  have hm1 := m_fover ⟨UB, 0, none⟩
  clear hov
  go_wp2_with (go_at_call 175; refine HOV.out.mono ?_; rintro e w9 ⟨rfl, rfl⟩)
  go_ret
  exact ⟨rfl, UB, H4.out⟩
end
end Go.Proofs.YtjppncglkijbjaaGreatDoor.S15
set_option linter.unusedVariables false
set_option linter.unusedSimpArgs false
namespace Go.Proofs.YtjppncglkijbjaaGreatDoor.S15
open Go.Proofs.YtjppncglkijbjaaGreatDoor Go.Proofs.YtjppncglkijbjaaGreatDoor.S11 Go.Proofs.YtjppncglkijbjaaGreatDoor.S12 Go.Proofs.YtjppncglkijbjaaGreatDoor.S13 Go.Proofs.YtjppncglkijbjaaGreatDoor.S14
open Go.RowKit

def to1 (J0 : Act → World → Prop) (Q : Exit → Act → World → Prop) : Exit → Act → World → Prop
  | .goto l, a, w => l = 0 ∧ J0 a w
  | e, a, w => Q e a w
theorem wp_scope_one {P : Program} {a : Act} {w : World} {Q : Exit → Act → World → Prop} {c r0 : Code} (hf0 : findLabel c 0 = some r0)
    (first : c.wp P (to1 (fun a w => r0.wp P (Exit.noGoto Q) a w) Q) a w) : (Code.scope c).wp P Q a w := by
  intro b k cs
  have key : ∀ (rest : Code) (a : Act) (w : World) (l : Nat), gotoIn l (.inScope c :: k) = some (.code rest :: .inScope c :: k) → rest.wp P (Exit.noGoto Q) a w →
      ∃ e a' w', Q e a' w' ∧ Arrives P (lone (b.at a (.code rest :: .inScope c :: k)) cs w) b k cs e a' w' := by
    intro rest a w l hg h
    obtain ⟨e, a₁, w₁, hq, harr⟩ := h b (.inScope c :: k) cs
    cases e with
    | normal => exact ⟨.normal, a₁, w₁, hq, Steps.trans harr (.one step_inScope)⟩
    | exit id => exact ⟨.exit id, a₁, w₁, hq, fun k' hk => harr k' (by simp [exitTo, hk])⟩
    | goto l' => exact hq.elim
    | ret => exact ⟨_, a₁, w₁, hq, harr⟩
    | panic ch => exact ⟨_, a₁, w₁, hq, harr⟩
    | outgrown => exact ⟨_, a₁, w₁, hq, harr⟩
  obtain ⟨e, a₁, w₁, hq, harr⟩ := first b (.inScope c :: k) cs
  cases e with
  | normal => exact ⟨.normal, a₁, w₁, hq, .head step_scope (Steps.trans harr (.one step_inScope))⟩
  | exit id => exact ⟨.exit id, a₁, w₁, hq, fun k' hk => .head step_scope (harr k' (by simp [exitTo, hk]))⟩
  | goto l =>
    obtain ⟨rfl, h⟩ := hq
    have hg : gotoIn 0 (.inScope c :: k) = some (.code r0 :: .inScope c :: k) := by simp [gotoIn, hf0]
    obtain ⟨e₂, a₂, w₂, hq₂, harr₂⟩ := key _ _ _ 0 hg h
    exact ⟨e₂, a₂, w₂, hq₂, .of_steps (.head step_scope (harr _ hg)) harr₂⟩
  | ret => exact ⟨_, a₁, w₁, hq, .of_steps (.one step_scope) harr⟩
  | panic ch => exact ⟨_, a₁, w₁, hq, .of_steps (.one step_scope) harr⟩
  | outgrown => exact ⟨_, a₁, w₁, hq, .of_steps (.one step_scope) harr⟩
theorem m_rstep (B : Nat) (w : World) : (method 538 255 (.agg #[Pw B]) "layby/buckets.step").run Tryz.prog w = .ok (292, .agg #[Pw B]) w := by kernel_rfl
theorem m_astep (B : Nat) (w : World) : (method 538 259 (.agg #[Pw B]) "layby/buckets.step").run Tryz.prog w = .ok (307, .agg #[Pw B]) w := by kernel_rfl
theorem m_tstep (w : World) : (method 538 258 (.agg #[]) "layby/buckets.step").run Tryz.prog w = .ok (293, .agg #[]) w := by kernel_rfl
theorem m_lstep (w : World) : (method 538 260 (.agg #[]) "layby/buckets.step").run Tryz.prog w = .ok (293, .agg #[]) w := by kernel_rfl
theorem m_rbeg (B : Nat) (w : World) : (method 538 255 (.agg #[Pw B]) "layby/buckets.begin").run Tryz.prog w = .ok (291, .agg #[Pw B]) w := by kernel_rfl
theorem m_abeg (B : Nat) (w : World) : (method 538 259 (.agg #[Pw B]) "layby/buckets.begin").run Tryz.prog w = .ok (306, .agg #[Pw B]) w := by kernel_rfl
theorem m_tbeg (w : World) : (method 538 258 (.agg #[]) "layby/buckets.begin").run Tryz.prog w = .ok (294, .agg #[]) w := by kernel_rfl
theorem m_lbeg (w : World) : (method 538 260 (.agg #[]) "layby/buckets.begin").run Tryz.prog w = .ok (308, .agg #[]) w := by kernel_rfl
section
variable {w0 w w' : World} {base WB : Nat} {M : Sd} {r : List Part} {j u U : Nat} {o : Bool} {t kw tw : Nat} {Z : Wb} {X : Wm}
theorem Wy.pcell (h : Wy w0 w base WB M r j o t kw tw Z X) (i : Nat) (v : Value) (e : (partsV o Z.KB Z.TB)[i]? = some v) : w.cell? ⟨Z.PB, i, none⟩ = some v := by
  obtain ⟨T, hp⟩ := h.at.p
  rw [cell_row hp]; exact e
end
end Go.Proofs.YtjppncglkijbjaaGreatDoor.S15
set_option linter.unusedVariables false
set_option linter.unusedSimpArgs false
namespace Go.Proofs.YtjppncglkijbjaaGreatDoor.S15
open Go.Proofs.YtjppncglkijbjaaGreatDoor Go.Proofs.YtjppncglkijbjaaGreatDoor.S11 Go.Proofs.YtjppncglkijbjaaGreatDoor.S12 Go.Proofs.YtjppncglkijbjaaGreatDoor.S13 Go.Proofs.YtjppncglkijbjaaGreatDoor.S14
open Go.RowKit

theorem below_n (w : World) (n : Nat) : Below w.heap.size w (w.drewN n) := ⟨rfl, rfl, rfl, Nat.le_refl _, fun _ _ => rfl⟩
section
variable {w0 w w' : World} {base WB : Nat} {M : Sd} {r : List Part} {j u U : Nat} {o : Bool} {t kw tw : Nat} {Z : Wb} {X : Wm}
theorem Wy.look (h : Wy w0 w base WB M r j o t kw tw Z X) (a : Nat) : S2.look M.L a < 18446744073709551616 := by
  have := S2.look_lt h.pg.pw.cells.good a
  rwa [show X.L = M.L from congrArg Sd.L h.pg.xm] at this
end
end Go.Proofs.YtjppncglkijbjaaGreatDoor.S15
