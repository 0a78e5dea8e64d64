/- Texts of this seat, one behind the other. -/
import Derived.Test.YtieiiabbeglmfaaGreatDoorMLawFair201
import Derived.Test.YtieiiabbeglmfaaGreatDoorMLawFair2026
set_option linter.unusedVariables false
set_option linter.unusedSimpArgs false
set_option linter.unusedVariables false
set_option linter.unusedSimpArgs false
set_option linter.unusedVariables false
set_option linter.unusedSimpArgs false
namespace Go.Proofs.YtieiiabbeglmfaaGreatDoor.S15
set_option maxRecDepth 100000
set_option maxHeartbeats 16000000
open Go.Proofs.YtieiiabbeglmfaaGreatDoor Go.Proofs.YtieiiabbeglmfaaGreatDoor.S11 Go.Proofs.YtieiiabbeglmfaaGreatDoor.S12 Go.Proofs.YtieiiabbeglmfaaGreatDoor.S13 Go.Proofs.YtieiiabbeglmfaaGreatDoor.S14
open Go.RowKit
theorem m_lover (a : Addr) (w : World) : (method 558 444 (.pointer (some a)) "Over").run Tryz.prog w = .ok (337, .pointer (some a)) w := by kernel_rfl
theorem m_fover (a : Addr) (w : World) : (method 558 73 (.pointer (some a)) "Over").run Tryz.prog w = .ok (182, .pointer (some a)) w := by kernel_rfl
theorem set_eq {l : List Part} {i : Nat} {p : Part} (h : l[i]? = some p) : l.set i p = l := by
  apply List.ext_getElem?
  intro k
  by_cases e : k = i
  · subst e
    rw [List.getElem?_set_self (List.getElem?_eq_some_iff.1 h).1, h]
  · rw [List.getElem?_set_ne (fun x => e x.symm)]
section
variable {w0 w w' : World} {base WB : Nat} {M : Sd} {r : List Part} {j u U : Nat} {o : Bool} {t kw tw : Nat} {Z : Wb} {X : Wm}
theorem Wy.newU (h : Wy w0 w base WB M r j o t kw tw Z X) (hju : j ≠ u) (hu : u < r.length) (ob : Obj) : Wy w0 (w.alloc ob) base WB M (r.set u (blockP w.heap.size ob)) j o t kw tw Z X := by
  have e : (r.set j (wayP o t kw tw Z))[u]? = r[u]? := List.getElem?_set_ne hju
  have hp : (r.set j (wayP o t kw tw Z))[u]? = some r[u] := by rw [e]; exact List.getElem?_eq_getElem hu
  have h2 := h.pg.turn hp (blockP w.heap.size ob) (heap_alloc_new w ob) ((Turns.refl _ w).alloc ob) (fun k e => .inr (Nat.le_of_eq (show k = w.heap.size from e).symm))
  rw [List.set_comm _ _ hju] at h2
  exact ⟨h2, by rw [List.length_set]; exact h.hj⟩
theorem Wy.lock {K : Lk} (h : Wy w0 w base WB M r j o t kw tw Z X) (hju : j ≠ u) (hu : r[u]? = some (lockP U K)) : Wl w0 w base WB M (r.set j (wayP o t kw tw Z)) u U K X := by
  have e : (r.set j (wayP o t kw tw Z))[u]? = some (lockP U K) := (List.getElem?_set_ne hju).trans hu
  exact ⟨by rw [set_eq e]; exact h.pg, (List.getElem?_eq_some_iff.1 e).1⟩
theorem Wy.free {K : Fr} (h : Wy w0 w base WB M r j o t kw tw Z X) (hju : j ≠ u) (hu : r[u]? = some (freeP U K)) : Wf w0 w base WB M (r.set j (wayP o t kw tw Z)) u U K X := by
  have e : (r.set j (wayP o t kw tw Z))[u]? = some (freeP U K) := (List.getElem?_set_ne hju).trans hu
  exact ⟨by rw [set_eq e]; exact h.pg, (List.getElem?_eq_some_iff.1 e).1⟩
theorem wy_lock {K : Lk} (h : Wl w0 w base WB M (r.set j (wayP o t kw tw Z)) u U K X) (hju : j ≠ u) (hj : j < r.length) : Wy w0 w base WB M (r.set u (lockP U K)) j o t kw tw Z X := by
  have hp := h.pg
  rw [List.set_comm _ _ hju] at hp
  exact ⟨hp, by rw [List.length_set]; exact hj⟩
theorem wy_free {K : Fr} (h : Wf w0 w base WB M (r.set j (wayP o t kw tw Z)) u U K X) (hju : j ≠ u) (hj : j < r.length) : Wy w0 w base WB M (r.set u (freeP U K)) j o t kw tw Z X := by
  have hp := h.pg
  rw [List.set_comm _ _ hju] at hp
  exact ⟨hp, by rw [List.length_set]; exact hj⟩
theorem Wy.held (h : Wy w0 w base WB M r j o t kw tw Z X) : w.cell? ⟨Z.B, 3, none⟩ = some (Pw Z.KB) ∧ w.cell? ⟨Z.KB, 2, none⟩ = some (.int .u64 (kw : Int)) ∧ w.cell? ⟨Z.B, 4, none⟩ = some (Pw Z.TB) ∧ w.cell? ⟨Z.TB, 2, none⟩ = some (.int .u64 (tw : Int)) := ⟨h.c.2.2.2.1, h.kc.2, h.c.2.2.2.2.1, h.tc.2⟩
theorem steps_lock {K : Lk} (h : Wy w0 w base WB M r j o t kw tw Z X) (hju : j ≠ u) (hu : r[u]? = some (lockP U K)) (huv : Z.uv = lockU U) (ok : LkOk M K) (h6 : K.ln ≤ 6) :
    Calls Tryz.prog 316 #[.agg #[], sP Z.B, Pw WB] w fun e w' => e = .returned (.bool (decide ((stepK M K).ln = 0))) ∧ ∃ X', Wy w0 w' base WB (stepM M K) (r.set u (lockP U (stepK M K))) j o t kw tw Z X' := by
  have hj := h.hj
  have h1 := h.new (below1 w (.cells #[] 271))
  have c8 := h1.c.2.2.2.2.2.2.2.2
  rw [huv] at c8
  have HST := Lib.hid (step_any (h1.lock hju hu) ok h6)
  have hm1 := meth_step ⟨U, 0, none⟩
  have HJ := Lib.hid hj; have HJU := Lib.hid hju
  clear h h1 hu huv ok h6 hj hju
  generalize decide ((stepK M K).ln = 0) = b at *
  go_enter Tryz.func316, Tryz.ntmps316
  go_upto_region 1 with (fail)
  generalize w.alloc (.cells #[] 271) = w1 at *
  go_wp2_with (go_at_call 338; refine HST.out.mono ?_; rintro e w2 ⟨rfl, hs⟩; have HS := Lib.hid hs; clear hs)
  go_ret
  obtain ⟨X', h'⟩ := HS.out
  exact ⟨rfl, X', wy_lock h' HJU.out HJ.out⟩
theorem steps_free {K : Fr} (h : Wy w0 w base WB M r j o t kw tw Z X) (hju : j ≠ u) (hu : r[u]? = some (freeP U K)) (huv : Z.uv = freeU U) (ok : FrOk M K) (h7 : K.ln ≤ 7) :
    Calls Tryz.prog 316 #[.agg #[], sP Z.B, Pw WB] w fun e w' => e = .returned (.bool (decide ((fstepK M K).ln = 0))) ∧ ∃ X', Wy w0 w' base WB (fstepM M K) (r.set u (freeP U (fstepK M K))) j o t kw tw Z X' := by
  have hj := h.hj
  have h1 := h.new (below1 w (.cells #[] 271))
  have c8 := h1.c.2.2.2.2.2.2.2.2
  rw [huv] at c8
  have HST := Lib.hid (step_f (h1.free hju hu) ok h7)
  have hm1 := meth_free ⟨U, 0, none⟩
  have HJ := Lib.hid hj; have HJU := Lib.hid hju
  clear h h1 hu huv ok h7 hj hju
  generalize decide ((fstepK M K).ln = 0) = b at *
  go_enter Tryz.func316, Tryz.ntmps316
  go_upto_region 1 with (fail)
  generalize w.alloc (.cells #[] 271) = w1 at *
  go_wp2_with (go_at_call 151; refine HST.out.mono ?_; rintro e w2 ⟨rfl, hs⟩; have HS := Lib.hid hs; clear hs)
  go_ret
  obtain ⟨X', h'⟩ := HS.out
  exact ⟨rfl, X', wy_free h' HJU.out HJ.out⟩
theorem tbegin_any (h : Wy w0 w base WB M r j o t kw tw Z X) (hju : j ≠ u) (hu : u < r.length) (ht : t < 64) (hk : kw < 18446744073709551616) (hw : tw < 18446744073709551616) :
    Calls Tryz.prog 317 #[.agg #[], sP Z.B] w fun e w' => e = .returned (.bool true) ∧ ∃ UB, Wy w0 w' base WB M (r.set u (lockP UB (lk1 t (lokN (kw % 4294967296) tw)))) j o t kw tw { Z with pb := (bitsN tw : Int), pi := (bktN (kw % 4294967296) tw : Int), uv := lockU UB } X := by
  have h1 := h.new (below1 w (.cells #[] 273))
  obtain ⟨key, hkey⟩ : ∃ key, key = kw % 4294967296 := ⟨_, rfl⟩
  rw [← hkey]
  have hk2 : key < 4294967296 := by rw [hkey]; omega
  have ew : IntKind.u32.wrap (kw : Int) = (key : Int) := by rw [IntKind.wrap_u32, hkey]; omega
  have hpl := fun W => place_any key tw hk2 hw W
  have hlk := fun W => lockOf_any (bitsN tw : Int) (bktN key tw : Int) W
  have hlo := lok_lock key tw
  rw [hlo] at hlk
  obtain ⟨a, ha⟩ : ∃ a, a = lokN key tw := ⟨_, rfl⟩
  rw [← ha] at hlk ⊢
  have hnl : ∀ W, Calls Tryz.prog 318 #[.int .i64 (t : Int), .int .u32 (a : Int)] W fun e w' => e = .returned (Pw W.heap.size) ∧ w' = W.alloc (.cells (lk1 t a).cs 451) := fun W => by
    have := new_lock (t : Int) a W
    rwa [show newK (t : Int) a = lk1 t a by unfold newK; rw [if_pos ⟨by omega, by omega⟩]; rfl] at this
  unfold placeV at hpl
  obtain ⟨b, hb⟩ : ∃ b, b = bitsN tw := ⟨_, rfl⟩
  obtain ⟨k, hkk⟩ : ∃ k, k = bktN key tw := ⟨_, rfl⟩
  rw [← hb, ← hkk] at hpl hlk
  rw [← hb, ← hkk]
  have HPL := Lib.hid hpl; have HLK := Lib.hid hlk; have HNL := Lib.hid hnl; have H1 := Lib.hid h1; have HJU := Lib.hid hju; have HU := Lib.hid hu
  clear h h1 hju hu ht hk hw hkey hk2 hpl hlk hlo hnl ha hb hkk
  go_enter Tryz.func317, Tryz.ntmps317
  go_upto_region 1 with (fail)
  generalize w.alloc (.cells #[] 273) = w1 at *
  refine wp_region_held_drew (S := fun w' => w'.cell? ⟨Z.B, 3, none⟩ = some (Pw Z.KB) ∧ w'.cell? ⟨Z.KB, 2, none⟩ = some (.int .u64 (kw : Int)) ∧ w'.cell? ⟨Z.B, 4, none⟩ = some (Pw Z.TB) ∧ w'.cell? ⟨Z.TB, 2, none⟩ = some (.int .u64 (tw : Int))) (by kernel_rfl) ?_ (fun hHeld => ?_)
  · exact (H1.out.new (Below.refl _ _).drew).held
  refine tA 0 ⟨some 5, .move (.tmp 1), 364, "parts.go:119", #[], none⟩ ?vt1m1 ?rt1m1
  (try simp only [Act.put, tC, tD, tE])
  refine tA 1 ⟨some 6, .move (.tmp 1), 364, "parts.go:119", #[], none⟩ ?vt1m2 ?rt1m2
  (try simp only [Act.put, tC, tD, tE])
  refine tA 2 ⟨some 7, .nilCheck (.tmp 6), 0, "parts.go:119", #[⟨1, .data⟩], none⟩ ?vt1m3 ?rt1m3
  (try simp only [Act.put, tC, tD, tE])
  refine tA 3 ⟨some 8, .fieldAddr 262 (.tmp 7) 1, 0, "parts.go:119", #[⟨2, .data⟩], none⟩ ?vt1m4 ?rt1m4
  (try simp only [Act.put, tC, tD, tE])
  refine tA 4 ⟨some 9, .load 258 (.tmp 8), 258, "parts.go:119", #[⟨3, .data⟩], none⟩ ?vt1m5 ?rt1m5
  (try simp only [Act.put, tC, tD, tE])
  refine tA 5 ⟨some 10, .nilCheck (.tmp 9), 0, "parts.go:119", #[⟨4, .data⟩], none⟩ ?vt1m6 ?rt1m6
  (try simp only [Act.put, tC, tD, tE])
  refine tA 6 ⟨some 11, .fieldAddr 268 (.tmp 10) 2, 0, "parts.go:119", #[⟨5, .data⟩], none⟩ ?vt1m7 ?rt1m7
  (try simp only [Act.put, tC, tD, tE])
  refine tA 7 ⟨some 12, .load 23 (.tmp 11), 23, "parts.go:119", #[⟨6, .data⟩], none⟩ ?vt1m8 ?rt1m8
  (try simp only [Act.put, tC, tD, tE])
  refine tA 8 ⟨some 13, .convert 23 35 (.tmp 12), 35, "parts.go:119", #[⟨7, .data⟩], none⟩ ?vt1m9 ?rt1m9
  (try simp only [Act.put, tC, tD, tE])
  refine tA 9 ⟨some 14, .move (.tmp 1), 364, "parts.go:119", #[], none⟩ ?vt1m10 ?rt1m10
  (try simp only [Act.put, tC, tD, tE])
  refine tA 10 ⟨some 15, .nilCheck (.tmp 14), 0, "parts.go:119", #[⟨9, .data⟩], none⟩ ?vt1m11 ?rt1m11
  (try simp only [Act.put, tC, tD, tE])
  refine tA 11 ⟨some 16, .fieldAddr 262 (.tmp 15) 2, 0, "parts.go:119", #[⟨10, .data⟩], none⟩ ?vt1m12 ?rt1m12
  (try simp only [Act.put, tC, tD, tE])
  refine tA 12 ⟨some 17, .load 258 (.tmp 16), 258, "parts.go:119", #[⟨11, .data⟩], none⟩ ?vt1m13 ?rt1m13
  (try simp only [Act.put, tC, tD, tE])
  refine tA 13 ⟨some 18, .nilCheck (.tmp 17), 0, "parts.go:119", #[⟨12, .data⟩], none⟩ ?vt1m14 ?rt1m14
  (try simp only [Act.put, tC, tD, tE])
  refine tA 14 ⟨some 19, .fieldAddr 268 (.tmp 18) 2, 0, "parts.go:119", #[⟨13, .data⟩], none⟩ ?vt1m15 ?rt1m15
  (try simp only [Act.put, tC, tD, tE])
  refine tA 15 ⟨some 20, .load 23 (.tmp 19), 23, "parts.go:119", #[⟨14, .data⟩], none⟩ ?vt1m16 ?rt1m16
  (try simp only [Act.put, tC, tD, tE])
  refine wpAnyH_ready (rs := [16]) (by kernel_rfl) (by simp) ?_
  refine AllReadyH.cons (o := ⟨some 21, .call ⟨.value (.func 33), #[.tmp 13, .tmp 20], #[35, 23]⟩, 97, "parts.go:119", #[⟨8, .data⟩, ⟨15, .data⟩], none⟩) rfl (fun Kq hKq => ?_) AllReadyH.nil
  go_simp
  (refine (HPL.out _).mono ?_; rintro e w4 ⟨rfl, hb4⟩; have H4 := Lib.hid (H1.out.new ((Below.refl _ _).drew.trans hb4)); clear hb4)
  refine hKq.out _ _ ?_ (fun hHeld => ?_)
  · exact H4.out.held
  clear hKq Kq
  (try simp only [Act.put, tC, tD, tE])
  refine tA 17 ⟨some 22, .nilCheck (.tmp 5), 0, "parts.go:119", #[⟨0, .data⟩, ⟨0, .phase⟩, ⟨1, .phase⟩, ⟨2, .phase⟩, ⟨3, .phase⟩, ⟨4, .phase⟩, ⟨5, .phase⟩, ⟨6, .phase⟩, ⟨7, .phase⟩, ⟨8, .phase⟩, ⟨9, .phase⟩, ⟨10, .phase⟩, ⟨11, .phase⟩, ⟨12, .phase⟩, ⟨13, .phase⟩, ⟨14, .phase⟩, ⟨15, .phase⟩, ⟨16, .phase⟩], none⟩ ?vt1m17 ?rt1m17
  (try simp only [Act.put, tC, tD, tE])
  refine tA 18 ⟨some 23, .fieldAddr 262 (.tmp 22) 3, 0, "parts.go:119", #[⟨17, .data⟩, ⟨0, .phase⟩, ⟨1, .phase⟩, ⟨2, .phase⟩, ⟨3, .phase⟩, ⟨4, .phase⟩, ⟨5, .phase⟩, ⟨6, .phase⟩, ⟨7, .phase⟩, ⟨8, .phase⟩, ⟨9, .phase⟩, ⟨10, .phase⟩, ⟨11, .phase⟩, ⟨12, .phase⟩, ⟨13, .phase⟩, ⟨14, .phase⟩, ⟨15, .phase⟩, ⟨16, .phase⟩], none⟩ ?vt1m18 ?rt1m18
  (try simp only [Act.put, tC, tD, tE])
  refine wpAnyH_ready (rs := [19]) (by kernel_rfl) (by simp) ?_
  refine AllReadyH.cons (o := ⟨none, .store 97 (.tmp 23) (.tmp 21), 0, "parts.go:119", #[⟨18, .data⟩, ⟨16, .data⟩, ⟨16, .chain⟩, ⟨0, .phase⟩, ⟨1, .phase⟩, ⟨2, .phase⟩, ⟨3, .phase⟩, ⟨4, .phase⟩, ⟨5, .phase⟩, ⟨6, .phase⟩, ⟨7, .phase⟩, ⟨8, .phase⟩, ⟨9, .phase⟩, ⟨10, .phase⟩, ⟨11, .phase⟩, ⟨12, .phase⟩, ⟨13, .phase⟩, ⟨14, .phase⟩, ⟨15, .phase⟩, ⟨16, .phase⟩], none⟩) rfl (fun Kq hKq => ?_) AllReadyH.nil
  (have y5 := H4.out.c.2.2.2.2.2.1; have y6 := H4.out.c.2.2.2.2.2.2.1; have f5 := (H4.out.fz 5).1; have f6 := (H4.out.fz 6).1; go_simp; have h5 := (H4.out.put 5 (.int .i64 (b : Int)) { Z with pb := (b : Int) } rfl rfl rfl rfl rfl).put 6 (.int .i64 (k : Int)) { Z with pb := (b : Int), pi := (k : Int) } rfl rfl rfl rfl rfl; have H5 := Lib.hid h5; clear y5 y6 f5 f6 h5; generalize (w4.setCell ⟨Z.B, 5, none⟩ (.int .i64 (b : Int))).setCell ⟨Z.B, 6, none⟩ (.int .i64 (k : Int)) = w5 at *)
  refine hKq.out _ _ ?_ (fun hHeld => ?_)
  · exact H5.out.held
  clear hKq Kq
  (try simp only [Act.put, tC, tD, tE])
  refine wpAnyH_done (by kernel_rfl) ?_ _
  clear hHeld HPL H4 H1
  go_upto_region 2 with (fail)
  refine wp_region_held_drew (S := fun w' => w'.cell? ⟨Z.B, 2, none⟩ = some (.int .i64 (t : Int)) ∧ w'.cell? ⟨Z.B, 5, none⟩ = some (.int .i64 (b : Int)) ∧ w'.cell? ⟨Z.B, 6, none⟩ = some (.int .i64 (k : Int))) (by kernel_rfl) ?_ (fun hHeld => ?_)
  · exact ⟨(H5.out.new (Below.refl _ _).drew).c.2.2.1, (H5.out.new (Below.refl _ _).drew).c.2.2.2.2.2.1, (H5.out.new (Below.refl _ _).drew).c.2.2.2.2.2.2.1⟩
  refine tA 0 ⟨some 24, .move (.tmp 1), 364, "parts.go:120", #[], none⟩ ?vt2m1 ?rt2m1
  (try simp only [Act.put, tC, tD, tE])
  refine tA 1 ⟨some 25, .move (.tmp 1), 364, "parts.go:120", #[], none⟩ ?vt2m2 ?rt2m2
  (try simp only [Act.put, tC, tD, tE])
  refine tA 2 ⟨some 26, .nilCheck (.tmp 25), 0, "parts.go:120", #[⟨1, .data⟩], none⟩ ?vt2m3 ?rt2m3
  (try simp only [Act.put, tC, tD, tE])
  refine tA 3 ⟨some 27, .fieldAddr 262 (.tmp 26) 0, 0, "parts.go:120", #[⟨2, .data⟩], none⟩ ?vt2m4 ?rt2m4
  (try simp only [Act.put, tC, tD, tE])
  refine tA 4 ⟨some 28, .load 3 (.tmp 27), 3, "parts.go:120", #[⟨3, .data⟩], none⟩ ?vt2m5 ?rt2m5
  (try simp only [Act.put, tC, tD, tE])
  refine tA 5 ⟨some 29, .move (.tmp 1), 364, "parts.go:120", #[], none⟩ ?vt2m6 ?rt2m6
  (try simp only [Act.put, tC, tD, tE])
  refine tA 6 ⟨some 30, .nilCheck (.tmp 29), 0, "parts.go:120", #[⟨5, .data⟩], none⟩ ?vt2m7 ?rt2m7
  (try simp only [Act.put, tC, tD, tE])
  refine tA 7 ⟨some 31, .fieldAddr 262 (.tmp 30) 3, 0, "parts.go:120", #[⟨6, .data⟩], none⟩ ?vt2m8 ?rt2m8
  (try simp only [Act.put, tC, tD, tE])
  refine tA 8 ⟨some 32, .load 97 (.tmp 31), 97, "parts.go:120", #[⟨7, .data⟩], none⟩ ?vt2m9 ?rt2m9
  (try simp only [Act.put, tC, tD, tE])
  refine wpAnyH_ready (rs := [9]) (by kernel_rfl) (by simp) ?_
  refine AllReadyH.cons (o := ⟨some 33, .call ⟨.value (.func 148), #[.tmp 32], #[97]⟩, 35, "parts.go:120", #[⟨8, .data⟩], none⟩) rfl (fun Kq hKq => ?_) AllReadyH.nil
  go_simp
  (refine (HLK.out _).mono ?_; rintro e w6 ⟨rfl, hb6⟩; have H6 := Lib.hid (H5.out.new ((Below.refl _ _).drew.trans hb6)); clear hb6)
  refine hKq.out _ _ ?_ (fun hHeld => ?_)
  · exact ⟨H6.out.c.2.2.1, H6.out.c.2.2.2.2.2.1, H6.out.c.2.2.2.2.2.2.1⟩
  clear hKq Kq
  (try simp only [Act.put, tC, tD, tE])
  refine wpAnyH_ready (rs := [10]) (by kernel_rfl) (by simp) ?_
  refine AllReadyH.cons (o := ⟨some 34, .call ⟨.value (.func 318), #[.tmp 28, .tmp 33], #[3, 35]⟩, 444, "parts.go:120", #[⟨4, .data⟩, ⟨9, .data⟩, ⟨9, .chain⟩], none⟩) rfl (fun Kq hKq => ?_) AllReadyH.nil
  go_simp
  (refine (HNL.out _).mono ?_; rintro e w7 ⟨rfl, rfl⟩; obtain ⟨UB, hUB⟩ : ∃ UB, UB = w6.heap.size := ⟨_, rfl⟩; rw [← hUB]; have h7 := H6.out.newU HJU.out HU.out (.cells (lk1 t a).cs 451); rw [← hUB] at h7; have H7 := Lib.hid h7; clear h7 hUB; generalize w6.alloc (.cells (lk1 t a).cs 451) = w7 at *)
  refine hKq.out _ _ ?_ (fun hHeld => ?_)
  · exact ⟨H7.out.c.2.2.1, H7.out.c.2.2.2.2.2.1, H7.out.c.2.2.2.2.2.2.1⟩
  clear hKq Kq
  (try simp only [Act.put, tC, tD, tE])
  refine tA 11 ⟨some 35, .makeInterface 444 (.tmp 34), 260, "parts.go:120", #[⟨10, .data⟩], none⟩ ?vt2m10 ?rt2m10
  (try simp only [Act.put, tC, tD, tE])
  refine tA 12 ⟨some 36, .nilCheck (.tmp 24), 0, "parts.go:120", #[⟨0, .data⟩, ⟨0, .phase⟩, ⟨1, .phase⟩, ⟨2, .phase⟩, ⟨3, .phase⟩, ⟨4, .phase⟩, ⟨5, .phase⟩, ⟨6, .phase⟩, ⟨7, .phase⟩, ⟨8, .phase⟩, ⟨9, .phase⟩, ⟨10, .phase⟩, ⟨11, .phase⟩], none⟩ ?vt2m11 ?rt2m11
  (try simp only [Act.put, tC, tD, tE])
  refine tA 13 ⟨some 37, .fieldAddr 262 (.tmp 36) 5, 0, "parts.go:120", #[⟨12, .data⟩, ⟨0, .phase⟩, ⟨1, .phase⟩, ⟨2, .phase⟩, ⟨3, .phase⟩, ⟨4, .phase⟩, ⟨5, .phase⟩, ⟨6, .phase⟩, ⟨7, .phase⟩, ⟨8, .phase⟩, ⟨9, .phase⟩, ⟨10, .phase⟩, ⟨11, .phase⟩], none⟩ ?vt2m12 ?rt2m12
  (try simp only [Act.put, tC, tD, tE])
  refine wpAnyH_ready (rs := [14]) (by kernel_rfl) (by simp) ?_
  refine AllReadyH.cons (o := ⟨none, .store 260 (.tmp 37) (.tmp 35), 0, "parts.go:120", #[⟨13, .data⟩, ⟨11, .data⟩, ⟨10, .chain⟩, ⟨0, .phase⟩, ⟨1, .phase⟩, ⟨2, .phase⟩, ⟨3, .phase⟩, ⟨4, .phase⟩, ⟨5, .phase⟩, ⟨6, .phase⟩, ⟨7, .phase⟩, ⟨8, .phase⟩, ⟨9, .phase⟩, ⟨10, .phase⟩, ⟨11, .phase⟩], none⟩) rfl (fun Kq hKq => ?_) AllReadyH.nil
  (have y8 := H7.out.c.2.2.2.2.2.2.2.2; have f8 := (H7.out.fz 8).1; go_simp; have h8 := H7.out.put 8 (lockU UB) { Z with pb := (b : Int), pi := (k : Int), uv := lockU UB } rfl rfl rfl rfl rfl; have H8 := Lib.hid h8; clear y8 f8 h8; generalize w7.setCell ⟨Z.B, 8, none⟩ (lockU UB) = w8 at *)
  refine hKq.out _ _ ?_ (fun hHeld => ?_)
  · exact ⟨H8.out.c.2.2.1, H8.out.c.2.2.2.2.2.1, H8.out.c.2.2.2.2.2.2.1⟩
  clear hKq Kq
  (try simp only [Act.put, tC, tD, tE])
  refine wpAnyH_done (by kernel_rfl) ?_ _
  clear hHeld HLK HNL H5 H6 H7
  have y8 := H8.out.c.2.2.2.2.2.2.2.2
  have hov := over_any (w := w8) (B := UB) (K := lk1 t a) (by
    have := (H8.out.lock (u := u) (U := UB) (K := lk1 t a) HJU.out (by exact List.getElem?_set_self HU.out)).at
    exact this) (by show 1 ≤ 6; omega)
  rw [show decide ((lk1 t a).ln = 0) = false from rfl] at hov
  have HOV := Lib.hid hov
  have hm1 := m_lover ⟨UB, 0, none⟩
  clear hov
  go_upto_region 3 with (fail)
  go_wp2_with (go_at_call 337; refine HOV.out.mono ?_; rintro e w9 ⟨rfl, rfl⟩)
  go_ret
  exact ⟨rfl, UB, H8.out⟩
theorem lbegin_no (h : Wy w0 w base WB M r j o t kw tw Z X) (hs : Z.st = false) : Calls Tryz.prog 331 #[.agg #[], sP Z.B] w fun e w' => e = .returned (.bool false) ∧ Below w.heap.size w w' := by
  have hb := below1 w (.cells #[] 275)
  have h1 := h.new hb
  have c7 := h1.c.2.2.2.2.2.2.2.1
  rw [hs] at c7
  have HB := Lib.hid hb
  clear h h1 hb hs
  go_enter Tryz.func331, Tryz.ntmps331
  go_upto_region 1 with (fail)
  generalize w.alloc (.cells #[] 275) = w1 at *
  go_wp2_with fail
  go_ret
  exact ⟨rfl, HB.out⟩
theorem lbegin_yes (h : Wy w0 w base WB M r j o t kw tw Z X) (hju : j ≠ u) (hu : u < r.length) (hs : Z.st = true) {a : Nat} (ha : S10.lockZ Z.pb Z.pi = (a : Int)) :
    Calls Tryz.prog 331 #[.agg #[], sP Z.B] w fun e w' => e = .returned (.bool true) ∧ ∃ UB, Wy w0 w' base WB M (r.set u (freeP UB (fr0 a))) j o t kw tw { Z with uv := freeU UB } X := by
  have h1 := h.new (below1 w (.cells #[] 275))
  have c7 := h1.c.2.2.2.2.2.2.2.1
  rw [hs] at c7
  have c5 := h1.c.2.2.2.2.2.1; have c6 := h1.c.2.2.2.2.2.2.1
  have hlk := fun W => lockOf_any Z.pb Z.pi W
  rw [ha] at hlk
  obtain ⟨b, hb⟩ : ∃ b, b = Z.pb := ⟨_, rfl⟩
  obtain ⟨k, hkk⟩ : ∃ k, k = Z.pi := ⟨_, rfl⟩
  rw [← hb] at c5; rw [← hkk] at c6
  rw [← hb, ← hkk] at hlk
  have HLK := Lib.hid hlk; have HNF := Lib.hid (fun W => new_free a W); have H1 := Lib.hid h1; have HJU := Lib.hid hju; have HU := Lib.hid hu
  clear h h1 hju hu hs ha hlk hb hkk
  go_enter Tryz.func331, Tryz.ntmps331
  go_upto_region 1 with (fail)
  generalize w.alloc (.cells #[] 275) = w1 at *
  go_upto_region 3 with (fail)
  go_upto_region 4 with (first
    | (go_at_call 148; refine (HLK.out _).mono ?_; rintro e w2 ⟨rfl, hb2⟩; have H2 := Lib.hid (H1.out.new hb2); clear hb2)
    | (go_at_call 147; refine (HNF.out _).mono ?_; rintro e w3 ⟨rfl, rfl⟩; obtain ⟨UB, hUB⟩ : ∃ UB, UB = w2.heap.size := ⟨_, rfl⟩; rw [← hUB]; have h3 := H2.out.newU HJU.out HU.out (.cells (fr0 a).cs 343); rw [← hUB] at h3; have H3 := Lib.hid h3; have y8 := h3.c.2.2.2.2.2.2.2.2; have f8 := (h3.fz 8).1; clear h3 hUB; generalize w2.alloc (.cells (fr0 a).cs 343) = w3 at *))
  have h4 := H3.out.put 8 (freeU UB) { Z with uv := freeU UB } rfl rfl rfl rfl rfl
  have y8b := h4.c.2.2.2.2.2.2.2.2
  have H4 := Lib.hid h4
  clear y8 f8 h4 c5 c6 c7
  generalize w3.setCell ⟨Z.B, 8, none⟩ (freeU UB) = w4 at *
  have hov := over_f (w := w4) (B := UB) (n := 1) (H4.out.free (u := u) (U := UB) (K := fr0 a) HJU.out (by exact List.getElem?_set_self HU.out)).b0
  rw [show decide (1 = 0) = false from rfl] at hov
  have HOV := Lib.hid hov
  have hm1 := m_fover ⟨UB, 0, none⟩
  clear hov
  go_wp2_with (go_at_call 182; refine HOV.out.mono ?_; rintro e w9 ⟨rfl, rfl⟩)
  go_ret
  exact ⟨rfl, UB, H4.out⟩
end
end Go.Proofs.YtieiiabbeglmfaaGreatDoor.S15
set_option linter.unusedVariables false
set_option linter.unusedSimpArgs false
namespace Go.Proofs.YtieiiabbeglmfaaGreatDoor.S15
set_option maxRecDepth 100000
set_option maxHeartbeats 16000000
open Go.Proofs.YtieiiabbeglmfaaGreatDoor Go.Proofs.YtieiiabbeglmfaaGreatDoor.S11 Go.Proofs.YtieiiabbeglmfaaGreatDoor.S12 Go.Proofs.YtieiiabbeglmfaaGreatDoor.S13 Go.Proofs.YtieiiabbeglmfaaGreatDoor.S14
open Go.RowKit
def to1 (J0 : Act → World → Prop) (Q : Exit → Act → World → Prop) : Exit → Act → World → Prop
  | .goto l, a, w => l = 0 ∧ J0 a w
  | e, a, w => Q e a w
theorem wp_scope_one {P : Program} {a : Act} {w : World} {Q : Exit → Act → World → Prop} {c r0 : Code} (hf0 : findLabel c 0 = some r0)
    (first : c.wp P (to1 (fun a w => r0.wp P (Exit.noGoto Q) a w) Q) a w) : (Code.scope c).wp P Q a w := by
  intro b k cs
  have key : ∀ (rest : Code) (a : Act) (w : World) (l : Nat), gotoIn l (.inScope c :: k) = some (.code rest :: .inScope c :: k) → rest.wp P (Exit.noGoto Q) a w →
      ∃ e a' w', Q e a' w' ∧ Arrives P (lone (b.at a (.code rest :: .inScope c :: k)) cs w) b k cs e a' w' := by
    intro rest a w l hg h
    obtain ⟨e, a₁, w₁, hq, harr⟩ := h b (.inScope c :: k) cs
    cases e with
    | normal => exact ⟨.normal, a₁, w₁, hq, Steps.trans harr (.one step_inScope)⟩
    | exit id => exact ⟨.exit id, a₁, w₁, hq, fun k' hk => harr k' (by simp [exitTo, hk])⟩
    | goto l' => exact hq.elim
    | ret => exact ⟨_, a₁, w₁, hq, harr⟩
    | panic ch => exact ⟨_, a₁, w₁, hq, harr⟩
    | outgrown => exact ⟨_, a₁, w₁, hq, harr⟩
  obtain ⟨e, a₁, w₁, hq, harr⟩ := first b (.inScope c :: k) cs
  cases e with
  | normal => exact ⟨.normal, a₁, w₁, hq, .head step_scope (Steps.trans harr (.one step_inScope))⟩
  | exit id => exact ⟨.exit id, a₁, w₁, hq, fun k' hk => .head step_scope (harr k' (by simp [exitTo, hk]))⟩
  | goto l =>
    obtain ⟨rfl, h⟩ := hq
    have hg : gotoIn 0 (.inScope c :: k) = some (.code r0 :: .inScope c :: k) := by simp [gotoIn, hf0]
    obtain ⟨e₂, a₂, w₂, hq₂, harr₂⟩ := key _ _ _ 0 hg h
    exact ⟨e₂, a₂, w₂, hq₂, .of_steps (.head step_scope (harr _ hg)) harr₂⟩
  | ret => exact ⟨_, a₁, w₁, hq, .of_steps (.one step_scope) harr⟩
  | panic ch => exact ⟨_, a₁, w₁, hq, .of_steps (.one step_scope) harr⟩
  | outgrown => exact ⟨_, a₁, w₁, hq, .of_steps (.one step_scope) harr⟩
theorem m_rstep (B : Nat) (w : World) : (method 558 270 (.agg #[Pw B]) "layby/buckets.step").run Tryz.prog w = .ok (315, .agg #[Pw B]) w := by kernel_rfl
theorem m_astep (B : Nat) (w : World) : (method 558 274 (.agg #[Pw B]) "layby/buckets.step").run Tryz.prog w = .ok (330, .agg #[Pw B]) w := by kernel_rfl
theorem m_tstep (w : World) : (method 558 273 (.agg #[]) "layby/buckets.step").run Tryz.prog w = .ok (316, .agg #[]) w := by kernel_rfl
theorem m_lstep (w : World) : (method 558 275 (.agg #[]) "layby/buckets.step").run Tryz.prog w = .ok (316, .agg #[]) w := by kernel_rfl
theorem m_rbeg (B : Nat) (w : World) : (method 558 270 (.agg #[Pw B]) "layby/buckets.begin").run Tryz.prog w = .ok (314, .agg #[Pw B]) w := by kernel_rfl
theorem m_abeg (B : Nat) (w : World) : (method 558 274 (.agg #[Pw B]) "layby/buckets.begin").run Tryz.prog w = .ok (329, .agg #[Pw B]) w := by kernel_rfl
theorem m_tbeg (w : World) : (method 558 273 (.agg #[]) "layby/buckets.begin").run Tryz.prog w = .ok (317, .agg #[]) w := by kernel_rfl
theorem m_lbeg (w : World) : (method 558 275 (.agg #[]) "layby/buckets.begin").run Tryz.prog w = .ok (331, .agg #[]) w := by kernel_rfl
section
variable {w0 w w' : World} {base WB : Nat} {M : Sd} {r : List Part} {j u U : Nat} {o : Bool} {t kw tw : Nat} {Z : Wb} {X : Wm}
theorem Wy.pcell (h : Wy w0 w base WB M r j o t kw tw Z X) (i : Nat) (v : Value) (e : (partsV o Z.KB Z.TB)[i]? = some v) : w.cell? ⟨Z.PB, i, none⟩ = some v := by
  obtain ⟨T, hp⟩ := h.at.p
  rw [cell_row hp]; exact e
end
end Go.Proofs.YtieiiabbeglmfaaGreatDoor.S15
set_option linter.unusedVariables false
set_option linter.unusedSimpArgs false
namespace Go.Proofs.YtieiiabbeglmfaaGreatDoor.S15
set_option maxRecDepth 100000
set_option maxHeartbeats 16000000
open Go.Proofs.YtieiiabbeglmfaaGreatDoor Go.Proofs.YtieiiabbeglmfaaGreatDoor.S11 Go.Proofs.YtieiiabbeglmfaaGreatDoor.S12 Go.Proofs.YtieiiabbeglmfaaGreatDoor.S13 Go.Proofs.YtieiiabbeglmfaaGreatDoor.S14
open Go.RowKit
theorem below_n (w : World) (n : Nat) : Below w.heap.size w (w.drewN n) := ⟨rfl, rfl, rfl, Nat.le_refl _, fun _ _ => rfl⟩
section
variable {w0 w w' : World} {base WB : Nat} {M : Sd} {r : List Part} {j u U : Nat} {o : Bool} {t kw tw : Nat} {Z : Wb} {X : Wm}
theorem Wy.look (h : Wy w0 w base WB M r j o t kw tw Z X) (a : Nat) : S2.look M.L a < 18446744073709551616 := by
  have := S2.look_lt h.pg.pw.cells.good a
  rwa [show X.L = M.L from congrArg Sd.L h.pg.xm] at this
end
end Go.Proofs.YtieiiabbeglmfaaGreatDoor.S15
