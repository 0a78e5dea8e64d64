/- Texts of this seat, one behind the other. -/
import Derived.Test.YtieiiabbeglmfaaGreatDoorMLawOldest2034
import Derived.Deep.RegionLaw
import Derived.StillTailTactics
set_option linter.unusedVariables false
set_option linter.unusedSimpArgs false
set_option linter.unusedVariables false
set_option linter.unusedSimpArgs false
set_option linter.unusedVariables false
set_option linter.unusedSimpArgs false
namespace Go.Proofs.YtieiiabbeglmfaaGreatDoor.S18
set_option maxRecDepth 100000
set_option maxHeartbeats 16000000
open Go.Proofs.YtieiiabbeglmfaaGreatDoor Go.Proofs.YtieiiabbeglmfaaGreatDoor.S11 Go.Proofs.YtieiiabbeglmfaaGreatDoor.S12 Go.Proofs.YtieiiabbeglmfaaGreatDoor.S13 Go.Proofs.YtieiiabbeglmfaaGreatDoor.S14 Go.Proofs.YtieiiabbeglmfaaGreatDoor.S15 Go.Proofs.YtieiiabbeglmfaaGreatDoor.S16
open Go.RowKit
abbrev way (E : En) (Z : Wb) : Part := wayP E.ow E.t E.kw E.tw Z
structure EwS (r : List Part) (e u : Nat) (E : En) (Z : Wb) : Prop where
  re : r[e]? = some (way E Z)
  hu : u < r.length
  eu : e ≠ u
  i : Z.i = (E.at : Int)
  st : Z.st = decide (E.ln = 6)
  k : E.ln = 3 → ∃ U, r[u]? = some (lockP U E.K) ∧ Z.uv = lockU U
  f : E.ln = 6 → ∃ U, r[u]? = some (freeP U E.F) ∧ Z.uv = freeU U
  pl : 3 ≤ E.ln ∨ E.ln = 0 → Z.pb = (bitsN E.tw : Int) ∧ Z.pi = (bktN (E.kw % 4294967296) E.tw : Int)
section
variable {w0 w w' : World} {base WB : Nat} {M : Sd} {r : List Part} {j e u B : Nat} {l l' : Rows} {X : Wm} {E : En} {Z : Wb}
theorem wq_ew (h : Wq w0 w base WB M r j l X) (s : EwS r e u E Z) (hje : j ≠ e) (hju : j ≠ u) : Ew w0 w base WB M (r.set j (rowsP l)) e u E Z X := by
  have hee : (r.set j (rowsP l))[e]? = some (way E Z) := (List.getElem?_set_ne hje).trans s.re
  refine ⟨⟨?_, ?_⟩, s.eu, by rw [List.length_set]; exact s.hu, s.i, s.st, fun hl => ?_, fun hl => ?_, s.pl⟩
  · rw [set_eq hee]; exact h.pg
  · exact (List.getElem?_eq_some_iff.1 hee).1
  · obtain ⟨U, h1, h2⟩ := s.k hl
    exact ⟨U, (List.getElem?_set_ne hju).trans h1, h2⟩
  · obtain ⟨U, h1, h2⟩ := s.f hl
    exact ⟨U, (List.getElem?_set_ne hju).trans h1, h2⟩
theorem ew_wq {q : Part} (h : Ew w0 w base WB M ((r.set j (rowsP l)).set u q) e u E Z X) (hj : j < r.length) (he : e < r.length) (hu : u < r.length) (hje : j ≠ e) (hju : j ≠ u) :
    Wq w0 w base WB M ((r.set u q).set e (way E Z)) j l X ∧ EwS ((r.set u q).set e (way E Z)) e u E Z := by
  have heu := h.ju
  have hp := h.wy.pg
  have hq : ((r.set j (rowsP l)).set u q)[u]? = some q := List.getElem?_set_self (by rw [List.length_set]; exact hu)
  have hq2 : ((r.set u q).set e (way E Z))[u]? = some q := (List.getElem?_set_ne heu).trans (List.getElem?_set_self hu)
  refine ⟨⟨?_, by rw [List.length_set, List.length_set]; exact hj⟩, ⟨List.getElem?_set_self (by rw [List.length_set]; exact he), by rw [List.length_set, List.length_set]; exact hu, heu, h.i, h.st, fun hl => ?_, fun hl => ?_, h.pl⟩⟩
  · rw [List.set_comm _ _ (Ne.symm hje), List.set_comm _ _ (Ne.symm hju)]
    exact hp
  · obtain ⟨U, h1, h2⟩ := h.k hl
    rw [hq] at h1
    exact ⟨U, hq2.trans h1, h2⟩
  · obtain ⟨U, h1, h2⟩ := h.f hl
    rw [hq] at h1
    exact ⟨U, hq2.trans h1, h2⟩
theorem _root_.Go.Proofs.YtieiiabbeglmfaaGreatDoor.S16.Wq.newWayZ (h : Wq w0 w base WB M r j l X) (hje : j ≠ e) (he : e < r.length) {ow : Bool} {t kw : Nat} (ha : WayAt w' ow t kw 0 Z) (hb : Below w.heap.size w w') (hz : w.heap.size ≤ Z.B ∧ w.heap.size ≤ Z.PB ∧ w.heap.size ≤ Z.KB ∧ w.heap.size ≤ Z.TB) :
    Wq w0 w' base WB M (r.set e (wayP ow t kw 0 Z)) j l X := by
  obtain ⟨h1, h2, h3, h4⟩ := hz
  refine ⟨?_, by rw [List.length_set]; exact h.hj⟩
  have e1 : (r.set j (rowsP l))[e]? = r[e]? := List.getElem?_set_ne hje
  have hp : (r.set j (rowsP l))[e]? = some r[e] := by rw [e1]; exact List.getElem?_eq_getElem he
  have h5 := h.pg.turn hp (wayP ow t kw 0 Z) ha (Turns.of_below hb) (fun k hk => .inr (by
    rcases hk with rfl | rfl | rfl | rfl
    · exact h1
    · exact h2
    · exact h3
    · exact h4))
  rwa [List.set_comm _ _ hje] at h5
theorem _root_.Go.Proofs.YtieiiabbeglmfaaGreatDoor.S16.Wq.putLast {VB T : Nat} {v : Value} (h : Wq w0 w base WB M r j (l ++ [(VB, .cells #[v] T (0, 0))]) X) (v' : Value) : Wq w0 (w.setCell ⟨VB, 0, none⟩ v') base WB M r j (l ++ [(VB, .cells #[v'] T (0, 0))]) X := by
  have h1 := h.put l.length (at_end _ _) 0 v' (cs' := #[v']) rfl
  rw [List.set_append_right _ _ (Nat.le_refl _), Nat.sub_self] at h1
  exact h1
theorem ews_en {t k : Nat} (hi : Z.i = 0) (hs : Z.st = false) (he : e < r.length) (hu : u < r.length) (heu : e ≠ u) : EwS (r.set e (wayP false t k 0 Z)) e u (en0 t k) Z :=
  ⟨List.getElem?_set_self he, by rw [List.length_set]; exact hu, heu, hi, hs, fun e => absurd e (by show ¬ 2 = 3; omega), fun e => absurd e (by show ¬ 2 = 6; omega), fun e => absurd e (by show ¬ (3 ≤ 2 ∨ 2 = 0); omega)⟩
theorem ews_ow {t : Nat} (hi : Z.i = 0) (hs : Z.st = false) (he : e < r.length) (hu : u < r.length) (heu : e ≠ u) : EwS (r.set e (wayP true t 0 0 Z)) e u (ow0 t) Z :=
  ⟨List.getElem?_set_self he, by rw [List.length_set]; exact hu, heu, hi, hs, fun e => absurd e (by show ¬ 1 = 3; omega), fun e => absurd e (by show ¬ 1 = 6; omega), fun e => absurd e (by show ¬ (3 ≤ 1 ∨ 1 = 0); omega)⟩
def WayStep (w0 w' : World) (base WB : Nat) (M : Sd) (r : List Part) (j e u : Nat) (l : Rows) (E : En) (Z : Wb) : Prop :=
  ∃ q Z' X', Z'.B = Z.B ∧ Wq w0 w' base WB (enM M E) ((r.set u q).set e (way (enE M E) Z')) j l X' ∧ EwS ((r.set u q).set e (way (enE M E) Z')) e u (enE M E) Z'
theorem wq_estep (h : Wq w0 w base WB M r j l X) (s : EwS r e u E Z) (hje : j ≠ e) (hju : j ≠ u) (ok : EnOk E) (ms : 0 ≤ M.sp ∧ M.sp ≤ 16) (hn : M.n ≤ 1000000000) (hp : M.pn ≤ 1000000000) :
    Calls Tryz.prog 145 #[Pw Z.B, Pw WB] w fun e' w' => e' = .returned (.bool (decide ((enE M E).ln = 0))) ∧ WayStep w0 w' base WB M r j e u l E Z := by
  refine (estep_any (wq_ew h s hje hju) ok ms hn hp).mono ?_
  rintro e' w' ⟨rfl, q, Z', X', e1, _, _, _, h'⟩
  obtain ⟨g1, g2⟩ := ew_wq h' h.hj (List.getElem?_eq_some_iff.1 s.re).1 s.hu hje hju
  exact ⟨rfl, q, Z', X', e1, g1, g2⟩
theorem wq_ostep (h : Wq w0 w base WB M r j l X) (s : EwS r e u E Z) (hje : j ≠ e) (hju : j ≠ u) (ok : EnOk E) (ms : 0 ≤ M.sp ∧ M.sp ≤ 16) (hn : M.n ≤ 1000000000) (hp : M.pn ≤ 1000000000) :
    Calls Tryz.prog 334 #[Pw Z.B, Pw WB] w fun e' w' => e' = .returned (.bool (decide ((enE M E).ln = 0))) ∧ WayStep w0 w' base WB M r j e u l E Z := by
  refine (ostep_any (wq_ew h s hje hju) ok ms hn hp).mono ?_
  rintro e' w' ⟨rfl, q, Z', X', e1, _, _, _, h'⟩
  obtain ⟨g1, g2⟩ := ew_wq h' h.hj (List.getElem?_eq_some_iff.1 s.re).1 s.hu hje hju
  exact ⟨rfl, q, Z', X', e1, g1, g2⟩
theorem ews_got (s : EwS r e u E Z) (h0 : E.ln = 0) : (nPart E.ow : Int) ≤ Z.i := by
  rw [s.i, at_zero h0]; exact Int.le_refl _
end
section
variable {w0 w w' : World} {base WB : Nat} {M : Sd} {r : List Part} {j e u B : Nat} {l l' : Rows} {X : Wm} {D : Pd} {pb pi : Int} {p b : Value} {o : Nat}
theorem enter_ (h : Wq w0 w base WB M r j l X) (hb : l[0]? = some (B, pkO D pb pi p b o)) (hje : j ≠ e) (he : e < r.length) (hu : u < r.length) (heu : e ≠ u) (ht : D.t < 64) (hk : D.k < 4294967296) :
    Calls Tryz.prog 48 #[Pw B] w fun e' w' => e' = .returned (.tuple #[]) ∧ ∃ Z XB VB, Wq w0 w' base WB M (r.set e (wayP false D.t D.k 0 Z)) j [(B, pkO D pb pi (.iface 70 (Pw Z.B)) (fnV 101 #[] #[Pw VB, Pw XB]) o), (XB, xO B), (VB, .cells #[Pw Z.B] 70 (0, 0))] X ∧ EwS (r.set e (wayP false D.t D.k 0 Z)) e u (en0 D.t D.k) Z := by
  have h1 := h.push (xO B)
  have c0 : (w.alloc (xO B)).cell? ⟨B, 0, none⟩ = some (.int .i64 (D.t : Int)) := cell_row (h1.blk 0 (app1 hb)) 0
  have c1 : (w.alloc (xO B)).cell? ⟨B, 1, none⟩ = some (.int .u32 (D.k : Int)) := cell_row (h1.blk 0 (app1 hb)) 1
  have y0 : (w.alloc (xO B)).cell? ⟨w.heap.size, 0, none⟩ = some (Pw B) := cell_row (h1.blk l.length (at_end _ _)) 0
  obtain ⟨XB, hX⟩ : ∃ XB, XB = w.heap.size := ⟨_, rfl⟩
  have hlt := (List.getElem?_eq_some_iff.1 hb).1
  have HN := Lib.hid (fun W => new_enter D.t D.k ht hk W)
  rw [← hX] at y0 h1
  obtain ⟨w1, hw1⟩ : ∃ w1, w1 = w.alloc (xO B) := ⟨_, rfl⟩
  rw [← hw1] at y0 c0 c1 h1
  have H1 := Lib.hid h1; have HX := Lib.hid hX; have HLT := Lib.hid hlt; have HW1 := Lib.hid hw1
  have HB := Lib.hid hb
  have HFIN := Lib.hid (fun (W : World) (l2 : Rows) (Z : Wb) (VB : Nat) (g : Wq w0 W base WB M (r.set e (wayP false D.t D.k 0 Z)) j l2 X) (q : l2.Perm (l ++ [(XB, xO B)] ++ [(VB, .cells #[Pw Z.B] 70 (0, 0))])) =>
    do_ (g.perm q.symm) (app2 HB.out) 70 (Pw Z.B) (.func 101) #[] #[Pw VB, Pw XB])
  have HJE := Lib.hid hje; have HE := Lib.hid he; have HU := Lib.hid hu; have HEU := Lib.hid heu
  clear h h1 hb hX hlt ht hk hw1 hje he hu heu
  have h2 := H1.out.push (.cells #[.pointer none] 70)
  have d0 : (w1.alloc (.cells #[.pointer none] 70)).cell? ⟨B, 0, none⟩ = some (.int .i64 (D.t : Int)) := cell_row (h2.blk 0 (app2 HB.out)) 0
  have d1 : (w1.alloc (.cells #[.pointer none] 70)).cell? ⟨B, 1, none⟩ = some (.int .u32 (D.k : Int)) := cell_row (h2.blk 0 (app2 HB.out)) 1
  have z0 : (w1.alloc (.cells #[.pointer none] 70)).cell? ⟨XB, 0, none⟩ = some (Pw B) := cell_row (h2.blk l.length (app1 (at_end _ _))) 0
  have v0 : (w1.alloc (.cells #[.pointer none] 70)).cell? ⟨w1.heap.size, 0, none⟩ = some (.pointer none) := cell_row (h2.blk (l ++ [(XB, xO B)]).length (at_end _ _)) 0
  have vf : (w1.alloc (.cells #[.pointer none] 70)).frozen? ⟨w1.heap.size, 0, none⟩ = false := froz_row (h2.blk (l ++ [(XB, xO B)]).length (at_end _ _)) 0
  have hvl : w1.heap.size < (w1.alloc (.cells #[.pointer none] 70)).heap.size := by rw [alloc_size]; omega
  have H2 := Lib.hid h2; have HV0 := Lib.hid v0; have HVF := Lib.hid vf; have HVL := Lib.hid hvl
  clear h2 v0 vf hvl
  go_enter Tryz.func48, Tryz.ntmps48
  go_upto_region 1 with fail
  rw [← HX.out, ← HW1.out]
  go_region_law (go_simp; go_at_call 65; refine (HN.out _).mono ?_; rintro e' w2 ⟨v, rfl, hn⟩; obtain ⟨Z, rfl, ha, hb2, hi, hs, hz⟩ := hn; have HNE := Lib.hid (And.intro ha (And.intro hb2 (And.intro hi (And.intro hs hz)))); (first | (have k0 : w2.cell? ⟨w1.heap.size, 0, none⟩ = some (.pointer none) := (hb2.cell (p := ⟨w1.heap.size, 0, none⟩) HVL.out).trans HV0.out; have kf : w2.frozen? ⟨w1.heap.size, 0, none⟩ = false := (hb2.frozen (p := ⟨w1.heap.size, 0, none⟩) HVL.out).trans HVF.out) | skip); clear ha hb2 hi hs hz)
  all_goals
    (first
      | (have h3 := (H1.out.new (Below.refl _ _).drew).newWayZ HJE.out HE.out HNE.out.1 HNE.out.2.1 HNE.out.2.2.2.2; have h4 := h3.push (.cells #[Pw Z.B] 70); generalize w2.alloc (.cells #[Pw Z.B] 70) = w4 at *; generalize w2.heap.size = VB at *; have HI := Lib.hid HNE.out.2.2.1; have HS := Lib.hid HNE.out.2.2.2.1)
      | (have h3 := (H2.out.new (Below.refl _ _).drew).newWayZ HJE.out HE.out HNE.out.1 HNE.out.2.1 HNE.out.2.2.2.2; have h4 := h3.putLast (Pw Z.B); generalize w2.setCell ⟨w1.heap.size, 0, none⟩ (Pw Z.B) = w4 at *; have HI := Lib.hid HNE.out.2.2.1; have HS := Lib.hid HNE.out.2.2.2.1; generalize w1.heap.size = VB at *))
    have y1 : w4.cell? ⟨XB, 0, none⟩ = some (Pw B) := cell_row (h4.blk l.length (app1 (at_end _ _))) 0
    have y2 : w4.cell? ⟨VB, 0, none⟩ = some (Pw Z.B) := cell_row (h4.blk (l ++ [(XB, xO B)]).length (at_end _ _)) 0
    have H4 := Lib.hid h4
    clear h3 h4
    go_wp2_with (go_at_call 100; refine (do_ H4.out (app2 HB.out) _ _ _ _ _).mono ?_; rintro e' w5 ⟨rfl, h5⟩)
    go_end0
    rw [List.append_assoc] at h5
    exact ⟨rfl, Z, XB, VB, h5.keep HLT.out, ews_en HI.out HS.out HE.out HU.out HEU.out⟩
end
end Go.Proofs.YtieiiabbeglmfaaGreatDoor.S18
set_option linter.unusedVariables false
set_option linter.unusedSimpArgs false
namespace Go.Proofs.YtieiiabbeglmfaaGreatDoor.S18
set_option maxRecDepth 100000
set_option maxHeartbeats 16000000
open Go.Proofs.YtieiiabbeglmfaaGreatDoor Go.Proofs.YtieiiabbeglmfaaGreatDoor.S11 Go.Proofs.YtieiiabbeglmfaaGreatDoor.S12 Go.Proofs.YtieiiabbeglmfaaGreatDoor.S13 Go.Proofs.YtieiiabbeglmfaaGreatDoor.S14 Go.Proofs.YtieiiabbeglmfaaGreatDoor.S15 Go.Proofs.YtieiiabbeglmfaaGreatDoor.S16
open Go.RowKit
theorem m_pbef (w : World) : (method 558 118 (.agg #[]) "Before").run Tryz.prog w = .ok (295, .agg #[]) w := by kernel_rfl
theorem m_cbef (a b c d : Value) (w : World) : (method 558 439 (.agg #[a, b, c, d]) "Before").run Tryz.prog w = .ok (307, .agg #[a, b, c, d]) w := by kernel_rfl
theorem pbef_any (w : World) : Calls Tryz.prog 295 #[.agg #[]] w fun e w' => e = .returned .nilIface ∧ Below w.heap.size w w' := by
  go_enter Tryz.func295, Tryz.ntmps295
  go_wp2_with fail
  go_ret
  exact ⟨rfl, by first | exact Below.refl _ _ | exact below1 _ _⟩
theorem cbef_any (a b c d : Value) (w : World) : Calls Tryz.prog 307 #[.agg #[a, b, c, d]] w fun e w' => e = .returned .nilIface ∧ Below w.heap.size w w' := by
  go_enter Tryz.func307, Tryz.ntmps307
  go_wp2_with fail
  go_ret
  exact ⟨rfl, by first | exact Below.refl _ _ | exact below1 _ _⟩
section
variable {w0 w w' : World} {base WB : Nat} {M : Sd} {r : List Part} {j e u B : Nat} {l l' : Rows} {X : Wm} {D : Pd} {pb pi : Int} {p b : Value} {o : Nat}
theorem own_ (h : Wq w0 w base WB M r j l X) (hb : l[0]? = some (B, pkO D pb pi p b o)) (hje : j ≠ e) (he : e < r.length) (hu : u < r.length) (heu : e ≠ u) (ht : D.t < 64) :
    Calls Tryz.prog 259 #[Pw B] w fun e' w' => e' = .returned (.tuple #[]) ∧ ∃ Z XB VB, Wq w0 w' base WB M (r.set e (wayP true D.t 0 0 Z)) j [(B, pkO D pb pi (.iface 411 (Pw Z.B)) (fnV 264 #[] #[Pw VB, Pw XB]) o), (XB, xO B), (VB, .cells #[Pw Z.B] 411 (0, 0))] X ∧ EwS (r.set e (wayP true D.t 0 0 Z)) e u (ow0 D.t) Z := by
  have h1 := h.push (xO B)
  have c0 : (w.alloc (xO B)).cell? ⟨B, 0, none⟩ = some (.int .i64 (D.t : Int)) := cell_row (h1.blk 0 (app1 hb)) 0
  have y0 : (w.alloc (xO B)).cell? ⟨w.heap.size, 0, none⟩ = some (Pw B) := cell_row (h1.blk l.length (at_end _ _)) 0
  obtain ⟨XB, hX⟩ : ∃ XB, XB = w.heap.size := ⟨_, rfl⟩
  have hlt := (List.getElem?_eq_some_iff.1 hb).1
  have HN := Lib.hid (fun W => new_own D.t ht W)
  rw [← hX] at y0 h1
  obtain ⟨w1, hw1⟩ : ∃ w1, w1 = w.alloc (xO B) := ⟨_, rfl⟩
  rw [← hw1] at y0 c0 h1
  have H1 := Lib.hid h1; have HX := Lib.hid hX; have HLT := Lib.hid hlt; have HW1 := Lib.hid hw1
  have HB := Lib.hid hb
  have HJE := Lib.hid hje; have HE := Lib.hid he; have HU := Lib.hid hu; have HEU := Lib.hid heu
  clear h h1 hb hX hlt ht hw1 hje he hu heu
  go_enter Tryz.func259, Tryz.ntmps259
  go_upto_region 1 with fail
  rw [← HX.out, ← HW1.out]
  go_upto_region 2 with (go_at_call 263; refine (HN.out _).mono ?_; rintro e' w2 ⟨v, rfl, hn⟩; obtain ⟨Z, rfl, ha, hb2, hi, hs, hz⟩ := hn; have HNE := Lib.hid (And.intro ha (And.intro hb2 (And.intro hi (And.intro hs hz)))); clear ha hb2 hi hs hz)
  have h3 := H1.out.newWayZ HJE.out HE.out HNE.out.1 HNE.out.2.1 HNE.out.2.2.2.2
  have h4 := h3.push (.cells #[Pw Z.B] 411)
  generalize w2.alloc (.cells #[Pw Z.B] 411) = w4 at *
  generalize w2.heap.size = VB at *
  have HI := Lib.hid HNE.out.2.2.1; have HS := Lib.hid HNE.out.2.2.2.1
  have y1 : w4.cell? ⟨XB, 0, none⟩ = some (Pw B) := cell_row (h4.blk l.length (app1 (at_end _ _))) 0
  have y2 : w4.cell? ⟨VB, 0, none⟩ = some (Pw Z.B) := cell_row (h4.blk (l ++ [(XB, xO B)]).length (at_end _ _)) 0
  have H4 := Lib.hid h4
  clear h3 h4
  go_wp2_with (go_at_call 100; refine (do_ H4.out (app2 HB.out) _ _ _ _ _).mono ?_; rintro e' w5 ⟨rfl, h5⟩)
  go_end0
  rw [List.append_assoc] at h5
  exact ⟨rfl, Z, XB, VB, h5.keep HLT.out, ews_ow HI.out HS.out HE.out HU.out HEU.out⟩
abbrev slpO (t : Nat) (on : Bool) (at_ got : Nat) : Obj := .cells #[.int .i64 (2 * (t : Int)), .bool on, .int .u64 (at_ : Int), .int .u8 (got : Int)] 405 (0, 0)
theorem lotc {W : World} {t : Nat} (c0 : W.cell? ⟨B, 0, none⟩ = some (.int .i64 (t : Int))) (ht : t < 64) :
    Calls Tryz.prog 216 #[Pw B] W fun e w' => e = .returned (.int .i64 ((2 * t : Nat) : Int)) ∧ W = w' := by
  have HL := Lib.hid (lot_any t ht W)
  clear ht
  generalize ((2 * t : Nat) : Int) = z at *
  go_enter Tryz.func216, Tryz.ntmps216
  go_wp2_with (go_at_call 29; refine HL.out.mono ?_; rintro e w1 ⟨rfl, rfl⟩)
  go_ret
  exact ⟨rfl, rfl⟩
theorem sleep_ (h : Wq w0 w base WB M r j l X) (hb : l[0]? = some (B, pkO D pb pi p b o)) (ht : D.t < 64) :
    Calls Tryz.prog 247 #[Pw B] w fun e' w' => e' = .returned (.tuple #[]) ∧ ∃ SB XB VB, Wq w0 w' base WB M r j [(B, pkO D pb pi (.iface 215 (Pw SB)) (fnV 258 #[] #[Pw VB, Pw XB]) o), (XB, xO B), (VB, .cells #[Pw SB] 215 (0, 0)), (SB, slpO D.t D.on D.at' 0)] X := by
  have h1 := h.push (xO B)
  have c0 : (w.alloc (xO B)).cell? ⟨B, 0, none⟩ = some (.int .i64 (D.t : Int)) := cell_row (h1.blk 0 (app1 hb)) 0
  have c3 : (w.alloc (xO B)).cell? ⟨B, 3, none⟩ = some (.bool D.on) := cell_row (h1.blk 0 (app1 hb)) 3
  have c4 : (w.alloc (xO B)).cell? ⟨B, 4, none⟩ = some (.int .u64 (D.at' : Int)) := cell_row (h1.blk 0 (app1 hb)) 4
  have y0 : (w.alloc (xO B)).cell? ⟨w.heap.size, 0, none⟩ = some (Pw B) := cell_row (h1.blk l.length (at_end _ _)) 0
  obtain ⟨XB, hX⟩ : ∃ XB, XB = w.heap.size := ⟨_, rfl⟩
  have hlt := (List.getElem?_eq_some_iff.1 hb).1
  rw [← hX] at y0 h1
  obtain ⟨w1, hw1⟩ : ∃ w1, w1 = w.alloc (xO B) := ⟨_, rfl⟩
  rw [← hw1] at y0 c0 c3 c4 h1
  have h2 := h1.push (.cells #[.pointer none] 215)
  have d0 : (w1.alloc (.cells #[.pointer none] 215)).cell? ⟨B, 0, none⟩ = some (.int .i64 (D.t : Int)) := cell_row (h2.blk 0 (app2 hb)) 0
  have d3 : (w1.alloc (.cells #[.pointer none] 215)).cell? ⟨B, 3, none⟩ = some (.bool D.on) := cell_row (h2.blk 0 (app2 hb)) 3
  have d4 : (w1.alloc (.cells #[.pointer none] 215)).cell? ⟨B, 4, none⟩ = some (.int .u64 (D.at' : Int)) := cell_row (h2.blk 0 (app2 hb)) 4
  have z0 : (w1.alloc (.cells #[.pointer none] 215)).cell? ⟨XB, 0, none⟩ = some (Pw B) := cell_row (h2.blk l.length (app1 (at_end _ _))) 0
  have H1 := Lib.hid h1; have H2 := Lib.hid h2; have HX := Lib.hid hX; have HLT := Lib.hid hlt; have HW1 := Lib.hid hw1
  have HB := Lib.hid hb
  have HL := Lib.hid (fun (W : World) (c : W.cell? ⟨B, 0, none⟩ = some (.int .i64 (D.t : Int))) => lotc c ht)
  have HC0 := Lib.hid c0; have HD0 := Lib.hid d0
  obtain ⟨SC, hSC⟩ : ∃ SC, SC = slpO D.t D.on D.at' 0 := ⟨_, rfl⟩
  have HSC := Lib.hid hSC
  clear h h1 h2 hb hX hlt ht hw1 hSC
  go_enter Tryz.func247, Tryz.ntmps247
  go_upto_region 1 with fail
  rw [← HX.out, ← HW1.out]
  go_region_law (go_simp; go_at_call 216; refine (HL.out _ (by first | exact HC0.out | exact HD0.out)).mono ?_; rintro e' w2 ⟨rfl, rfl⟩)
  all_goals
    (first
      | (show Exit.then _ _ _ _ (World.drew ((w1.alloc (slpO D.t D.on D.at' 0)).alloc (.cells #[Pw w1.heap.size] 215))); have h3 := (H1.out.push (slpO D.t D.on D.at' 0)).push (.cells #[Pw w1.heap.size] 215); rw [alloc_size] at h3; have h4 := (h3.perm (l' := l ++ [(XB, xO B)] ++ [(w1.heap.size + 1, .cells #[Pw w1.heap.size] 215), (w1.heap.size, slpO D.t D.on D.at' 0)]) (by rw [List.append_assoc (l ++ [(XB, xO B)])]; exact List.Perm.append_left _ (List.Perm.swap _ _ _))).new (Below.refl _ _).drew; generalize ((w1.alloc (slpO D.t D.on D.at' 0)).alloc (.cells #[Pw w1.heap.size] 215)).drew = w4 at *; generalize w1.heap.size + 1 = VB at *; generalize w1.heap.size = SB at *)
      | (show Exit.then _ _ _ _ (World.drew ((w1.alloc (.cells #[Pw (w1.heap.size + 1)] 215)).alloc (slpO D.t D.on D.at' 0))); have h3 := (H1.out.push (.cells #[Pw (w1.heap.size + 1)] 215)).push (slpO D.t D.on D.at' 0); rw [alloc_size] at h3; have h4 := (h3.perm (l' := l ++ [(XB, xO B)] ++ [(w1.heap.size, .cells #[Pw (w1.heap.size + 1)] 215), (w1.heap.size + 1, slpO D.t D.on D.at' 0)]) (by rw [List.append_assoc (l ++ [(XB, xO B)])]; exact List.Perm.refl _)).new (Below.refl _ _).drew; generalize ((w1.alloc (.cells #[Pw (w1.heap.size + 1)] 215)).alloc (slpO D.t D.on D.at' 0)).drew = w4 at *; generalize w1.heap.size + 1 = SB at *; generalize w1.heap.size = VB at *))
    have y1 : w4.cell? ⟨XB, 0, none⟩ = some (Pw B) := cell_row (h4.blk l.length (app1 (at_end _ _))) 0
    have y2 : w4.cell? ⟨VB, 0, none⟩ = some (Pw SB) := cell_row (h4.blk (l ++ [(XB, xO B)]).length (by rw [List.getElem?_append_right (Nat.le_refl _), Nat.sub_self]; rfl)) 0
    have H4 := Lib.hid h4
    clear h3 h4
    go_wp2_with (go_at_call 100; refine (do_ H4.out (app2 HB.out) _ _ _ _ _).mono ?_; rintro e' w5 ⟨rfl, h5⟩)
    go_end0
    rw [List.append_assoc] at h5
    exact ⟨rfl, SB, XB, VB, h5.keep HLT.out⟩
end
section
variable {w0 w w' : World} {base WB : Nat} {M : Sd} {r : List Part} {j e u B : Nat} {l l' : Rows} {X : Wm} {D : Pd} {pb pi : Int} {p b : Value} {o : Nat}
def Slept (w0 w' : World) (base WB : Nat) (M : Sd) (r : List Part) (j B : Nat) (D : Pd) (pb pi : Int) (o : Nat) (X : Wm) : Prop :=
  ∃ SB XB VB, Wq w0 w' base WB M r j [(B, pkO D pb pi (.iface 215 (Pw SB)) (fnV 258 #[] #[Pw VB, Pw XB]) o), (XB, xO B), (VB, .cells #[Pw SB] 215 (0, 0)), (SB, slpO D.t D.on D.at' 0)] X
theorem do_sleep (h : Wq w0 w base WB M r j l X) (hb : l[0]? = some (B, pkO D pb pi p b o)) (ht : D.t < 64) :
    Calls Tryz.prog 100 #[Pw B, .nilIface, fnV 247 #[Pw B] #[]] w fun e' w' => e' = .returned (.tuple #[]) ∧ Slept w0 w' base WB M r j B D pb pi o X := by
  have HS := Lib.hid (sleep_ h hb ht)
  have e0 := eqI0
  clear h hb ht
  go_enter Tryz.func100, Tryz.ntmps100
  go_wp2_with (go_at_call 247; refine HS.out.mono ?_; rintro e' w1 ⟨rfl, h1⟩)
  (first | go_end0 | go_ret | (refine bodyPost_ret (results_none rfl _ _ _) rfl ?_))
  exact ⟨rfl, h1⟩
theorem before_p {t k z : Nat} {on : Bool} {at_ : Nat} (h : Wq w0 w base WB M r j l X) (hb : l[0]? = some (B, pkO ⟨t, k, z, on, at_, none⟩ pb pi p b o)) (ht : t < 64) :
    Calls Tryz.prog 220 #[Pw B] w fun e' w' => e' = .returned (.tuple #[]) ∧ Slept w0 w' base WB M r j B ⟨t, k, z, on, at_, none⟩ pb pi o X := by
  have c5 : w.cell? ⟨B, 5, none⟩ = some (.iface 118 (.agg #[])) := cell_row (h.blk 0 hb) 5
  have hm := m_pbef
  have HB := Lib.hid pbef_any
  have HD := Lib.hid (fun (W : World) (q : Below w.heap.size w W) => do_sleep (h.new q) hb ht)
  clear h hb ht
  go_enter Tryz.func220, Tryz.ntmps220
  go_wp2_with (first
    | (go_at_call 295; refine (HB.out _).mono ?_; rintro e' w1 ⟨rfl, hb1⟩; have HB1 := Lib.hid hb1; clear hb1)
    | (go_at_call 100; refine (HD.out _ HB1.out).mono ?_; rintro e' w2 ⟨rfl, h2⟩))
  go_end0
  exact ⟨rfl, h2⟩
theorem before_c {t k z : Nat} {on : Bool} {at_ : Nat} {ca cl cn cc : Nat} (h : Wq w0 w base WB M r j l X) (hb : l[0]? = some (B, pkO ⟨t, k, z, on, at_, some ⟨ca, cl, cn, cc⟩⟩ pb pi p b o)) (ht : t < 64) :
    Calls Tryz.prog 220 #[Pw B] w fun e' w' => e' = .returned (.tuple #[]) ∧ Slept w0 w' base WB M r j B ⟨t, k, z, on, at_, some ⟨ca, cl, cn, cc⟩⟩ pb pi o X := by
  have c5 : w.cell? ⟨B, 5, none⟩ = some (.iface 439 (.agg #[.int .u32 (ca : Int), .int .u64 (cl : Int), .int .u64 (cn : Int), .int .u64 (cc : Int)])) := cell_row (h.blk 0 hb) 5
  have hm := m_cbef (.int .u32 (ca : Int)) (.int .u64 (cl : Int)) (.int .u64 (cn : Int)) (.int .u64 (cc : Int))
  have HB := Lib.hid (cbef_any (.int .u32 (ca : Int)) (.int .u64 (cl : Int)) (.int .u64 (cn : Int)) (.int .u64 (cc : Int)))
  have HD := Lib.hid (fun (W : World) (q : Below w.heap.size w W) => do_sleep (h.new q) hb ht)
  clear h hb ht
  go_enter Tryz.func220, Tryz.ntmps220
  go_wp2_with (first
    | (go_at_call 307; refine (HB.out _).mono ?_; rintro e' w1 ⟨rfl, hb1⟩; have HB1 := Lib.hid hb1; clear hb1)
    | (go_at_call 100; refine (HD.out _ HB1.out).mono ?_; rintro e' w2 ⟨rfl, h2⟩))
  go_end0
  exact ⟨rfl, h2⟩
theorem before_ (h : Wq w0 w base WB M r j l X) (hb : l[0]? = some (B, pkO D pb pi p b o)) (ht : D.t < 64) :
    Calls Tryz.prog 220 #[Pw B] w fun e' w' => e' = .returned (.tuple #[]) ∧ Slept w0 w' base WB M r j B D pb pi o X := by
  obtain ⟨t, k, z, on, at_, hk⟩ := D
  cases hk with
  | none => exact before_p h hb ht
  | some c => obtain ⟨ca, cl, cn, cc⟩ := c; exact before_c h hb ht
end
end Go.Proofs.YtieiiabbeglmfaaGreatDoor.S18
set_option linter.unusedVariables false
set_option linter.unusedSimpArgs false
namespace Go.Proofs.YtieiiabbeglmfaaGreatDoor.S18
set_option maxRecDepth 100000
set_option maxHeartbeats 16000000
open Go.Proofs.YtieiiabbeglmfaaGreatDoor Go.Proofs.YtieiiabbeglmfaaGreatDoor.S11 Go.Proofs.YtieiiabbeglmfaaGreatDoor.S12 Go.Proofs.YtieiiabbeglmfaaGreatDoor.S13 Go.Proofs.YtieiiabbeglmfaaGreatDoor.S14 Go.Proofs.YtieiiabbeglmfaaGreatDoor.S15 Go.Proofs.YtieiiabbeglmfaaGreatDoor.S16
open Go.RowKit
theorem m_pval (w : World) : (method 558 118 (.agg #[]) "Validate").run Tryz.prog w = .ok (297, .agg #[]) w := by kernel_rfl
theorem m_cval (a b c d : Value) (w : World) : (method 558 439 (.agg #[a, b, c, d]) "Validate").run Tryz.prog w = .ok (309, .agg #[a, b, c, d]) w := by kernel_rfl
theorem m_ok (a : Addr) (w : World) : (method 558 440 (.pointer (some a)) "Ok").run Tryz.prog w = .ok (336, .pointer (some a)) w := by kernel_rfl
theorem eqL (T : TypeId) (v : Value) (w : World) : (binOp .eql 314 (.iface T v) .nilIface).run Tryz.prog w = .ok (.bool false) w := by kernel_rfl
theorem eqL0 (w : World) : (binOp .eql 314 .nilIface .nilIface).run Tryz.prog w = .ok (.bool true) w := by kernel_rfl
theorem pval_any (w : World) : Calls Tryz.prog 297 #[.agg #[]] w fun e w' => e = .returned .nilIface ∧ Below w.heap.size w w' := by
  go_enter Tryz.func297, Tryz.ntmps297
  go_wp2_with fail
  go_ret
  exact ⟨rfl, by first | exact Below.refl _ _ | exact below1 _ _⟩
abbrev ckO (c : Ck) : Obj := .cells c.cs 439 (0, 0)
abbrev lookO (c : Ck) (CB LX : Nat) (ov : Bool) (u : Nat) : Obj := .cells #[fnV 312 #[] #[Pw CB, Pw LX], .bool ov, .int .u32 (c.a : Int), .int .u64 (c.all : Int), .int .u64 (c.any : Int), .int .u64 (c.clr : Int), .int .u64 (u : Int)] 442 (0, 0)
section
variable {w0 w w' : World} {base WB : Nat} {M : Sd} {r : List Part} {j e u B : Nat} {l l' : Rows} {X : Wm} {D : Pd} {pb pi : Int} {p b : Value} {o : Nat}
theorem cval_ {ca cl cn cc : Nat} (h : Wq w0 w base WB M r j l X) :
    Calls Tryz.prog 309 #[.agg #[.int .u32 (ca : Int), .int .u64 (cl : Int), .int .u64 (cn : Int), .int .u64 (cc : Int)]] w fun e' w' => ∃ CB LB LX, e' = .returned (.iface 440 (Pw LB)) ∧ Wq w0 w' base WB M r j (l ++ [(CB, ckO ⟨ca, cl, cn, cc⟩), (LB, lookO ⟨ca, cl, cn, cc⟩ CB LX false 0), (LX, .cells #[Pw LB] 440 (0, 0))]) X := by
  have h1 : Wq w0 (w.alloc (.cells #[.int .u32 (ca : Int), .int .u64 (cl : Int), .int .u64 (cn : Int), .int .u64 (cc : Int)] 439)) base WB M r j (l ++ [(w.heap.size, ckO ⟨ca, cl, cn, cc⟩)]) X := h.push (ckO ⟨ca, cl, cn, cc⟩)
  obtain ⟨CB, hC⟩ : ∃ CB, CB = w.heap.size := ⟨_, rfl⟩
  rw [← hC] at h1
  obtain ⟨w1, hw1⟩ : ∃ w1, w1 = w.alloc (.cells #[.int .u32 (ca : Int), .int .u64 (cl : Int), .int .u64 (cn : Int), .int .u64 (cc : Int)] 439) := ⟨_, rfl⟩
  rw [← hw1] at h1
  have k0 : w1.cell? ⟨CB, 0, none⟩ = some (.int .u32 (ca : Int)) := cell_row (h1.blk l.length (at_end _ _)) 0
  have k1 : w1.cell? ⟨CB, 1, none⟩ = some (.int .u64 (cl : Int)) := cell_row (h1.blk l.length (at_end _ _)) 1
  have k2 : w1.cell? ⟨CB, 2, none⟩ = some (.int .u64 (cn : Int)) := cell_row (h1.blk l.length (at_end _ _)) 2
  have k3 : w1.cell? ⟨CB, 3, none⟩ = some (.int .u64 (cc : Int)) := cell_row (h1.blk l.length (at_end _ _)) 3
  have HC := Lib.hid hC; have HW := Lib.hid hw1; have H1 := Lib.hid h1
  clear h h1 hC hw1
  go_enter Tryz.func309, Tryz.ntmps309
  go_upto_region 1 with fail
  rw [← HC.out, ← HW.out]
  go_upto_region 2 with fail
  have h2 := H1.out.push (.cells #[.nilFunc, .bool false, .int .u32 (ca : Int), .int .u64 (cl : Int), .int .u64 (cn : Int), .int .u64 (cc : Int), .int .u64 0] 442)
  have h3 := h2.push (.cells #[Pw w1.heap.size] 440)
  rw [alloc_size] at h3
  obtain ⟨LB, hL⟩ : ∃ LB, LB = w1.heap.size := ⟨_, rfl⟩
  rw [← hL] at h2 h3 ⊢
  have hlt : (l ++ [(CB, ckO ⟨ca, cl, cn, cc⟩)])[l.length + 1]? = none := by rw [List.getElem?_eq_none]; simp
  have g1 : (l ++ [(CB, ckO ⟨ca, cl, cn, cc⟩)] ++ [(LB, Obj.cells #[.nilFunc, .bool false, .int .u32 (ca : Int), .int .u64 (cl : Int), .int .u64 (cn : Int), .int .u64 (cc : Int), .int .u64 0] 442)] ++ [(LB + 1, Obj.cells #[Pw LB] 440)])[l.length + 1]? = some (LB, Obj.cells #[.nilFunc, .bool false, .int .u32 (ca : Int), .int .u64 (cl : Int), .int .u64 (cn : Int), .int .u64 (cc : Int), .int .u64 0] 442) := by
    have e : l.length + 1 = (l ++ [(CB, ckO ⟨ca, cl, cn, cc⟩)]).length := by simp
    rw [e]; exact app1 (at_end _ _)
  have h4 := h3.put (l.length + 1) g1 0 (fnV 312 #[] #[Pw CB, Pw (LB + 1)]) (cs' := #[fnV 312 #[] #[Pw CB, Pw (LB + 1)], .bool false, .int .u32 (ca : Int), .int .u64 (cl : Int), .int .u64 (cn : Int), .int .u64 (cc : Int), .int .u64 0]) rfl
  obtain ⟨w3, hw3⟩ : ∃ w3, w3 = (w1.alloc (.cells #[.nilFunc, .bool false, .int .u32 (ca : Int), .int .u64 (cl : Int), .int .u64 (cn : Int), .int .u64 (cc : Int), .int .u64 0] 442)).alloc (.cells #[Pw LB] 440) := ⟨_, rfl⟩
  rw [← hw3] at h3 h4 ⊢
  have x0 : w3.cell? ⟨LB + 1, 0, none⟩ = some (Pw LB) := cell_row (h3.blk _ (at_end _ _)) 0
  have x1 : w3.cell? ⟨LB, 0, none⟩ = some .nilFunc := cell_row (h3.blk _ g1) 0
  have x2 : w3.frozen? ⟨LB, 0, none⟩ = false := froz_row (h3.blk _ g1) 0
  have z0 : (w3.setCell ⟨LB, 0, none⟩ (fnV 312 #[] #[Pw CB, Pw (LB + 1)])).cell? ⟨LB + 1, 0, none⟩ = some (Pw LB) := by
    have hne : (⟨LB, 0, none⟩ : Addr) ≠ ⟨LB + 1, 0, none⟩ := by intro e; injection e with e; omega
    rw [World.cell?_setCell_other _ _ _ _ hne]; exact x0
  have e5 : ((l ++ [(CB, ckO ⟨ca, cl, cn, cc⟩)] ++ [(LB, Obj.cells #[.nilFunc, .bool false, .int .u32 (ca : Int), .int .u64 (cl : Int), .int .u64 (cn : Int), .int .u64 (cc : Int), .int .u64 0] 442)] ++ [(LB + 1, Obj.cells #[Pw LB] 440)]).set (l.length + 1) (LB, lookO ⟨ca, cl, cn, cc⟩ CB (LB + 1) false 0)) = l ++ [(CB, ckO ⟨ca, cl, cn, cc⟩), (LB, lookO ⟨ca, cl, cn, cc⟩ CB (LB + 1) false 0), (LB + 1, Obj.cells #[Pw LB] 440)] := by
    rw [List.append_assoc, List.append_assoc, List.set_append_right _ _ (by omega), show l.length + 1 - l.length = 1 by omega]; rfl
  have H4 := Lib.hid (e5 ▸ h4)
  clear h2 h3 h4 g1 e5 hlt hw3 hL HW HC H1
  go_upto_region 3 with fail
  generalize w3.setCell ⟨LB, 0, none⟩ (fnV 312 #[] #[Pw CB, Pw (LB + 1)]) = w4 at *
  go_wp2_with fail
  go_ret
  exact ⟨CB, LB, LB + 1, rfl, H4.out⟩
theorem validate_p {t k z : Nat} {on : Bool} {at_ : Nat} (h : Wq w0 w base WB M r j l X) (hb : l[0]? = some (B, pkO ⟨t, k, z, on, at_, none⟩ pb pi p b o)) :
    Calls Tryz.prog 103 #[Pw B] w fun e' w' => e' = .returned (.tuple #[]) ∧ ∃ XB NB, Wq w0 w' base WB M r j [(B, pkO ⟨t, k, z, on, at_, none⟩ pb pi (.iface 372 (Pw NB)) (fnV 187 #[Pw B] #[]) o), (XB, xO B), (NB, oneO (.func 186) #[] #[Pw XB] false)] X := by
  have h1 := h.push (xO B)
  have c5 : (w.alloc (xO B)).cell? ⟨B, 5, none⟩ = some (.iface 118 (.agg #[])) := cell_row (h1.blk 0 (app1 hb)) 5
  have y0 : (w.alloc (xO B)).cell? ⟨w.heap.size, 0, none⟩ = some (Pw B) := cell_row (h1.blk l.length (at_end _ _)) 0
  have hm := m_pval
  obtain ⟨XB, hX⟩ : ∃ XB, XB = w.heap.size := ⟨_, rfl⟩
  rw [← hX] at y0 h1
  obtain ⟨w1, hw1⟩ : ∃ w1, w1 = w.alloc (xO B) := ⟨_, rfl⟩
  rw [← hw1] at y0 c5 h1
  have HV := Lib.hid pval_any
  have H1 := Lib.hid h1; have HX := Lib.hid hX; have HW1 := Lib.hid hw1; have HB := Lib.hid hb; have HY0 := Lib.hid y0
  have e0 := eqL0
  clear h h1 hb hX hw1
  go_enter Tryz.func103, Tryz.ntmps103
  go_upto_region 1 with fail
  rw [← HX.out, ← HW1.out]
  go_upto_region 2 with (go_at_call 297; refine (HV.out _).mono ?_; rintro e' w2 ⟨rfl, hb2⟩; have h2 := H1.out.new hb2; have H2 := Lib.hid h2; clear hb2 h2)
  have h3 := H2.out.push (.cells #[.nilIface] 314)
  have x0 : (w2.alloc (.cells #[.nilIface] 314)).cell? ⟨w2.heap.size, 0, none⟩ = some .nilIface := cell_row (h3.blk _ (at_end _ _)) 0
  have x1 : (w2.alloc (.cells #[.nilIface] 314)).cell? ⟨XB, 0, none⟩ = some (Pw B) := cell_row (h3.blk l.length (app1 (at_end _ _))) 0
  have HS := Lib.hid (store_ h3 (app2 HB.out))
  clear h3 y0 c5
  generalize w2.alloc (.cells #[.nilIface] 314) = w3 at *
  go_wp2_with (go_at_call 156; refine HS.out.mono ?_; rintro e' w4 ⟨rfl, h4⟩)
  (first | go_end0 | go_ret | (refine bodyPost_ret (results_none rfl _ _ _) rfl ?_))
  exact ⟨rfl, h4⟩
def Looks (w0 w' : World) (base WB : Nat) (M : Sd) (r : List Part) (j B : Nat) (D : Pd) (c : Ck) (pb pi : Int) (o : Nat) (ov : Bool) (n : Nat) (X : Wm) : Prop :=
  ∃ XB CB LB LX VB, Wq w0 w' base WB M r j [(B, pkO D pb pi (.iface 440 (Pw LB)) (fnV 157 #[] #[Pw VB, Pw XB]) o), (XB, xO B), (CB, ckO c), (LB, lookO c CB LX ov n), (LX, .cells #[Pw LB] 440 (0, 0)), (VB, .cells #[.iface 440 (Pw LB)] 314 (0, 0))] X
theorem validate_c {t k z ca cl cn cc : Nat} {on : Bool} {at_ : Nat} (h : Wq w0 w base WB M r j l X) (hb : l[0]? = some (B, pkO ⟨t, k, z, on, at_, some ⟨ca, cl, cn, cc⟩⟩ pb pi p b o)) :
    Calls Tryz.prog 103 #[Pw B] w fun e' w' => e' = .returned (.tuple #[]) ∧ Looks w0 w' base WB M r j B ⟨t, k, z, on, at_, some ⟨ca, cl, cn, cc⟩⟩ ⟨ca, cl, cn, cc⟩ pb pi o false 0 X := by
  have h1 := h.push (xO B)
  have c5 : (w.alloc (xO B)).cell? ⟨B, 5, none⟩ = some (.iface 439 (.agg #[.int .u32 (ca : Int), .int .u64 (cl : Int), .int .u64 (cn : Int), .int .u64 (cc : Int)])) := cell_row (h1.blk 0 (app1 hb)) 5
  have y0 : (w.alloc (xO B)).cell? ⟨w.heap.size, 0, none⟩ = some (Pw B) := cell_row (h1.blk l.length (at_end _ _)) 0
  have hm := m_cval (.int .u32 (ca : Int)) (.int .u64 (cl : Int)) (.int .u64 (cn : Int)) (.int .u64 (cc : Int))
  obtain ⟨XB, hX⟩ : ∃ XB, XB = w.heap.size := ⟨_, rfl⟩
  rw [← hX] at y0 h1
  obtain ⟨w1, hw1⟩ : ∃ w1, w1 = w.alloc (xO B) := ⟨_, rfl⟩
  rw [← hw1] at y0 c5 h1
  have HV := Lib.hid (cval_ (ca := ca) (cl := cl) (cn := cn) (cc := cc) h1)
  have HX := Lib.hid hX; have HW1 := Lib.hid hw1; have HB := Lib.hid hb
  have hlt := (List.getElem?_eq_some_iff.1 hb).1
  have HLT := Lib.hid hlt
  have e0 := eqL
  clear h h1 hb hX hw1 hlt
  go_enter Tryz.func103, Tryz.ntmps103
  go_upto_region 1 with fail
  rw [← HX.out, ← HW1.out]
  go_upto_region 2 with (go_at_call 309; refine HV.out.mono ?_; rintro e' w2 ⟨CB, LB, LX, rfl, h2⟩; have H2 := Lib.hid h2; clear h2)
  have h3 := H2.out.push (.cells #[.iface 440 (Pw LB)] 314)
  have x0 : (w2.alloc (.cells #[.iface 440 (Pw LB)] 314)).cell? ⟨w2.heap.size, 0, none⟩ = some (.iface 440 (Pw LB)) := cell_row (h3.blk _ (at_end _ _)) 0
  have x1 : (w2.alloc (.cells #[.iface 440 (Pw LB)] 314)).cell? ⟨XB, 0, none⟩ = some (Pw B) := cell_row (h3.blk l.length (app2 (at_end _ _))) 0
  have HS := Lib.hid (do_ h3 (app3 HB.out) 440 (Pw LB) (.func 157) #[] #[Pw w2.heap.size, Pw XB])
  clear h3 y0 c5
  obtain ⟨VB, hV⟩ : ∃ VB, VB = w2.heap.size := ⟨_, rfl⟩
  rw [← hV] at x0 HS ⊢
  have HVB := Lib.hid hV
  clear hV
  generalize w2.alloc (.cells #[.iface 440 (Pw LB)] 314) = w3 at *
  go_wp2_with (go_at_call 100; refine HS.out.mono ?_; rintro e' w4 ⟨rfl, h4⟩)
  go_end0
  rw [List.append_assoc, List.append_assoc] at h4
  have h5 := h4.keep HLT.out
  exact ⟨rfl, XB, CB, LB, LX, VB, h5⟩
def Ck.holds (c : Ck) (u : Nat) : Bool := decide (u &&& c.all = c.all) && (decide (c.any = 0) || !decide (u &&& c.any = 0))
end
end Go.Proofs.YtieiiabbeglmfaaGreatDoor.S18
