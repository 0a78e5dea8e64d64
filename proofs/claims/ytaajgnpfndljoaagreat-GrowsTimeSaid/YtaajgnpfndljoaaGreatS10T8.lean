/- Grow. -/
import Derived.Test.YtaajgnpfndljoaaGreatS10T6
import Derived.Deep.RegionHeld3
set_option linter.unusedVariables false
set_option linter.unusedSimpArgs false
namespace Go.Proofs.YtaajgnpfndljoaaGreat.S10
open Go.Proofs.YtaajgnpfndljoaaGreat
open Go.RowKit

section
variable {w : World} {s : Value} {F : Int → Value} {M : Int → List Bk}
theorem grow_no (h : Rs w s F M) {fr tg : Int} (hf : InI fr) (ht : InI tg) (now : Int) (hno : M fr = [] ∨ tg ≤ fr ∨ 8 < tg ∨ M tg ≠ []) :
    Calls Tryz.prog 103 #[s, .int .i64 fr, .int .i64 tg, .int .u64 now] w fun e w' => e = .returned (.bool false) ∧ w = w' := by
  obtain ⟨A, c, V, h1, -⟩ := h.rd fr
  obtain ⟨A2, c2, V2, h2, -⟩ := h.rd tg
  have HF := has_any h.sv hf h1
  have HT := has_any h.sv ht h2
  by_cases e0 : M fr = []
  · rw [e0] at HF
    have hf0 : decide (0 < ([] : List Bk).length) = false := by decide
    rw [hf0] at HF
    have HF := Lib.hid HF
    clear h h1 h2 HT
    go_enter Tryz.func103, Tryz.ntmps103
    go_wp2_with (go_at_call 12; refine HF.out.mono ?_; rintro e w' ⟨rfl, rfl⟩)
    go_ret
    exact ⟨rfl, rfl⟩
  · have hf1 : decide (0 < (M fr).length) = true := by simpa using List.length_pos_iff.2 e0
    rw [hf1] at HF
    have HF := Lib.hid HF
    by_cases e1 : tg ≤ fr
    · have d1 : decide (tg ≤ fr) = true := by simpa using e1
      clear h h1 h2 HT
      go_enter Tryz.func103, Tryz.ntmps103
      go_wp2_with (go_at_call 12; refine HF.out.mono ?_; rintro e w' ⟨rfl, rfl⟩)
      go_ret
      exact ⟨rfl, rfl⟩
    · have d1 : decide (tg ≤ fr) = false := by simpa using e1
      by_cases e2 : 8 < tg
      · have d2 : decide (8 < tg) = true := by simpa using e2
        clear h h1 h2 HT
        go_enter Tryz.func103, Tryz.ntmps103
        go_wp2_with (go_at_call 12; refine HF.out.mono ?_; rintro e w' ⟨rfl, rfl⟩)
        go_ret
        exact ⟨rfl, rfl⟩
      · have d2 : decide (8 < tg) = false := by simpa using e2
        have e3 : M tg ≠ [] := by
          rcases hno with h | h | h | h
          · exact absurd h e0
          · exact absurd h e1
          · exact absurd h e2
          · exact h
        have hf2 : decide (0 < (M tg).length) = true := by simpa using List.length_pos_iff.2 e3
        rw [hf2] at HT
        have HT := Lib.hid HT
        clear h h1 h2
        go_enter Tryz.func103, Tryz.ntmps103
        go_wp2_with (first
          | (go_at_call 12; ((with_reducible refine HF.out.mono ?_)); rintro e w' ⟨rfl, rfl⟩)
          | (go_at_call 12; ((with_reducible refine HT.out.mono ?_)); rintro e w' ⟨rfl, rfl⟩))
        go_ret
        exact ⟨rfl, rfl⟩
end
open Classical in
/-- Who owns what, behind: some new blocks, some old ones let go. -/
theorem own_new (own : Nat → Option Role) (New : Nat → Role → Prop) (Drop : Nat → Prop) (X : Nat) (hfun : ∀ x r r', New x r → New x r' → r = r') (hnew : ∀ x r, New x r → X ≤ x) (hold : ∀ x r, own x = some r → x < X) :
    ∃ own' : Nat → Option Role, (∀ x r, New x r → own' x = some r) ∧ (∀ x r, own x = some r → ¬ Drop x → own' x = some r) ∧ (∀ x r, own' x = some r → own x = some r ∨ New x r) := by
  refine ⟨fun x => if h : ∃ r, New x r then some h.choose else if Drop x then none else own x, fun x r h => ?_, fun x r h hd => ?_, fun x r h => ?_⟩
  · have hx : ∃ r, New x r := ⟨r, h⟩
    dsimp only
    rw [dif_pos hx, hfun x _ _ hx.choose_spec h]
  · have hx : ¬ ∃ r, New x r := fun ⟨r', h'⟩ => by
      have := hnew x r' h'; have := hold x r h; omega
    dsimp only
    rw [dif_neg hx, if_neg hd, h]
  · dsimp only at h
    by_cases hx : ∃ r, New x r
    · rw [dif_pos hx] at h
      cases h
      exact .inr hx.choose_spec
    · rw [dif_neg hx] at h
      split at h
      · cases h
      · exact .inl h
section
variable {w : World} {base : Nat} {own : Nat → Option Role} {s : Value} {n : Nat} {M : Int → List Bk}
/-- What growing makes of the model. -/
def grown (M : Int → List Bk) (h : Nat → Nat) (N : Nat) (fr tg now : Int) : Int → List Bk :=
  upd (upd M fr (hollow (M fr))) tg (fresh now (reh h N ((M fr).map Bk.q).flatten))
set_option maxHeartbeats 4000000 in
set_option maxRecDepth 20000 in
theorem grow_yes (hst : St w base own s n M) {fr tg : Int} (hf : InI fr) (ht : InI tg) (now : Int) (h0 : M fr ≠ []) (h1 : fr < tg) (h2 : tg ≤ 8) (h3 : M tg = []) {N : Nat} {h : Nat → Nat} (K : Kit tg N h) (h0N : 0 < N)
    (hl : (M fr).length ≤ 256) (hkeys : Keys ((M fr).map Bk.q).flatten) (hfew : ((M fr).map Bk.q).flatten.length ≤ 100000) (hn9 : n < 1000000) :
    Calls Tryz.prog 103 #[s, .int .i64 fr, .int .i64 tg, .int .u64 now] w fun e w' => e = .returned (.bool true) ∧ ∃ own', St w' base own' s (n + 1) (grown M h N fr tg now) ∧ Turns (Mine own) w w' ∧ Fresh own own' w := by
  obtain ⟨sb, mb, F, V, H⟩ := hst
  obtain rfl := H.hs
  have hpos : 0 < (M fr).length := List.length_pos_iff.2 h0
  obtain ⟨g, o, c, hF, hog, -⟩ := H.bk (b := fr) (i := 0) hpos
  have HFR := has_any H.rs.sv hf hF
  obtain ⟨A2, c2, V2, hF2, -⟩ := H.rs.rd tg
  have HTO := has_any H.rs.sv ht hF2
  have hd0 : decide (0 < (M fr).length) = true := by simpa using hpos
  have hd1 : decide (0 < (M tg).length) = false := by rw [h3]; decide
  rw [hd0] at HFR
  rw [hd1] at HTO
  have HFR := Lib.hid HFR; have HTO := Lib.hid HTO
  have d1 : decide (tg ≤ fr) = false := by simpa using h1
  have d2 : decide (8 < tg) = false := by simpa using h2
  obtain ⟨m, hm⟩ : ∃ m, m = (M fr).length := ⟨_, rfl⟩
  obtain ⟨E, hE⟩ : ∃ E, E = ((M fr).map Bk.q).flatten := ⟨_, rfl⟩
  rw [← hm] at hF hl hpos
  have hgm : g ≠ mb := H.ne hog H.om (by simp)
  have hgs : g ≠ sb := H.ne hog H.os (by simp)
  have hms : mb ≠ sb := H.ne H.om H.os (by simp)
  have hglt := (H.fp g _ hog).2
  have hmlt := (H.fp mb _ H.om).2
  have hslt := (H.fp sb _ H.os).2
  -- what is held
  have hS0 : ((w.drew.cell? ⟨sb, 0, none⟩ = some (.map (some mb)) ∧ (Instr.lookup 96 (.map (some mb)) (.int .i64 fr) false).run Tryz.prog w.drew = .ok (.slice (some ⟨g, o, none⟩) m c) w.drew)) := ⟨cell_row H.hc 0, by
    have := MapAt.look (w := w.drew) (mb := mb) (n := n) (F := F) (H.hm.keep (Turns.refl (fun _ => False) w).drew (fun h => h)) hf
    rw [hF] at this
    exact this⟩
  have hSw : ∀ w', Turns (fun x => x = g) w.drew w' → w'.cell? ⟨sb, 0, none⟩ = some (.map (some mb)) ∧ MapAt w' mb n F := fun w' t =>
    ⟨(t.cell (g := sb) (o := 0) hslt (fun e => hgs e.symm)).trans (cell_row H.hc 0), (H.hm.keep (Turns.refl (fun _ => False) w).drew (fun h => h)).keep t (fun e => hgm e.symm)⟩
  have HS1 : Hid (∀ w', Turns (fun x => x = g) w.drew w' → ((w'.cell? ⟨sb, 0, none⟩ = some (.map (some mb)) ∧ (Instr.lookup 96 (.map (some mb)) (.int .i64 fr) false).run Tryz.prog w' = .ok (.slice (some ⟨g, o, none⟩) m c) w'))) := Lib.hid fun w' t => ⟨(hSw w' t).1, by have := (hSw w' t).2.look hf; rwa [hF] at this⟩
  have hbelow : ∀ w1 w2, Turns (fun x => x = g) w.drew w1 → Below w1.heap.size w1 w2 → Turns (fun x => x = g) w.drew w2 := fun w1 w2 t b => t.trans (Turns.of_below (S := fun x => x = g) b) (fun k _ e => e)
  have HS2 : Hid (∀ w1 w2, Turns (fun x => x = g) w.drew w1 → Below w1.heap.size w1 w2 → ((w2.cell? ⟨sb, 0, none⟩ = some (.map (some mb)) ∧ (Instr.lookup 96 (.map (some mb)) (.int .i64 fr) false).run Tryz.prog w2 = .ok (.slice (some ⟨g, o, none⟩) m c) w2))) := Lib.hid fun w1 w2 t b => HS1.out w2 (hbelow w1 w2 t b)
  have HS3 : Hid (∀ w1 w2 w3, Turns (fun x => x = g) w.drew w1 → Below w1.heap.size w1 w2 → Below w2.heap.size w2 w3 → MapAt w3 mb n F ∧ ((w3.cell? ⟨sb, 0, none⟩ = some (.map (some mb)) ∧ (Instr.lookup 96 (.map (some mb)) (.int .i64 fr) false).run Tryz.prog w3 = .ok (.slice (some ⟨g, o, none⟩) m c) w3))) := Lib.hid fun w1 w2 w3 t b b' => ⟨(hSw w3 (hbelow w2 w3 (hbelow w1 w2 t b) b')).2, HS1.out w3 (hbelow w2 w3 (hbelow w1 w2 t b) b')⟩
  have HS4 : Hid (∀ w1 w2 w3 w4 (v : Value), Turns (fun x => x = g) w.drew w1 → Below w1.heap.size w1 w2 → Below w2.heap.size w2 w3 → MapAt w4 mb (n + 1) (upd F tg v) → w3.grownBy w4 (some mb) → ((w4.cell? ⟨sb, 0, none⟩ = some (.map (some mb)) ∧ (Instr.lookup 96 (.map (some mb)) (.int .i64 fr) false).run Tryz.prog w4 = .ok (.slice (some ⟨g, o, none⟩) m c) w4))) := Lib.hid fun w1 w2 w3 w4 v t b b' hm4 hg4 => by
    have t3 := hbelow w2 w3 (hbelow w1 w2 t b) b'
    refine ⟨((grown_turns hg4).cell (g := sb) (o := 0) (Nat.lt_of_lt_of_le hslt t3.size) (fun e => hms (by simpa using e))).trans (hSw w3 t3).1, ?_⟩
    have := hm4.look hf
    rwa [upd_ne _ _ (by omega), hF] at this
  -- the calls
  have hVs : ∀ i, i < m → ∃ A' q c', V fr i = .slice A' q c' := fun i hi => by
    obtain ⟨A', c', e, _⟩ := (H.hq fr i (by omega)).shape
    exact ⟨A', _, c', e⟩
  have hrow := H.ht fr
  rw [hF, ← hm] at hrow
  have HE := Lib.hid (emptied_any (w := w.drew) hrow.drew hm.symm hVs (by omega))
  have HRE : Hid (∀ w1 g2, g2 < w1.heap.size → Lies w1 g2 0 ((List.range m).map (V fr)) → Turns (fun x => x = g) w.drew w1 → Calls Tryz.prog 105 #[.slice (some ⟨g2, 0, none⟩) m m, .int .i64 tg] w1 fun e w' => ∃ s ss, e = .returned s ∧ Tab w' w1.heap.size s ss (reh h N E) ∧ (∀ i, i < N → ∃ A' m, ss[i]? = some (.slice A' m m)) ∧ Below w1.heap.size w1 w') := Lib.hid fun w1 g2 hg2 hl2 t => by
    have hq : Qs w1 w1.heap.size (some ⟨g2, 0, none⟩) ((M fr).map Bk.q) := by
      refine ⟨(List.range m).map (V fr), by simp [hm], fun _ => ⟨g2, 0, rfl, hg2, hl2⟩, fun i hi => ?_⟩
      rw [List.length_map] at hi
      have hqi := (H.hq fr i hi).keep ((Turns.refl (fun x => x = g) w).drew.trans t (fun _ _ e => e)) (fun x e e2 => H.ne (H.oq fr i x hi e) hog (by simp) e2)
      obtain ⟨A', c', e, k1, k2⟩ := hqi.shape
      have e3 : ((M fr).map Bk.q)[i]! = (M fr)[i]!.q := by
        rw [getElem!_pos _ i (by rw [List.length_map]; exact hi), getElem!_pos _ i hi]
        simp
      rw [e3]
      refine ⟨A', c', by rw [List.getElem?_map, List.getElem?_range (by omega)]; exact congrArg some e, k1, k2, ?_⟩
      rw [e] at hqi
      exact hqi.rd
    have := rehash_all (c := m) K h0N hq (Nat.le_refl _) (by rw [List.length_map]; omega) (by omega) hkeys (by rw [List.length_map]; omega) hfew
    rw [List.length_map, ← hm, ← hE] at this
    exact this
  have HBE : Hid (∀ w2 A2 c2 ss, Tab w2 (w2.heap.size) (.slice A2 (reh h N E).length c2) ss (reh h N E) → True) := Lib.hid fun _ _ _ _ _ => trivial
  have HH := Lib.hid H; have HM := Lib.hid hm; have HOG := Lib.hid hog; have HF0 := Lib.hid hF
  clear HBE
  have HBE : Hid (∀ w2 b2 A2 c2 ss, Tab w2 b2 (.slice A2 (reh h N E).length c2) ss (reh h N E) → (∀ i, i < N → ∃ A' m, ss[i]? = some (.slice A' m m)) → Calls Tryz.prog 33 #[.slice A2 N c2, .int .u64 now] w2 fun e w' => ∃ g, e = .returned (.slice (some ⟨g, 0, none⟩) N N) ∧ w2.heap.size ≤ g ∧ Row w' w2.heap.size 3 (.slice (some ⟨g, 0, none⟩) N N) N (bflat (fresh now (reh h N E)) (fun i => (ss[i]?).getD nilS)) ∧ Below w2.heap.size w2 w') := Lib.hid fun w2 b2 A2 c2 ss htab hss => by
    refine begun_any (reh h N E) now htab.row.rd (Nat.le_refl _) (by rw [htab.len, reh_len]) (reh_len _ _ _) (fun i hi => ?_) (by have := K.few; omega)
    obtain ⟨A', m, e⟩ := hss i hi
    exact ⟨A', m, m, e⟩
  clear hrow hVs hSw hbelow hm hog hF H
  have hS0' := hS0
  have ht9 := ht
  go_enter Tryz.func103, Tryz.ntmps103
  go_upto_region 3 with (first
    | (go_at_call 12; ((with_reducible refine HFR.out.mono ?_)); rintro e w' ⟨rfl, rfl⟩)
    | (go_at_call 12; ((with_reducible refine HTO.out.mono ?_)); rintro e w' ⟨rfl, rfl⟩))
  refine wp_region_held_drew (S := fun w' => w'.cell? ⟨sb, 0, none⟩ = some (.map (some mb)) ∧ (Instr.lookup 96 (.map (some mb)) (.int .i64 fr) false).run Tryz.prog w' = .ok (.slice (some ⟨g, o, none⟩) m c) w') (by kernel_rfl) ?_ (fun hHeld => ?_)
  · exact hS0'
  refine wpAnyH_take (i := 0) (oi := ({ dst := some 27, op := Op.move (Operand.tmp 0), type := 30, pos := "tables.go:85", after := #[], guard := none } : Oper)) (v := ?v0) rfl (by kernel_rfl) (by kernel_rfl) (by kernel_rfl) (fun _ _ _ h => h) (Or.inl ⟨by rfl, fun w hSw => ?hy0⟩) (by assumption) ?r0
  case hy0 => (try dsimp only at hSw); go_simp; (try with_reducible rfl)
  (try simp only [Act.put, List.setIfInBounds_toArray, List.set_cons_zero, List.set_cons_succ])
  refine wpAnyH_take (i := 1) (oi := ({ dst := some 28, op := Op.nilCheck (Operand.tmp 27), type := 0, pos := "tables.go:85", after := #[{ on := 0, ground := Ground.data }], guard := none } : Oper)) (v := ?v1) rfl (by kernel_rfl) (by kernel_rfl) (by kernel_rfl) (fun _ _ _ h => h) (Or.inl ⟨by rfl, fun w hSw => ?hy1⟩) (by assumption) ?r1
  case hy1 => (try dsimp only at hSw); go_simp; (try with_reducible rfl)
  (try simp only [Act.put, List.setIfInBounds_toArray, List.set_cons_zero, List.set_cons_succ])
  refine wpAnyH_take (i := 2) (oi := ({ dst := some 29, op := Op.fieldAddr 98 (Operand.tmp 28) 0, type := 0, pos := "tables.go:85", after := #[{ on := 1, ground := Ground.data }], guard := none } : Oper)) (v := ?v2) rfl (by kernel_rfl) (by kernel_rfl) (by kernel_rfl) (fun _ _ _ h => h) (Or.inl ⟨by rfl, fun w hSw => ?hy2⟩) (by assumption) ?r2
  case hy2 => (try dsimp only at hSw); go_simp; (try with_reducible rfl)
  (try simp only [Act.put, List.setIfInBounds_toArray, List.set_cons_zero, List.set_cons_succ])
  refine wpAnyH_take (i := 3) (oi := ({ dst := some 30, op := Op.load 96 (Operand.tmp 29), type := 96, pos := "tables.go:85", after := #[{ on := 2, ground := Ground.data }], guard := none } : Oper)) (v := ?v3) rfl (by kernel_rfl) (by kernel_rfl) (by kernel_rfl) (fun _ _ _ h => h) (Or.inl ⟨by rfl, fun w hSw => ?hy3⟩) (by assumption) ?r3
  case hy3 => (try dsimp only at hSw); go_simp; (try with_reducible rfl)
  (try simp only [Act.put, List.setIfInBounds_toArray, List.set_cons_zero, List.set_cons_succ])
  refine wpAnyH_take (i := 4) (oi := ({ dst := some 31, op := Op.move (Operand.tmp 2), type := 3, pos := "tables.go:85", after := #[], guard := none } : Oper)) (v := ?v4) rfl (by kernel_rfl) (by kernel_rfl) (by kernel_rfl) (fun _ _ _ h => h) (Or.inl ⟨by rfl, fun w hSw => ?hy4⟩) (by assumption) ?r4
  case hy4 => (try dsimp only at hSw); go_simp; (try with_reducible rfl)
  (try simp only [Act.put, List.setIfInBounds_toArray, List.set_cons_zero, List.set_cons_succ])
  refine wpAnyH_take (i := 5) (oi := ({ dst := some 32, op := Op.move (Operand.tmp 0), type := 30, pos := "tables.go:85", after := #[], guard := none } : Oper)) (v := ?v5) rfl (by kernel_rfl) (by kernel_rfl) (by kernel_rfl) (fun _ _ _ h => h) (Or.inl ⟨by rfl, fun w hSw => ?hy5⟩) (by assumption) ?r5
  case hy5 => (try dsimp only at hSw); go_simp; (try with_reducible rfl)
  (try simp only [Act.put, List.setIfInBounds_toArray, List.set_cons_zero, List.set_cons_succ])
  refine wpAnyH_take (i := 6) (oi := ({ dst := some 33, op := Op.nilCheck (Operand.tmp 32), type := 0, pos := "tables.go:85", after := #[{ on := 5, ground := Ground.data }], guard := none } : Oper)) (v := ?v6) rfl (by kernel_rfl) (by kernel_rfl) (by kernel_rfl) (fun _ _ _ h => h) (Or.inl ⟨by rfl, fun w hSw => ?hy6⟩) (by assumption) ?r6
  case hy6 => (try dsimp only at hSw); go_simp; (try with_reducible rfl)
  (try simp only [Act.put, List.setIfInBounds_toArray, List.set_cons_zero, List.set_cons_succ])
  refine wpAnyH_take (i := 7) (oi := ({ dst := some 34, op := Op.fieldAddr 98 (Operand.tmp 33) 0, type := 0, pos := "tables.go:85", after := #[{ on := 6, ground := Ground.data }], guard := none } : Oper)) (v := ?v7) rfl (by kernel_rfl) (by kernel_rfl) (by kernel_rfl) (fun _ _ _ h => h) (Or.inl ⟨by rfl, fun w hSw => ?hy7⟩) (by assumption) ?r7
  case hy7 => (try dsimp only at hSw); go_simp; (try with_reducible rfl)
  (try simp only [Act.put, List.setIfInBounds_toArray, List.set_cons_zero, List.set_cons_succ])
  refine wpAnyH_take (i := 8) (oi := ({ dst := some 35, op := Op.load 96 (Operand.tmp 34), type := 96, pos := "tables.go:85", after := #[{ on := 7, ground := Ground.data }], guard := none } : Oper)) (v := ?v8) rfl (by kernel_rfl) (by kernel_rfl) (by kernel_rfl) (fun _ _ _ h => h) (Or.inl ⟨by rfl, fun w hSw => ?hy8⟩) (by assumption) ?r8
  case hy8 => (try dsimp only at hSw); go_simp; (try with_reducible rfl)
  (try simp only [Act.put, List.setIfInBounds_toArray, List.set_cons_zero, List.set_cons_succ])
  refine wpAnyH_take (i := 9) (oi := ({ dst := some 36, op := Op.move (Operand.tmp 1), type := 3, pos := "tables.go:85", after := #[], guard := none } : Oper)) (v := ?v9) rfl (by kernel_rfl) (by kernel_rfl) (by kernel_rfl) (fun _ _ _ h => h) (Or.inl ⟨by rfl, fun w hSw => ?hy9⟩) (by assumption) ?r9
  case hy9 => (try dsimp only at hSw); go_simp; (try with_reducible rfl)
  (try simp only [Act.put, List.setIfInBounds_toArray, List.set_cons_zero, List.set_cons_succ])
  refine wpAnyH_take (i := 10) (oi := ({ dst := some 37, op := Op.lookup 96 (Operand.tmp 35) (Operand.tmp 36) false, type := 80, pos := "tables.go:85", after := #[{ on := 8, ground := Ground.data }, { on := 9, ground := Ground.data }], guard := none } : Oper)) (v := ?v10) rfl (by kernel_rfl) (by kernel_rfl) (by kernel_rfl) (fun _ _ _ h => h) (Or.inl ⟨by rfl, fun w hSw => ?hy10⟩) (by assumption) ?r10
  case hy10 => (try dsimp only at hSw); go_simp; (try with_reducible rfl)
  (try simp only [Act.put, List.setIfInBounds_toArray, List.set_cons_zero, List.set_cons_succ])
  refine wpAnyH_take (i := 12) (oi := ({ dst := some 39, op := Op.move (Operand.tmp 2), type := 3, pos := "tables.go:85", after := #[], guard := none } : Oper)) (v := ?v12) rfl (by kernel_rfl) (by kernel_rfl) (by kernel_rfl) (fun _ _ _ h => h) (Or.inl ⟨by rfl, fun w hSw => ?hy12⟩) (by assumption) ?r12
  case hy12 => (try dsimp only at hSw); go_simp; (try with_reducible rfl)
  (try simp only [Act.put, List.setIfInBounds_toArray, List.set_cons_zero, List.set_cons_succ])
  refine wpAnyH_take (i := 14) (oi := ({ dst := some 41, op := Op.move (Operand.tmp 3), type := 25, pos := "tables.go:85", after := #[], guard := none } : Oper)) (v := ?v14) rfl (by kernel_rfl) (by kernel_rfl) (by kernel_rfl) (fun _ _ _ h => h) (Or.inl ⟨by rfl, fun w hSw => ?hy14⟩) (by assumption) ?r14
  case hy14 => (try dsimp only at hSw); go_simp; (try with_reducible rfl)
  (try simp only [Act.put, List.setIfInBounds_toArray, List.set_cons_zero, List.set_cons_succ])
  refine wpAnyH_ready (rs := [11]) (by kernel_rfl) (by simp) ?_
  refine AllReadyH.cons (o := ({ dst := some 38, op := Op.call { callee := Callee.value (Operand.func 106), args := #[Operand.tmp 37], argTypes := #[80] }, type := 117, pos := "tables.go:85", after := #[{ on := 10, ground := Ground.data }], guard := none } : Oper)) rfl (fun Kq hKq => ?_) AllReadyH.nil
  go_simp
  (refine HE.out.mono ?_; rintro e w1 ⟨g2, rfl, hg2, hg2l, hl2, hr1, ht1⟩; (have HRE2 := Lib.hid (HRE.out w1 g2 hg2l hl2 ht1)); (have HL2 := Lib.hid hl2); (have HR1 := Lib.hid hr1); (have HT1 := Lib.hid ht1); (clear hl2 hr1))
  refine hKq.out _ _ ?_ (fun hHeld => ?_)
  · exact HS1.out w1 ht1
  clear hKq Kq
  (try simp only [Act.put, List.setIfInBounds_toArray, List.set_cons_zero, List.set_cons_succ])
  refine wpAnyH_ready (rs := [13]) (by kernel_rfl) (by simp) ?_
  refine AllReadyH.cons (o := ({ dst := some 40, op := Op.call { callee := Callee.value (Operand.func 105), args := #[Operand.tmp 38, Operand.tmp 39], argTypes := #[117, 3] }, type := 117, pos := "tables.go:85", after := #[{ on := 11, ground := Ground.data }, { on := 12, ground := Ground.data }, { on := 11, ground := Ground.chain }], guard := none } : Oper)) rfl (fun Kq hKq => ?_) AllReadyH.nil
  go_simp
  (refine HRE2.out.mono ?_; rintro e w2 ⟨s2, ss, rfl, htab, hss, hb2⟩; (obtain ⟨A2, c2, rfl, hc2, hc29⟩ := htab.shape); (rw [reh_len]); (have HTAB := Lib.hid htab); (have HSS := Lib.hid hss); (have HB2 := Lib.hid hb2); (have HBG := Lib.hid (HBE.out w2 w1.heap.size A2 c2 ss htab hss)); (clear htab hss hc2 hc29))
  refine hKq.out _ _ ?_ (fun hHeld => ?_)
  · exact HS2.out w1 w2 HT1.out hb2
  clear hKq Kq
  (try simp only [Act.put, List.setIfInBounds_toArray, List.set_cons_zero, List.set_cons_succ])
  refine wpAnyH_ready (rs := [15]) (by kernel_rfl) (by simp) ?_
  refine AllReadyH.cons (o := ({ dst := some 42, op := Op.call { callee := Callee.value (Operand.func 33), args := #[Operand.tmp 40, Operand.tmp 41], argTypes := #[117, 25] }, type := 80, pos := "tables.go:85", after := #[{ on := 13, ground := Ground.data }, { on := 14, ground := Ground.data }, { on := 13, ground := Ground.chain }], guard := none } : Oper)) rfl (fun Kq hKq => ?_) AllReadyH.nil
  go_simp
  (refine HBG.out.mono ?_; rintro e w3 ⟨g3, rfl, hg3, hr3, hb3⟩; (have HR3 := Lib.hid hr3); (have HB3 := Lib.hid hb3); (have HG3 := Lib.hid hg3); (obtain ⟨hm3, hs3⟩ := HS3.out w1 w2 w3 HT1.out HB2.out hb3); (clear hr3 hg3))
  refine hKq.out _ _ ?_ (fun hHeld => ?_)
  · exact hs3
  clear hKq Kq
  (try simp only [Act.put, List.setIfInBounds_toArray, List.set_cons_zero, List.set_cons_succ])
  refine wpAnyH_ready (rs := [16]) (by kernel_rfl) (by simp) ?_
  refine AllReadyH.cons (o := ({ dst := none, op := Op.mapUpdate 96 (Operand.tmp 30) (Operand.tmp 31) (Operand.tmp 42), type := 0, pos := "tables.go:85", after := #[{ on := 3, ground := Ground.data }, { on := 4, ground := Ground.data }, { on := 15, ground := Ground.data }, { on := 15, ground := Ground.chain }, { on := 0, ground := Ground.phase }, { on := 1, ground := Ground.phase }, { on := 2, ground := Ground.phase }, { on := 3, ground := Ground.phase }, { on := 4, ground := Ground.phase }, { on := 5, ground := Ground.phase }, { on := 6, ground := Ground.phase }, { on := 7, ground := Ground.phase }, { on := 8, ground := Ground.phase }, { on := 9, ground := Ground.phase }, { on := 10, ground := Ground.phase }, { on := 11, ground := Ground.phase }, { on := 12, ground := Ground.phase }, { on := 13, ground := Ground.phase }, { on := 14, ground := Ground.phase }, { on := 15, ground := Ground.phase }], guard := none } : Oper)) rfl (fun Kq hKq => ?_) AllReadyH.nil
  (obtain ⟨w4, hrun, hm4, hg4⟩ := hm3.put hn9 ht9 (.slice (some ⟨g3, 0, none⟩) N N)); go_simp
  refine hKq.out _ _ ?_ (fun hHeld => ?_)
  · exact HS4.out w1 w2 w3 w4 _ HT1.out HB2.out HB3.out hm4 hg4
  clear hKq Kq
  (try simp only [Act.put, List.setIfInBounds_toArray, List.set_cons_zero, List.set_cons_succ])
  refine wpAnyH_done (by kernel_rfl) ?_ _
  have HM4 := Lib.hid hm4; have HG4 := Lib.hid hg4
  clear hm4 hg4 hHeld hrun hm3 hs3 ht1
  go_wp2_with fail
  go_ret
  refine ⟨rfl, ?_⟩
  have H := HH.out
  have hog := HOG.out; have hm := HM.out; have hF := HF0.out
  -- the worlds, one behind the other
  have t1 : Turns (fun x => x = g ∨ x = mb) w1 w1 := Turns.refl _ _
  have t01 : Turns (fun x => x = g) w w1 := (Turns.refl (fun x => x = g) w).drew.trans HT1.out (fun _ _ e => e)
  have b13 : Below w1.heap.size w1 w3 := HB2.out.trans (HB3.out.mono HB2.out.size)
  have g34 := grown_turns HG4.out
  have t14 : Turns (fun x => some mb = some x) w1 w4 := (Turns.of_below b13).trans g34 (fun _ _ e => e)
  have t24 : Turns (fun x => some mb = some x) w2 w4 := (Turns.of_below HB3.out).trans g34 (fun _ _ e => e)
  have t04 : Turns (fun x => x = g ∨ x = mb) w w4 := (t01.mono (fun _ _ e => .inl e)).trans t14 (fun _ _ e => .inr (by simpa using e.symm))
  have s01 := t01.size; have s12 := HB2.out.size; have s23 := HB3.out.size; have s34 := g34.size
  have hg3 := HG3.out
  have htab := HTAB.out
  have hss := HSS.out
  have hg3l := (HR3.out.lt g3 rfl).2
  have hsl : ∀ (i : Nat) (v : Value) (x : Nat), ss[i]? = some v → v.ownBlock = some x → w1.heap.size ≤ x ∧ x < w2.heap.size := fun i v x hv e => htab.lt hv e
  let New : Nat → Role → Prop := fun x r => (x = g3 ∧ r = .tab tg) ∨ ∃ i v, ss[i]? = some v ∧ v.ownBlock = some x ∧ r = .q tg i
  have hfun : ∀ x r r', New x r → New x r' → r = r' := fun x r r' h h' => by
    rcases h with ⟨rfl, rfl⟩ | ⟨i, v, hv, e, rfl⟩
    · rcases h' with ⟨_, rfl⟩ | ⟨i, v, hv, e, rfl⟩
      · rfl
      · have := hsl i v x hv e; omega
    · rcases h' with ⟨rfl, rfl⟩ | ⟨j, v', hv', e', rfl⟩
      · have := hsl i v x hv e; omega
      · rw [htab.apart i j v v' x hv hv' e e']
  have hnew : ∀ x r, New x r → w.heap.size ≤ x := fun x r h => by
    rcases h with ⟨rfl, rfl⟩ | ⟨i, v, hv, e, rfl⟩
    · omega
    · have := hsl i v x hv e; omega
  obtain ⟨own', o1, o2, o3⟩ := own_new own New (fun x => ∃ i, own x = some (.q fr i)) w.heap.size hfun hnew (fun x r e => (H.fp x r e).2)
  have hkeep : ∀ x r, own x = some r → (∀ i, r ≠ .q fr i) → own' x = some r := fun x r e hr => o2 x r e (fun ⟨i, hi⟩ => hr i (by rw [e] at hi; simpa using hi))
  have hMt : grown M h N fr tg now tg = fresh now (reh h N E) := by unfold grown; rw [upd_same, hE]
  have hMf : grown M h N fr tg now fr = hollow (M fr) := by unfold grown; rw [upd_ne _ _ (by omega), upd_same]
  have hMo : ∀ b, b ≠ tg → b ≠ fr → grown M h N fr tg now b = M b := fun b e1 e2 => by unfold grown; rw [upd_ne _ _ e1, upd_ne _ _ e2]
  refine ⟨own', ⟨sb, mb, upd F tg (.slice (some ⟨g3, 0, none⟩) N N), upd (upd V fr (fun _ => nilS)) tg (fun i => (ss[i]?).getD nilS), ?_⟩, t04.mono (fun x _ e => by rcases e with rfl | rfl; exact ⟨_, hog⟩; exact ⟨_, H.om⟩), fun x r e => by
    rcases o3 x r e with h' | h'
    · exact .inl ⟨r, h'⟩
    · exact .inr (hnew x r h')⟩
  refine ⟨fun x r e => ?_, rfl, (t04.block sb hslt (by omega)).trans H.hc, hkeep sb _ H.os (by simp), HM4.out, hkeep mb _ H.om (by simp), fun b => ?_, fun b x e => ?_, fun b i hi => ?_, fun b i x hi e => ?_⟩
  · rcases o3 x r e with h' | h'
    · have := H.fp x r h'; omega
    · have hb := (H.fp sb _ H.os)
      rcases h' with ⟨rfl, rfl⟩ | ⟨i, v, hv, e', rfl⟩
      · omega
      · have := hsl i v x hv e'; omega
  · by_cases e1 : b = tg
    · subst e1
      rw [upd_same, upd_same, hMt, fresh_len, reh_len]
      exact (HR3.out.keep g34 (fun x e e2 => by simp [Value.ownBlock] at e; simp at e2; omega)).base (Nat.zero_le _)
    · rw [upd_ne _ _ e1, upd_ne _ _ e1]
      by_cases e2 : b = fr
      · subst e2
        rw [upd_same, hMf, hollow_len, hF, ← hm]
        exact HR1.out.keep t14 (fun x e e2 => by simp [Value.ownBlock] at e; simp at e2; omega)
      · rw [upd_ne _ _ e2, hMo b e1 e2]
        exact (H.ht b).keep t04 (fun x e e3 => by
          rcases e3 with rfl | rfl
          · exact H.ne (H.ot b x e) hog (by simp; exact e2) rfl
          · exact H.ne (H.ot b x e) H.om (by simp) rfl)
  · by_cases e1 : b = tg
    · subst e1
      rw [upd_same] at e
      exact o1 x _ (.inl ⟨by simpa [Value.ownBlock] using e.symm, rfl⟩)
    · rw [upd_ne _ _ e1] at e
      exact hkeep x _ (H.ot b x e) (by simp)
  · by_cases e1 : b = tg
    · subst e1
      rw [hMt, fresh_len, reh_len] at hi
      rw [upd_same, hMt, fresh_at _ _ (by rw [reh_len]; exact hi)]
      obtain ⟨v, hv, hr, _⟩ := htab.qs i (by rw [reh_len]; exact hi)
      rw [hv]
      exact (hr.keep t24 (fun x e e2 => by have := hsl i v x hv e; simp at e2; omega)).base (Nat.zero_le _)
    · rw [upd_ne _ _ e1]
      by_cases e2 : b = fr
      · subst e2
        rw [hMf, hollow_len] at hi
        rw [upd_same, hMf, hollow_at _ hi]
        exact row_nil _ _ _
      · rw [hMo b e1 e2] at hi ⊢
        rw [upd_ne _ _ e2]
        exact (H.hq b i hi).keep t04 (fun x e e3 => by
          rcases e3 with rfl | rfl
          · exact H.ne (H.oq b i x hi e) hog (by simp) rfl
          · exact H.ne (H.oq b i x hi e) H.om (by simp) rfl)
  · by_cases e1 : b = tg
    · subst e1
      rw [hMt, fresh_len, reh_len] at hi
      rw [upd_same] at e
      obtain ⟨v, hv, hr, _⟩ := htab.qs i (by rw [reh_len]; exact hi)
      rw [hv] at e
      exact o1 x _ (.inr ⟨i, v, hv, e, rfl⟩)
    · rw [upd_ne _ _ e1] at e
      by_cases e2 : b = fr
      · subst e2
        rw [upd_same] at e
        simp [Value.ownBlock] at e
      · rw [hMo b e1 e2] at hi
        rw [upd_ne _ _ e2] at e
        exact hkeep x _ (H.oq b i x hi e) (by simp; exact e2)
end
end Go.Proofs.YtaajgnpfndljoaaGreat.S10
