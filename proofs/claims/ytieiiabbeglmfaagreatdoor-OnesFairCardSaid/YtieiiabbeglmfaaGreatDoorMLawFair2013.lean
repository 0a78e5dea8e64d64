/- Texts of this seat, one behind the other. -/
import Derived.Test.YtieiiabbeglmfaaGreatDoorMLawFair2012
import Derived.Deep.RegionHeld3
set_option linter.unusedVariables false
set_option linter.unusedSimpArgs false
set_option linter.unusedVariables false
set_option linter.unusedSimpArgs false
namespace Go.Proofs.YtieiiabbeglmfaaGreatDoor.S10
set_option maxRecDepth 100000
set_option maxHeartbeats 16000000
open Go.Proofs.YtieiiabbeglmfaaGreatDoor
open Go.RowKit
theorem keep3 {w w' : World} {base g o : Nat} {d : Ent} (hb : Below base w w') (hg : g < base) (h : w.cell? ⟨g, o, none⟩ = some (.int .i64 d.t) ∧ w.cell? ⟨g, o + 1, none⟩ = some (.int .u32 d.k) ∧ w.cell? ⟨g, o + 2, none⟩ = some (.int .u64 d.z)) :
    w'.cell? ⟨g, o, none⟩ = some (.int .i64 d.t) ∧ w'.cell? ⟨g, o + 1, none⟩ = some (.int .u32 d.k) ∧ w'.cell? ⟨g, o + 2, none⟩ = some (.int .u64 d.z) :=
  ⟨(hb.cell (by exact hg)).trans h.1, (hb.cell (by exact hg)).trans h.2.1, (hb.cell (by exact hg)).trans h.2.2⟩
end Go.Proofs.YtieiiabbeglmfaaGreatDoor.S10
namespace Go.Proofs.YtieiiabbeglmfaaGreatDoor.S10
set_option maxRecDepth 100000
set_option maxHeartbeats 16000000
open Go.Proofs.YtieiiabbeglmfaaGreatDoor
open Go.RowKit
structure Bk where
  a : Int
  f : Int
  q : List Ent
instance : Inhabited Bk := ⟨⟨0, 0, []⟩⟩
abbrev nilS : Value := .slice none 0 0
def bcell (L : List Bk) (V : Nat → Value) (j : Nat) : Value :=
  if j % 3 = 0 then .int .u64 L[j / 3]!.a else if j % 3 = 1 then .int .u64 L[j / 3]!.f else V (j / 3)
def bflat (L : List Bk) (V : Nat → Value) : List Value := (List.range (L.length * 3)).map (bcell L V)
theorem bflat_len (L : List Bk) (V : Nat → Value) : (bflat L V).length = L.length * 3 := by simp [bflat]
theorem bflat_at (L : List Bk) (V : Nat → Value) {j : Nat} (h : j < L.length * 3) : (bflat L V)[j]? = some (bcell L V j) := by simp [bflat, h]
theorem bflat_get (L : List Bk) (V : Nat → Value) {i : Nat} (h : i < L.length) : (bflat L V)[i * 3]? = some (.int .u64 L[i]!.a) ∧ (bflat L V)[i * 3 + 1]? = some (.int .u64 L[i]!.f) ∧ (bflat L V)[i * 3 + 2]? = some (V i) := by
  refine ⟨?_, ?_, ?_⟩
  · rw [bflat_at L V (by omega)]
    simp [bcell]
  · rw [bflat_at L V (by omega)]
    simp [bcell, Nat.add_mod, show (i * 3 + 1) / 3 = i by omega]
  · rw [bflat_at L V (by omega)]
    simp [bcell, Nat.add_mod, show (i * 3 + 2) / 3 = i by omega]
def upd {α β : Type} [DecidableEq α] (f : α → β) (x : α) (y : β) : α → β := fun z => if z = x then y else f z
theorem upd_same {α β : Type} [DecidableEq α] (f : α → β) (x : α) (y : β) : upd f x y x = y := by simp [upd]
theorem upd_ne {α β : Type} [DecidableEq α] (f : α → β) {x z : α} (y : β) (h : z ≠ x) : upd f x y z = f z := by simp [upd, h]
theorem bflat_ext {L L' : List Bk} {V V' : Nat → Value} {cs : List Value} (hl : cs.length = L'.length * 3) (h : ∀ j, j < L'.length * 3 → cs[j]? = some (bcell L' V' j)) : cs = bflat L' V' := by
  refine List.ext_getElem? fun j => ?_
  by_cases hj : j < L'.length * 3
  · rw [h j hj, bflat_at L' V' hj]
  · rw [List.getElem?_eq_none (by omega), List.getElem?_eq_none (by rw [bflat_len]; omega)]
theorem bflat_q (L : List Bk) (V : Nat → Value) {i : Nat} (h : i < L.length) (v : Value) (q : List Ent) : (bflat L V).set (i * 3 + 2) v = bflat (L.set i { L[i]! with q := q }) (upd V i v) := by
  refine bflat_ext (L := L) (V := V) (by rw [List.length_set, List.length_set, bflat_len]) fun j hj => ?_
  rw [List.length_set] at hj
  unfold bcell
  rw [get_set h]
  by_cases e : j = i * 3 + 2
  · subst e
    rw [List.getElem?_set_self (by rw [bflat_len]; omega)]
    simp [Nat.add_mod, show (i * 3 + 2) / 3 = i by omega, upd_same]
  · rw [List.getElem?_set_ne (fun e' => e e'.symm), bflat_at L V hj]
    unfold bcell
    by_cases e2 : j / 3 = i
    · subst e2
      have : j % 3 ≠ 2 := fun e3 => e (by omega)
      by_cases e4 : j % 3 = 0
      · simp [e4]
      · simp [show j % 3 = 1 by omega]
    · rw [if_neg e2, upd_ne V v e2]
theorem bflat_a (L : List Bk) (V : Nat → Value) {i : Nat} (h : i < L.length) (a : Int) : (bflat L V).set (i * 3) (.int .u64 a) = bflat (L.set i { L[i]! with a := a }) V := by
  refine bflat_ext (L := L) (V := V) (by rw [List.length_set, List.length_set, bflat_len]) fun j hj => ?_
  rw [List.length_set] at hj
  unfold bcell
  rw [get_set h]
  by_cases e : j = i * 3
  · subst e
    rw [List.getElem?_set_self (by rw [bflat_len]; omega)]
    simp
  · rw [List.getElem?_set_ne (fun e' => e e'.symm), bflat_at L V hj]
    unfold bcell
    by_cases e2 : j / 3 = i
    · subst e2
      have : j % 3 ≠ 0 := fun e3 => e (by omega)
      by_cases e4 : j % 3 = 1
      · simp [e4]
      · simp [show j % 3 = 2 by omega]
    · rw [if_neg e2]
theorem bflat_f (L : List Bk) (V : Nat → Value) {i : Nat} (h : i < L.length) (f : Int) : (bflat L V).set (i * 3 + 1) (.int .u64 f) = bflat (L.set i { L[i]! with f := f }) V := by
  refine bflat_ext (L := L) (V := V) (by rw [List.length_set, List.length_set, bflat_len]) fun j hj => ?_
  rw [List.length_set] at hj
  unfold bcell
  rw [get_set h]
  by_cases e : j = i * 3 + 1
  · subst e
    rw [List.getElem?_set_self (by rw [bflat_len]; omega)]
    simp [Nat.add_mod, show (i * 3 + 1) / 3 = i by omega]
  · rw [List.getElem?_set_ne (fun e' => e e'.symm), bflat_at L V hj]
    unfold bcell
    by_cases e2 : j / 3 = i
    · subst e2
      have : j % 3 ≠ 1 := fun e3 => e (by omega)
      by_cases e4 : j % 3 = 0
      · simp [e4]
      · simp [show j % 3 = 2 by omega]
    · rw [if_neg e2]
theorem Row.setAt {w : World} {base g o n sz cap m : Nat} {cs : List Value} (h : Row w base sz (.slice (some ⟨g, o, none⟩) m cap) n cs) {i : Nat} (hi : i < n * sz) (v : Value) : Row (w.setCell ⟨g, o + i, none⟩ v) base sz (.slice (some ⟨g, o, none⟩) m cap) n (cs.set i v) := by
  obtain ⟨A, cap', e, h0, h1, h2, h3, h4⟩ := h
  cases e
  refine ⟨_, cap, rfl, by rw [List.length_set]; exact h0, h1, h2, h3, fun ad e => ?_⟩
  cases e
  obtain ⟨g', o', e, hb, hlt, hl, hc⟩ := h4 _ rfl
  cases e
  have hcap : n * sz ≤ cap * sz := Nat.mul_le_mul_right _ h1
  refine ⟨g, o, rfl, hb, by simpa [World.setCell] using hlt, fun j u e => ?_, fun j hj => ⟨?_, ?_⟩⟩
  · by_cases ej : j = i
    · subst ej
      rw [List.getElem?_set_self (by omega)] at e
      cases e
      obtain ⟨x, hx⟩ := Option.isSome_iff_exists.1 (hc j (by omega)).1
      exact World.cell?_setCell_same _ _ _ hx
    · rw [List.getElem?_set_ne (fun e => ej e.symm)] at e
      rw [World.cell?_setCell_other _ _ _ _ (by simp <;> omega)]
      exact hl j u e
  · by_cases ej : j = i
    · subst ej
      obtain ⟨x, hx⟩ := Option.isSome_iff_exists.1 (hc j (by omega)).1
      rw [World.cell?_setCell_same _ _ _ hx]; rfl
    · rw [World.cell?_setCell_other _ _ _ _ (by simp <;> omega)]
      exact (hc j hj).1
  · rw [World.frozen?_setCell]
    exact (hc j hj).2
/-! ### the map -/
def secR (v : Value) : Option (DataW Value × List MemPlace) := some (.held v, [])
theorem key3 : Go.Maps.Keyed Tryz.prog 3 := Go.Maps.int_keyed Tryz.underlying3
def InI (b : Int) : Prop := -9223372036854775808 ≤ b ∧ b ≤ 9223372036854775807
theorem wfB {b : Int} (h : InI b) : (Lit.int .i64 b).wf = true := by
  unfold InI at h
  simp [Lit.wf, IntKind.min, IntKind.max, IntKind.bits, IntKind.signed]; omega
theorem keyB {b : Int} (h : InI b) : keyOf Tryz.prog 3 (.int .i64 b) = some (.int .i64 b) := Go.Maps.keyOf_int_mk Tryz.underlying3 (wfB h)
theorem isKeyB (b : Int) : WideAt.IsKeyLit (.int .i64 b) := trivial
def MapAt (w : World) (mb n : Nat) (F : Int → Value) : Prop :=
  ∃ D, w.ownsMap Tryz.prog 3 secR mb n D ∧ Go.Maps.IsMap D ∧ ∀ b, D.atKey (.int .i64 b) (.held nilS) = .held (F b)
theorem MapAt.lt {w : World} {mb n : Nat} {F : Int → Value} (h : MapAt w mb n F) : mb < w.heap.size := by
  obtain ⟨D, h, _⟩ := h
  exact h.lt
theorem MapAt.keep {S : Nat → Prop} {w w' : World} {mb n : Nat} {F : Int → Value} (h : MapAt w mb n F) (t : Turns S w w') (hs : ¬ S mb) : MapAt w' mb n F := by
  have hlt := h.lt
  obtain ⟨D, ⟨es, clock, hb, hF, hsz, hD⟩, h2, h3⟩ := h
  exact ⟨D, ⟨es, clock, (t.block mb hlt hs).trans hb, hF, hsz, hD⟩, h2, h3⟩
theorem MapAt.made (w : World) : MapAt (w.alloc (.map #[] 0)) w.heap.size 0 (fun _ => nilS) :=
  ⟨.map [], World.ownsMap_made w _ _ _, Go.Maps.isMap_empty, fun b => rfl⟩
theorem zero69 (w : World) : (zeroValue 193).run Tryz.prog w = .ok nilS w := by
  simp [zeroValue, go_sem, Tryz.underlying193]; rfl
theorem MapAt.look {w : World} {mb n : Nat} {F : Int → Value} (h : MapAt w mb n F) {b : Int} (hb : InI b) : (Instr.lookup 249 (.map (some mb)) (.int .i64 b) false).run Tryz.prog w = .ok (F b) w := by
  obtain ⟨D, h1, h2, h3⟩ := h
  obtain ⟨v, ps, hrun, hv⟩ := h1.lookup key3 Tryz.underlying249 (zero69 w) (z := nilS) (zd := .held nilS) (zp := []) rfl (keyB hb)
  rw [h3 b] at hv
  simp only [secR, Option.some.injEq, Prod.mk.injEq, DataW.held.injEq] at hv
  rw [hrun, hv.1]
theorem MapAt.put {w : World} {mb n : Nat} {F : Int → Value} (h : MapAt w mb n F) (hn : n < 1000000) {b : Int} (hb : InI b) (v : Value) : ∃ w', (Instr.mapUpdate 249 (.map (some mb)) (.int .i64 b) v).run Tryz.prog w = .ok () w' ∧ MapAt w' mb (n + 1) (upd F b v) ∧ w.grownBy w' (some mb) := by
  obtain ⟨D, h1, h2, h3⟩ := h
  obtain ⟨w', hrun, h4, h5⟩ := h1.update key3 Tryz.underlying249 (by unfold maxLen; omega) (key := .int .i64 b) (val := v) (keyB hb) (d := .held v) (ps := []) rfl
  refine ⟨w', hrun, ⟨_, h4, h2.put _ _, fun x => ?_⟩, h5⟩
  by_cases e : x = b
  · subst e
    rw [Go.Maps.atKey_put_same h2 (isKeyB x), upd_same]
  · rw [Go.Maps.atKey_put_other (fun e' => e (by simpa using e')), upd_ne F v e, h3]
end Go.Proofs.YtieiiabbeglmfaaGreatDoor.S10
namespace Go.Proofs.YtieiiabbeglmfaaGreatDoor.S10
set_option maxRecDepth 100000
set_option maxHeartbeats 16000000
open Go.Proofs.YtieiiabbeglmfaaGreatDoor
open Go.RowKit
def Sv (w : World) (s : Value) (F : Int → Value) : Prop :=
  (s = .pointer none ∧ ∀ b, F b = nilS) ∨ ∃ sb, s = .pointer (some ⟨sb, 0, none⟩) ∧
    ((w.cell? ⟨sb, 0, none⟩ = some (.map none) ∧ ∀ b, F b = nilS) ∨ ∃ mb n, w.cell? ⟨sb, 0, none⟩ = some (.map (some mb)) ∧ MapAt w mb n F)
theorem Sv.below {w w' : World} {s : Value} {F : Int → Value} (h : Sv w s F) (hb : Below w.heap.size w w') : Sv w' s F := by
  rcases h with h | ⟨sb, rfl, ⟨hc, hF⟩ | ⟨mb, n, hc, hm⟩⟩
  · exact .inl h
  · refine .inr ⟨sb, rfl, .inl ⟨?_, hF⟩⟩
    have : sb < w.heap.size := (Array.getElem?_eq_some_iff.1 (cells_at (g := sb) (o := 0) (by rw [hc]; rfl)).choose_spec.choose_spec.choose_spec).1
    rw [hb.cell (p := ⟨sb, 0, none⟩) this]
    exact hc
  · refine .inr ⟨sb, rfl, .inr ⟨mb, n, ?_, hm.keep (Turns.of_below (S := fun _ => False) hb) (fun h => h)⟩⟩
    have : sb < w.heap.size := (Array.getElem?_eq_some_iff.1 (cells_at (g := sb) (o := 0) (by rw [hc]; rfl)).choose_spec.choose_spec.choose_spec).1
    rw [hb.cell (p := ⟨sb, 0, none⟩) this]
    exact hc
theorem table_any {w : World} {s : Value} {F : Int → Value} (h : Sv w s F) {b : Int} (hb : InI b) : Calls Tryz.prog 79 #[s, .int .i64 b] w fun e w' => e = .returned (F b) ∧ w = w' := by
  rcases h with ⟨rfl, hF⟩ | ⟨sb, rfl, ⟨hc, hF⟩ | ⟨mb, n, hc, hm⟩⟩
  · rw [hF b]
    clear hF
    go_enter Tryz.func79, Tryz.ntmps79
    go_wp2_with fail
    go_ret
    exact ⟨rfl, rfl⟩
  · rw [hF b]
    clear hF
    have hl : (Instr.lookup 249 (.map none) (.int .i64 b) false).run Tryz.prog w = .ok nilS w := Go.Maps.look_nil false key3 Tryz.underlying249 (zero69 w) (keyB hb)
    go_enter Tryz.func79, Tryz.ntmps79
    go_wp2_with fail
    go_ret
    exact ⟨rfl, rfl⟩
  · have hl := hm.look hb
    generalize F b = v at hl
    clear hm
    go_enter Tryz.func79, Tryz.ntmps79
    go_wp2_with fail
    go_ret
    exact ⟨rfl, rfl⟩
theorem at_yes {w : World} {s : Value} {F : Int → Value} (h : Sv w s F) {b : Int} {i : Nat} (hb : InI b) {g o m c : Nat} (hF : F b = .slice (some ⟨g, o, none⟩) m c) (hi : i < m) :
    Calls Tryz.prog 91 #[s, .agg #[.int .i64 b, .int .i64 (i : Int)]] w fun e w' => e = .returned (.pointer (some ⟨g, o + i * 3, none⟩)) ∧ Below w.heap.size w w' := by
  have HT := Lib.hid (fun o => table_any (h.below (below1 w o)) hb)
  rw [hF] at HT
  clear h hF
  have e0 : decide ((i : Int) < 0) = false := by simp
  have e1 : decide ((m : Int) ≤ (i : Int)) = false := by simp; omega
  have e2 : ¬ m ≤ i := by omega
  go_enter Tryz.func91, Tryz.ntmps91
  go_wp2_with (go_at_call 79; refine (HT.out _).mono ?_; rintro e w' ⟨rfl, rfl⟩)
  go_ret
  exact ⟨rfl, below1 w _⟩
theorem copied_any {w : World} {base : Nat} {A : Option Addr} {D : List Ent} (c : Nat) (hr : Rd w base A (flat D)) (hbase : base ≤ w.heap.size) (hlen : D.length ≤ 1000000) :
    Calls Tryz.prog 99 #[.slice A D.length c] w fun e w' => ∃ A', e = .returned (.slice A' D.length D.length) ∧ RowE w' w.heap.size (.slice A' D.length D.length) D ∧ Below w.heap.size w w' := by
  have HR := Lib.hid hr
  clear hr
  go_enter Tryz.func99, Tryz.ntmps99
  go_wp2_with (first
    | (at_builtin; refine wpList_append_row layE rfl _ _ rfl rfl (row_nil w w.heap.size 3) (fun u hu => by cases hu) (Nat.le_refl _) c rfl HR.out (flat_len D) (flat_one' D) (by omega) ?_; intro v' w2 hr2 ht2 ho2; (obtain ⟨A2, c2, rfl, hc2, hc29⟩ := hr2.shape); (have HR2 := Lib.hid hr2); (have HT2 := Lib.hid ht2); (clear hr2 ht2 ho2))
    | (go_at_call 154; refine (clip_any _ _ _ _ (by omega) (by omega)).mono ?_; rintro e w' ⟨rfl, rfl⟩))
  go_ret
  have hr := HR2.out
  simp only [Nat.zero_add, List.nil_append] at hr ⊢
  exact ⟨_, rfl, hr.clip, HT2.out.below (Nat.le_refl _) (fun k hk e => by change (none : Option Nat) = some k at e; cases e)⟩
end Go.Proofs.YtieiiabbeglmfaaGreatDoor.S10
namespace Go.Proofs.YtieiiabbeglmfaaGreatDoor.S10
set_option maxRecDepth 100000
set_option maxHeartbeats 16000000
open Go.Proofs.YtieiiabbeglmfaaGreatDoor
open Go.RowKit
structure Rs (w : World) (s : Value) (F : Int → Value) (M : Int → List Bk) : Prop where
  sv : Sv w s F
  rd : ∀ b, ∃ A c V, F b = .slice A (M b).length c ∧ (M b).length ≤ c ∧ c ≤ 9223372036854775807 ∧ Rd w w.heap.size A (bflat (M b) V) ∧
    ∀ i, i < (M b).length → ∃ A' c', V i = .slice A' (M b)[i]!.q.length c' ∧ (M b)[i]!.q.length ≤ c' ∧ c' ≤ 9223372036854775807 ∧ Rd w w.heap.size A' (flat (M b)[i]!.q)
theorem Rs.below {w w' : World} {s : Value} {F : Int → Value} {M : Int → List Bk} (h : Rs w s F M) (hb : Below w.heap.size w w') : Rs w' s F M :=
  ⟨h.sv.below hb, fun b => by
    obtain ⟨A, c, V, h1, h2, h3, h4, h5⟩ := h.rd b
    refine ⟨A, c, V, h1, h2, h3, (h4.below hb (Nat.le_refl _)).more hb.size, fun i hi => ?_⟩
    obtain ⟨A', c', h6, h7, h8, h9⟩ := h5 i hi
    exact ⟨A', c', h6, h7, h8, (h9.below hb (Nat.le_refl _)).more hb.size⟩⟩
theorem Rs.bk {w : World} {s : Value} {F : Int → Value} {M : Int → List Bk} (h : Rs w s F M) {b : Int} {i : Nat} (hi : i < (M b).length) :
    ∃ g o c A' c', F b = .slice (some ⟨g, o, none⟩) (M b).length c ∧ w.cell? ⟨g, o + i * 3, none⟩ = some (.int .u64 (M b)[i]!.a) ∧ w.cell? ⟨g, o + i * 3 + 1, none⟩ = some (.int .u64 (M b)[i]!.f) ∧ w.cell? ⟨g, o + i * 3 + 2, none⟩ = some (.slice A' (M b)[i]!.q.length c') ∧
      g < w.heap.size ∧ (M b)[i]!.q.length ≤ c' ∧ c' ≤ 9223372036854775807 ∧ Rd w w.heap.size A' (flat (M b)[i]!.q) := by
  obtain ⟨A, c, V, h1, h2, h3, h4, h5⟩ := h.rd b
  obtain ⟨A', c', h6, h7, h8, h9⟩ := h5 i hi
  obtain ⟨g, o, rfl, hg, hl⟩ := h4 (by rw [bflat_len]; omega)
  obtain ⟨k0, k1, k2⟩ := bflat_get (M b) V hi
  refine ⟨g, o, c, A', c', h1, hl _ _ k0, ?_, ?_, hg, h7, h8, h9⟩
  · rw [Nat.add_assoc]; exact hl _ _ k1
  · rw [Nat.add_assoc, ← h6]; exact hl _ _ k2
section
variable {w : World} {s : Value} {F : Int → Value} {M : Int → List Bk} {b : Int}
theorem queue_yes (h : Rs w s F M) (hb : InI b) {i : Nat} (hi : i < (M b).length) (hlen : (M b)[i]!.q.length ≤ 1000000) :
    Calls Tryz.prog 46 #[s, .agg #[.int .i64 b, .int .i64 (i : Int)]] w fun e w' => ∃ A', e = .returned (.slice A' (M b)[i]!.q.length (M b)[i]!.q.length) ∧ RowE w' w.heap.size (.slice A' (M b)[i]!.q.length (M b)[i]!.q.length) (M b)[i]!.q ∧ Below w.heap.size w w' := by
  obtain ⟨g, o, c, A', c', h1, k0, k1, k2, hg, h7, h8, h9⟩ := h.bk hi
  have HT := Lib.hid (fun o => at_yes (h.sv.below (below1 w o)) hb h1 hi)
  clear h h1 k0 k1 hi
  generalize (M b)[i]!.q = D at *
  obtain ⟨m, hm⟩ : ∃ m, m = D.length := ⟨_, rfl⟩
  rw [← hm] at k2
  have HM := Lib.hid hm
  have HR := Lib.hid h9
  have hk2 : ∀ W, Below w.heap.size w W → W.cell? ⟨g, o + i * 3 + 2, none⟩ = some (.slice A' m c') := fun W hb => (hb.cell (p := ⟨g, o + i * 3 + 2, none⟩) hg).trans k2
  have HK := Lib.hid hk2
  clear hk2 k2 h9 hm
  go_enter Tryz.func46, Tryz.ntmps46
  go_wp2_with fail
  refine (HT.out _).mono ?_
  rintro e w1 ⟨rfl, hb1⟩
  have HB1 := Lib.hid ((below1 w _).trans (hb1.mono (by simp)))
  have hc := HK.out w1 HB1.out
  clear hb1
  go_wp2_with (go_at_call 99; rw [HM.out]; refine (copied_any c' ((HR.out.below HB1.out (Nat.le_refl _)).more HB1.out.size) (Nat.le_refl _) hlen).mono ?_; rintro e w2 ⟨A2, rfl, hr2, hb2⟩; (have HR2 := Lib.hid hr2); (have HB2 := Lib.hid hb2); (clear hr2 hb2))
  go_ret
  exact ⟨_, rfl, HR2.out.base HB1.out.size, HB1.out.trans (HB2.out.mono HB1.out.size)⟩
end
end Go.Proofs.YtieiiabbeglmfaaGreatDoor.S10
namespace Go.Proofs.YtieiiabbeglmfaaGreatDoor.S10
set_option maxRecDepth 100000
set_option maxHeartbeats 16000000
open Go.Proofs.YtieiiabbeglmfaaGreatDoor
open Go.RowKit
inductive Role where
  | set
  | map
  | tab (b : Int)
  | tim (b : Int)
  | q (b : Int) (i : Nat)
deriving DecidableEq
def Fresh (own own' : Nat → Option Role) (w : World) : Prop := ∀ g r, own' g = some r → (∃ r', own g = some r') ∨ w.heap.size ≤ g
theorem Fresh.refl (own : Nat → Option Role) (w : World) : Fresh own own w := fun _ r h => .inl ⟨r, h⟩
theorem Fresh.trans {a b c : Nat → Option Role} {w w1 : World} (h : Fresh a b w) (k : Fresh b c w1) (hs : w.heap.size ≤ w1.heap.size) : Fresh a c w := fun g r e => by
  rcases k g r e with ⟨r', e'⟩ | h'
  · exact h g r' e'
  · exact .inr (by omega)
def Mine (own : Nat → Option Role) (g : Nat) : Prop := ∃ r, own g = some r
structure StF (w : World) (base : Nat) (own : Nat → Option Role) (s : Value) (n : Nat) (M : Int → List Bk) (sb mb : Nat) (F : Int → Value) (V : Int → Nat → Value) : Prop where
  fp : ∀ g r, own g = some r → base ≤ g ∧ g < w.heap.size
  hs : s = .pointer (some ⟨sb, 0, none⟩)
  hc : w.heap[sb]? = some (.cells #[.map (some mb)] 251 (0, 0))
  os : own sb = some .set
  hm : MapAt w mb n F
  om : own mb = some .map
  ht : ∀ b, Row w 0 3 (F b) (M b).length (bflat (M b) (V b))
  ot : ∀ b g, (F b).ownBlock = some g → own g = some (.tab b)
  hq : ∀ b i, i < (M b).length → RowE w 0 (V b i) (M b)[i]!.q
  oq : ∀ b i g, i < (M b).length → (V b i).ownBlock = some g → own g = some (.q b i)
def St (w : World) (base : Nat) (own : Nat → Option Role) (s : Value) (n : Nat) (M : Int → List Bk) : Prop := ∃ sb mb F V, StF w base own s n M sb mb F V
section
variable {w : World} {base : Nat} {own : Nat → Option Role} {s : Value} {n : Nat} {M : Int → List Bk} {sb mb : Nat} {F : Int → Value} {V : Int → Nat → Value}
theorem StF.keep (h : StF w base own s n M sb mb F V) {S : Nat → Prop} {w' : World} (t : Turns S w w') (hn : ∀ g, Mine own g → ¬ S g) : StF w' base own s n M sb mb F V :=
  ⟨fun g r e => ⟨(h.fp g r e).1, Nat.lt_of_lt_of_le (h.fp g r e).2 t.size⟩, h.hs, (t.block sb (h.fp sb _ h.os).2 (hn sb ⟨_, h.os⟩)).trans h.hc, h.os, h.hm.keep t (hn mb ⟨_, h.om⟩), h.om,
    fun b => (h.ht b).keep t (fun g e => hn g ⟨_, h.ot b g e⟩), h.ot, fun b i hi => (h.hq b i hi).keep t (fun g e => hn g ⟨_, h.oq b i g hi e⟩), h.oq⟩
theorem St.keep (h : St w base own s n M) {S : Nat → Prop} {w' : World} (t : Turns S w w') (hn : ∀ g, Mine own g → ¬ S g) : St w' base own s n M := by
  obtain ⟨sb, mb, F, V, h⟩ := h
  exact ⟨sb, mb, F, V, h.keep t hn⟩
theorem St.new (h : St w base own s n M) {w' : World} (hb : Below w.heap.size w w') : St w' base own s n M := h.keep (Turns.of_below (S := fun _ => False) hb) (fun _ _ e => e)
theorem St.fp (h : St w base own s n M) {g : Nat} (e : Mine own g) : base ≤ g ∧ g < w.heap.size := by
  obtain ⟨sb, mb, F, V, h⟩ := h
  obtain ⟨r, e⟩ := e
  exact h.fp g r e
theorem StF.rs (h : StF w base own s n M sb mb F V) : Rs w s F M :=
  ⟨.inr ⟨sb, h.hs, .inr ⟨mb, n, cell_row h.hc 0, h.hm⟩⟩, fun b => by
    obtain ⟨A, c, e, h1, h2⟩ := (h.ht b).shape
    have hr := h.ht b
    rw [e] at hr
    refine ⟨A, c, V b, e, h1, h2, hr.rd, fun i hi => ?_⟩
    have hq := h.hq b i hi
    obtain ⟨A', c', e', h1', h2'⟩ := hq.shape
    rw [e'] at hq
    exact ⟨A', c', e', h1', h2', hq.rd⟩⟩
theorem St.rs (h : St w base own s n M) : ∃ F, Rs w s F M := by
  obtain ⟨sb, mb, F, V, h⟩ := h
  exact ⟨F, h.rs⟩
theorem StF.ne (h : StF w base own s n M sb mb F V) {g g' : Nat} {r r' : Role} (e : own g = some r) (e' : own g' = some r') (hr : r ≠ r') : g ≠ g' := fun h' => by
  subst h'
  rw [e] at e'
  exact hr (by simpa using e')
theorem StF.bk (h : StF w base own s n M sb mb F V) {b : Int} {i : Nat} (hi : i < (M b).length) : ∃ g o c, F b = .slice (some ⟨g, o, none⟩) (M b).length c ∧ own g = some (.tab b) ∧
    (∀ j, j < 3 → ∃ v, w.cell? ⟨g, o + i * 3 + j, none⟩ = some v ∧ w.frozen? ⟨g, o + i * 3 + j, none⟩ = false) := by
  have hr := h.ht b
  obtain ⟨A, c, e, h0, h1, h2, h3, h4⟩ := hr
  cases A with
  | none => have := h3 rfl; omega
  | some ad =>
    obtain ⟨g, o, rfl, hb, hlt, hl, hc⟩ := h4 ad rfl
    refine ⟨g, o, c, e, h.ot b g (by rw [e]; rfl), fun j hj => ?_⟩
    obtain ⟨k1, k2⟩ := hc (i * 3 + j) (by omega)
    obtain ⟨v, hv⟩ := Option.isSome_iff_exists.1 k1
    rw [← Nat.add_assoc] at hv k2
    exact ⟨v, hv, k2⟩
def ownQ (own : Nat → Option Role) (b : Int) (i : Nat) (v : Value) : Nat → Option Role := fun x => if v.ownBlock = some x then some (.q b i) else if own x = some (.q b i) then none else own x
theorem ownQ_keep {v : Value} {X : Nat} (hv : ∀ g, v.ownBlock = some g → X ≤ g) {b : Int} {i x : Nat} {r : Role} (e : own x = some r) (hx : x < X) (hr : r ≠ .q b i) : ownQ own b i v x = some r := by
  unfold ownQ
  rw [if_neg (fun e' => by have := hv x e'; omega), if_neg (fun e' => hr (by rw [e] at e'; simpa using e')), e]
theorem StF.putQ (h : StF w base own s n M sb mb F V) {b : Int} {i g o c : Nat} (hi : i < (M b).length) (hF : F b = .slice (some ⟨g, o, none⟩) (M b).length c) {w1 : World} (hb : Below w.heap.size w w1) {v : Value} {D : List Ent} (hv : RowE w1 w.heap.size v D) :
    StF (w1.setCell ⟨g, o + i * 3 + 2, none⟩ v) base (ownQ own b i v) s n (upd M b ((M b).set i { (M b)[i]! with q := D })) sb mb F (upd V b (upd (V b) i v)) := by
  have h1 := h.keep (Turns.of_below (S := fun _ => False) hb) (fun _ _ e => e)
  have hog : own g = some (.tab b) := h.ot b g (by rw [hF]; rfl)
  have hglt := (h.fp g _ hog).2
  have hvg : ∀ x, v.ownBlock = some x → w.heap.size ≤ x ∧ x < w1.heap.size := fun x e => hv.lt x e
  have hvx : ∀ x, v.ownBlock = some x → w.heap.size ≤ x := fun x e => (hvg x e).1
  have tset : Turns (fun k => k = g) w1 (w1.setCell ⟨g, o + i * 3 + 2, none⟩ v) := (Turns.refl _ w1).setCell _ _ rfl
  have hbase : base ≤ w.heap.size := by have := h.fp sb _ h.os; omega
  have hlen : ∀ b', (upd M b ((M b).set i { (M b)[i]! with q := D }) b').length = (M b').length := fun b' => by
    by_cases e : b' = b
    · subst e; rw [upd_same, List.length_set]
    · rw [upd_ne _ _ e]
  refine ⟨fun x r e => ?_, h.hs, ?_, ownQ_keep hvx h.os (h.fp sb _ h.os).2 (by simp), h1.hm.keep tset (h.ne h.om hog (by simp)), ownQ_keep hvx h.om (h.fp mb _ h.om).2 (by simp), fun b' => ?_, fun b' x e => ?_, fun b' j hj => ?_, fun b' j x hj e => ?_⟩
  · unfold ownQ at e
    have hsz : (w1.setCell ⟨g, o + i * 3 + 2, none⟩ v).heap.size = w1.heap.size := by simp [World.setCell]
    rw [hsz]
    by_cases e1 : v.ownBlock = some x
    · have := hvg x e1; omega
    · rw [if_neg e1] at e
      by_cases e2 : own x = some (.q b i)
      · rw [if_pos e2] at e; cases e
      · rw [if_neg e2] at e
        have := h.fp x r e
        have := hb.size
        omega
  · exact (tset.block sb (by have := (h1.fp sb _ h.os).2; exact this) (h.ne h.os hog (by simp))).trans h1.hc
  · rw [hlen]
    by_cases e : b' = b
    · subst e
      rw [upd_same, upd_same, ← bflat_q _ _ hi]
      have := h1.ht b'
      rw [hF] at this ⊢
      exact this.setAt (i := i * 3 + 2) (by omega) v
    · rw [upd_ne _ _ e, upd_ne _ _ e]
      exact (h1.ht b').keep tset (fun x ex => h.ne (h.ot b' x ex) hog (by simp; exact e))
  · exact ownQ_keep hvx (h.ot b' x e) (h.fp x _ (h.ot b' x e)).2 (by simp)
  · rw [hlen] at hj
    by_cases e : b' = b
    · subst e
      rw [upd_same, upd_same, get_set hi]
      by_cases e2 : j = i
      · subst e2
        rw [if_pos rfl, upd_same]
        exact (hv.keep tset (fun x ex e3 => by have := hvx x ex; omega)).base (Nat.zero_le _)
      · rw [if_neg e2, upd_ne _ _ e2]
        exact (h1.hq b' j hj).keep tset (fun x ex => h.ne (h.oq b' j x hj ex) hog (by simp))
    · rw [upd_ne _ _ e, upd_ne _ _ e]
      exact (h1.hq b' j hj).keep tset (fun x ex => h.ne (h.oq b' j x hj ex) hog (by simp))
  · rw [hlen] at hj
    by_cases e1 : b' = b ∧ j = i
    · obtain ⟨rfl, rfl⟩ := e1
      rw [upd_same, upd_same] at e
      unfold ownQ
      rw [if_pos e]
    · have e' : (V b' j).ownBlock = some x := by
        by_cases e2 : b' = b
        · subst e2
          rw [upd_same, upd_ne _ _ (fun e3 => e1 ⟨rfl, e3⟩)] at e
          exact e
        · rw [upd_ne _ _ e2] at e
          exact e
      exact ownQ_keep hvx (h.oq b' j x hj e') (h.fp x _ (h.oq b' j x hj e')).2 (by simp; exact fun e2 e3 => e1 ⟨e2, e3⟩)
theorem fresh_ownQ (own : Nat → Option Role) (b : Int) (i : Nat) {v : Value} {w : World} (hv : ∀ g, v.ownBlock = some g → w.heap.size ≤ g) : Fresh own (ownQ own b i v) w := fun g r e => by
  unfold ownQ at e
  by_cases e1 : v.ownBlock = some g
  · exact .inr (hv g e1)
  · rw [if_neg e1] at e
    by_cases e2 : own g = some (.q b i)
    · exact .inl ⟨_, e2⟩
    · rw [if_neg e2] at e
      exact .inl ⟨r, e⟩
end
end Go.Proofs.YtieiiabbeglmfaaGreatDoor.S10
namespace Go.Proofs.YtieiiabbeglmfaaGreatDoor.S10
set_option maxRecDepth 100000
set_option maxHeartbeats 16000000
open Go.Proofs.YtieiiabbeglmfaaGreatDoor
open Go.RowKit
section
variable {w : World} {s : Value} {F : Int → Value} {M : Int → List Bk} {b : Int}
end
section
variable {w : World} {base : Nat} {own : Nat → Option Role} {s : Value} {n : Nat} {M : Int → List Bk} {b : Int}
theorem put_yes (h : St w base own s n M) (hb : InI b) {i : Nat} (hi : i < (M b).length) {b0 c0 : Nat} {A0 : Option Addr} {D : List Ent} (hr : Rd w b0 A0 (flat D)) (hb0 : b0 ≤ w.heap.size) (hlen : D.length ≤ 1000000) :
    Calls Tryz.prog 58 #[s, .agg #[.int .i64 b, .int .i64 (i : Int)], .slice A0 D.length c0] w fun e w' => e = .returned (.bool true) ∧ ∃ own', St w' base own' s n (upd M b ((M b).set i { (M b)[i]! with q := D })) ∧ Turns (Mine own) w w' ∧ Fresh own own' w := by
  obtain ⟨sb, mb, F, V, hf⟩ := h
  obtain ⟨g, o, c, hF, hog, hcs⟩ := hf.bk hi
  have HT := Lib.hid (fun o => at_yes (hf.rs.sv.below (below1 w o)) hb hF hi)
  obtain ⟨v2, k2, f2⟩ := hcs 2 (by omega)
  have hgl := (hf.fp g _ hog).2
  have HK := Lib.hid (fun W (hb : Below w.heap.size w W) => (hb.cell (p := ⟨g, o + i * 3 + 2, none⟩) hgl).trans k2)
  have HFZ := Lib.hid (fun W (hb : Below w.heap.size w W) => (hb.frozen (p := ⟨g, o + i * 3 + 2, none⟩) hgl).trans f2)
  have HF := Lib.hid hF; have HST := Lib.hid hf; have HR := Lib.hid hr; have HB0 := Lib.hid hb0; have HI := Lib.hid hi; have HOG := Lib.hid hog
  clear hf hF hcs k2 f2 hr hb0 hi hog
  obtain ⟨m, hm⟩ : ∃ m, m = D.length := ⟨_, rfl⟩
  rw [← hm]
  have HM := Lib.hid hm
  clear hm
  go_enter Tryz.func58, Tryz.ntmps58
  go_wp2_with fail
  refine (HT.out _).mono ?_
  rintro e w1 ⟨rfl, hb1⟩
  have HB1 := Lib.hid ((below1 w _).trans (hb1.mono (by simp)))
  clear hb1
  go_wp2_with fail
  rw [HM.out]
  refine (copied_any c0 (HR.out.below HB1.out HB0.out) (Nat.le_trans HB0.out HB1.out.size) hlen).mono ?_
  rintro e w2 ⟨A2, rfl, hr2, hb2⟩
  have HB2 := Lib.hid (HB1.out.trans (hb2.mono HB1.out.size))
  have HR2 := Lib.hid (hr2.base HB1.out.size)
  clear hr2 hb2
  have k2 := HK.out w2 HB2.out
  have f2 := HFZ.out w2 HB2.out
  go_wp2_with fail
  go_ret
  refine ⟨rfl, _, ⟨sb, mb, F, _, HST.out.putQ HI.out HF.out HB2.out HR2.out⟩, ?_, fresh_ownQ _ _ _ (fun g e => (HR2.out.lt g e).1)⟩
  exact (Turns.of_below HB2.out).setCell _ _ ⟨_, HOG.out⟩
end
end Go.Proofs.YtieiiabbeglmfaaGreatDoor.S10
namespace Go.Proofs.YtieiiabbeglmfaaGreatDoor.S10
set_option maxRecDepth 100000
set_option maxHeartbeats 16000000
open Go.Proofs.YtieiiabbeglmfaaGreatDoor
open Go.RowKit
theorem info32 : ∃ i, Tryz.prog.info? 106 = some i ∧ i.zero = some (.slice none 0 0) ∧ i.size = 1 ∧ i.bytes = 24 := info_of (by kernel_rfl)
theorem made_nil (n : Nat) : madeCells #[Value.slice none 0 0] n = (List.replicate n (Value.slice none 0 0)).toArray := by
  apply Array.ext
  · simp [madeCells]
  · intro j h1 h2
    simp [madeCells, Nat.mod_one]
theorem make_any (n : Nat) (hn : n ≤ 65536) (w : World) : (Instr.makeSlice 246 (.int .i64 (n : Int)) (.int .i64 (n : Int))).run Tryz.prog w = .ok (.slice (some ⟨w.heap.size, 0, none⟩) n n) (w.alloc (.cells (List.replicate n (Value.slice none 0 0)).toArray 106)) := by
  obtain ⟨i, hi, hz, hsz, hby⟩ := info32
  have hr := run_make (P := Tryz.prog) w 246 106 i (.slice none 0 0) Tryz.underlying246 hi hz .i64 .i64 n n (by omega) (Int.le_refl _) (by rw [hby]; omega) (by omega)
  simp only [Int.toNat_natCast, hsz, Nat.mul_one] at hr
  rw [hr]
  have hm : madeCells (Value.slice none 0 0).cells n = (List.replicate n (Value.slice none 0 0)).toArray := made_nil n
  rw [hm]
theorem info93 : ∃ i, Tryz.prog.info? 196 = some i ∧ i.zero = some (.agg #[.int .u64 0, .int .u64 0, nilS]) ∧ i.size = 3 ∧ i.bytes = 40 := info_of (by kernel_rfl)
theorem makeB (n : Nat) (hn : n ≤ 65536) (w : World) : (Instr.makeSlice 193 (.int .i64 (n : Int)) (.int .i64 (n : Int))).run Tryz.prog w = .ok (.slice (some ⟨w.heap.size, 0, none⟩) n n) (w.alloc (.cells (bflat (List.replicate n ⟨0, 0, []⟩) (fun _ => nilS)).toArray 196)) := by
  obtain ⟨i, hi, hz, hsz, hby⟩ := info93
  have hr := run_make (P := Tryz.prog) w 193 196 i (.agg #[.int .u64 0, .int .u64 0, nilS]) Tryz.underlying193 hi hz .i64 .i64 n n (by omega) (Int.le_refl _) (by rw [hby]; omega) (by omega)
  simp only [Int.toNat_natCast, hsz] at hr
  rw [hr]
  have hm : madeCells (Value.agg #[.int .u64 0, .int .u64 0, nilS]).cells (n * 3) = (bflat (List.replicate n ⟨0, 0, []⟩) (fun _ => nilS)).toArray := by
    apply Array.ext
    · simp [madeCells, bflat_len]
    · intro j h1 h2
      have hj : j < n * 3 := by simpa [madeCells] using h1
      have h3 := bflat_at (List.replicate n (⟨0, 0, []⟩ : Bk)) (fun _ => nilS) (j := j) (by rw [List.length_replicate]; exact hj)
      have h4 : (bflat (List.replicate n (⟨0, 0, []⟩ : Bk)) (fun _ => nilS)).toArray[j] = bcell (List.replicate n (⟨0, 0, []⟩ : Bk)) (fun _ => nilS) j := by
        have := (List.getElem?_eq_some_iff.1 h3).2
        simpa using this
      rw [h4]
      have h5 : (List.replicate n (⟨0, 0, []⟩ : Bk))[j / 3]! = ⟨0, 0, []⟩ := by
        rw [List.getElem!_eq_getElem?_getD, List.getElem?_replicate, if_pos (by omega)]; rfl
      unfold bcell
      rw [h5]
      have h6 : j % 3 = 0 ∨ j % 3 = 1 ∨ j % 3 = 2 := by omega
      rcases h6 with h6 | h6 | h6 <;> simp [madeCells, Value.cells, h6]
  rw [hm]
theorem row_made (w : World) (base g n sz : Nat) (T : TypeId) (cs : List Value) (h : w.heap[g]? = some (.cells cs.toArray T (0, 0))) (hl : cs.length = n * sz) (hb : base ≤ g) (hn : n ≤ 65536) : Row w base sz (.slice (some ⟨g, 0, none⟩) n n) n cs := by
  have hlt := (Array.getElem?_eq_some_iff.1 h).1
  refine ⟨_, n, rfl, hl, Nat.le_refl _, by unfold maxLen; omega, (fun e => by cases e), fun ad e => ?_⟩
  cases e
  refine ⟨g, 0, rfl, hb, hlt, fun j u e => ?_, fun j hj => ⟨?_, froz_row h _⟩⟩
  · rw [cell_row h, Nat.zero_add, List.getElem?_toArray]
    exact e
  · rw [cell_row h, Nat.zero_add]
    simp; omega
theorem begin_any (x : Int) (w : World) : Calls Tryz.prog 164 #[.int .u64 x] w fun e w' => e = .returned (.agg #[.int .u64 x, .int .u64 x]) ∧ Below w.heap.size w w' := by
  go_enter Tryz.func164, Tryz.ntmps164
  go_wp2
  exact bodyPost_ret (v := .agg #[.int .u64 x, .int .u64 x]) (by simp [results, Tryz.results164, go_sem]) rfl ⟨rfl, below1 w _⟩
def fresh (now : Int) (Ls : List (List Ent)) : List Bk := Ls.map fun q => ⟨now, now, q⟩
theorem Row.three {w : World} {base g n cap : Nat} {cs : List Value} (h : Row w base 3 (.slice (some ⟨g, 0, none⟩) n cap) n cs) {k : Nat} (hk : k < n) :
    (∃ u, w.cell? ⟨g, k * 3, none⟩ = some u ∧ w.frozen? ⟨g, k * 3, none⟩ = false) ∧ (∃ u, w.cell? ⟨g, k * 3 + 1, none⟩ = some u ∧ w.frozen? ⟨g, k * 3 + 1, none⟩ = false) ∧ (∃ u, w.cell? ⟨g, k * 3 + 2, none⟩ = some u ∧ w.frozen? ⟨g, k * 3 + 2, none⟩ = false) := by
  obtain ⟨A, cap', e, h0, h1, h2, h3, h4⟩ := h
  cases e
  obtain ⟨g', o, e, hb, hlt, hl, hc⟩ := h4 _ rfl
  cases e
  have hx : ∀ j, j < cap * 3 → ∃ u, w.cell? ⟨g, j, none⟩ = some u ∧ w.frozen? ⟨g, j, none⟩ = false := fun j hj => by
    obtain ⟨k1, k2⟩ := hc j hj
    rw [Nat.zero_add] at k1 k2
    obtain ⟨u, hu⟩ := Option.isSome_iff_exists.1 k1
    exact ⟨u, hu, k2⟩
  exact ⟨hx _ (by omega), hx _ (by omega), hx _ (by omega)⟩
theorem begun_any {w : World} {b0 c N : Nat} {A : Option Addr} {ss : List Value} (Ls : List (List Ent)) (now : Int) (hr : Rd w b0 A ss) (hb0 : b0 ≤ w.heap.size) (hss : ss.length = N) (hN : Ls.length = N) (hsl : ∀ i, i < N → ∃ A' m c', ss[i]? = some (.slice A' m c')) (hn : N ≤ 65536) :
    Calls Tryz.prog 111 #[.slice A N c, .int .u64 now] w fun e w' => ∃ g, e = .returned (.slice (some ⟨g, 0, none⟩) N N) ∧ w.heap.size ≤ g ∧ Row w' w.heap.size 3 (.slice (some ⟨g, 0, none⟩) N N) N (bflat (fresh now Ls) (fun i => (ss[i]?).getD nilS)) ∧ Below w.heap.size w w' := by
  have HR := Lib.hid hr; have HB0 := Lib.hid hb0; have HSS := Lib.hid hss; have HLN := Lib.hid hN; have HSL := Lib.hid hsl
  clear hr hb0 hss hN hsl
  have hmk := makeB N hn
  go_enter Tryz.func111, Tryz.ntmps111
  go_wp2_with fail
  have hnew := heap_alloc_new w (.cells (bflat (List.replicate N ⟨0, 0, []⟩) (fun _ => nilS)).toArray 196)
  have hbl := below1 w (.cells (bflat (List.replicate N ⟨0, 0, []⟩) (fun _ => nilS)).toArray 196)
  have hr0 := row_made _ w.heap.size _ N 3 196 _ hnew (by rw [bflat_len, List.length_replicate]) (Nat.le_refl _) hn
  obtain ⟨g, hg⟩ : ∃ g, g = w.heap.size := ⟨_, rfl⟩
  rw [← hg] at hr0 ⊢
  generalize w.alloc (.cells (bflat (List.replicate N ⟨0, 0, []⟩) (fun _ => nilS)).toArray 196) = w0 at *
  have HBL := Lib.hid hbl; have HR0 := Lib.hid hr0; have HG := Lib.hid hg
  clear hmk hnew hbl hr0 hg
  go_loopg [6, 7, 13] N (fun q s6 s7 s13 wx => ∃ (k : Nat) (L : List Bk) (V : Nat → Value), k ≤ N ∧ q = N - k ∧ s13 = .int .i64 (k : Int) ∧ L.length = N ∧ (∀ j, j < k → L[j]! = ⟨now, now, Ls[j]!⟩ ∧ V j = (ss[j]?).getD nilS) ∧ Row wx g 3 (.slice (some ⟨g, 0, none⟩) N N) N (bflat L V) ∧ Below w.heap.size w wx)
  case atStart => exact ⟨0, _, _, by omega, rfl, rfl, by simp, fun j hj => by omega, HR0.out, HBL.out⟩
  case round =>
    obtain ⟨k, L, V, hk, rfl, rfl, hL, hdone, hrow, hb⟩ := hrel
    have HL := Lib.hid hL; have HD := Lib.hid hdone; have HROW := Lib.hid hrow; have HB := Lib.hid hb
    clear hL hdone hrow hb
    by_cases hkn : k < N
    · obtain ⟨A', m, c', hv⟩ := HSL.out k hkn
      obtain ⟨gs, os, rfl, hgs, hls⟩ := HR.out (by rw [HSS.out]; omega)
      have hc0 : wr.cell? ⟨gs, os + k, none⟩ = some (.slice A' m c') := (HB.out.cell (p := ⟨gs, os + k, none⟩) (by have := HB0.out; show gs < w.heap.size; omega)).trans (hls k _ hv)
      have HV := Lib.hid hv
      clear hv hls
      have hw1 : Below wr.heap.size wr wr := Below.refl _ _
      obtain ⟨⟨u0, c0, f0⟩, ⟨u1, c1, f1⟩, ⟨u2, c2, f2⟩⟩ := HROW.out.three hkn
      have hglt := (HROW.out.lt g rfl).2
      have HK := Lib.hid (fun W (hb : Below wr.heap.size wr W) => (⟨(hb.cell (p := ⟨g, k * 3, none⟩) hglt).trans c0, (hb.cell (p := ⟨g, k * 3 + 1, none⟩) hglt).trans c1, (hb.cell (p := ⟨g, k * 3 + 2, none⟩) hglt).trans c2, (hb.frozen (p := ⟨g, k * 3, none⟩) hglt).trans f0, (hb.frozen (p := ⟨g, k * 3 + 1, none⟩) hglt).trans f1, (hb.frozen (p := ⟨g, k * 3 + 2, none⟩) hglt).trans f2⟩ : _ ∧ _ ∧ _ ∧ _ ∧ _ ∧ _))
      clear c0 c1 c2 f0 f1 f2
      go_wp2_with fail
      refine (begin_any now _).mono ?_
      rintro e w1 ⟨rfl, hb1⟩
      obtain ⟨c0, c1, c2, f0, f1, f2⟩ := HK.out w1 hb1
      have HB1 := Lib.hid hb1
      clear hb1
      go_wp2_with fail
      go_roundg (N - (k + 1))
      case measure => omega
      case rel =>
        have h1 := HROW.out.new HB1.out
        have h2 := ((h1.setAt (i := k * 3) (by omega) (.int .u64 now)).setAt (i := k * 3 + 1) (by omega) (.int .u64 now)).setAt (i := k * 3 + 2) (by omega) (.slice A' m c')
        have hL := HL.out
        rw [bflat_a _ _ (by omega), bflat_f _ _ (by rw [List.length_set]; omega), bflat_q _ _ (by rw [List.length_set, List.length_set]; omega) _ Ls[k]!] at h2
        simp only [Nat.zero_add] at h2
        refine ⟨k + 1, _, _, by omega, rfl, by go_num, ?_, fun j hj => ?_, h2, ?_⟩
        · simp only [List.length_set]; exact hL
        · rw [get_set (by simp only [List.length_set]; omega), get_set (by simp only [List.length_set]; omega), get_set (by omega)]
          by_cases e : j = k
          · subst e
            rw [if_pos rfl, if_pos rfl, if_pos rfl, upd_same, HV.out]
            exact ⟨rfl, rfl⟩
          · rw [if_neg e, upd_ne _ _ e]
            have := HD.out j (by omega)
            refine ⟨?_, this.2⟩
            rw [get_set (by rw [List.length_set]; omega), if_neg e, get_set (by omega), if_neg e]
            exact this.1
        · have t3 : Turns (fun x => x = g) w1 (((w1.setCell ⟨g, k * 3, none⟩ (.int .u64 now)).setCell ⟨g, k * 3 + 1, none⟩ (.int .u64 now)).setCell ⟨g, k * 3 + 2, none⟩ (.slice A' m c')) := (((Turns.refl (fun x => x = g) w1).setCell ⟨g, k * 3, none⟩ _ rfl).setCell ⟨g, k * 3 + 1, none⟩ _ rfl).setCell ⟨g, k * 3 + 2, none⟩ _ rfl
          have hb1 : Below w.heap.size w w1 := HB.out.trans (HB1.out.mono HB.out.size)
          exact hb1.trans (t3.below hb1.size (fun x hx e => by have := HG.out; omega))
    · obtain rfl : k = N := by omega
      go_wp2_with fail
      go_ret
      refine ⟨g, rfl, by have := HG.out; omega, ?_, HB.out⟩
      have hL := HL.out
      have hx : bflat L V = bflat (fresh now Ls) (fun i => (ss[i]?).getD nilS) := by
        refine bflat_ext (L := L) (V := V) (by rw [bflat_len]; simp [fresh, hL, HLN.out]) fun j hj => ?_
        have hj3 : j < k * 3 := by simpa [fresh, HLN.out] using hj
        rw [bflat_at _ _ (by omega)]
        unfold bcell
        obtain ⟨h1, h2⟩ := HD.out (j / 3) (by omega)
        have h3 : (fresh now Ls)[j / 3]! = ⟨now, now, Ls[j / 3]!⟩ := by
          have hl := HLN.out
          rw [getElem!_pos (fresh now Ls) (j / 3) (by simp [fresh]; omega), getElem!_pos Ls (j / 3) (by omega)]
          simp [fresh]
        rw [h1, h2, h3]
      rw [← hx]
      have := HROW.out.base (b := w.heap.size) (by have := HG.out; omega)
      exact this
theorem Row.ok {w : World} {base g o n m sz cap : Nat} {cs : List Value} (h : Row w base sz (.slice (some ⟨g, o, none⟩) m cap) n cs) {j : Nat} (hj : j < n * sz) : ∃ u, cs[j]? = some u ∧ w.cell? ⟨g, o + j, none⟩ = some u ∧ w.frozen? ⟨g, o + j, none⟩ = false := by
  obtain ⟨A, cap', e, h0, h1, h2, h3, h4⟩ := h
  cases e
  obtain ⟨g', o', e, hb, hlt, hl, hc⟩ := h4 _ rfl
  cases e
  have hcap : n * sz ≤ cap * sz := Nat.mul_le_mul_right _ h1
  have hu := List.getElem?_eq_getElem (l := cs) (i := j) (by omega)
  exact ⟨_, hu, hl j _ hu, (hc j (by omega)).2⟩
end Go.Proofs.YtieiiabbeglmfaaGreatDoor.S10
