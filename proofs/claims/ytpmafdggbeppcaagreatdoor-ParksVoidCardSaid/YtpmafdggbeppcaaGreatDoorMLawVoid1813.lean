/- Texts of this seat, one behind the other. -/
import Derived.Test.YtpmafdggbeppcaaGreatDoorMLawVoid1812
set_option linter.unusedVariables false
set_option linter.unusedSimpArgs false
namespace Go.Proofs.YtpmafdggbeppcaaGreatDoor.S10
open Go.Proofs.YtpmafdggbeppcaaGreatDoor
open Go.RowKit
structure Rs (w : World) (s : Value) (F : Int → Value) (M : Int → List Bk) : Prop where
  sv : Sv w s F
  rd : ∀ b, ∃ A c V, F b = .slice A (M b).length c ∧ (M b).length ≤ c ∧ c ≤ 9223372036854775807 ∧ Rd w w.heap.size A (bflat (M b) V) ∧
    ∀ i, i < (M b).length → ∃ A' c', V i = .slice A' (M b)[i]!.q.length c' ∧ (M b)[i]!.q.length ≤ c' ∧ c' ≤ 9223372036854775807 ∧ Rd w w.heap.size A' (flat (M b)[i]!.q)
theorem Rs.below {w w' : World} {s : Value} {F : Int → Value} {M : Int → List Bk} (h : Rs w s F M) (hb : Below w.heap.size w w') : Rs w' s F M :=
  ⟨h.sv.below hb, fun b => by
    obtain ⟨A, c, V, h1, h2, h3, h4, h5⟩ := h.rd b
    refine ⟨A, c, V, h1, h2, h3, (h4.below hb (Nat.le_refl _)).more hb.size, fun i hi => ?_⟩
    obtain ⟨A', c', h6, h7, h8, h9⟩ := h5 i hi
    exact ⟨A', c', h6, h7, h8, (h9.below hb (Nat.le_refl _)).more hb.size⟩⟩
theorem Rs.bk {w : World} {s : Value} {F : Int → Value} {M : Int → List Bk} (h : Rs w s F M) {b : Int} {i : Nat} (hi : i < (M b).length) :
    ∃ g o c A' c', F b = .slice (some ⟨g, o, none⟩) (M b).length c ∧ w.cell? ⟨g, o + i * 3, none⟩ = some (.int .u64 (M b)[i]!.a) ∧ w.cell? ⟨g, o + i * 3 + 1, none⟩ = some (.int .u64 (M b)[i]!.f) ∧ w.cell? ⟨g, o + i * 3 + 2, none⟩ = some (.slice A' (M b)[i]!.q.length c') ∧
      g < w.heap.size ∧ (M b)[i]!.q.length ≤ c' ∧ c' ≤ 9223372036854775807 ∧ Rd w w.heap.size A' (flat (M b)[i]!.q) := by
  obtain ⟨A, c, V, h1, h2, h3, h4, h5⟩ := h.rd b
  obtain ⟨A', c', h6, h7, h8, h9⟩ := h5 i hi
  obtain ⟨g, o, rfl, hg, hl⟩ := h4 (by rw [bflat_len]; omega)
  obtain ⟨k0, k1, k2⟩ := bflat_get (M b) V hi
  refine ⟨g, o, c, A', c', h1, hl _ _ k0, ?_, ?_, hg, h7, h8, h9⟩
  · rw [Nat.add_assoc]; exact hl _ _ k1
  · rw [Nat.add_assoc, ← h6]; exact hl _ _ k2
section
variable {w : World} {s : Value} {F : Int → Value} {M : Int → List Bk} {b : Int}
theorem queue_no (h : Rs w s F M) (hb : InI b) {i : Int} (hi : i < 0 ∨ ((M b).length : Int) ≤ i) :
    Calls Tryz.prog 55 #[s, .agg #[.int .i64 b, .int .i64 i]] w fun e w' => e = .returned nilS ∧ Below w.heap.size w w' := by
  obtain ⟨A, c, V, h1, h2, h3, h4, h5⟩ := h.rd b
  have HT := Lib.hid (fun o => at_no (h.sv.below (below1 w o)) hb h1 hi)
  clear h h1 h2 h3 h4 h5
  go_enter Tryz.func55, Tryz.ntmps55
  go_wp2_with (go_at_call 89; refine (HT.out _).mono ?_; rintro e w' ⟨rfl, hb1⟩; (have HB1 := Lib.hid hb1); (clear hb1))
  go_ret
  exact ⟨rfl, (below1 w _).trans (HB1.out.mono (by simp))⟩
theorem queue_yes (h : Rs w s F M) (hb : InI b) {i : Nat} (hi : i < (M b).length) (hlen : (M b)[i]!.q.length ≤ 1000000) :
    Calls Tryz.prog 55 #[s, .agg #[.int .i64 b, .int .i64 (i : Int)]] w fun e w' => ∃ A', e = .returned (.slice A' (M b)[i]!.q.length (M b)[i]!.q.length) ∧ RowE w' w.heap.size (.slice A' (M b)[i]!.q.length (M b)[i]!.q.length) (M b)[i]!.q ∧ Below w.heap.size w w' := by
  obtain ⟨g, o, c, A', c', h1, k0, k1, k2, hg, h7, h8, h9⟩ := h.bk hi
  have HT := Lib.hid (fun o => at_yes (h.sv.below (below1 w o)) hb h1 hi)
  clear h h1 k0 k1 hi
  generalize (M b)[i]!.q = D at *
  obtain ⟨m, hm⟩ : ∃ m, m = D.length := ⟨_, rfl⟩
  rw [← hm] at k2
  have HM := Lib.hid hm
  have HR := Lib.hid h9
  have hk2 : ∀ W, Below w.heap.size w W → W.cell? ⟨g, o + i * 3 + 2, none⟩ = some (.slice A' m c') := fun W hb => (hb.cell (p := ⟨g, o + i * 3 + 2, none⟩) hg).trans k2
  have HK := Lib.hid hk2
  clear hk2 k2 h9 hm
  go_enter Tryz.func55, Tryz.ntmps55
  go_wp2_with fail
  refine (HT.out _).mono ?_
  rintro e w1 ⟨rfl, hb1⟩
  have HB1 := Lib.hid ((below1 w _).trans (hb1.mono (by simp)))
  have hc := HK.out w1 HB1.out
  clear hb1
  go_wp2_with (go_at_call 90; rw [HM.out]; refine (copied_any c' ((HR.out.below HB1.out (Nat.le_refl _)).more HB1.out.size) (Nat.le_refl _) hlen).mono ?_; rintro e w2 ⟨A2, rfl, hr2, hb2⟩; (have HR2 := Lib.hid hr2); (have HB2 := Lib.hid hb2); (clear hr2 hb2))
  go_ret
  exact ⟨_, rfl, HR2.out.base HB1.out.size, HB1.out.trans (HB2.out.mono HB1.out.size)⟩
theorem pair_set {w : World} {X : Nat} {x y : Value} {T : TypeId} (h : w.heap[X]? = some (.cells #[x, y] T (0, 0))) (u v : Value) :
    ((w.setCell ⟨X, 0, none⟩ u).setCell ⟨X, 1, none⟩ v).heap[X]? = some (.cells #[u, v] T (0, 0)) := by
  have h1 := row_set h 0 u
  have h2 := row_set h1 1 v
  rw [h2]; rfl
theorem turns2 (w : World) (X : Nat) (u v : Value) : Turns (fun k => k = X) w ((w.setCell ⟨X, 0, none⟩ u).setCell ⟨X, 1, none⟩ v) :=
  ((Turns.refl (fun k => k = X) w).setCell ⟨X, 0, none⟩ u rfl).setCell ⟨X, 1, none⟩ v rfl
theorem pair_facts {W w1 : World} {T : TypeId} {x y : Value} (hb : Below (W.alloc (.cells #[x, y] T)).heap.size (W.alloc (.cells #[x, y] T)) w1) : w1.heap[W.heap.size]? = some (.cells #[x, y] T (0, 0)) :=
  (hb.block _ (by simp)).trans (heap_alloc_new W _)
theorem timer_no (h : Rs w s F M) (hb : InI b) {i : Int} (hi : i < 0 ∨ ((M b).length : Int) ≤ i) :
    Calls Tryz.prog 52 #[s, .agg #[.int .i64 b, .int .i64 i]] w fun e w' => e = .returned (.agg #[.int .u64 0, .int .u64 0]) ∧ Below w.heap.size w w' := by
  obtain ⟨A, c, V, h1, h2, h3, h4, h5⟩ := h.rd b
  have HT := Lib.hid (fun W hW => at_no (h.sv.below (w' := W) hW) hb h1 hi)
  clear h h1 h2 h3 h4 h5
  go_enter Tryz.func52, Tryz.ntmps52
  go_wp2_with fail
  have hbb : Below w.heap.size w ((w.alloc (.cells #[.int .i64 b, .int .i64 i] 45)).alloc (.cells #[.int .u64 0, .int .u64 0] 125)) := (below1 w _).alloc (by simp) _
  refine (HT.out _ hbb).mono ?_
  rintro e w1 ⟨rfl, hb1⟩
  have hx := pair_facts hb1
  rw [show (w.alloc (.cells #[Value.int .i64 b, .int .i64 i] 45)).heap.size = w.heap.size + 1 by simp] at hx
  have HB := Lib.hid (hbb.trans (hb1.mono hbb.size))
  clear hb1 hbb
  obtain ⟨X, hX⟩ : ∃ X, X = w.heap.size + 1 := ⟨_, rfl⟩
  have HX := Lib.hid hX
  rw [← hX] at hx ⊢
  have x0 : w1.cell? ⟨X, 0, none⟩ = some (.int .u64 0) := cell_row hx 0
  have x1 : w1.cell? ⟨X, 1, none⟩ = some (.int .u64 0) := cell_row hx 1
  have f0 : w1.frozen? ⟨X, 0, none⟩ = false := froz_row hx 0
  have f1 : w1.frozen? ⟨X, 1, none⟩ = false := froz_row hx 1
  have hp := pair_set hx (.int .u64 0) (.int .u64 0)
  have S0 := Lib.hid (show _ = some (Value.int .u64 0) from cell_row hp 0); have S1 := Lib.hid (show _ = some (Value.int .u64 0) from cell_row hp 1)
  clear hx hX hp
  go_wp2_with fail
  refine bodyPost_ret (v := .agg #[.int .u64 0, .int .u64 0]) (by simp [results, Tryz.results52, go_sem, S0.out, S1.out]) rfl ⟨rfl, ?_⟩
  first | exact HB.out.trans ((turns2 w1 X _ _).below HB.out.size (fun k hk e => by have := HX.out; omega)) | exact (HB.out.trans ((turns2 w1 X _ _).below HB.out.size (fun k hk e => by have := HX.out; omega))).drew
theorem timer_yes (h : Rs w s F M) (hb : InI b) {i : Nat} (hi : i < (M b).length) :
    Calls Tryz.prog 52 #[s, .agg #[.int .i64 b, .int .i64 (i : Int)]] w fun e w' => e = .returned (.agg #[.int .u64 (M b)[i]!.a, .int .u64 (M b)[i]!.f]) ∧ Below w.heap.size w w' := by
  obtain ⟨g, o, c, A', c', h1, k0, k1, k2, hg, h7, h8, h9⟩ := h.bk hi
  have HT := Lib.hid (fun W hW => at_yes (h.sv.below (w' := W) hW) hb h1 hi)
  clear h h1 k2 h7 h8 h9 hi
  generalize (M b)[i]!.a = ta at *
  generalize (M b)[i]!.f = tf at *
  have HK0 := Lib.hid (fun W (hb : Below w.heap.size w W) => (hb.cell (p := ⟨g, o + i * 3, none⟩) hg).trans k0)
  have HK1 := Lib.hid (fun W (hb : Below w.heap.size w W) => (hb.cell (p := ⟨g, o + i * 3 + 1, none⟩) hg).trans k1)
  clear k0 k1
  go_enter Tryz.func52, Tryz.ntmps52
  go_wp2_with fail
  have hbb : Below w.heap.size w ((w.alloc (.cells #[.int .i64 b, .int .i64 (i : Int)] 45)).alloc (.cells #[.int .u64 0, .int .u64 0] 125)) := (below1 w _).alloc (by simp) _
  refine (HT.out _ hbb).mono ?_
  rintro e w1 ⟨rfl, hb1⟩
  have hx := pair_facts hb1
  rw [show (w.alloc (.cells #[Value.int .i64 b, .int .i64 (i : Int)] 45)).heap.size = w.heap.size + 1 by simp] at hx
  have hbw := hbb.trans (hb1.mono hbb.size)
  have k0 := HK0.out w1 hbw
  have k1 := HK1.out w1 hbw
  have HB := Lib.hid hbw
  clear hb1 hbb hbw
  obtain ⟨X, hX⟩ : ∃ X, X = w.heap.size + 1 := ⟨_, rfl⟩
  have HX := Lib.hid hX
  rw [← hX] at hx ⊢
  have x0 : w1.cell? ⟨X, 0, none⟩ = some (.int .u64 0) := cell_row hx 0
  have x1 : w1.cell? ⟨X, 1, none⟩ = some (.int .u64 0) := cell_row hx 1
  have f0 : w1.frozen? ⟨X, 0, none⟩ = false := froz_row hx 0
  have f1 : w1.frozen? ⟨X, 1, none⟩ = false := froz_row hx 1
  have hp := pair_set hx (.int .u64 ta) (.int .u64 tf)
  have S0 := Lib.hid (show _ = some (Value.int .u64 ta) from cell_row hp 0); have S1 := Lib.hid (show _ = some (Value.int .u64 tf) from cell_row hp 1)
  clear hx hX hp
  go_upto_region 4 with (fail)
  go_region
  go_wp2_with fail
  refine bodyPost_ret (v := .agg #[.int .u64 ta, .int .u64 tf]) (by simp [results, Tryz.results52, go_sem, S0.out, S1.out]) rfl ⟨rfl, ?_⟩
  first | exact HB.out.trans ((turns2 w1 X _ _).below HB.out.size (fun k hk e => by have := HX.out; omega)) | exact (HB.out.trans ((turns2 w1 X _ _).below HB.out.size (fun k hk e => by have := HX.out; omega))).drew
end
end Go.Proofs.YtpmafdggbeppcaaGreatDoor.S10
namespace Go.Proofs.YtpmafdggbeppcaaGreatDoor.S10
open Go.Proofs.YtpmafdggbeppcaaGreatDoor
open Go.RowKit
inductive Role where
  | set
  | map
  | tab (b : Int)
  | tim (b : Int)
  | q (b : Int) (i : Nat)
deriving DecidableEq
def Fresh (own own' : Nat → Option Role) (w : World) : Prop := ∀ g r, own' g = some r → (∃ r', own g = some r') ∨ w.heap.size ≤ g
theorem Fresh.refl (own : Nat → Option Role) (w : World) : Fresh own own w := fun _ r h => .inl ⟨r, h⟩
theorem Fresh.trans {a b c : Nat → Option Role} {w w1 : World} (h : Fresh a b w) (k : Fresh b c w1) (hs : w.heap.size ≤ w1.heap.size) : Fresh a c w := fun g r e => by
  rcases k g r e with ⟨r', e'⟩ | h'
  · exact h g r' e'
  · exact .inr (by omega)
def Mine (own : Nat → Option Role) (g : Nat) : Prop := ∃ r, own g = some r
structure StF (w : World) (base : Nat) (own : Nat → Option Role) (s : Value) (n : Nat) (M : Int → List Bk) (sb mb : Nat) (F : Int → Value) (V : Int → Nat → Value) : Prop where
  fp : ∀ g r, own g = some r → base ≤ g ∧ g < w.heap.size
  hs : s = .pointer (some ⟨sb, 0, none⟩)
  hc : w.heap[sb]? = some (.cells #[.map (some mb)] 225 (0, 0))
  os : own sb = some .set
  hm : MapAt w mb n F
  om : own mb = some .map
  ht : ∀ b, Row w 0 3 (F b) (M b).length (bflat (M b) (V b))
  ot : ∀ b g, (F b).ownBlock = some g → own g = some (.tab b)
  hq : ∀ b i, i < (M b).length → RowE w 0 (V b i) (M b)[i]!.q
  oq : ∀ b i g, i < (M b).length → (V b i).ownBlock = some g → own g = some (.q b i)
def St (w : World) (base : Nat) (own : Nat → Option Role) (s : Value) (n : Nat) (M : Int → List Bk) : Prop := ∃ sb mb F V, StF w base own s n M sb mb F V
section
variable {w : World} {base : Nat} {own : Nat → Option Role} {s : Value} {n : Nat} {M : Int → List Bk} {sb mb : Nat} {F : Int → Value} {V : Int → Nat → Value}
theorem StF.keep (h : StF w base own s n M sb mb F V) {S : Nat → Prop} {w' : World} (t : Turns S w w') (hn : ∀ g, Mine own g → ¬ S g) : StF w' base own s n M sb mb F V :=
  ⟨fun g r e => ⟨(h.fp g r e).1, Nat.lt_of_lt_of_le (h.fp g r e).2 t.size⟩, h.hs, (t.block sb (h.fp sb _ h.os).2 (hn sb ⟨_, h.os⟩)).trans h.hc, h.os, h.hm.keep t (hn mb ⟨_, h.om⟩), h.om,
    fun b => (h.ht b).keep t (fun g e => hn g ⟨_, h.ot b g e⟩), h.ot, fun b i hi => (h.hq b i hi).keep t (fun g e => hn g ⟨_, h.oq b i g hi e⟩), h.oq⟩
theorem St.keep (h : St w base own s n M) {S : Nat → Prop} {w' : World} (t : Turns S w w') (hn : ∀ g, Mine own g → ¬ S g) : St w' base own s n M := by
  obtain ⟨sb, mb, F, V, h⟩ := h
  exact ⟨sb, mb, F, V, h.keep t hn⟩
theorem St.new (h : St w base own s n M) {w' : World} (hb : Below w.heap.size w w') : St w' base own s n M := h.keep (Turns.of_below (S := fun _ => False) hb) (fun _ _ e => e)
theorem St.fp (h : St w base own s n M) {g : Nat} (e : Mine own g) : base ≤ g ∧ g < w.heap.size := by
  obtain ⟨sb, mb, F, V, h⟩ := h
  obtain ⟨r, e⟩ := e
  exact h.fp g r e
theorem St.le (h : St w base own s n M) : base ≤ w.heap.size := by
  obtain ⟨sb, mb, F, V, h⟩ := h
  have := h.fp sb _ h.os
  omega
theorem StF.rs (h : StF w base own s n M sb mb F V) : Rs w s F M :=
  ⟨.inr ⟨sb, h.hs, .inr ⟨mb, n, cell_row h.hc 0, h.hm⟩⟩, fun b => by
    obtain ⟨A, c, e, h1, h2⟩ := (h.ht b).shape
    have hr := h.ht b
    rw [e] at hr
    refine ⟨A, c, V b, e, h1, h2, hr.rd, fun i hi => ?_⟩
    have hq := h.hq b i hi
    obtain ⟨A', c', e', h1', h2'⟩ := hq.shape
    rw [e'] at hq
    exact ⟨A', c', e', h1', h2', hq.rd⟩⟩
theorem St.rs (h : St w base own s n M) : ∃ F, Rs w s F M := by
  obtain ⟨sb, mb, F, V, h⟩ := h
  exact ⟨F, h.rs⟩
theorem StF.ne (h : StF w base own s n M sb mb F V) {g g' : Nat} {r r' : Role} (e : own g = some r) (e' : own g' = some r') (hr : r ≠ r') : g ≠ g' := fun h' => by
  subst h'
  rw [e] at e'
  exact hr (by simpa using e')
theorem StF.bk (h : StF w base own s n M sb mb F V) {b : Int} {i : Nat} (hi : i < (M b).length) : ∃ g o c, F b = .slice (some ⟨g, o, none⟩) (M b).length c ∧ own g = some (.tab b) ∧
    (∀ j, j < 3 → ∃ v, w.cell? ⟨g, o + i * 3 + j, none⟩ = some v ∧ w.frozen? ⟨g, o + i * 3 + j, none⟩ = false) := by
  have hr := h.ht b
  obtain ⟨A, c, e, h0, h1, h2, h3, h4⟩ := hr
  cases A with
  | none => have := h3 rfl; omega
  | some ad =>
    obtain ⟨g, o, rfl, hb, hlt, hl, hc⟩ := h4 ad rfl
    refine ⟨g, o, c, e, h.ot b g (by rw [e]; rfl), fun j hj => ?_⟩
    obtain ⟨k1, k2⟩ := hc (i * 3 + j) (by omega)
    obtain ⟨v, hv⟩ := Option.isSome_iff_exists.1 k1
    rw [← Nat.add_assoc] at hv k2
    exact ⟨v, hv, k2⟩
def ownQ (own : Nat → Option Role) (b : Int) (i : Nat) (v : Value) : Nat → Option Role := fun x => if v.ownBlock = some x then some (.q b i) else if own x = some (.q b i) then none else own x
theorem ownQ_keep {v : Value} {X : Nat} (hv : ∀ g, v.ownBlock = some g → X ≤ g) {b : Int} {i x : Nat} {r : Role} (e : own x = some r) (hx : x < X) (hr : r ≠ .q b i) : ownQ own b i v x = some r := by
  unfold ownQ
  rw [if_neg (fun e' => by have := hv x e'; omega), if_neg (fun e' => hr (by rw [e] at e'; simpa using e')), e]
theorem StF.putQ (h : StF w base own s n M sb mb F V) {b : Int} {i g o c : Nat} (hi : i < (M b).length) (hF : F b = .slice (some ⟨g, o, none⟩) (M b).length c) {w1 : World} (hb : Below w.heap.size w w1) {v : Value} {D : List Ent} (hv : RowE w1 w.heap.size v D) :
    StF (w1.setCell ⟨g, o + i * 3 + 2, none⟩ v) base (ownQ own b i v) s n (upd M b ((M b).set i { (M b)[i]! with q := D })) sb mb F (upd V b (upd (V b) i v)) := by
  have h1 := h.keep (Turns.of_below (S := fun _ => False) hb) (fun _ _ e => e)
  have hog : own g = some (.tab b) := h.ot b g (by rw [hF]; rfl)
  have hglt := (h.fp g _ hog).2
  have hvg : ∀ x, v.ownBlock = some x → w.heap.size ≤ x ∧ x < w1.heap.size := fun x e => hv.lt x e
  have hvx : ∀ x, v.ownBlock = some x → w.heap.size ≤ x := fun x e => (hvg x e).1
  have tset : Turns (fun k => k = g) w1 (w1.setCell ⟨g, o + i * 3 + 2, none⟩ v) := (Turns.refl _ w1).setCell _ _ rfl
  have hbase : base ≤ w.heap.size := by have := h.fp sb _ h.os; omega
  have hlen : ∀ b', (upd M b ((M b).set i { (M b)[i]! with q := D }) b').length = (M b').length := fun b' => by
    by_cases e : b' = b
    · subst e; rw [upd_same, List.length_set]
    · rw [upd_ne _ _ e]
  refine ⟨fun x r e => ?_, h.hs, ?_, ownQ_keep hvx h.os (h.fp sb _ h.os).2 (by simp), h1.hm.keep tset (h.ne h.om hog (by simp)), ownQ_keep hvx h.om (h.fp mb _ h.om).2 (by simp), fun b' => ?_, fun b' x e => ?_, fun b' j hj => ?_, fun b' j x hj e => ?_⟩
  · unfold ownQ at e
    have hsz : (w1.setCell ⟨g, o + i * 3 + 2, none⟩ v).heap.size = w1.heap.size := by simp [World.setCell]
    rw [hsz]
    by_cases e1 : v.ownBlock = some x
    · have := hvg x e1; omega
    · rw [if_neg e1] at e
      by_cases e2 : own x = some (.q b i)
      · rw [if_pos e2] at e; cases e
      · rw [if_neg e2] at e
        have := h.fp x r e
        have := hb.size
        omega
  · exact (tset.block sb (by have := (h1.fp sb _ h.os).2; exact this) (h.ne h.os hog (by simp))).trans h1.hc
  · rw [hlen]
    by_cases e : b' = b
    · subst e
      rw [upd_same, upd_same, ← bflat_q _ _ hi]
      have := h1.ht b'
      rw [hF] at this ⊢
      exact this.setAt (i := i * 3 + 2) (by omega) v
    · rw [upd_ne _ _ e, upd_ne _ _ e]
      exact (h1.ht b').keep tset (fun x ex => h.ne (h.ot b' x ex) hog (by simp; exact e))
  · exact ownQ_keep hvx (h.ot b' x e) (h.fp x _ (h.ot b' x e)).2 (by simp)
  · rw [hlen] at hj
    by_cases e : b' = b
    · subst e
      rw [upd_same, upd_same, get_set hi]
      by_cases e2 : j = i
      · subst e2
        rw [if_pos rfl, upd_same]
        exact (hv.keep tset (fun x ex e3 => by have := hvx x ex; omega)).base (Nat.zero_le _)
      · rw [if_neg e2, upd_ne _ _ e2]
        exact (h1.hq b' j hj).keep tset (fun x ex => h.ne (h.oq b' j x hj ex) hog (by simp))
    · rw [upd_ne _ _ e, upd_ne _ _ e]
      exact (h1.hq b' j hj).keep tset (fun x ex => h.ne (h.oq b' j x hj ex) hog (by simp))
  · rw [hlen] at hj
    by_cases e1 : b' = b ∧ j = i
    · obtain ⟨rfl, rfl⟩ := e1
      rw [upd_same, upd_same] at e
      unfold ownQ
      rw [if_pos e]
    · have e' : (V b' j).ownBlock = some x := by
        by_cases e2 : b' = b
        · subst e2
          rw [upd_same, upd_ne _ _ (fun e3 => e1 ⟨rfl, e3⟩)] at e
          exact e
        · rw [upd_ne _ _ e2] at e
          exact e
      exact ownQ_keep hvx (h.oq b' j x hj e') (h.fp x _ (h.oq b' j x hj e')).2 (by simp; exact fun e2 e3 => e1 ⟨e2, e3⟩)
theorem fresh_ownQ (own : Nat → Option Role) (b : Int) (i : Nat) {v : Value} {w : World} (hv : ∀ g, v.ownBlock = some g → w.heap.size ≤ g) : Fresh own (ownQ own b i v) w := fun g r e => by
  unfold ownQ at e
  by_cases e1 : v.ownBlock = some g
  · exact .inr (hv g e1)
  · rw [if_neg e1] at e
    by_cases e2 : own g = some (.q b i)
    · exact .inl ⟨_, e2⟩
    · rw [if_neg e2] at e
      exact .inl ⟨r, e⟩
theorem StF.putT (h : StF w base own s n M sb mb F V) {b : Int} {i g o c : Nat} (hi : i < (M b).length) (hF : F b = .slice (some ⟨g, o, none⟩) (M b).length c) (ta tf : Int) :
    StF ((w.setCell ⟨g, o + i * 3, none⟩ (.int .u64 ta)).setCell ⟨g, o + i * 3 + 1, none⟩ (.int .u64 tf)) base own s n (upd M b ((M b).set i { (M b)[i]! with a := ta, f := tf })) sb mb F V := by
  have hog : own g = some (.tab b) := h.ot b g (by rw [hF]; rfl)
  have tset : Turns (fun k => k = g) w ((w.setCell ⟨g, o + i * 3, none⟩ (.int .u64 ta)).setCell ⟨g, o + i * 3 + 1, none⟩ (.int .u64 tf)) := ((Turns.refl (fun k => k = g) w).setCell ⟨g, o + i * 3, none⟩ _ rfl).setCell ⟨g, o + i * 3 + 1, none⟩ _ rfl
  have hlen : ∀ b', (upd M b ((M b).set i { (M b)[i]! with a := ta, f := tf }) b').length = (M b').length := fun b' => by
    by_cases e : b' = b
    · subst e; rw [upd_same, List.length_set]
    · rw [upd_ne _ _ e]
  refine ⟨fun x r e => ?_, h.hs, (tset.block sb (h.fp sb _ h.os).2 (h.ne h.os hog (by simp))).trans h.hc, h.os, h.hm.keep tset (h.ne h.om hog (by simp)), h.om, fun b' => ?_, h.ot, fun b' j hj => ?_, fun b' j x hj e => ?_⟩
  · have := h.fp x r e
    have := tset.size
    omega
  · rw [hlen]
    by_cases e : b' = b
    · subst e
      rw [upd_same]
      have := h.ht b'
      rw [hF] at this ⊢
      have h2 := (this.setAt (i := i * 3) (by omega) (.int .u64 ta)).setAt (i := i * 3 + 1) (by omega) (.int .u64 tf)
      rw [bflat_a _ _ hi, bflat_f _ _ (by rw [List.length_set]; exact hi), get_set hi, if_pos rfl, List.set_set] at h2
      rw [Nat.add_assoc]
      exact h2
    · rw [upd_ne _ _ e]
      exact (h.ht b').keep tset (fun x ex => h.ne (h.ot b' x ex) hog (by simp; exact e))
  · rw [hlen] at hj
    have : (upd M b ((M b).set i { (M b)[i]! with a := ta, f := tf }) b')[j]!.q = (M b')[j]!.q := by
      by_cases e : b' = b
      · subst e
        rw [upd_same, get_set hi]
        by_cases e2 : j = i
        · subst e2; rw [if_pos rfl]
        · rw [if_neg e2]
      · rw [upd_ne _ _ e]
    rw [this]
    exact (h.hq b' j hj).keep tset (fun x ex => h.ne (h.oq b' j x hj ex) hog (by simp))
  · rw [hlen] at hj
    exact h.oq b' j x hj e
end
end Go.Proofs.YtpmafdggbeppcaaGreatDoor.S10
namespace Go.Proofs.YtpmafdggbeppcaaGreatDoor.S10
open Go.Proofs.YtpmafdggbeppcaaGreatDoor
open Go.RowKit
section
variable {w : World} {s : Value} {F : Int → Value} {M : Int → List Bk} {b : Int}
theorem put_no (h : Rs w s F M) (hb : InI b) {i : Int} (hi : i < 0 ∨ ((M b).length : Int) ≤ i) (A0 : Option Addr) (m0 c0 : Nat) :
    Calls Tryz.prog 41 #[s, .agg #[.int .i64 b, .int .i64 i], .slice A0 m0 c0] w fun e w' => e = .returned (.bool false) ∧ Below w.heap.size w w' := by
  obtain ⟨A, c, V, h1, h2, h3, h4, h5⟩ := h.rd b
  have HT := Lib.hid (fun o => at_no (h.sv.below (below1 w o)) hb h1 hi)
  clear h h1 h2 h3 h4 h5
  go_enter Tryz.func41, Tryz.ntmps41
  go_wp2_with (go_at_call 89; refine (HT.out _).mono ?_; rintro e w' ⟨rfl, hb1⟩; (have HB1 := Lib.hid hb1); (clear hb1))
  go_ret
  exact ⟨rfl, (below1 w _).trans (HB1.out.mono (by simp))⟩
theorem putT_no (h : Rs w s F M) (hb : InI b) {i : Int} (hi : i < 0 ∨ ((M b).length : Int) ≤ i) (ta tf : Int) :
    Calls Tryz.prog 44 #[s, .agg #[.int .i64 b, .int .i64 i], .agg #[.int .u64 ta, .int .u64 tf]] w fun e w' => e = .returned (.bool false) ∧ Below w.heap.size w w' := by
  obtain ⟨A, c, V, h1, h2, h3, h4, h5⟩ := h.rd b
  have HT := Lib.hid (fun W hW => at_no (h.sv.below (w' := W) hW) hb h1 hi)
  clear h h1 h2 h3 h4 h5
  have hbb : Below w.heap.size w ((w.alloc (.cells #[.int .i64 b, .int .i64 i] 45)).alloc (.cells #[.int .u64 ta, .int .u64 tf] 125)) := (below1 w _).alloc (by simp) _
  have HBB := Lib.hid hbb
  clear hbb
  go_enter Tryz.func44, Tryz.ntmps44
  go_wp2_with (go_at_call 89; refine (HT.out _ HBB.out).mono ?_; rintro e w' ⟨rfl, hb1⟩; (have HB1 := Lib.hid hb1); (clear hb1))
  go_ret
  exact ⟨rfl, HBB.out.trans (HB1.out.mono HBB.out.size)⟩
end
section
variable {w : World} {base : Nat} {own : Nat → Option Role} {s : Value} {n : Nat} {M : Int → List Bk} {b : Int}
theorem put_yes (h : St w base own s n M) (hb : InI b) {i : Nat} (hi : i < (M b).length) {b0 c0 : Nat} {A0 : Option Addr} {D : List Ent} (hr : Rd w b0 A0 (flat D)) (hb0 : b0 ≤ w.heap.size) (hlen : D.length ≤ 1000000) :
    Calls Tryz.prog 41 #[s, .agg #[.int .i64 b, .int .i64 (i : Int)], .slice A0 D.length c0] w fun e w' => e = .returned (.bool true) ∧ ∃ own', St w' base own' s n (upd M b ((M b).set i { (M b)[i]! with q := D })) ∧ Turns (Mine own) w w' ∧ Fresh own own' w := by
  obtain ⟨sb, mb, F, V, hf⟩ := h
  obtain ⟨g, o, c, hF, hog, hcs⟩ := hf.bk hi
  have HT := Lib.hid (fun o => at_yes (hf.rs.sv.below (below1 w o)) hb hF hi)
  obtain ⟨v2, k2, f2⟩ := hcs 2 (by omega)
  have hgl := (hf.fp g _ hog).2
  have HK := Lib.hid (fun W (hb : Below w.heap.size w W) => (hb.cell (p := ⟨g, o + i * 3 + 2, none⟩) hgl).trans k2)
  have HFZ := Lib.hid (fun W (hb : Below w.heap.size w W) => (hb.frozen (p := ⟨g, o + i * 3 + 2, none⟩) hgl).trans f2)
  have HF := Lib.hid hF; have HST := Lib.hid hf; have HR := Lib.hid hr; have HB0 := Lib.hid hb0; have HI := Lib.hid hi; have HOG := Lib.hid hog
  clear hf hF hcs k2 f2 hr hb0 hi hog
  obtain ⟨m, hm⟩ : ∃ m, m = D.length := ⟨_, rfl⟩
  rw [← hm]
  have HM := Lib.hid hm
  clear hm
  go_enter Tryz.func41, Tryz.ntmps41
  go_wp2_with fail
  refine (HT.out _).mono ?_
  rintro e w1 ⟨rfl, hb1⟩
  have HB1 := Lib.hid ((below1 w _).trans (hb1.mono (by simp)))
  clear hb1
  go_wp2_with fail
  rw [HM.out]
  refine (copied_any c0 (HR.out.below HB1.out HB0.out) (Nat.le_trans HB0.out HB1.out.size) hlen).mono ?_
  rintro e w2 ⟨A2, rfl, hr2, hb2⟩
  have HB2 := Lib.hid (HB1.out.trans (hb2.mono HB1.out.size))
  have HR2 := Lib.hid (hr2.base HB1.out.size)
  clear hr2 hb2
  have k2 := HK.out w2 HB2.out
  have f2 := HFZ.out w2 HB2.out
  go_wp2_with fail
  go_ret
  refine ⟨rfl, _, ⟨sb, mb, F, _, HST.out.putQ HI.out HF.out HB2.out HR2.out⟩, ?_, fresh_ownQ _ _ _ (fun g e => (HR2.out.lt g e).1)⟩
  exact (Turns.of_below HB2.out).setCell _ _ ⟨_, HOG.out⟩
theorem putT_yes (h : St w base own s n M) (hb : InI b) {i : Nat} (hi : i < (M b).length) (ta tf : Int) :
    Calls Tryz.prog 44 #[s, .agg #[.int .i64 b, .int .i64 (i : Int)], .agg #[.int .u64 ta, .int .u64 tf]] w fun e w' => e = .returned (.bool true) ∧ St w' base own s n (upd M b ((M b).set i { (M b)[i]! with a := ta, f := tf })) ∧ Turns (Mine own) w w' := by
  obtain ⟨sb, mb, F, V, hf⟩ := h
  obtain ⟨g, o, c, hF, hog, hcs⟩ := hf.bk hi
  have HT := Lib.hid (fun W hW => at_yes (hf.rs.sv.below (w' := W) hW) hb hF hi)
  obtain ⟨v0, k0, f0⟩ := hcs 0 (by omega)
  obtain ⟨v1, k1, f1⟩ := hcs 1 (by omega)
  rw [Nat.add_zero] at k0 f0
  have hgl := (hf.fp g _ hog).2
  have HK := Lib.hid (fun W (hb : Below w.heap.size w W) => (⟨(hb.cell (p := ⟨g, o + i * 3, none⟩) hgl).trans k0, (hb.cell (p := ⟨g, o + i * 3 + 1, none⟩) hgl).trans k1, (hb.frozen (p := ⟨g, o + i * 3, none⟩) hgl).trans f0, (hb.frozen (p := ⟨g, o + i * 3 + 1, none⟩) hgl).trans f1⟩ : _ ∧ _ ∧ _ ∧ _))
  have HF := Lib.hid hF; have HST := Lib.hid hf; have HI := Lib.hid hi; have HOG := Lib.hid hog; have HGL := Lib.hid hgl
  clear hf hF hcs k0 f0 k1 f1 hi hog
  have hbb : Below w.heap.size w ((w.alloc (.cells #[.int .i64 b, .int .i64 (i : Int)] 45)).alloc (.cells #[.int .u64 ta, .int .u64 tf] 125)) := (below1 w _).alloc (by simp) _
  have HBB := Lib.hid hbb
  clear hbb
  go_enter Tryz.func44, Tryz.ntmps44
  go_wp2_with fail
  refine (HT.out _ HBB.out).mono ?_
  rintro e w1 ⟨rfl, hb1⟩
  have hx := pair_facts hb1
  rw [show (w.alloc (.cells #[Value.int .i64 b, .int .i64 (i : Int)] 45)).heap.size = w.heap.size + 1 by simp] at hx
  have HB1 := Lib.hid (HBB.out.trans (hb1.mono HBB.out.size))
  clear hb1
  have x0 : w1.cell? ⟨w.heap.size + 1, 0, none⟩ = some (.int .u64 ta) := cell_row hx 0
  have x1 : w1.cell? ⟨w.heap.size + 1, 1, none⟩ = some (.int .u64 tf) := cell_row hx 1
  clear hx
  have hgX : g ≠ w.heap.size + 1 := by have := HGL.out; omega
  obtain ⟨k0, k1, f0, f1⟩ := HK.out w1 HB1.out
  obtain ⟨X, hX⟩ : ∃ X, X = w.heap.size + 1 := ⟨_, rfl⟩
  rw [← hX] at x0 x1 hgX ⊢
  clear hX
  go_upto_region 4 with (fail)
  go_region
  all_goals
    go_wp2_with fail
    go_ret
    have hS := (HST.out.keep (Turns.of_below (S := fun _ => False) HB1.out) (fun _ _ e => e)).putT HI.out HF.out ta tf
    refine ⟨rfl, ⟨sb, mb, F, V, hS.keep (Turns.refl (fun _ => False) _).drew (fun _ _ e => e)⟩, ?_⟩
    exact (((Turns.of_below HB1.out).setCell _ _ ⟨_, HOG.out⟩).setCell _ _ ⟨_, HOG.out⟩).drew
end
end Go.Proofs.YtpmafdggbeppcaaGreatDoor.S10
