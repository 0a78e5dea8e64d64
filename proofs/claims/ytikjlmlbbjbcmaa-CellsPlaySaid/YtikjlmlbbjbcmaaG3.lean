/- CellsPlay. -/
import Derived.Test.YtikjlmlbbjbcmaaG2
import Derived.Deep.AppendLies
namespace Go.Proofs.Ytikjlmlbbjbcmaa
open Go.RowKit Go.Maps

def wsL (A V : Nat → Nat) (k : Nat) : LL := (List.range k).map fun i => (A i, V i)
theorem wsL_len (A V : Nat → Nat) (k : Nat) : (wsL A V k).length = k := by simp [wsL]
theorem wsL_succ (A V : Nat → Nat) (k : Nat) : wsL A V (k + 1) = wsL A V k ++ [(A k, V k)] := by simp [wsL, List.range_succ]
theorem wsL_get (A V : Nat → Nat) (k i : Nat) (h : i < k) : (wsL A V k)[i]! = (A i, V i) := by
  rw [getElem!_pos _ i (by rw [wsL_len]; exact h)]
  simp [wsL]
theorem WIn.up {w : World} {base b : Nat} {p : Option Addr} {n : Nat} {A V : Nat → Nat} (h : WIn w base p n A V) (hb : base ≤ b) : WIn w b p n A V := fun hn => by
  obtain ⟨lb, lo, e, hl, hc⟩ := h hn
  exact ⟨lb, lo, e, by omega, hc⟩
/-- Acts that lie below a base. -/
def AIn (w : World) (base : Nat) (p : Option Addr) (n : Nat) (K A V U : Nat → Nat) (R : Nat → Bool) : Prop := 0 < n → ∃ lb lo, p = some ⟨lb, lo, none⟩ ∧ lb < base ∧ ∀ i, i < n → (w.cell? ⟨lb, lo + i * 5, none⟩ = some (.int .u8 (K i)) ∧ w.cell? ⟨lb, lo + i * 5 + 1, none⟩ = some (.int .u32 (A i)) ∧ w.cell? ⟨lb, lo + i * 5 + 2, none⟩ = some (.int .u64 (V i)) ∧ w.cell? ⟨lb, lo + i * 5 + 3, none⟩ = some (.int .u64 (U i)) ∧ w.cell? ⟨lb, lo + i * 5 + 4, none⟩ = some (.bool (R i)))
theorem both_make {w1 w2 : World} {base B R : Nat} {s : Value} {L : LL} (hst : St w1 B B L 0 0 0 0 0) (hR : w1.heap.size ≤ R) (hra : RefAt w2 w1.heap.size R s L 0 0 0 0 0) (hb2 : Below w1.heap.size w1 w2) (hbase : base ≤ B) (byt : Byt L) : Both w2 base B R L 0 0 0 0 0 := by
  obtain ⟨hs1, _, M, c, hm⟩ := hst
  have hBl := c.lt B (.inl rfl)
  have hso := hra.own.lt
  refine ⟨by have := hb2.size; omega, hbase, by omega, by omega, byt, M, s, c.kept (Turns.of_below (S := fun _ => False) hb2) (fun _ _ e => e), ⟨hra.good, hra.row, row_base hra.own (by omega), hra.ne⟩, fun m e => ?_, fun e => ?_⟩
  · have h1 := hm m e
    have h2 := c.lt m (.inr e)
    exact ⟨by omega, by omega, fun e' => by have := (hso m e').1; omega⟩
  · have := (hso B e).1
    omega
theorem both_peek {w : World} {base B R : Nat} {L : LL} {n k a was is x : Nat} (h : Both w base B R L n k a was is) (hx : x < 4294967296) : Calls Try.prog 12 #[Pt B, .int .u32 x] w fun e w' => e = .returned (.int .u64 (look L x : Nat)) ∧ w = w' := by
  obtain ⟨_, _, _, _, _, M, s, c, r, _, _⟩ := h
  exact peek_any w B M L n k a was is x c hx
theorem both_rpeek {w : World} {base B R : Nat} {L : LL} {n k a was is x : Nat} (h : Both w base B R L n k a was is) : Calls Try.prog 13 #[Pt R, .int .u32 x] w fun e w' => e = .returned (.int .u64 (look L x : Nat)) ∧ w = w' := by
  obtain ⟨_, _, _, _, _, M, s, c, r, _, _⟩ := h
  exact rpeek_any w base R s L n k a was is x r
theorem both_words {w : World} {base B R : Nat} {L : LL} {n k a was is : Nat} (h : Both w base B R L n k a was is) : Calls Try.prog 16 #[Pt B] w (Tells w L) := by
  obtain ⟨_, _, _, _, _, M, s, c, r, _, _⟩ := h
  exact words_any w B M L n k a was is c
theorem keep5 {w w' : World} {base lb o K A V U : Nat} {R : Bool} (hb : Below base w w') (hl : lb < base)
    (h : w.cell? ⟨lb, o, none⟩ = some (.int .u8 K) ∧ w.cell? ⟨lb, o + 1, none⟩ = some (.int .u32 A) ∧ w.cell? ⟨lb, o + 2, none⟩ = some (.int .u64 V) ∧ w.cell? ⟨lb, o + 3, none⟩ = some (.int .u64 U) ∧ w.cell? ⟨lb, o + 4, none⟩ = some (.bool R)) :
    w'.cell? ⟨lb, o, none⟩ = some (.int .u8 K) ∧ w'.cell? ⟨lb, o + 1, none⟩ = some (.int .u32 A) ∧ w'.cell? ⟨lb, o + 2, none⟩ = some (.int .u64 V) ∧ w'.cell? ⟨lb, o + 3, none⟩ = some (.int .u64 U) ∧ w'.cell? ⟨lb, o + 4, none⟩ = some (.bool R) :=
  ⟨(hb.cell (by exact hl)).trans h.1, (hb.cell (by exact hl)).trans h.2.1, (hb.cell (by exact hl)).trans h.2.2.1, (hb.cell (by exact hl)).trans h.2.2.2.1, (hb.cell (by exact hl)).trans h.2.2.2.2⟩
theorem AIn.below {w w' : World} {base b n : Nat} {p : Option Addr} {K A V U : Nat → Nat} {R : Nat → Bool} (h : AIn w base p n K A V U R) (hb : Below b w w') (hbb : base ≤ b) : AIn w' base p n K A V U R := fun hn => by
  obtain ⟨lb, lo, e, hl, hc⟩ := h hn
  exact ⟨lb, lo, e, hl, fun i hi => keep5 hb (by omega) (hc i hi)⟩
/-- Cells that may be written. -/
def Wr (w : World) (g m : Nat) : Prop := ∀ j, j < m → ∃ v, w.cell? ⟨g, j, none⟩ = some v ∧ w.frozen? ⟨g, j, none⟩ = false
theorem Wr.set {w : World} {g m : Nat} (h : Wr w g m) (o : Nat) (v : Value) : Wr (w.setCell ⟨g, o, none⟩ v) g m := by
  intro j hj
  obtain ⟨u, hu, hf⟩ := h j hj
  by_cases e : j = o
  · subst e
    exact ⟨v, World.cell?_setCell_same _ _ _ hu, (World.frozen?_setCell _ _ _ _).trans hf⟩
  · exact ⟨u, (World.cell?_setCell_other _ _ _ _ (by simp; (try omega))).trans hu, (World.frozen?_setCell _ _ _ _).trans hf⟩
theorem wr_of_holds {w : World} {g : Nat} {L : LL} (h : Go.Sort.HoldsK encW 2 w g 0 L.toArray) : Wr w g (L.length * 2) := by
  intro j hj
  have := h j (by simpa using hj)
  rw [Nat.zero_add] at this
  exact ⟨_, this.1, this.2⟩
set_option maxHeartbeats 8000000 in
set_option maxRecDepth 100000 in
theorem law_play (p p2 : Option Addr) (n c n2 c2 : Nat) (A V : Nat → Nat) (K A2 V2 U2 : Nat → Nat) (Rg : Nat → Bool) (hn : n ≤ 100) (hn2 : n2 ≤ 200) (hok : WOk n A V) (hok2 : WOk n2 A2 V2) (w : World) (hin : WIn w w.heap.size p n A V) (hac : AIn w w.heap.size p2 n2 K A2 V2 U2 Rg) :
    Calls Try.prog 3 #[.slice p n c, .slice p2 n2 c2] w fun e w' => e = .returned (.bool true) ∧ Below w.heap.size w w' := by
  have HIN := Lib.hid hin; have HOK := Lib.hid hok; have HAC := Lib.hid hac; have HOK2 := Lib.hid hok2
  clear hin hok hac hok2
  have hl := fun W => lives_any W
  have HL := Lib.hid hl
  clear hl
  obtain ⟨i0, hi, hz0, hz1, hz2⟩ := info_parts info31
  go_enter Try.func3, Try.ntmps3
  go_wp2_with fail
  go_loopg [5, 6] n (fun q s5 s6 wx => ∃ k : Nat, k ≤ n ∧ q = n - k ∧ s6 = .int .i64 k ∧ wx.ownsRow w.heap.size 31 2 s5 k (flatW (wsL A V k)) ∧ Below w.heap.size w wx)
  case atStart => exact ⟨0, by omega, rfl, rfl, World.ownsRow_nil _ _ _ _, Below.refl _ _⟩
  case round =>
    obtain ⟨k, hk, rfl, rfl, hown, hb⟩ := hrel
    have HOW := Lib.hid hown; have HB := Lib.hid hb
    clear hown
    by_cases hkn : k < n
    · obtain ⟨lb, lo, rfl, hlb, hc⟩ := HIN.out.below hb (Nat.le_refl _) (by omega)
      obtain ⟨d0, d1⟩ := hc k hkn
      have hsz := hb.size
      clear hc hb
      go_upto_region 7 with (fail)
      have hne1 : some lb ≠ u5.ownBlock := fun e => by have := (HOW.out.lt lb e.symm).1; omega
      refine wp_region_held_drew (S := fun w' => w'.cell? ⟨lb, lo + k * 2, none⟩ = some (.int .u32 (A k)) ∧ w'.cell? ⟨lb, lo + k * 2 + 1, none⟩ = some (.int .u64 (V k)) ∧ True) (by kernel_rfl) ?_ (fun hHeld => ?_)
      · exact ⟨d0, d1, trivial⟩
      refine wpAnyH_take (i := 0) (oi := ({ dst := some 27, op := Op.move (Operand.tmp 5), type := 25, pos := "law.go:51", after := #[], guard := none } : Oper)) (v := ?vw0) rfl (by kernel_rfl) (by kernel_rfl) (by kernel_rfl) (fun _ _ _ h => h) (Or.inl ⟨by rfl, fun w hSw => ?hyw0⟩) (by assumption) ?rw0
      case hyw0 => (try dsimp only at hSw); go_simp; (try with_reducible rfl)
      (try simp only [Act.put, List.setIfInBounds_toArray, List.set_cons_zero, List.set_cons_succ])
      refine wpAnyH_take (i := 1) (oi := ({ dst := some 28, op := Op.move (Operand.tmp 0), type := 22, pos := "law.go:51", after := #[], guard := none } : Oper)) (v := ?vw1) rfl (by kernel_rfl) (by kernel_rfl) (by kernel_rfl) (fun _ _ _ h => h) (Or.inl ⟨by rfl, fun w hSw => ?hyw1⟩) (by assumption) ?rw1
      case hyw1 => (try dsimp only at hSw); go_simp; (try with_reducible rfl)
      (try simp only [Act.put, List.setIfInBounds_toArray, List.set_cons_zero, List.set_cons_succ])
      refine wpAnyH_take (i := 2) (oi := ({ dst := some 29, op := Op.move (Operand.tmp 6), type := 3, pos := "law.go:51", after := #[], guard := none } : Oper)) (v := ?vw2) rfl (by kernel_rfl) (by kernel_rfl) (by kernel_rfl) (fun _ _ _ h => h) (Or.inl ⟨by rfl, fun w hSw => ?hyw2⟩) (by assumption) ?rw2
      case hyw2 => (try dsimp only at hSw); go_simp; (try with_reducible rfl)
      (try simp only [Act.put, List.setIfInBounds_toArray, List.set_cons_zero, List.set_cons_succ])
      refine wpAnyH_take (i := 3) (oi := ({ dst := some 30, op := Op.indexAddr 22 (Operand.tmp 28) (Operand.tmp 29), type := 0, pos := "law.go:51", after := #[{ on := 1, ground := Ground.data }, { on := 2, ground := Ground.data }], guard := none } : Oper)) (v := ?vw3) rfl (by kernel_rfl) (by kernel_rfl) (by kernel_rfl) (fun _ _ _ h => h) (Or.inl ⟨by rfl, fun w hSw => ?hyw3⟩) (by assumption) ?rw3
      case hyw3 => (try dsimp only at hSw); go_simp; (try with_reducible rfl)
      (try simp only [Act.put, List.setIfInBounds_toArray, List.set_cons_zero, List.set_cons_succ])
      refine wpAnyH_take (i := 4) (oi := ({ dst := some 31, op := Op.fieldAddr 30 (Operand.tmp 30) 0, type := 0, pos := "law.go:51", after := #[{ on := 3, ground := Ground.data }], guard := none } : Oper)) (v := ?vw4) rfl (by kernel_rfl) (by kernel_rfl) (by kernel_rfl) (fun _ _ _ h => h) (Or.inl ⟨by rfl, fun w hSw => ?hyw4⟩) (by assumption) ?rw4
      case hyw4 => (try dsimp only at hSw); go_simp; (try with_reducible rfl)
      (try simp only [Act.put, List.setIfInBounds_toArray, List.set_cons_zero, List.set_cons_succ])
      refine wpAnyH_take (i := 5) (oi := ({ dst := some 32, op := Op.load 27 (Operand.tmp 31), type := 27, pos := "law.go:51", after := #[{ on := 4, ground := Ground.data }], guard := none } : Oper)) (v := ?vw5) rfl (by kernel_rfl) (by kernel_rfl) (by kernel_rfl) (fun _ _ _ h => h) (Or.inl ⟨by rfl, fun w hSw => ?hyw5⟩) (by assumption) ?rw5
      case hyw5 => (try dsimp only at hSw); go_simp; (try with_reducible rfl)
      (try simp only [Act.put, List.setIfInBounds_toArray, List.set_cons_zero, List.set_cons_succ])
      refine wpAnyH_take (i := 6) (oi := ({ dst := some 33, op := Op.move (Operand.tmp 0), type := 22, pos := "law.go:51", after := #[], guard := none } : Oper)) (v := ?vw6) rfl (by kernel_rfl) (by kernel_rfl) (by kernel_rfl) (fun _ _ _ h => h) (Or.inl ⟨by rfl, fun w hSw => ?hyw6⟩) (by assumption) ?rw6
      case hyw6 => (try dsimp only at hSw); go_simp; (try with_reducible rfl)
      (try simp only [Act.put, List.setIfInBounds_toArray, List.set_cons_zero, List.set_cons_succ])
      refine wpAnyH_take (i := 7) (oi := ({ dst := some 34, op := Op.move (Operand.tmp 6), type := 3, pos := "law.go:51", after := #[], guard := none } : Oper)) (v := ?vw7) rfl (by kernel_rfl) (by kernel_rfl) (by kernel_rfl) (fun _ _ _ h => h) (Or.inl ⟨by rfl, fun w hSw => ?hyw7⟩) (by assumption) ?rw7
      case hyw7 => (try dsimp only at hSw); go_simp; (try with_reducible rfl)
      (try simp only [Act.put, List.setIfInBounds_toArray, List.set_cons_zero, List.set_cons_succ])
      refine wpAnyH_take (i := 8) (oi := ({ dst := some 35, op := Op.indexAddr 22 (Operand.tmp 33) (Operand.tmp 34), type := 0, pos := "law.go:51", after := #[{ on := 6, ground := Ground.data }, { on := 7, ground := Ground.data }], guard := none } : Oper)) (v := ?vw8) rfl (by kernel_rfl) (by kernel_rfl) (by kernel_rfl) (fun _ _ _ h => h) (Or.inl ⟨by rfl, fun w hSw => ?hyw8⟩) (by assumption) ?rw8
      case hyw8 => (try dsimp only at hSw); go_simp; (try with_reducible rfl)
      (try simp only [Act.put, List.setIfInBounds_toArray, List.set_cons_zero, List.set_cons_succ])
      refine wpAnyH_take (i := 9) (oi := ({ dst := some 36, op := Op.fieldAddr 30 (Operand.tmp 35) 1, type := 0, pos := "law.go:51", after := #[{ on := 8, ground := Ground.data }], guard := none } : Oper)) (v := ?vw9) rfl (by kernel_rfl) (by kernel_rfl) (by kernel_rfl) (fun _ _ _ h => h) (Or.inl ⟨by rfl, fun w hSw => ?hyw9⟩) (by assumption) ?rw9
      case hyw9 => (try dsimp only at hSw); go_simp; (try with_reducible rfl)
      (try simp only [Act.put, List.setIfInBounds_toArray, List.set_cons_zero, List.set_cons_succ])
      refine wpAnyH_take (i := 10) (oi := ({ dst := some 37, op := Op.load 28 (Operand.tmp 36), type := 28, pos := "law.go:51", after := #[{ on := 9, ground := Ground.data }], guard := none } : Oper)) (v := ?vw10) rfl (by kernel_rfl) (by kernel_rfl) (by kernel_rfl) (fun _ _ _ h => h) (Or.inl ⟨by rfl, fun w hSw => ?hyw10⟩) (by assumption) ?rw10
      case hyw10 => (try dsimp only at hSw); go_simp; (try with_reducible rfl)
      (try simp only [Act.put, List.setIfInBounds_toArray, List.set_cons_zero, List.set_cons_succ])
      refine wpAnyH_take (i := 11) (oi := ({ dst := some 38, op := Op.build 31 #[(0, Operand.tmp 32), (1, Operand.tmp 37)], type := 31, pos := "law.go:51", after := #[{ on := 5, ground := Ground.data }, { on := 10, ground := Ground.data }], guard := none } : Oper)) (v := ?vw11) rfl (by kernel_rfl) (by kernel_rfl) (by kernel_rfl) (fun _ _ _ h => h) (Or.inl ⟨by rfl, fun w hSw => ?hyw11⟩) (by assumption) ?rw11
      case hyw11 => (try dsimp only at hSw); go_simp; (try with_reducible rfl)
      (try simp only [Act.put, List.setIfInBounds_toArray, List.set_cons_zero, List.set_cons_succ])
      refine wpAnyH_ready (rs := [12]) (by kernel_rfl) (by simp) ?_
      refine AllReadyH.cons (o := ({ dst := some 39, op := Op.buildSlice 25 1 #[(0, Operand.tmp 38)], type := 25, pos := "law.go:51", after := #[{ on := 11, ground := Ground.data }], guard := none } : Oper)) rfl (fun K hK => ?_) AllReadyH.nil
      go_simp
      refine hK.out _ _ ?_ (fun hHeld => ?_)
      · exact ⟨(World.cell?_alloc_lt _ _ _ (by show lb < wr.heap.size; omega)).trans d0, (World.cell?_alloc_lt _ _ _ (by show lb < wr.heap.size; omega)).trans d1, trivial⟩
      clear hK K
      (try simp only [Act.put, List.setIfInBounds_toArray, List.set_cons_zero, List.set_cons_succ])
      refine wpAnyH_ready (rs := [13]) (by kernel_rfl) (by simp) ?_
      refine AllReadyH.cons (o := ({ dst := some 40, op := Op.call { callee := Callee.builtin Builtin.append, args := #[Operand.tmp 27, Operand.tmp 39], argTypes := #[25, 25] }, type := 25, pos := "law.go:51", after := #[{ on := 0, ground := Ground.data }, { on := 12, ground := Ground.data }], guard := none } : Oper)) rfl (fun K hK => ?_) AllReadyH.nil
      (refine step_append_lies _ rfl _ _ 25 rfl w.heap.size 31 i0 (.agg #[.int .u32 0, .int .u64 0]) 2 16 Try.underlying25 hi hz0 hz1 hz2 rfl (by decide) _ k (flatW (wsL A V k)) rfl (HOW.out.drew.alloc _) ⟨wr.heap.size, 0, none⟩ 1 1 [.int .u32 (A k), .int .u64 (V k)] rfl rfl (pair_new wr _ _ _) (by intro j hj; simp at hj; rcases hj with rfl | rfl <;> rfl) (by omega) (by unfold maxLen; omega) (by omega) (by simp; omega) _ rfl ?_; intro g cap w3 hown3 hg3 _ _)
      refine hK.out _ _ ?_ (fun hHeld => ?_)
      · exact ⟨hg3.cell hHeld.1 hne1, hg3.cell hHeld.2.1 hne1, trivial⟩
      clear hK K
      (try simp only [Act.put, List.setIfInBounds_toArray, List.set_cons_zero, List.set_cons_succ])
      refine wpAnyH_take (i := 14) (oi := ({ dst := some 5, op := Op.assign (Operand.tmp 40), type := 25, pos := "law.go:51", after := #[{ on := 13, ground := Ground.data }, { on := 13, ground := Ground.chain }, { on := 0, ground := Ground.phase }, { on := 1, ground := Ground.phase }, { on := 2, ground := Ground.phase }, { on := 3, ground := Ground.phase }, { on := 4, ground := Ground.phase }, { on := 5, ground := Ground.phase }, { on := 6, ground := Ground.phase }, { on := 7, ground := Ground.phase }, { on := 8, ground := Ground.phase }, { on := 9, ground := Ground.phase }, { on := 10, ground := Ground.phase }, { on := 11, ground := Ground.phase }, { on := 12, ground := Ground.phase }, { on := 13, ground := Ground.phase }], guard := none } : Oper)) (v := ?vw14) rfl (by kernel_rfl) (by kernel_rfl) (by kernel_rfl) (fun _ _ _ h => h) (Or.inl ⟨by rfl, fun w hSw => ?hyw14⟩) (by assumption) ?rw14
      case hyw14 => (try dsimp only at hSw); go_simp; (try with_reducible rfl)
      (try simp only [Act.put, List.setIfInBounds_toArray, List.set_cons_zero, List.set_cons_succ])
      refine wpAnyH_done (by kernel_rfl) ?_ _
      have hb3 : Below w.heap.size w w3 := ((HB.out.drew).alloc hsz _).grown hg3 (by simp; omega) (fun j hj => (HOW.out.lt j hj).1)
      have HB3 := Lib.hid hb3; have HO3 := Lib.hid hown3
      clear hb3 hown3 hg3
      go_wp2_with fail
      go_roundg (n - (k + 1))
      case measure => omega
      case rel => exact ⟨k + 1, by omega, rfl, by go_num, by rw [wsL_succ, flatW_snoc]; exact HO3.out, HB3.out⟩
    · obtain rfl : k = n := by omega
      obtain ⟨q, cap, rfl, hq⟩ := row_slice HOW.out
      obtain ⟨wo, rfl⟩ : ∃ wo : World, wo = wr := ⟨_, rfl⟩
      have hww : WIn wo wo.heap.size q k A V := by
        intro hpos
        obtain ⟨g, rfl⟩ := hq hpos
        have hh : wo.ownsRow w.heap.size 31 2 (.slice (some ⟨g, 0, none⟩) (wsL A V k).length cap) (wsL A V k).length (flatW (wsL A V k)) := by rw [wsL_len]; exact HOW.out
        refine ⟨g, 0, rfl, (HOW.out.lt g rfl).2, fun i hi => ?_⟩
        have := row_pair hh i (by rw [wsL_len]; exact hi)
        rw [wsL_get A V k i hi] at this
        simpa using this
      have hs0 := HB.out.size
      have hnew := new_any p k c A V hn HOK.out wo ((HIN.out.below HB.out (Nat.le_refl _)).up hs0)
      have HNEW := Lib.hid hnew; have HWW := Lib.hid hww
      clear hnew hww hq hb
      go_wp2_with fail
      refine HNEW.out.mono ?_
      rintro e w1 ⟨rfl, hst, hb1⟩
      have hrn := rnew_any q k cap A V hn HOK.out w1 ((HWW.out.below hb1 (Nat.le_refl _)).up hb1.size)
      have HRN := Lib.hid hrn; have HST := Lib.hid hst; have HB1 := Lib.hid hb1
      clear hrn hst hb1
      go_wp2_with fail
      refine HRN.out.mono ?_
      rintro e w2 ⟨R, s, rfl, hR, hra, hb2⟩
      have hB := both_make (base := w.heap.size) HST.out hR hra hb2 hs0 (newL_good HOK.out k (Nat.le_refl _)).2
      have hlow2 : Below w.heap.size w w2 := (HB.out.trans (HB1.out.mono hs0)).trans (hb2.mono (Nat.le_trans hs0 HB1.out.size))
      have BB := Lib.hid hB; have LOW2 := Lib.hid hlow2
      clear hB hlow2 hra hb2 hR
      go_wp2_with fail
      refine (same_any w2 w.heap.size wo.heap.size R (newL A V k) 0 0 0 0 0 BB.out).mono ?_
      rintro e w3 ⟨rfl, h3⟩
      have B3 := Lib.hid (BB.out.new h3); have LOW3 := Lib.hid (LOW2.out.trans (h3.mono BB.out.size))
      clear h3
      go_wp2_with fail
      go_loopg [9] n2 (fun q s9 wx => ∃ (k : Nat) (L : LL) (kd a was is : Nat), k ≤ n2 ∧ q = n2 - k ∧ s9 = .int .i64 k ∧ Both wx w.heap.size wo.heap.size R L k kd a was is ∧ Below w.heap.size w wx)
      case atStart => exact ⟨0, _, 0, 0, 0, 0, by omega, rfl, rfl, B3.out, LOW3.out⟩
      case round =>
        obtain ⟨k', L, kd, a, was, is, hk2, rfl, rfl, hbo0, hl0⟩ := hrel
        obtain ⟨k, rfl⟩ : ∃ k : Nat, k = k' := ⟨_, rfl⟩
        have BO := Lib.hid hbo0; have LO := Lib.hid hl0
        clear hbo0
        by_cases hkn2 : k < n2
        · obtain ⟨lb, lo, rfl, hlb, hc⟩ := HAC.out.below hl0 (Nat.le_refl _) (by omega)
          have hcells := hc k hkn2
          obtain ⟨hA, hV⟩ := HOK2.out k hkn2
          have BD := Lib.hid (BO.out.new ((Below.refl _ _).drew : Below wr.heap.size wr wr.drew))
          clear hc hl0
          go_upto_region 15 with (fail)
          refine wp_region_held_drew (S := fun w' => w'.cell? ⟨lb, lo + k * 5, none⟩ = some (.int .u8 (K k)) ∧ w'.cell? ⟨lb, lo + k * 5 + 1, none⟩ = some (.int .u32 (A2 k)) ∧ w'.cell? ⟨lb, lo + k * 5 + 2, none⟩ = some (.int .u64 (V2 k)) ∧ w'.cell? ⟨lb, lo + k * 5 + 3, none⟩ = some (.int .u64 (U2 k)) ∧ w'.cell? ⟨lb, lo + k * 5 + 4, none⟩ = some (.bool (Rg k))) (by kernel_rfl) ?_ (fun hHeld => ?_)
          · exact hcells
          refine wpAnyH_take (i := 0) (oi := ({ dst := some 55, op := Op.move (Operand.tmp 7), type := 32, pos := "law.go:59", after := #[], guard := none } : Oper)) (v := ?vz0) rfl (by kernel_rfl) (by kernel_rfl) (by kernel_rfl) (fun _ _ _ h => h) (Or.inl ⟨by rfl, fun w hSw => ?hyz0⟩) (by assumption) ?rz0
          case hyz0 => (try dsimp only at hSw); go_simp; (try with_reducible rfl)
          (try simp only [Act.put, List.setIfInBounds_toArray, List.set_cons_zero, List.set_cons_succ])
          refine wpAnyH_take (i := 1) (oi := ({ dst := some 56, op := Op.move (Operand.tmp 8), type := 34, pos := "law.go:59", after := #[], guard := none } : Oper)) (v := ?vz1) rfl (by kernel_rfl) (by kernel_rfl) (by kernel_rfl) (fun _ _ _ h => h) (Or.inl ⟨by rfl, fun w hSw => ?hyz1⟩) (by assumption) ?rz1
          case hyz1 => (try dsimp only at hSw); go_simp; (try with_reducible rfl)
          (try simp only [Act.put, List.setIfInBounds_toArray, List.set_cons_zero, List.set_cons_succ])
          refine wpAnyH_take (i := 2) (oi := ({ dst := some 57, op := Op.move (Operand.tmp 1), type := 23, pos := "law.go:59", after := #[], guard := none } : Oper)) (v := ?vz2) rfl (by kernel_rfl) (by kernel_rfl) (by kernel_rfl) (fun _ _ _ h => h) (Or.inl ⟨by rfl, fun w hSw => ?hyz2⟩) (by assumption) ?rz2
          case hyz2 => (try dsimp only at hSw); go_simp; (try with_reducible rfl)
          (try simp only [Act.put, List.setIfInBounds_toArray, List.set_cons_zero, List.set_cons_succ])
          refine wpAnyH_take (i := 3) (oi := ({ dst := some 58, op := Op.move (Operand.tmp 9), type := 3, pos := "law.go:59", after := #[], guard := none } : Oper)) (v := ?vz3) rfl (by kernel_rfl) (by kernel_rfl) (by kernel_rfl) (fun _ _ _ h => h) (Or.inl ⟨by rfl, fun w hSw => ?hyz3⟩) (by assumption) ?rz3
          case hyz3 => (try dsimp only at hSw); go_simp; (try with_reducible rfl)
          (try simp only [Act.put, List.setIfInBounds_toArray, List.set_cons_zero, List.set_cons_succ])
          refine wpAnyH_take (i := 4) (oi := ({ dst := some 59, op := Op.indexAddr 23 (Operand.tmp 57) (Operand.tmp 58), type := 0, pos := "law.go:59", after := #[{ on := 2, ground := Ground.data }, { on := 3, ground := Ground.data }], guard := none } : Oper)) (v := ?vz4) rfl (by kernel_rfl) (by kernel_rfl) (by kernel_rfl) (fun _ _ _ h => h) (Or.inl ⟨by rfl, fun w hSw => ?hyz4⟩) (by assumption) ?rz4
          case hyz4 => (try dsimp only at hSw); go_simp; (try with_reducible rfl)
          (try simp only [Act.put, List.setIfInBounds_toArray, List.set_cons_zero, List.set_cons_succ])
          refine wpAnyH_take (i := 5) (oi := ({ dst := some 60, op := Op.load 39 (Operand.tmp 59), type := 39, pos := "law.go:59", after := #[{ on := 4, ground := Ground.data }], guard := none } : Oper)) (v := ?vz5) rfl (by kernel_rfl) (by kernel_rfl) (by kernel_rfl) (fun _ _ _ h => h) (Or.inl ⟨by rfl, fun w hSw => ?hyz5⟩) (by assumption) ?rz5
          case hyz5 => (try dsimp only at hSw); go_simp; (try with_reducible rfl)
          (try simp only [Act.put, List.setIfInBounds_toArray, List.set_cons_zero, List.set_cons_succ])
          refine wpAnyH_ready (rs := [6]) (by kernel_rfl) (by simp) ?_
          refine AllReadyH.cons (o := ({ dst := some 61, op := Op.call { callee := Callee.value (Operand.func 11), args := #[Operand.tmp 55, Operand.tmp 56, Operand.tmp 60], argTypes := #[32, 34, 39] }, type := 4, pos := "law.go:59", after := #[{ on := 0, ground := Ground.data }, { on := 1, ground := Ground.data }, { on := 5, ground := Ground.data }], guard := none } : Oper)) rfl (fun Kq hKq => ?_) AllReadyH.nil
          go_simp
          (refine (do_any _ w.heap.size wo.heap.size R L k kd a was is (K k) (A2 k) (V2 k) (U2 k) (Rg k) BD.out hA hV (by omega)).mono ?_; rintro e w4 ⟨rfl, L', kd', a', was', is', hbo, hlo⟩)
          refine hKq.out _ _ ?_ (fun hHeld => ?_)
          · exact keep5 hlo hlb hHeld
          clear hKq Kq
          (try simp only [Act.put, List.setIfInBounds_toArray, List.set_cons_zero, List.set_cons_succ])
          refine wpAnyH_take (i := 7) (oi := ({ dst := some 62, op := Op.unOp UnOp.not 4 (Operand.tmp 61), type := 4, pos := "law.go:59", after := #[{ on := 6, ground := Ground.data }], guard := none } : Oper)) (v := ?vz7) rfl (by kernel_rfl) (by kernel_rfl) (by kernel_rfl) (fun _ _ _ h => h) (Or.inl ⟨by rfl, fun w hSw => ?hyz7⟩) (by assumption) ?rz7
          case hyz7 => (try dsimp only at hSw); go_simp; (try with_reducible rfl)
          (try simp only [Act.put, List.setIfInBounds_toArray, List.set_cons_zero, List.set_cons_succ])
          refine wpAnyH_take (i := 8) (oi := ({ dst := some 63, op := Op.move (Operand.tmp 62), type := 4, pos := "law.go:59", after := #[{ on := 7, ground := Ground.data }, { on := 6, ground := Ground.chain }], guard := none } : Oper)) (v := ?vz8) rfl (by kernel_rfl) (by kernel_rfl) (by kernel_rfl) (fun _ _ _ h => h) (Or.inl ⟨by rfl, fun w hSw => ?hyz8⟩) (by assumption) ?rz8
          case hyz8 => (try dsimp only at hSw); go_simp; (try with_reducible rfl)
          (try simp only [Act.put, List.setIfInBounds_toArray, List.set_cons_zero, List.set_cons_succ])
          refine wpAnyH_take (i := 9) (oi := ({ dst := some 64, op := Op.move (Operand.tmp 7), type := 32, pos := "law.go:59", after := #[{ on := 8, ground := Ground.guard }], guard := some (8, false) } : Oper)) (v := ?vz9) rfl (by kernel_rfl) (by kernel_rfl) (by kernel_rfl) (fun _ _ _ h => h) (Or.inl ⟨by rfl, fun w hSw => ?hyz9⟩) (by assumption) ?rz9
          case hyz9 => (try dsimp only at hSw); go_simp; (try with_reducible rfl)
          (try simp only [Act.put, List.setIfInBounds_toArray, List.set_cons_zero, List.set_cons_succ])
          refine wpAnyH_take (i := 10) (oi := ({ dst := some 65, op := Op.move (Operand.tmp 1), type := 23, pos := "law.go:59", after := #[{ on := 8, ground := Ground.guard }], guard := some (8, false) } : Oper)) (v := ?vz10) rfl (by kernel_rfl) (by kernel_rfl) (by kernel_rfl) (fun _ _ _ h => h) (Or.inl ⟨by rfl, fun w hSw => ?hyz10⟩) (by assumption) ?rz10
          case hyz10 => (try dsimp only at hSw); go_simp; (try with_reducible rfl)
          (try simp only [Act.put, List.setIfInBounds_toArray, List.set_cons_zero, List.set_cons_succ])
          refine wpAnyH_take (i := 11) (oi := ({ dst := some 66, op := Op.move (Operand.tmp 9), type := 3, pos := "law.go:59", after := #[{ on := 8, ground := Ground.guard }], guard := some (8, false) } : Oper)) (v := ?vz11) rfl (by kernel_rfl) (by kernel_rfl) (by kernel_rfl) (fun _ _ _ h => h) (Or.inl ⟨by rfl, fun w hSw => ?hyz11⟩) (by assumption) ?rz11
          case hyz11 => (try dsimp only at hSw); go_simp; (try with_reducible rfl)
          (try simp only [Act.put, List.setIfInBounds_toArray, List.set_cons_zero, List.set_cons_succ])
          refine wpAnyH_take (i := 12) (oi := ({ dst := some 67, op := Op.indexAddr 23 (Operand.tmp 65) (Operand.tmp 66), type := 0, pos := "law.go:59", after := #[{ on := 10, ground := Ground.data }, { on := 11, ground := Ground.data }, { on := 8, ground := Ground.guard }], guard := some (8, false) } : Oper)) (v := ?vz12) rfl (by kernel_rfl) (by kernel_rfl) (by kernel_rfl) (fun _ _ _ h => h) (Or.inl ⟨by rfl, fun w hSw => ?hyz12⟩) (by assumption) ?rz12
          case hyz12 => (try dsimp only at hSw); go_simp; (try with_reducible rfl)
          (try simp only [Act.put, List.setIfInBounds_toArray, List.set_cons_zero, List.set_cons_succ])
          refine wpAnyH_take (i := 13) (oi := ({ dst := some 68, op := Op.fieldAddr 39 (Operand.tmp 67) 1, type := 0, pos := "law.go:59", after := #[{ on := 12, ground := Ground.data }, { on := 8, ground := Ground.guard }], guard := some (8, false) } : Oper)) (v := ?vz13) rfl (by kernel_rfl) (by kernel_rfl) (by kernel_rfl) (fun _ _ _ h => h) (Or.inl ⟨by rfl, fun w hSw => ?hyz13⟩) (by assumption) ?rz13
          case hyz13 => (try dsimp only at hSw); go_simp; (try with_reducible rfl)
          (try simp only [Act.put, List.setIfInBounds_toArray, List.set_cons_zero, List.set_cons_succ])
          refine wpAnyH_take (i := 14) (oi := ({ dst := some 69, op := Op.load 27 (Operand.tmp 68), type := 27, pos := "law.go:59", after := #[{ on := 13, ground := Ground.data }, { on := 8, ground := Ground.guard }], guard := some (8, false) } : Oper)) (v := ?vz14) rfl (by kernel_rfl) (by kernel_rfl) (by kernel_rfl) (fun _ _ _ h => h) (Or.inl ⟨by rfl, fun w hSw => ?hyz14⟩) (by assumption) ?rz14
          case hyz14 => (try dsimp only at hSw); go_simp; (try with_reducible rfl)
          (try simp only [Act.put, List.setIfInBounds_toArray, List.set_cons_zero, List.set_cons_succ])
          refine wpAnyH_take (i := 16) (oi := ({ dst := some 71, op := Op.move (Operand.tmp 8), type := 34, pos := "law.go:59", after := #[{ on := 8, ground := Ground.guard }], guard := some (8, false) } : Oper)) (v := ?vz16) rfl (by kernel_rfl) (by kernel_rfl) (by kernel_rfl) (fun _ _ _ h => h) (Or.inl ⟨by rfl, fun w hSw => ?hyz16⟩) (by assumption) ?rz16
          case hyz16 => (try dsimp only at hSw); go_simp; (try with_reducible rfl)
          (try simp only [Act.put, List.setIfInBounds_toArray, List.set_cons_zero, List.set_cons_succ])
          refine wpAnyH_take (i := 17) (oi := ({ dst := some 72, op := Op.move (Operand.tmp 1), type := 23, pos := "law.go:59", after := #[{ on := 8, ground := Ground.guard }], guard := some (8, false) } : Oper)) (v := ?vz17) rfl (by kernel_rfl) (by kernel_rfl) (by kernel_rfl) (fun _ _ _ h => h) (Or.inl ⟨by rfl, fun w hSw => ?hyz17⟩) (by assumption) ?rz17
          case hyz17 => (try dsimp only at hSw); go_simp; (try with_reducible rfl)
          (try simp only [Act.put, List.setIfInBounds_toArray, List.set_cons_zero, List.set_cons_succ])
          refine wpAnyH_take (i := 18) (oi := ({ dst := some 73, op := Op.move (Operand.tmp 9), type := 3, pos := "law.go:59", after := #[{ on := 8, ground := Ground.guard }], guard := some (8, false) } : Oper)) (v := ?vz18) rfl (by kernel_rfl) (by kernel_rfl) (by kernel_rfl) (fun _ _ _ h => h) (Or.inl ⟨by rfl, fun w hSw => ?hyz18⟩) (by assumption) ?rz18
          case hyz18 => (try dsimp only at hSw); go_simp; (try with_reducible rfl)
          (try simp only [Act.put, List.setIfInBounds_toArray, List.set_cons_zero, List.set_cons_succ])
          refine wpAnyH_take (i := 19) (oi := ({ dst := some 74, op := Op.indexAddr 23 (Operand.tmp 72) (Operand.tmp 73), type := 0, pos := "law.go:59", after := #[{ on := 17, ground := Ground.data }, { on := 18, ground := Ground.data }, { on := 8, ground := Ground.guard }], guard := some (8, false) } : Oper)) (v := ?vz19) rfl (by kernel_rfl) (by kernel_rfl) (by kernel_rfl) (fun _ _ _ h => h) (Or.inl ⟨by rfl, fun w hSw => ?hyz19⟩) (by assumption) ?rz19
          case hyz19 => (try dsimp only at hSw); go_simp; (try with_reducible rfl)
          (try simp only [Act.put, List.setIfInBounds_toArray, List.set_cons_zero, List.set_cons_succ])
          refine wpAnyH_take (i := 20) (oi := ({ dst := some 75, op := Op.fieldAddr 39 (Operand.tmp 74) 1, type := 0, pos := "law.go:59", after := #[{ on := 19, ground := Ground.data }, { on := 8, ground := Ground.guard }], guard := some (8, false) } : Oper)) (v := ?vz20) rfl (by kernel_rfl) (by kernel_rfl) (by kernel_rfl) (fun _ _ _ h => h) (Or.inl ⟨by rfl, fun w hSw => ?hyz20⟩) (by assumption) ?rz20
          case hyz20 => (try dsimp only at hSw); go_simp; (try with_reducible rfl)
          (try simp only [Act.put, List.setIfInBounds_toArray, List.set_cons_zero, List.set_cons_succ])
          refine wpAnyH_take (i := 21) (oi := ({ dst := some 76, op := Op.load 27 (Operand.tmp 75), type := 27, pos := "law.go:59", after := #[{ on := 20, ground := Ground.data }, { on := 8, ground := Ground.guard }], guard := some (8, false) } : Oper)) (v := ?vz21) rfl (by kernel_rfl) (by kernel_rfl) (by kernel_rfl) (fun _ _ _ h => h) (Or.inl ⟨by rfl, fun w hSw => ?hyz21⟩) (by assumption) ?rz21
          case hyz21 => (try dsimp only at hSw); go_simp; (try with_reducible rfl)
          (try simp only [Act.put, List.setIfInBounds_toArray, List.set_cons_zero, List.set_cons_succ])
          refine wpAnyH_ready (rs := [15]) (by kernel_rfl) (by simp) ?_
          refine AllReadyH.cons (o := ({ dst := some 70, op := Op.call { callee := Callee.value (Operand.func 12), args := #[Operand.tmp 64, Operand.tmp 69], argTypes := #[32, 27] }, type := 28, pos := "law.go:59", after := #[{ on := 9, ground := Ground.data }, { on := 14, ground := Ground.data }, { on := 8, ground := Ground.chain }, { on := 8, ground := Ground.guard }], guard := some (8, false) } : Oper)) rfl (fun Kq hKq => ?_) AllReadyH.nil
          go_simp
          (refine (both_peek hbo hA).mono ?_; rintro e w5 ⟨rfl, rfl⟩)
          refine hKq.out _ _ ?_ (fun hHeld => ?_)
          · exact hHeld
          clear hKq Kq
          (try simp only [Act.put, List.setIfInBounds_toArray, List.set_cons_zero, List.set_cons_succ])
          refine wpAnyH_ready (rs := [22]) (by kernel_rfl) (by simp) ?_
          refine AllReadyH.cons (o := ({ dst := some 77, op := Op.call { callee := Callee.value (Operand.func 13), args := #[Operand.tmp 71, Operand.tmp 76], argTypes := #[34, 27] }, type := 28, pos := "law.go:59", after := #[{ on := 16, ground := Ground.data }, { on := 21, ground := Ground.data }, { on := 15, ground := Ground.chain }, { on := 8, ground := Ground.guard }], guard := some (8, false) } : Oper)) rfl (fun Kq hKq => ?_) AllReadyH.nil
          go_simp
          (refine (both_rpeek hbo).mono ?_; rintro e w5 ⟨rfl, rfl⟩)
          refine hKq.out _ _ ?_ (fun hHeld => ?_)
          · exact hHeld
          clear hKq Kq
          (try simp only [Act.put, List.setIfInBounds_toArray, List.set_cons_zero, List.set_cons_succ])
          refine wpAnyH_take (i := 23) (oi := ({ dst := some 78, op := Op.binOp BinOp.neq 28 (Operand.tmp 70) (Operand.tmp 77) 28, type := 4, pos := "law.go:59", after := #[{ on := 15, ground := Ground.data }, { on := 22, ground := Ground.data }, { on := 8, ground := Ground.guard }], guard := some (8, false) } : Oper)) (v := ?vz23) rfl (by kernel_rfl) (by kernel_rfl) (by kernel_rfl) (fun _ _ _ h => h) (Or.inl ⟨by rfl, fun w hSw => ?hyz23⟩) (by assumption) ?rz23
          case hyz23 => (try dsimp only at hSw); go_simp; (try with_reducible rfl)
          (try simp only [Act.put, List.setIfInBounds_toArray, List.set_cons_zero, List.set_cons_succ])
          refine wpAnyH_take (i := 24) (oi := ({ dst := some 79, op := Op.pick (Operand.tmp 63) (Operand.const (Value.bool true)) (Operand.tmp 78), type := 4, pos := "law.go:59", after := #[{ on := 8, ground := Ground.data }, { on := 23, ground := Ground.data }], guard := none } : Oper)) (v := ?vz24) rfl (by kernel_rfl) (by kernel_rfl) (by kernel_rfl) (fun _ _ _ h => h) (Or.inl ⟨by rfl, fun w hSw => ?hyz24⟩) (by assumption) ?rz24
          case hyz24 => (try dsimp only at hSw); go_simp; (try with_reducible rfl)
          (try simp only [Act.put, List.setIfInBounds_toArray, List.set_cons_zero, List.set_cons_succ])
          refine wpAnyH_take (i := 25) (oi := ({ dst := some 80, op := Op.move (Operand.tmp 79), type := 4, pos := "law.go:59", after := #[{ on := 24, ground := Ground.data }, { on := 22, ground := Ground.chain }], guard := none } : Oper)) (v := ?vz25) rfl (by kernel_rfl) (by kernel_rfl) (by kernel_rfl) (fun _ _ _ h => h) (Or.inl ⟨by rfl, fun w hSw => ?hyz25⟩) (by assumption) ?rz25
          case hyz25 => (try dsimp only at hSw); go_simp; (try with_reducible rfl)
          (try simp only [Act.put, List.setIfInBounds_toArray, List.set_cons_zero, List.set_cons_succ])
          refine wpAnyH_take (i := 26) (oi := ({ dst := some 81, op := Op.move (Operand.tmp 1), type := 23, pos := "law.go:59", after := #[{ on := 25, ground := Ground.guard }], guard := some (25, false) } : Oper)) (v := ?vz26) rfl (by kernel_rfl) (by kernel_rfl) (by kernel_rfl) (fun _ _ _ h => h) (Or.inl ⟨by rfl, fun w hSw => ?hyz26⟩) (by assumption) ?rz26
          case hyz26 => (try dsimp only at hSw); go_simp; (try with_reducible rfl)
          (try simp only [Act.put, List.setIfInBounds_toArray, List.set_cons_zero, List.set_cons_succ])
          refine wpAnyH_take (i := 27) (oi := ({ dst := some 82, op := Op.move (Operand.tmp 9), type := 3, pos := "law.go:59", after := #[{ on := 25, ground := Ground.guard }], guard := some (25, false) } : Oper)) (v := ?vz27) rfl (by kernel_rfl) (by kernel_rfl) (by kernel_rfl) (fun _ _ _ h => h) (Or.inl ⟨by rfl, fun w hSw => ?hyz27⟩) (by assumption) ?rz27
          case hyz27 => (try dsimp only at hSw); go_simp; (try with_reducible rfl)
          (try simp only [Act.put, List.setIfInBounds_toArray, List.set_cons_zero, List.set_cons_succ])
          refine wpAnyH_take (i := 28) (oi := ({ dst := some 83, op := Op.indexAddr 23 (Operand.tmp 81) (Operand.tmp 82), type := 0, pos := "law.go:59", after := #[{ on := 26, ground := Ground.data }, { on := 27, ground := Ground.data }, { on := 25, ground := Ground.guard }], guard := some (25, false) } : Oper)) (v := ?vz28) rfl (by kernel_rfl) (by kernel_rfl) (by kernel_rfl) (fun _ _ _ h => h) (Or.inl ⟨by rfl, fun w hSw => ?hyz28⟩) (by assumption) ?rz28
          case hyz28 => (try dsimp only at hSw); go_simp; (try with_reducible rfl)
          (try simp only [Act.put, List.setIfInBounds_toArray, List.set_cons_zero, List.set_cons_succ])
          refine wpAnyH_take (i := 29) (oi := ({ dst := some 84, op := Op.fieldAddr 39 (Operand.tmp 83) 1, type := 0, pos := "law.go:59", after := #[{ on := 28, ground := Ground.data }, { on := 25, ground := Ground.guard }], guard := some (25, false) } : Oper)) (v := ?vz29) rfl (by kernel_rfl) (by kernel_rfl) (by kernel_rfl) (fun _ _ _ h => h) (Or.inl ⟨by rfl, fun w hSw => ?hyz29⟩) (by assumption) ?rz29
          case hyz29 => (try dsimp only at hSw); go_simp; (try with_reducible rfl)
          (try simp only [Act.put, List.setIfInBounds_toArray, List.set_cons_zero, List.set_cons_succ])
          refine wpAnyH_take (i := 30) (oi := ({ dst := some 85, op := Op.load 27 (Operand.tmp 84), type := 27, pos := "law.go:59", after := #[{ on := 29, ground := Ground.data }, { on := 25, ground := Ground.guard }], guard := some (25, false) } : Oper)) (v := ?vz30) rfl (by kernel_rfl) (by kernel_rfl) (by kernel_rfl) (fun _ _ _ h => h) (Or.inl ⟨by rfl, fun w hSw => ?hyz30⟩) (by assumption) ?rz30
          case hyz30 => (try dsimp only at hSw); go_simp; (try with_reducible rfl)
          (try simp only [Act.put, List.setIfInBounds_toArray, List.set_cons_zero, List.set_cons_succ])
          refine wpAnyH_take (i := 32) (oi := ({ dst := some 87, op := Op.move (Operand.tmp 1), type := 23, pos := "law.go:59", after := #[{ on := 25, ground := Ground.guard }], guard := some (25, false) } : Oper)) (v := ?vz32) rfl (by kernel_rfl) (by kernel_rfl) (by kernel_rfl) (fun _ _ _ h => h) (Or.inl ⟨by rfl, fun w hSw => ?hyz32⟩) (by assumption) ?rz32
          case hyz32 => (try dsimp only at hSw); go_simp; (try with_reducible rfl)
          (try simp only [Act.put, List.setIfInBounds_toArray, List.set_cons_zero, List.set_cons_succ])
          refine wpAnyH_take (i := 33) (oi := ({ dst := some 88, op := Op.move (Operand.tmp 9), type := 3, pos := "law.go:59", after := #[{ on := 25, ground := Ground.guard }], guard := some (25, false) } : Oper)) (v := ?vz33) rfl (by kernel_rfl) (by kernel_rfl) (by kernel_rfl) (fun _ _ _ h => h) (Or.inl ⟨by rfl, fun w hSw => ?hyz33⟩) (by assumption) ?rz33
          case hyz33 => (try dsimp only at hSw); go_simp; (try with_reducible rfl)
          (try simp only [Act.put, List.setIfInBounds_toArray, List.set_cons_zero, List.set_cons_succ])
          refine wpAnyH_take (i := 34) (oi := ({ dst := some 89, op := Op.indexAddr 23 (Operand.tmp 87) (Operand.tmp 88), type := 0, pos := "law.go:59", after := #[{ on := 32, ground := Ground.data }, { on := 33, ground := Ground.data }, { on := 25, ground := Ground.guard }], guard := some (25, false) } : Oper)) (v := ?vz34) rfl (by kernel_rfl) (by kernel_rfl) (by kernel_rfl) (fun _ _ _ h => h) (Or.inl ⟨by rfl, fun w hSw => ?hyz34⟩) (by assumption) ?rz34
          case hyz34 => (try dsimp only at hSw); go_simp; (try with_reducible rfl)
          (try simp only [Act.put, List.setIfInBounds_toArray, List.set_cons_zero, List.set_cons_succ])
          refine wpAnyH_take (i := 35) (oi := ({ dst := some 90, op := Op.fieldAddr 39 (Operand.tmp 89) 1, type := 0, pos := "law.go:59", after := #[{ on := 34, ground := Ground.data }, { on := 25, ground := Ground.guard }], guard := some (25, false) } : Oper)) (v := ?vz35) rfl (by kernel_rfl) (by kernel_rfl) (by kernel_rfl) (fun _ _ _ h => h) (Or.inl ⟨by rfl, fun w hSw => ?hyz35⟩) (by assumption) ?rz35
          case hyz35 => (try dsimp only at hSw); go_simp; (try with_reducible rfl)
          (try simp only [Act.put, List.setIfInBounds_toArray, List.set_cons_zero, List.set_cons_succ])
          refine wpAnyH_take (i := 36) (oi := ({ dst := some 91, op := Op.load 27 (Operand.tmp 90), type := 27, pos := "law.go:59", after := #[{ on := 35, ground := Ground.data }, { on := 25, ground := Ground.guard }], guard := some (25, false) } : Oper)) (v := ?vz36) rfl (by kernel_rfl) (by kernel_rfl) (by kernel_rfl) (fun _ _ _ h => h) (Or.inl ⟨by rfl, fun w hSw => ?hyz36⟩) (by assumption) ?rz36
          case hyz36 => (try dsimp only at hSw); go_simp; (try with_reducible rfl)
          (try simp only [Act.put, List.setIfInBounds_toArray, List.set_cons_zero, List.set_cons_succ])
          refine wpAnyH_ready (rs := [31]) (by kernel_rfl) (by simp) ?_
          refine AllReadyH.cons (o := ({ dst := some 86, op := Op.call { callee := Callee.value (Operand.func 14), args := #[Operand.tmp 85], argTypes := #[27] }, type := 4, pos := "law.go:59", after := #[{ on := 30, ground := Ground.data }, { on := 25, ground := Ground.chain }, { on := 25, ground := Ground.guard }], guard := some (25, false) } : Oper)) rfl (fun Kq hKq => ?_) AllReadyH.nil
          go_simp
          (refine (byte_any _ hA _).mono ?_; rintro e w5 ⟨rfl, rfl⟩)
          refine hKq.out _ _ ?_ (fun hHeld => ?_)
          · exact hHeld
          clear hKq Kq
          (try simp only [Act.put, List.setIfInBounds_toArray, List.set_cons_zero, List.set_cons_succ])
          refine wpAnyH_ready (rs := [37]) (by kernel_rfl) (by simp) ?_
          refine AllReadyH.cons (o := ({ dst := some 92, op := Op.call { callee := Callee.value (Operand.func 15), args := #[Operand.tmp 91], argTypes := #[27] }, type := 4, pos := "law.go:59", after := #[{ on := 36, ground := Ground.data }, { on := 31, ground := Ground.chain }, { on := 25, ground := Ground.guard }], guard := some (25, false) } : Oper)) rfl (fun Kq hKq => ?_) AllReadyH.nil
          go_simp
          (refine (rbyte_any _ hA _).mono ?_; rintro e w5 ⟨rfl, rfl⟩)
          refine hKq.out _ _ ?_ (fun hHeld => ?_)
          · exact hHeld
          clear hKq Kq
          (try simp only [Act.put, List.setIfInBounds_toArray, List.set_cons_zero, List.set_cons_succ])
          refine wpAnyH_take (i := 38) (oi := ({ dst := some 93, op := Op.binOp BinOp.neq 4 (Operand.tmp 86) (Operand.tmp 92) 4, type := 4, pos := "law.go:59", after := #[{ on := 31, ground := Ground.data }, { on := 37, ground := Ground.data }, { on := 25, ground := Ground.guard }], guard := some (25, false) } : Oper)) (v := ?vz38) rfl (by kernel_rfl) (by kernel_rfl) (by kernel_rfl) (fun _ _ _ h => h) (Or.inl ⟨by rfl, fun w hSw => ?hyz38⟩) (by assumption) ?rz38
          case hyz38 => (try dsimp only at hSw); go_simp; (try with_reducible rfl)
          (try simp only [Act.put, List.setIfInBounds_toArray, List.set_cons_zero, List.set_cons_succ])
          refine wpAnyH_take (i := 39) (oi := ({ dst := some 94, op := Op.pick (Operand.tmp 80) (Operand.const (Value.bool true)) (Operand.tmp 93), type := 4, pos := "law.go:59", after := #[{ on := 25, ground := Ground.data }, { on := 38, ground := Ground.data }], guard := none } : Oper)) (v := ?vz39) rfl (by kernel_rfl) (by kernel_rfl) (by kernel_rfl) (fun _ _ _ h => h) (Or.inl ⟨by rfl, fun w hSw => ?hyz39⟩) (by assumption) ?rz39
          case hyz39 => (try dsimp only at hSw); go_simp; (try with_reducible rfl)
          (try simp only [Act.put, List.setIfInBounds_toArray, List.set_cons_zero, List.set_cons_succ])
          refine wpAnyH_take (i := 40) (oi := ({ dst := some 95, op := Op.move (Operand.tmp 94), type := 4, pos := "law.go:59", after := #[{ on := 39, ground := Ground.data }, { on := 37, ground := Ground.chain }], guard := none } : Oper)) (v := ?vz40) rfl (by kernel_rfl) (by kernel_rfl) (by kernel_rfl) (fun _ _ _ h => h) (Or.inl ⟨by rfl, fun w hSw => ?hyz40⟩) (by assumption) ?rz40
          case hyz40 => (try dsimp only at hSw); go_simp; (try with_reducible rfl)
          (try simp only [Act.put, List.setIfInBounds_toArray, List.set_cons_zero, List.set_cons_succ])
          refine wpAnyH_take (i := 41) (oi := ({ dst := some 96, op := Op.move (Operand.tmp 7), type := 32, pos := "law.go:59", after := #[{ on := 40, ground := Ground.guard }], guard := some (40, false) } : Oper)) (v := ?vz41) rfl (by kernel_rfl) (by kernel_rfl) (by kernel_rfl) (fun _ _ _ h => h) (Or.inl ⟨by rfl, fun w hSw => ?hyz41⟩) (by assumption) ?rz41
          case hyz41 => (try dsimp only at hSw); go_simp; (try with_reducible rfl)
          (try simp only [Act.put, List.setIfInBounds_toArray, List.set_cons_zero, List.set_cons_succ])
          refine wpAnyH_take (i := 42) (oi := ({ dst := some 97, op := Op.move (Operand.tmp 8), type := 34, pos := "law.go:59", after := #[{ on := 40, ground := Ground.guard }], guard := some (40, false) } : Oper)) (v := ?vz42) rfl (by kernel_rfl) (by kernel_rfl) (by kernel_rfl) (fun _ _ _ h => h) (Or.inl ⟨by rfl, fun w hSw => ?hyz42⟩) (by assumption) ?rz42
          case hyz42 => (try dsimp only at hSw); go_simp; (try with_reducible rfl)
          (try simp only [Act.put, List.setIfInBounds_toArray, List.set_cons_zero, List.set_cons_succ])
          refine wpAnyH_ready (rs := [43]) (by kernel_rfl) (by simp) ?_
          refine AllReadyH.cons (o := ({ dst := some 98, op := Op.call { callee := Callee.value (Operand.func 10), args := #[Operand.tmp 96, Operand.tmp 97], argTypes := #[32, 34] }, type := 4, pos := "law.go:59", after := #[{ on := 41, ground := Ground.data }, { on := 42, ground := Ground.data }, { on := 40, ground := Ground.chain }, { on := 40, ground := Ground.guard }], guard := some (40, false) } : Oper)) rfl (fun Kq hKq => ?_) AllReadyH.nil
          go_simp
          (refine (same_any _ w.heap.size wo.heap.size R L' (k + 1) kd' a' was' is' hbo).mono ?_; rintro e w5 ⟨rfl, hsm⟩)
          refine hKq.out _ _ ?_ (fun hHeld => ?_)
          · exact keep5 (hsm.mono hbo.size) hlb hHeld
          clear hKq Kq
          (try simp only [Act.put, List.setIfInBounds_toArray, List.set_cons_zero, List.set_cons_succ])
          refine wpAnyH_take (i := 44) (oi := ({ dst := some 99, op := Op.unOp UnOp.not 4 (Operand.tmp 98), type := 4, pos := "law.go:59", after := #[{ on := 43, ground := Ground.data }, { on := 40, ground := Ground.guard }], guard := some (40, false) } : Oper)) (v := ?vz44) rfl (by kernel_rfl) (by kernel_rfl) (by kernel_rfl) (fun _ _ _ h => h) (Or.inl ⟨by rfl, fun w hSw => ?hyz44⟩) (by assumption) ?rz44
          case hyz44 => (try dsimp only at hSw); go_simp; (try with_reducible rfl)
          (try simp only [Act.put, List.setIfInBounds_toArray, List.set_cons_zero, List.set_cons_succ])
          refine wpAnyH_take (i := 45) (oi := ({ dst := some 100, op := Op.pick (Operand.tmp 95) (Operand.const (Value.bool true)) (Operand.tmp 99), type := 4, pos := "law.go:59", after := #[{ on := 40, ground := Ground.data }, { on := 44, ground := Ground.data }], guard := none } : Oper)) (v := ?vz45) rfl (by kernel_rfl) (by kernel_rfl) (by kernel_rfl) (fun _ _ _ h => h) (Or.inl ⟨by rfl, fun w hSw => ?hyz45⟩) (by assumption) ?rz45
          case hyz45 => (try dsimp only at hSw); go_simp; (try with_reducible rfl)
          (try simp only [Act.put, List.setIfInBounds_toArray, List.set_cons_zero, List.set_cons_succ])
          refine wpAnyH_done (by kernel_rfl) ?_ _
          have hbn := hbo.new hsm
          have hlow := (LO.out.drew.trans hlo).trans (hsm.mono hbo.size)
          have BN := Lib.hid hbn; have LN := Lib.hid hlow
          clear hbo hlo hsm hbn hlow hcells
          go_wp2_with fail
          refine (both_words BN.out).mono ?_
          rintro e w6 ht
          rcases ht with ⟨hL0, rfl, rfl⟩ | ⟨hpos, g, rfl, hg1, hg2, hH, hbw⟩
          · go_wp2_with fail
            refine wp_loop_rounds 1 ?_
            rw [rounds_succ]
            go_wp2_with fail
            go_roundg (n2 - (k + 1))
            case measure => omega
            case rel => exact ⟨k + 1, L', kd', a', was', is', by omega, rfl, by go_num, BN.out, LN.out⟩
          · have hlen : L'.length ≤ 4294967296 := by obtain ⟨_, _, _, _, _, M', s', c', _⟩ := BN.out; exact c'.good.length
            have hwr := wr_of_holds hH
            have HWR := Lib.hid hwr; have HBW := Lib.hid hbw
            clear hwr hbw hH
            go_wp2_with fail
            obtain ⟨wk, rfl⟩ : ∃ wk : World, wk = wr := ⟨_, rfl⟩
            go_loopg [11] L'.length (fun q s11 wx => ∃ t : Nat, t ≤ L'.length ∧ q = L'.length - t ∧ s11 = .int .i64 t ∧ Below w5.heap.size w5 wx ∧ g < wx.heap.size ∧ Wr wx g (L'.length * 2))
            case atStart => exact ⟨0, by omega, rfl, rfl, HBW.out, hg2, HWR.out⟩
            case round =>
              obtain ⟨t, ht, rfl, rfl, hbt, hgt, hwt⟩ := hrel
              have HBT := Lib.hid hbt; have HWT := Lib.hid hwt
              clear hbt
              by_cases htl : t < L'.length
              · obtain ⟨y0, f0, f1⟩ := hwt (t * 2) (by omega)
                obtain ⟨y1, f2, f3⟩ := hwt (t * 2 + 1) (by omega)
                clear hwt
                go_wp2_with fail
                have hb' : Below w5.heap.size w5 ((wr.setCell ⟨g, t * 2, none⟩ (.int .u32 7)).setCell ⟨g, t * 2 + 1, none⟩ (.int .u64 7)) := (HBT.out.setCell (p := ⟨g, t * 2, none⟩) hg1 _).setCell (p := ⟨g, t * 2 + 1, none⟩) hg1 _
                go_roundg (L'.length - (t + 1))
                case measure => omega
                case rel => exact ⟨t + 1, by omega, rfl, by go_num, hb', by simpa [World.setCell] using hgt, (HWT.out.set _ _).set _ _⟩
              · go_wp2_with fail
                go_roundg (n2 - (k + 1))
                case measure => omega
                case rel => exact ⟨k + 1, L', kd', a', was', is', by omega, rfl, by go_num, BN.out.new HBT.out, LN.out.trans (HBT.out.mono BN.out.size)⟩
        · obtain rfl : k = n2 := by omega
          go_wp2_with fail
          refine (same_any wr w.heap.size wo.heap.size R L k kd a was is BO.out).mono ?_
          rintro e w4 ⟨rfl, h4⟩
          have H4 := Lib.hid h4
          clear h4
          go_wp2_with fail
          refine (HL.out _).mono ?_
          rintro e w5 ⟨rfl, h5⟩
          have H5 := Lib.hid h5
          clear h5
          go_wp2_with fail
          go_ret
          exact ⟨rfl, (LO.out.trans (H4.out.mono BO.out.size)).trans (H5.out.mono (Nat.le_trans BO.out.size H4.out.size))⟩
end Go.Proofs.Ytikjlmlbbjbcmaa
