/- LinksFirst's walk. -/
import Derived.Test.YtlmgboggnljefaaC5
namespace Go.Proofs.Ytlmgboggnljefaa
open Go.RowKit

section
variable {S : Lk} {t a b c i : Nat}
theorem put3_0 : put3 S t a b c (t * 3) = a := by unfold put3 upd; rw [if_neg (by omega), if_neg (by omega), if_pos rfl]
theorem put3_1 : put3 S t a b c (t * 3 + 1) = b := by unfold put3 upd; rw [if_neg (by omega), if_pos rfl]
theorem put3_2 : put3 S t a b c (t * 3 + 2) = c := by unfold put3 upd; rw [if_pos rfl]
theorem put3_else (h : i ≠ t) (k : Nat) (hk : k < 3) : put3 S t a b c (i * 3 + k) = S (i * 3 + k) := by unfold put3 upd; rw [if_neg (by omega), if_neg (by omega), if_neg (by omega)]
end
theorem at_val {w : World} {B a : Nat} {S : Lk} {x u v z : Int} (h : Has w B S) (hx : Num x (some a)) (e0 : (S (a * 3) : Int) - 1 = u) (e1 : (S (a * 3 + 1) : Int) - 1 = v) (e2 : (S (a * 3 + 2) : Int) - 1 = z) : Calls Try.prog 12 #[Pt B, .int .i64 x] w fun e w' => e = .returned (.agg #[.int .i64 u, .int .i64 v, .int .i64 z]) ∧ Below w.heap.size w w' := by
  subst e0; subst e1; subst e2; exact at_any h hx
/-- What was told of the first m threads, as it was written down. -/
def Was (w : World) (g m : Nat) (S : Lk) : Prop := g < w.heap.size ∧ ∀ i, i < 192 → w.frozen? ⟨g, i, none⟩ = false ∧ ∃ v : Int, w.cell? ⟨g, i, none⟩ = some (.int .i64 v) ∧ (i < m * 3 → v = (S i : Int) - 1)
theorem Was.zero (w : World) (T : TypeId) (S : Lk) : Was (w.alloc (.cells Z192 T)) w.heap.size 0 S := by
  have h := has_zero w T
  exact ⟨h.lt, fun i hi => ⟨h.froz i hi, 0, h.cell i hi, fun h => absurd h (by omega)⟩⟩
theorem Was.kept {P : Nat → Prop} {w w' : World} {g m : Nat} {S : Lk} (h : Was w g m S) (t : Turns P w w') (hg : ¬ P g) : Was w' g m S :=
  ⟨Nat.lt_of_lt_of_le h.1 t.size, fun i hi => by
    obtain ⟨hf, v, hc, hv⟩ := h.2 i hi
    exact ⟨(t.frozen h.1 hg).trans hf, v, (t.cell h.1 hg).trans hc, hv⟩⟩
theorem Was.new {w w' : World} {g m : Nat} {S : Lk} (h : Was w g m S) (b : Below w.heap.size w w') : Was w' g m S := h.kept (turns_new (fun _ => False) b) (fun e => e)
theorem Was.set {w : World} {g m : Nat} {S : Lk} (h : Was w g m S) (hm : m < 64) : Was (((w.setCell ⟨g, m * 3, none⟩ (.int .i64 ((S (m * 3) : Int) - 1))).setCell ⟨g, m * 3 + 1, none⟩ (.int .i64 ((S (m * 3 + 1) : Int) - 1))).setCell ⟨g, m * 3 + 2, none⟩ (.int .i64 ((S (m * 3 + 2) : Int) - 1))) g (m + 1) S := by
  obtain ⟨hl, h2⟩ := h
  have one : ∀ (w : World) (j : Nat) (x : Int) (N : Nat → Prop), (∀ i, i < 192 → w.frozen? ⟨g, i, none⟩ = false ∧ ∃ v : Int, w.cell? ⟨g, i, none⟩ = some (.int .i64 v) ∧ (N i → v = (S i : Int) - 1)) → j < 192 → x = (S j : Int) - 1 →
      (∀ i, i < 192 → (w.setCell ⟨g, j, none⟩ (.int .i64 x)).frozen? ⟨g, i, none⟩ = false ∧ ∃ v : Int, (w.setCell ⟨g, j, none⟩ (.int .i64 x)).cell? ⟨g, i, none⟩ = some (.int .i64 v) ∧ (N i ∨ i = j → v = (S i : Int) - 1)) := by
    intro w j x N hw hj hx i hi
    obtain ⟨hf, v, hc, hv⟩ := hw i hi
    refine ⟨by rw [World.frozen?_setCell]; exact hf, ?_⟩
    by_cases e : i = j
    · subst e
      exact ⟨x, World.cell?_setCell_same _ _ _ hc, fun _ => hx⟩
    · exact ⟨v, by rw [World.cell?_setCell_other _ _ _ _ (by intro e'; injection e' with _ e2; exact e e2.symm)]; exact hc, fun h => hv (h.resolve_right e)⟩
  have h3 := one _ (m * 3) _ _ h2 (by omega) rfl
  have h4 := one _ (m * 3 + 1) _ _ h3 (by omega) rfl
  have h5 := one _ (m * 3 + 2) _ _ h4 (by omega) rfl
  refine ⟨by simpa [World.setCell] using hl, fun i hi => ?_⟩
  obtain ⟨hf, v, hc, hv⟩ := h5 i hi
  exact ⟨hf, v, hc, fun h => hv (by omega)⟩
/-- What was written down of a thread. -/
theorem Was.read {w : World} {g : Nat} {S : Lk} (h : Was w g 64 S) {i : Nat} (hi : i < 192) : w.cell? ⟨g, i, none⟩ = some (.int .i64 ((S i : Int) - 1)) := by
  obtain ⟨_, v, hc, hv⟩ := h.2 i hi
  rw [hc, hv (by omega)]
theorem zero51 (w : World) : (zeroValue 51).run Try.prog w = .ok (.agg Z192) w := by kernel_rfl
theorem num_mod (T : Nat) : Num ((T : Int) % 64) (some (T % 64)) := by unfold Num; omega
theorem Own.far {w0 w w' : World} {B g : Nat} {S : Lk} (h : Own w0 w B S) (t : Turns (fun k => k = g) w w') (hB : B ≠ g) (hg : w0.heap.size ≤ g) : Own w0 w' B S :=
  ⟨h.has.kept t hB, h.ge, h.below.trans (t.below h.below.size (fun k hk e => by omega))⟩

set_option maxHeartbeats 2000000 in
set_option maxRecDepth 100000 in
theorem law_first (p : Option Addr) (n c : Nat) (a : Acts) (T U : Nat) (hT : T < 256) (hU : U < 256) (hn2 : n ≤ 9223372036854775807) (w : World) (hin : ActsIn w w.heap.size p n a) :
    Calls Try.prog 6 #[.slice p n c, .int .u8 (T : Int), .int .u8 (U : Int)] w fun e w' => e = .returned (.bool true) ∧ Below w.heap.size w w' := by
  have hl := lives_any
  have HL := Lib.hid hl; have HIN := Lib.hid hin
  clear hl hin
  by_cases hn : n ≤ 100
  · have hnew := new_any w
    have HN := Lib.hid hnew
    clear hnew
    go_enter Try.func6, Try.ntmps6
    go_wp2_with fail
    refine HN.out.mono ?_
    rintro e w1 ⟨rfl, h1, b1⟩
    obtain ⟨B, hB⟩ : ∃ B, B = w.heap.size := ⟨_, rfl⟩
    rw [← hB] at h1
    have O1 := Lib.hid (Own.mk (w0 := w) h1 (by omega) b1)
    rw [← hB]
    have HB := Lib.hid hB
    clear h1 b1 hB
    go_wp2_with fail
    go_loopg [8] n (fun q s8 wx => ∃ (k : Nat) (S : Lk), k ≤ n ∧ q = n - k ∧ s8 = .int .i64 (k : Int) ∧ Own w wx B S)
    case atStart => exact ⟨0, S0, by omega, rfl, rfl, O1.out⟩
    case round =>
      obtain ⟨k, S, hk, rfl, rfl, ho⟩ := hrel
      have O2 := Lib.hid ho
      clear ho
      by_cases hkn : k < n
      · obtain ⟨lb, lo, rfl, hlb, hcs⟩ := (HIN.out.below O2.out.below (Nat.le_refl _)) (by omega)
        obtain ⟨m0, m1, m2, m3⟩ := hcs k hkn
        obtain ⟨o, hno⟩ := num_any (a.A k)
        obtain ⟨pp, hnp⟩ := num_any (a.V k)
        have HO := Lib.hid hno; have HP := Lib.hid hnp
        have hlB : lb ≠ B := by have := O2.out.ge; omega
        have hlw : lb < wr.heap.size := Nat.lt_of_lt_of_le hlb O2.out.below.size
        clear hcs hno hnp
        by_cases hz : a.K k % 2 = 0
        · have t0 : (((a.K k : Nat) : Int) % 2 == 0) = true := by rw [beq_iff_eq]; omega
          clear hz
          go_upto_region 8 with (fail)
          have hd := O2.out.drew
          have O3 := Lib.hid hd
          clear hd m0
          refine wp_region_held_drew (S := fun w' => w'.cell? ⟨lb, lo + k * 3 + 1, none⟩ = some (.int .i64 (a.A k)) ∧ w'.cell? ⟨lb, lo + k * 3 + 2, none⟩ = some (.int .i64 (a.V k))) (by kernel_rfl) ?_ (fun hHeld => ?_)
          · exact ⟨m1, m2⟩
          refine wpAnyH_take (i := 0) (oi := ({ dst := some 31, op := Op.move (Operand.tmp 7), type := 24, pos := "outright.go:74", after := #[], guard := none } : Oper)) (v := ?va0) rfl (by kernel_rfl) (by kernel_rfl) (by kernel_rfl) (fun _ _ _ h => h) (Or.inl ⟨by rfl, fun w hSw => ?hya0⟩) (by assumption) ?ra0
          case hya0 => (try dsimp only at hSw); go_simp; (try with_reducible rfl)
          (try simp only [Act.put, List.setIfInBounds_toArray, List.set_cons_zero, List.set_cons_succ])
          refine wpAnyH_take (i := 1) (oi := ({ dst := some 32, op := Op.move (Operand.tmp 0), type := 22, pos := "outright.go:74", after := #[], guard := none } : Oper)) (v := ?va1) rfl (by kernel_rfl) (by kernel_rfl) (by kernel_rfl) (fun _ _ _ h => h) (Or.inl ⟨by rfl, fun w hSw => ?hya1⟩) (by assumption) ?ra1
          case hya1 => (try dsimp only at hSw); go_simp; (try with_reducible rfl)
          (try simp only [Act.put, List.setIfInBounds_toArray, List.set_cons_zero, List.set_cons_succ])
          refine wpAnyH_take (i := 2) (oi := ({ dst := some 33, op := Op.move (Operand.tmp 8), type := 3, pos := "outright.go:74", after := #[], guard := none } : Oper)) (v := ?va2) rfl (by kernel_rfl) (by kernel_rfl) (by kernel_rfl) (fun _ _ _ h => h) (Or.inl ⟨by rfl, fun w hSw => ?hya2⟩) (by assumption) ?ra2
          case hya2 => (try dsimp only at hSw); go_simp; (try with_reducible rfl)
          (try simp only [Act.put, List.setIfInBounds_toArray, List.set_cons_zero, List.set_cons_succ])
          refine wpAnyH_take (i := 3) (oi := ({ dst := some 34, op := Op.indexAddr 22 (Operand.tmp 32) (Operand.tmp 33), type := 0, pos := "outright.go:74", after := #[{ on := 1, ground := Ground.data }, { on := 2, ground := Ground.data }], guard := none } : Oper)) (v := ?va3) rfl (by kernel_rfl) (by kernel_rfl) (by kernel_rfl) (fun _ _ _ h => h) (Or.inl ⟨by rfl, fun w hSw => ?hya3⟩) (by assumption) ?ra3
          case hya3 => (try dsimp only at hSw); go_simp; (try with_reducible rfl)
          (try simp only [Act.put, List.setIfInBounds_toArray, List.set_cons_zero, List.set_cons_succ])
          refine wpAnyH_take (i := 4) (oi := ({ dst := some 35, op := Op.fieldAddr 34 (Operand.tmp 34) 1, type := 0, pos := "outright.go:74", after := #[{ on := 3, ground := Ground.data }], guard := none } : Oper)) (v := ?va4) rfl (by kernel_rfl) (by kernel_rfl) (by kernel_rfl) (fun _ _ _ h => h) (Or.inl ⟨by rfl, fun w hSw => ?hya4⟩) (by assumption) ?ra4
          case hya4 => (try dsimp only at hSw); go_simp; (try with_reducible rfl)
          (try simp only [Act.put, List.setIfInBounds_toArray, List.set_cons_zero, List.set_cons_succ])
          refine wpAnyH_take (i := 5) (oi := ({ dst := some 36, op := Op.load 3 (Operand.tmp 35), type := 3, pos := "outright.go:74", after := #[{ on := 4, ground := Ground.data }], guard := none } : Oper)) (v := ?va5) rfl (by kernel_rfl) (by kernel_rfl) (by kernel_rfl) (fun _ _ _ h => h) (Or.inl ⟨by rfl, fun w hSw => ?hya5⟩) (by assumption) ?ra5
          case hya5 => (try dsimp only at hSw); go_simp; (try with_reducible rfl)
          (try simp only [Act.put, List.setIfInBounds_toArray, List.set_cons_zero, List.set_cons_succ])
          refine wpAnyH_take (i := 6) (oi := ({ dst := some 37, op := Op.move (Operand.tmp 0), type := 22, pos := "outright.go:74", after := #[], guard := none } : Oper)) (v := ?va6) rfl (by kernel_rfl) (by kernel_rfl) (by kernel_rfl) (fun _ _ _ h => h) (Or.inl ⟨by rfl, fun w hSw => ?hya6⟩) (by assumption) ?ra6
          case hya6 => (try dsimp only at hSw); go_simp; (try with_reducible rfl)
          (try simp only [Act.put, List.setIfInBounds_toArray, List.set_cons_zero, List.set_cons_succ])
          refine wpAnyH_take (i := 7) (oi := ({ dst := some 38, op := Op.move (Operand.tmp 8), type := 3, pos := "outright.go:74", after := #[], guard := none } : Oper)) (v := ?va7) rfl (by kernel_rfl) (by kernel_rfl) (by kernel_rfl) (fun _ _ _ h => h) (Or.inl ⟨by rfl, fun w hSw => ?hya7⟩) (by assumption) ?ra7
          case hya7 => (try dsimp only at hSw); go_simp; (try with_reducible rfl)
          (try simp only [Act.put, List.setIfInBounds_toArray, List.set_cons_zero, List.set_cons_succ])
          refine wpAnyH_take (i := 8) (oi := ({ dst := some 39, op := Op.indexAddr 22 (Operand.tmp 37) (Operand.tmp 38), type := 0, pos := "outright.go:74", after := #[{ on := 6, ground := Ground.data }, { on := 7, ground := Ground.data }], guard := none } : Oper)) (v := ?va8) rfl (by kernel_rfl) (by kernel_rfl) (by kernel_rfl) (fun _ _ _ h => h) (Or.inl ⟨by rfl, fun w hSw => ?hya8⟩) (by assumption) ?ra8
          case hya8 => (try dsimp only at hSw); go_simp; (try with_reducible rfl)
          (try simp only [Act.put, List.setIfInBounds_toArray, List.set_cons_zero, List.set_cons_succ])
          refine wpAnyH_take (i := 9) (oi := ({ dst := some 40, op := Op.fieldAddr 34 (Operand.tmp 39) 2, type := 0, pos := "outright.go:74", after := #[{ on := 8, ground := Ground.data }], guard := none } : Oper)) (v := ?va9) rfl (by kernel_rfl) (by kernel_rfl) (by kernel_rfl) (fun _ _ _ h => h) (Or.inl ⟨by rfl, fun w hSw => ?hya9⟩) (by assumption) ?ra9
          case hya9 => (try dsimp only at hSw); go_simp; (try with_reducible rfl)
          (try simp only [Act.put, List.setIfInBounds_toArray, List.set_cons_zero, List.set_cons_succ])
          refine wpAnyH_take (i := 10) (oi := ({ dst := some 41, op := Op.load 3 (Operand.tmp 40), type := 3, pos := "outright.go:74", after := #[{ on := 9, ground := Ground.data }], guard := none } : Oper)) (v := ?va10) rfl (by kernel_rfl) (by kernel_rfl) (by kernel_rfl) (fun _ _ _ h => h) (Or.inl ⟨by rfl, fun w hSw => ?hya10⟩) (by assumption) ?ra10
          case hya10 => (try dsimp only at hSw); go_simp; (try with_reducible rfl)
          (try simp only [Act.put, List.setIfInBounds_toArray, List.set_cons_zero, List.set_cons_succ])
          refine wpAnyH_ready (rs := [11]) (by kernel_rfl) (by simp) ?_
          refine AllReadyH.cons (o := ({ dst := some 42, op := Op.call { callee := Callee.value (Operand.func 11), args := #[Operand.tmp 31, Operand.tmp 36, Operand.tmp 41], argTypes := #[24, 3, 3] }, type := 0, pos := "outright.go:74", after := #[{ on := 0, ground := Ground.data }, { on := 5, ground := Ground.data }, { on := 10, ground := Ground.data }], guard := none } : Oper)) rfl (fun Kq hKq => ?_) AllReadyH.nil
          go_simp
          (refine (push_any O3.out.has HO.out HP.out).mono ?_; rintro e w4 ⟨rfl, s4⟩; have O4 := Lib.hid (O3.out.next s4); have g1 := (s4.2.cell (g := lb) (o := lo + k * 3 + 1) hlw hlB).trans m1; have g2 := (s4.2.cell (g := lb) (o := lo + k * 3 + 2) hlw hlB).trans m2; clear s4)
          refine hKq.out _ _ ?_ (fun hHeld => ?_)
          · exact ⟨g1, g2⟩
          clear hKq Kq
          (try simp only [Act.put, List.setIfInBounds_toArray, List.set_cons_zero, List.set_cons_succ])
          refine wpAnyH_done (by kernel_rfl) ?_ _
          go_wp2_with fail
          go_roundg (n - (k + 1))
          case measure => omega
          case rel => exact ⟨k + 1, _, by omega, rfl, by go_num, O4.out⟩
        · have t0 : (((a.K k : Nat) : Int) % 2 == 0) = false := by rw [beq_eq_false_iff_ne]; omega
          clear hz
          go_wp2_with fail
          refine (seek_any O2.out.has HO.out).mono ?_
          rintro e w3 ⟨rfl, h3, t3⟩
          have O3 := Lib.hid (O2.out.next ⟨h3, t3⟩)
          clear h3 t3
          go_wp2_with fail
          go_roundg (n - (k + 1))
          case measure => omega
          case rel => exact ⟨k + 1, _, by omega, rfl, by go_num, O3.out⟩
      · have z51 := zero51
        obtain ⟨wo, rfl⟩ : ∃ wo : World, wo = wr := ⟨_, rfl⟩
        have o3 := O2.out.new (below1 wo (.cells Z192 51))
        have wz := Was.zero wo 51 S
        have hgb : w.heap.size ≤ wo.heap.size := O2.out.below.size
        have hgB : wo.heap.size ≠ B := by have := O2.out.has.lt; omega
        have O3 := Lib.hid o3; have WZ := Lib.hid wz
        clear o3 wz
        go_wp2_with fail
        clear z51
        generalize wo.alloc (.cells Z192 51) = w3 at *
        generalize wo.heap.size = g at *
        go_loopg [10] 64 (fun q s10 wx => ∃ m : Nat, m ≤ 64 ∧ q = 64 - m ∧ s10 = .int .i64 (m : Int) ∧ Own w wx B S ∧ Was wx g m S)
        case atStart => exact ⟨0, by omega, rfl, rfl, O3.out, WZ.out⟩
        case round =>
          obtain ⟨m, hm, rfl, rfl, ho, hw⟩ := hrel
          have O4 := Lib.hid ho; have W4 := Lib.hid hw
          clear ho hw
          by_cases hm2 : m < 64
          · have hat := at_val O4.out.has (nm m hm2) rfl rfl rfl
            have HAT := Lib.hid hat
            clear hat
            have hst := W4.out
            go_wp2_with fail
            refine HAT.out.mono ?_
            rintro e w5 ⟨rfl, hb⟩
            have O5 := Lib.hid (O4.out.new hb)
            have hw5 := W4.out.new hb
            have W5 := Lib.hid hw5
            have hs5 := hw5.set hm2
            have S5 := Lib.hid hs5
            obtain ⟨f0, _, c0, _⟩ := hw5.2 (m * 3) (by omega)
            obtain ⟨f1, _, c1, _⟩ := hw5.2 (m * 3 + 1) (by omega)
            obtain ⟨f2, _, c2, _⟩ := hw5.2 (m * 3 + 2) (by omega)
            have hlt5 := hw5.1
            clear hb hw5 hst hs5
            generalize ((S (m * 3) : Int) - 1) = x0 at *
            generalize ((S (m * 3 + 1) : Int) - 1) = x1 at *
            generalize ((S (m * 3 + 2) : Int) - 1) = x2 at *
            go_wp2_with fail
            have t5 : Turns (fun j => j = g) w5 (((w5.setCell ⟨g, m * 3, none⟩ (.int .i64 x0)).setCell ⟨g, m * 3 + 1, none⟩ (.int .i64 x1)).setCell ⟨g, m * 3 + 2, none⟩ (.int .i64 x2)) := turns3 _ _ _ _ _ _ _ _
            have O6 := Lib.hid (O5.out.far t5 (fun e => hgB e.symm) hgb)
            clear t5
            go_roundg (64 - (m + 1))
            case measure => omega
            case rel => exact ⟨m + 1, by omega, rfl, by go_num, O6.out, S5.out⟩
          · obtain rfl : m = 64 := by omega
            have HTM := Lib.hid (num_mod T); have HUM := Lib.hid (num_mod U)
            have hpu := push_lit O4.out.has (num_mod T) (num_mod U) rfl
            have HPU := Lib.hid hpu
            clear hpu
            obtain ⟨t, ht⟩ : ∃ t, T % 64 = t := ⟨_, rfl⟩
            obtain ⟨u, hu⟩ : ∃ u, U % 64 = u := ⟨_, rfl⟩
            rw [ht, hu] at HPU
            rw [ht] at HTM
            rw [hu] at HUM
            obtain ⟨wo2, rfl⟩ : ∃ wo2 : World, wo2 = wr := ⟨_, rfl⟩
            go_wp2_with fail
            refine HPU.out.mono ?_
            rintro e w5 ⟨rfl, s5⟩
            have O5 := Lib.hid (O4.out.next s5); have W5 := Lib.hid (W4.out.kept s5.2 (fun e => hgB e))
            clear s5
            have ha5 := at_val (u := (U : Int) % 64) (v := -1) (z := -1) O5.out.has HTM.out (by rw [pushS, pushed, put3_0]; omega) (by rw [pushS, pushed, put3_1]; rfl) (by rw [pushS, pushed, put3_2]; rfl)
            have HA5 := Lib.hid ha5
            clear ha5
            have q1 := neq38 ((U : Int) % 64) (-1) (-1) ((U : Int) % 64) (-1) (-1)
            simp only [beq_self_eq_true, Bool.and_self, Bool.not_true] at q1
            go_wp2_with fail
            refine HA5.out.mono ?_
            rintro e w6 ⟨rfl, b6⟩
            have O6 := Lib.hid (O5.out.new b6); have W6 := Lib.hid (W5.out.new b6)
            clear b6
            go_wp2_with fail
            clear q1
            refine (push_lit O6.out.has HTM.out nm1 rfl).mono ?_
            rintro e w7 ⟨rfl, s7⟩
            have O7 := Lib.hid (O6.out.next s7); have W7 := Lib.hid (W6.out.kept s7.2 (fun e => hgB e))
            clear s7
            clear HUM
            generalize (U : Int) % 64 = y at *
            generalize (T : Int) % 64 = x at *
            obtain ⟨rfl, ht64⟩ := HTM.out
            obtain ⟨F, hF⟩ : ∃ F, F = pushS (pushS S (some t) (some u)) (some t) none := ⟨_, rfl⟩
            rw [← hF] at O7
            have hFe : ∀ i, i ≠ t → ∀ k, k < 3 → F (i * 3 + k) = S (i * 3 + k) := fun i hi k hk => by rw [hF, pushS, pushed, put3_else hi k hk, pushS, pushed, put3_else hi k hk]
            have hF0 : F (t * 3) = 0 := by rw [hF, pushS, pushed, put3_0]
            have hF1 : F (t * 3 + 1) = 0 := by rw [hF, pushS, pushed, put3_1]
            have hF2 : F (t * 3 + 2) = t + 1 := by rw [hF, pushS, pushed, put3_2]
            have HFE := Lib.hid hFe; have HF0 := Lib.hid hF0; have HF1 := Lib.hid hF1; have HF2 := Lib.hid hF2
            clear hF hFe hF0 hF1 hF2 ht hu
            go_wp2_with fail
            go_loopg [12] 64 (fun q s12 wx => ∃ i : Nat, i ≤ 64 ∧ q = 64 - i ∧ s12 = .int .i64 (i : Int) ∧ Own w wx B F ∧ Was wx g 64 S)
            case atStart => exact ⟨0, by omega, rfl, rfl, O7.out, W7.out⟩
            case round =>
              obtain ⟨i, hi, rfl, rfl, ho, hw⟩ := hrel
              have O8 := Lib.hid ho; have W8 := Lib.hid hw
              clear ho hw
              by_cases hi2 : i < 64
              · have OD := Lib.hid O8.out.drew
                by_cases hit : i = t
                · subst hit
                  have tn : ((i : Int) != (i : Int)) = false := by simp
                  go_upto_region 23 with (fail)
                  refine wp_region_held_drew (S := fun w' => True) (by kernel_rfl) ?_ (fun hHeld => ?_)
                  · trivial
                  refine wpAnyH_take (i := 0) (oi := ({ dst := some 83, op := Op.move (Operand.tmp 12), type := 3, pos := "outright.go:90", after := #[], guard := none } : Oper)) (v := ?vd0) rfl (by kernel_rfl) (by kernel_rfl) (by kernel_rfl) (fun _ _ _ h => h) (Or.inl ⟨by rfl, fun w hSw => ?hyd0⟩) (by assumption) ?rd0
                  case hyd0 => (try dsimp only at hSw); go_simp; (try with_reducible rfl)
                  (try simp only [Act.put, List.setIfInBounds_toArray, List.set_cons_zero, List.set_cons_succ])
                  refine wpAnyH_take (i := 1) (oi := ({ dst := some 84, op := Op.move (Operand.tmp 11), type := 3, pos := "outright.go:90", after := #[], guard := none } : Oper)) (v := ?vd1) rfl (by kernel_rfl) (by kernel_rfl) (by kernel_rfl) (fun _ _ _ h => h) (Or.inl ⟨by rfl, fun w hSw => ?hyd1⟩) (by assumption) ?rd1
                  case hyd1 => (try dsimp only at hSw); go_simp; (try with_reducible rfl)
                  (try simp only [Act.put, List.setIfInBounds_toArray, List.set_cons_zero, List.set_cons_succ])
                  refine wpAnyH_take (i := 2) (oi := ({ dst := some 85, op := Op.binOp BinOp.neq 3 (Operand.tmp 83) (Operand.tmp 84) 3, type := 4, pos := "outright.go:90", after := #[{ on := 0, ground := Ground.data }, { on := 1, ground := Ground.data }], guard := none } : Oper)) (v := ?vd2) rfl (by kernel_rfl) (by kernel_rfl) (by kernel_rfl) (fun _ _ _ h => h) (Or.inl ⟨by rfl, fun w hSw => ?hyd2⟩) (by assumption) ?rd2
                  case hyd2 => (try dsimp only at hSw); go_simp; (try with_reducible rfl)
                  (try simp only [Act.put, List.setIfInBounds_toArray, List.set_cons_zero, List.set_cons_succ])
                  refine wpAnyH_take (i := 3) (oi := ({ dst := some 86, op := Op.move (Operand.tmp 85), type := 4, pos := "outright.go:90", after := #[{ on := 2, ground := Ground.data }], guard := none } : Oper)) (v := ?vd3) rfl (by kernel_rfl) (by kernel_rfl) (by kernel_rfl) (fun _ _ _ h => h) (Or.inl ⟨by rfl, fun w hSw => ?hyd3⟩) (by assumption) ?rd3
                  case hyd3 => (try dsimp only at hSw); go_simp; (try with_reducible rfl)
                  (try simp only [Act.put, List.setIfInBounds_toArray, List.set_cons_zero, List.set_cons_succ])
                  refine wpAnyH_take (i := 4) (oi := ({ dst := some 87, op := Op.move (Operand.tmp 7), type := 24, pos := "outright.go:90", after := #[{ on := 3, ground := Ground.guard }], guard := some (3, true) } : Oper)) (v := undef) rfl (by kernel_rfl) (by kernel_rfl) (by kernel_rfl) (fun _ _ _ h => h) (Or.inr ⟨by rfl, rfl⟩) (by assumption) ?_
                  (try simp only [Act.put, List.setIfInBounds_toArray, List.set_cons_zero, List.set_cons_succ])
                  refine wpAnyH_take (i := 5) (oi := ({ dst := some 88, op := Op.move (Operand.tmp 12), type := 3, pos := "outright.go:90", after := #[{ on := 3, ground := Ground.guard }], guard := some (3, true) } : Oper)) (v := undef) rfl (by kernel_rfl) (by kernel_rfl) (by kernel_rfl) (fun _ _ _ h => h) (Or.inr ⟨by rfl, rfl⟩) (by assumption) ?_
                  (try simp only [Act.put, List.setIfInBounds_toArray, List.set_cons_zero, List.set_cons_succ])
                  refine wpAnyH_take (i := 6) (oi := ({ dst := some 89, op := Op.call { callee := Callee.value (Operand.func 12), args := #[Operand.tmp 87, Operand.tmp 88], argTypes := #[24, 3] }, type := 38, pos := "outright.go:90", after := #[{ on := 4, ground := Ground.data }, { on := 5, ground := Ground.data }, { on := 3, ground := Ground.chain }, { on := 3, ground := Ground.guard }], guard := some (3, true) } : Oper)) (v := undef) rfl (by kernel_rfl) (by kernel_rfl) (by kernel_rfl) (fun _ _ _ h => h) (Or.inr ⟨by rfl, rfl⟩) (by assumption) ?_
                  (try simp only [Act.put, List.setIfInBounds_toArray, List.set_cons_zero, List.set_cons_succ])
                  refine wpAnyH_take (i := 7) (oi := ({ dst := some 90, op := Op.move (Operand.tmp 12), type := 3, pos := "outright.go:90", after := #[{ on := 3, ground := Ground.guard }], guard := some (3, true) } : Oper)) (v := undef) rfl (by kernel_rfl) (by kernel_rfl) (by kernel_rfl) (fun _ _ _ h => h) (Or.inr ⟨by rfl, rfl⟩) (by assumption) ?_
                  (try simp only [Act.put, List.setIfInBounds_toArray, List.set_cons_zero, List.set_cons_succ])
                  refine wpAnyH_take (i := 8) (oi := ({ dst := some 91, op := Op.indexAddr 51 (Operand.tmp 9) (Operand.tmp 90), type := 0, pos := "outright.go:90", after := #[{ on := 7, ground := Ground.data }, { on := 3, ground := Ground.guard }], guard := some (3, true) } : Oper)) (v := undef) rfl (by kernel_rfl) (by kernel_rfl) (by kernel_rfl) (fun _ _ _ h => h) (Or.inr ⟨by rfl, rfl⟩) (by assumption) ?_
                  (try simp only [Act.put, List.setIfInBounds_toArray, List.set_cons_zero, List.set_cons_succ])
                  refine wpAnyH_take (i := 9) (oi := ({ dst := some 92, op := Op.load 38 (Operand.tmp 91), type := 38, pos := "outright.go:90", after := #[{ on := 8, ground := Ground.data }, { on := 3, ground := Ground.guard }], guard := some (3, true) } : Oper)) (v := undef) rfl (by kernel_rfl) (by kernel_rfl) (by kernel_rfl) (fun _ _ _ h => h) (Or.inr ⟨by rfl, rfl⟩) (by assumption) ?_
                  (try simp only [Act.put, List.setIfInBounds_toArray, List.set_cons_zero, List.set_cons_succ])
                  refine wpAnyH_take (i := 10) (oi := ({ dst := some 93, op := Op.binOp BinOp.neq 38 (Operand.tmp 89) (Operand.tmp 92) 38, type := 4, pos := "outright.go:90", after := #[{ on := 6, ground := Ground.data }, { on := 9, ground := Ground.data }, { on := 3, ground := Ground.guard }], guard := some (3, true) } : Oper)) (v := undef) rfl (by kernel_rfl) (by kernel_rfl) (by kernel_rfl) (fun _ _ _ h => h) (Or.inr ⟨by rfl, rfl⟩) (by assumption) ?_
                  (try simp only [Act.put, List.setIfInBounds_toArray, List.set_cons_zero, List.set_cons_succ])
                  refine wpAnyH_take (i := 11) (oi := ({ dst := some 94, op := Op.pick (Operand.tmp 86) (Operand.tmp 93) (Operand.const (Value.bool false)), type := 4, pos := "outright.go:90", after := #[{ on := 3, ground := Ground.data }, { on := 10, ground := Ground.data }], guard := none } : Oper)) (v := ?vd11) rfl (by kernel_rfl) (by kernel_rfl) (by kernel_rfl) (fun _ _ _ h => h) (Or.inl ⟨by rfl, fun w hSw => ?hyd11⟩) (by assumption) ?rd11
                  case hyd11 => (try dsimp only at hSw); go_simp; (try with_reducible rfl)
                  (try simp only [Act.put, List.setIfInBounds_toArray, List.set_cons_zero, List.set_cons_succ])
                  refine wpAnyH_done (by kernel_rfl) ?_ _
                  go_wp2_with fail
                  go_roundg (64 - (i + 1))
                  case measure => omega
                  case rel => exact ⟨i + 1, by omega, rfl, by go_num, OD.out, W8.out⟩
                · have tn : ((i : Int) != (t : Int)) = true := by rw [bne_iff_ne]; omega
                  have r0 := W8.out.read (i := i * 3) (by omega)
                  have r1 := W8.out.read (i := i * 3 + 1) (by omega)
                  have r2 := W8.out.read (i := i * 3 + 2) (by omega)
                  have hat := at_val OD.out.has (nm i hi2) (by rw [show i * 3 = i * 3 + 0 from rfl, HFE.out i hit 0 (by omega)]) (by rw [HFE.out i hit 1 (by omega)]) (by rw [HFE.out i hit 2 (by omega)])
                  rw [Nat.add_zero] at hat
                  have HAT := Lib.hid hat
                  have hgw := W8.out.1
                  clear hat hit
                  generalize ((S (i * 3) : Int) - 1) = x0 at *
                  generalize ((S (i * 3 + 1) : Int) - 1) = x1 at *
                  generalize ((S (i * 3 + 2) : Int) - 1) = x2 at *
                  have q := neq38 x0 x1 x2 x0 x1 x2
                  simp only [beq_self_eq_true, Bool.and_self, Bool.not_true] at q
                  go_upto_region 23 with (fail)
                  refine wp_region_held_drew (S := fun w' => w'.cell? ⟨g, i * 3, none⟩ = some (.int .i64 x0) ∧ w'.cell? ⟨g, i * 3 + 1, none⟩ = some (.int .i64 x1) ∧ w'.cell? ⟨g, i * 3 + 2, none⟩ = some (.int .i64 x2)) (by kernel_rfl) ?_ (fun hHeld => ?_)
                  · exact ⟨r0, r1, r2⟩
                  refine wpAnyH_take (i := 0) (oi := ({ dst := some 83, op := Op.move (Operand.tmp 12), type := 3, pos := "outright.go:90", after := #[], guard := none } : Oper)) (v := ?vc0) rfl (by kernel_rfl) (by kernel_rfl) (by kernel_rfl) (fun _ _ _ h => h) (Or.inl ⟨by rfl, fun w hSw => ?hyc0⟩) (by assumption) ?rc0
                  case hyc0 => (try dsimp only at hSw); go_simp; (try with_reducible rfl)
                  (try simp only [Act.put, List.setIfInBounds_toArray, List.set_cons_zero, List.set_cons_succ])
                  refine wpAnyH_take (i := 1) (oi := ({ dst := some 84, op := Op.move (Operand.tmp 11), type := 3, pos := "outright.go:90", after := #[], guard := none } : Oper)) (v := ?vc1) rfl (by kernel_rfl) (by kernel_rfl) (by kernel_rfl) (fun _ _ _ h => h) (Or.inl ⟨by rfl, fun w hSw => ?hyc1⟩) (by assumption) ?rc1
                  case hyc1 => (try dsimp only at hSw); go_simp; (try with_reducible rfl)
                  (try simp only [Act.put, List.setIfInBounds_toArray, List.set_cons_zero, List.set_cons_succ])
                  refine wpAnyH_take (i := 2) (oi := ({ dst := some 85, op := Op.binOp BinOp.neq 3 (Operand.tmp 83) (Operand.tmp 84) 3, type := 4, pos := "outright.go:90", after := #[{ on := 0, ground := Ground.data }, { on := 1, ground := Ground.data }], guard := none } : Oper)) (v := ?vc2) rfl (by kernel_rfl) (by kernel_rfl) (by kernel_rfl) (fun _ _ _ h => h) (Or.inl ⟨by rfl, fun w hSw => ?hyc2⟩) (by assumption) ?rc2
                  case hyc2 => (try dsimp only at hSw); go_simp; (try with_reducible rfl)
                  (try simp only [Act.put, List.setIfInBounds_toArray, List.set_cons_zero, List.set_cons_succ])
                  refine wpAnyH_take (i := 3) (oi := ({ dst := some 86, op := Op.move (Operand.tmp 85), type := 4, pos := "outright.go:90", after := #[{ on := 2, ground := Ground.data }], guard := none } : Oper)) (v := ?vc3) rfl (by kernel_rfl) (by kernel_rfl) (by kernel_rfl) (fun _ _ _ h => h) (Or.inl ⟨by rfl, fun w hSw => ?hyc3⟩) (by assumption) ?rc3
                  case hyc3 => (try dsimp only at hSw); go_simp; (try with_reducible rfl)
                  (try simp only [Act.put, List.setIfInBounds_toArray, List.set_cons_zero, List.set_cons_succ])
                  refine wpAnyH_take (i := 4) (oi := ({ dst := some 87, op := Op.move (Operand.tmp 7), type := 24, pos := "outright.go:90", after := #[{ on := 3, ground := Ground.guard }], guard := some (3, true) } : Oper)) (v := ?vc4) rfl (by kernel_rfl) (by kernel_rfl) (by kernel_rfl) (fun _ _ _ h => h) (Or.inl ⟨by rfl, fun w hSw => ?hyc4⟩) (by assumption) ?rc4
                  case hyc4 => (try dsimp only at hSw); go_simp; (try with_reducible rfl)
                  (try simp only [Act.put, List.setIfInBounds_toArray, List.set_cons_zero, List.set_cons_succ])
                  refine wpAnyH_take (i := 5) (oi := ({ dst := some 88, op := Op.move (Operand.tmp 12), type := 3, pos := "outright.go:90", after := #[{ on := 3, ground := Ground.guard }], guard := some (3, true) } : Oper)) (v := ?vc5) rfl (by kernel_rfl) (by kernel_rfl) (by kernel_rfl) (fun _ _ _ h => h) (Or.inl ⟨by rfl, fun w hSw => ?hyc5⟩) (by assumption) ?rc5
                  case hyc5 => (try dsimp only at hSw); go_simp; (try with_reducible rfl)
                  (try simp only [Act.put, List.setIfInBounds_toArray, List.set_cons_zero, List.set_cons_succ])
                  refine wpAnyH_take (i := 7) (oi := ({ dst := some 90, op := Op.move (Operand.tmp 12), type := 3, pos := "outright.go:90", after := #[{ on := 3, ground := Ground.guard }], guard := some (3, true) } : Oper)) (v := ?vc7) rfl (by kernel_rfl) (by kernel_rfl) (by kernel_rfl) (fun _ _ _ h => h) (Or.inl ⟨by rfl, fun w hSw => ?hyc7⟩) (by assumption) ?rc7
                  case hyc7 => (try dsimp only at hSw); go_simp; (try with_reducible rfl)
                  (try simp only [Act.put, List.setIfInBounds_toArray, List.set_cons_zero, List.set_cons_succ])
                  refine wpAnyH_take (i := 8) (oi := ({ dst := some 91, op := Op.indexAddr 51 (Operand.tmp 9) (Operand.tmp 90), type := 0, pos := "outright.go:90", after := #[{ on := 7, ground := Ground.data }, { on := 3, ground := Ground.guard }], guard := some (3, true) } : Oper)) (v := ?vc8) rfl (by kernel_rfl) (by kernel_rfl) (by kernel_rfl) (fun _ _ _ h => h) (Or.inl ⟨by rfl, fun w hSw => ?hyc8⟩) (by assumption) ?rc8
                  case hyc8 => (try dsimp only at hSw); go_simp; (try with_reducible rfl)
                  (try simp only [Act.put, List.setIfInBounds_toArray, List.set_cons_zero, List.set_cons_succ])
                  refine wpAnyH_take (i := 9) (oi := ({ dst := some 92, op := Op.load 38 (Operand.tmp 91), type := 38, pos := "outright.go:90", after := #[{ on := 8, ground := Ground.data }, { on := 3, ground := Ground.guard }], guard := some (3, true) } : Oper)) (v := ?vc9) rfl (by kernel_rfl) (by kernel_rfl) (by kernel_rfl) (fun _ _ _ h => h) (Or.inl ⟨by rfl, fun w hSw => ?hyc9⟩) (by assumption) ?rc9
                  case hyc9 => (try dsimp only at hSw); go_simp; (try with_reducible rfl)
                  (try simp only [Act.put, List.setIfInBounds_toArray, List.set_cons_zero, List.set_cons_succ])
                  refine wpAnyH_ready (rs := [6]) (by kernel_rfl) (by simp) ?_
                  refine AllReadyH.cons (o := ({ dst := some 89, op := Op.call { callee := Callee.value (Operand.func 12), args := #[Operand.tmp 87, Operand.tmp 88], argTypes := #[24, 3] }, type := 38, pos := "outright.go:90", after := #[{ on := 4, ground := Ground.data }, { on := 5, ground := Ground.data }, { on := 3, ground := Ground.chain }, { on := 3, ground := Ground.guard }], guard := some (3, true) } : Oper)) rfl (fun Kq hKq => ?_) AllReadyH.nil
                  go_simp
                  (refine HAT.out.mono ?_; rintro e w9 ⟨rfl, b9⟩; have O9 := Lib.hid (OD.out.new b9); have W9 := Lib.hid (Was.new (w := wr.drew) W8.out b9); have g0 := (b9.cell (p := ⟨g, i * 3, none⟩) hgw).trans r0; have g1 := (b9.cell (p := ⟨g, i * 3 + 1, none⟩) hgw).trans r1; have g2 := (b9.cell (p := ⟨g, i * 3 + 2, none⟩) hgw).trans r2; clear b9)
                  refine hKq.out _ _ ?_ (fun hHeld => ?_)
                  · exact ⟨g0, g1, g2⟩
                  clear hKq Kq
                  (try simp only [Act.put, List.setIfInBounds_toArray, List.set_cons_zero, List.set_cons_succ])
                  refine wpAnyH_take (i := 10) (oi := ({ dst := some 93, op := Op.binOp BinOp.neq 38 (Operand.tmp 89) (Operand.tmp 92) 38, type := 4, pos := "outright.go:90", after := #[{ on := 6, ground := Ground.data }, { on := 9, ground := Ground.data }, { on := 3, ground := Ground.guard }], guard := some (3, true) } : Oper)) (v := ?vc10) rfl (by kernel_rfl) (by kernel_rfl) (by kernel_rfl) (fun _ _ _ h => h) (Or.inl ⟨by rfl, fun w hSw => ?hyc10⟩) (by assumption) ?rc10
                  case hyc10 => (try dsimp only at hSw); go_simp; (try with_reducible rfl)
                  (try simp only [Act.put, List.setIfInBounds_toArray, List.set_cons_zero, List.set_cons_succ])
                  refine wpAnyH_take (i := 11) (oi := ({ dst := some 94, op := Op.pick (Operand.tmp 86) (Operand.tmp 93) (Operand.const (Value.bool false)), type := 4, pos := "outright.go:90", after := #[{ on := 3, ground := Ground.data }, { on := 10, ground := Ground.data }], guard := none } : Oper)) (v := ?vc11) rfl (by kernel_rfl) (by kernel_rfl) (by kernel_rfl) (fun _ _ _ h => h) (Or.inl ⟨by rfl, fun w hSw => ?hyc11⟩) (by assumption) ?rc11
                  case hyc11 => (try dsimp only at hSw); go_simp; (try with_reducible rfl)
                  (try simp only [Act.put, List.setIfInBounds_toArray, List.set_cons_zero, List.set_cons_succ])
                  refine wpAnyH_done (by kernel_rfl) ?_ _
                  go_wp2_with fail
                  clear q
                  go_roundg (64 - (i + 1))
                  case measure => omega
                  case rel => exact ⟨i + 1, by omega, rfl, by go_num, O9.out, W9.out⟩
              · obtain rfl : i = 64 := by omega
                have hat := at_val O8.out.has (nm t ht64) (u := -1) (v := -1) (z := (t : Int)) (by rw [HF0.out]; rfl) (by rw [HF1.out]; rfl) (by rw [HF2.out]; omega)
                have HAT := Lib.hid hat
                have q := eq38 (-1) (-1) (t : Int) (-1) (-1) (t : Int)
                simp only [beq_self_eq_true, Bool.and_self] at q
                clear hat
                go_wp2_with fail
                refine HAT.out.mono ?_
                rintro e w9 ⟨rfl, b9⟩
                have O9 := Lib.hid (O8.out.new b9)
                clear b9
                have hsk : seekO F (some t) = (upd F (t * 3 + 2) (t + 1), t + 1) := by
                  rw [seekO, seekS, go_stop 64 (.inl (by rw [HF2.out]; omega)), closeS, HF2.out]
                have hs := seek_lit (v := (t : Int)) (r := t + 1) O9.out.has (nm t ht64) (by rw [hsk]) (by rw [hsk]) (by omega)
                have HS := Lib.hid hs
                clear hs hsk
                have tt : ((t : Int) == (t : Int)) = true := by simp
                go_wp2_with fail
                refine HS.out.mono ?_
                rintro e wa ⟨rfl, sa⟩
                have OA := Lib.hid (O9.out.next sa)
                clear sa tt q
                have hct : cutO (upd F (t * 3 + 2) (t + 1)) (some t) (some t) = (upd F (t * 3 + 2) (t + 1), 0) := cut_zero (by unfold upd; rw [if_neg (by omega)]; exact HF1.out)
                have hc := cut_lit (v := -1) (r := 0) OA.out.has (nm t ht64) (nm t ht64) (by rw [hct]) (by rw [hct]) (by decide)
                have HC := Lib.hid hc
                clear hc hct
                go_wp2_with fail
                refine HC.out.mono ?_
                rintro e wb ⟨rfl, sb⟩
                have OB := Lib.hid (OA.out.next sb).below
                clear sb
                go_wp2_with fail
                refine (HL.out _).mono ?_
                rintro e wd ⟨rfl, bd⟩
                have OD := Lib.hid (OB.out.trans (bd.mono OB.out.size))
                clear bd
                go_wp2_with fail
                go_ret
                exact ⟨rfl, OD.out⟩
  · go_enter Try.func6, Try.ntmps6
    go_wp2_with fail
    refine (HL.out _).mono ?_
    rintro e w5 ⟨rfl, hb⟩
    have HB3 := Lib.hid hb
    clear hb
    go_wp2_with fail
    go_ret
    exact ⟨rfl, HB3.out⟩
end Go.Proofs.Ytlmgboggnljefaa
