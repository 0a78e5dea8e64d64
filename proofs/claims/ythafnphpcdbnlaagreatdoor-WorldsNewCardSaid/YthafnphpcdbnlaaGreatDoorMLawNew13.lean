/- Texts of this seat, one behind the other. -/
import Derived.Test.YthafnphpcdbnlaaGreatDoorMLawNew12
set_option linter.unusedVariables false
set_option linter.unusedSimpArgs false
set_option linter.unusedVariables false
set_option linter.unusedSimpArgs false
namespace Go.Proofs.YthafnphpcdbnlaaGreatDoor.S2
open Go.Proofs.YthafnphpcdbnlaaGreatDoor
open Go.RowKit Go.Maps

def stepR (a y : Nat) (st : LL × Bool) (p : Nat × Nat) : LL × Bool :=
  if st.2 = false ∧ a < p.1 then (st.1 ++ [(a, y)] ++ [p], true)
  else if st.2 = false ∧ a = p.1 then (st.1 ++ [(a, y)], true)
  else if p.1 = a then st else (st.1 ++ [p], st.2)
def accR (a y : Nat) (b : Bool) (L : LL) (k : Nat) : LL × Bool := (L.take k).foldl (stepR a y) ([], b)
theorem accR_succ (a y : Nat) (b : Bool) {L : LL} {k : Nat} (h : k < L.length) : accR a y b L (k + 1) = stepR a y (accR a y b L k) (L[k]!) := by
  unfold accR
  rw [List.take_add_one, List.getElem?_eq_getElem h, getElem!_pos L k h, List.foldl_append]
  rfl
theorem stepR_len (a y : Nat) (st : LL × Bool) (p : Nat × Nat) : (stepR a y st p).1.length ≤ st.1.length + 2 := by
  unfold stepR
  split
  · simp
  · split
    · simp
    · split <;> simp
theorem accR_len (a y : Nat) (b : Bool) (L : LL) : ∀ k, k ≤ L.length → (accR a y b L k).1.length ≤ 2 * k
  | 0, _ => by simp [accR]
  | k + 1, h => by
    rw [accR_succ a y b (by omega)]
    have := stepR_len a y (accR a y b L k) (L[k]!)
    have := accR_len a y b L k (by omega)
    omega
def endR (a y : Nat) (st : LL × Bool) : LL := if st.2 = true then st.1 else st.1 ++ [(a, y)]
theorem fold_true (a y : Nat) : ∀ (L out : LL), L.foldl (stepR a y) (out, true) = (out ++ strike a L, true)
  | [], out => by simp [strike]
  | q :: r, out => by
    rw [List.foldl_cons]
    by_cases h : q.1 = a
    · have e : stepR a y (out, true) q = (out, true) := by simp [stepR, h]
      rw [e, fold_true a y r out]
      simp [strike, h]
    · have e : stepR a y (out, true) q = (out ++ [q], true) := by simp [stepR, h]
      rw [e, fold_true a y r (out ++ [q])]
      simp [strike, h]
theorem ins_front {a y : Nat} : ∀ {L : LL}, (∀ p ∈ L, a < p.1) → ins a y L = (a, y) :: L
  | [], _ => rfl
  | q :: r, h => by unfold ins; rw [if_pos (h q (by simp))]
theorem strike_id {a : Nat} {L : LL} (h : ∀ p ∈ L, p.1 ≠ a) : strike a L = L := by
  unfold strike
  rw [List.filter_eq_self]
  intro p hp
  simpa using h p hp
theorem fold_false (a y : Nat) : ∀ (L out : LL), Srt L → endR a y (L.foldl (stepR a y) (out, false)) = out ++ ins a y (strike a L)
  | [], out, _ => by simp [endR, strike, ins]
  | q :: r, out, h => by
    obtain ⟨h1, h2⟩ := List.pairwise_cons.1 h
    rw [List.foldl_cons]
    by_cases hlt : a < q.1
    · have e : stepR a y (out, false) q = (out ++ [(a, y)] ++ [q], true) := by simp [stepR, hlt]
      have hall : ∀ p ∈ q :: r, a < p.1 := fun p hp => by
        rcases List.mem_cons.1 hp with rfl | hp
        · exact hlt
        · have := h1 p hp; omega
      rw [e, fold_true, strike_id (L := q :: r) (fun p hp => by have := hall p hp; omega), ins_front hall, strike_id (L := r) (fun p hp => by have := hall p (by simp [hp]); omega)]
      simp [endR]
    · by_cases he : a = q.1
      · have e : stepR a y (out, false) q = (out ++ [(a, y)], true) := by simp [stepR, he]
        have hs : strike a (q :: r) = r := by
          unfold strike
          rw [List.filter_cons_of_neg (by simp [he])]
          exact strike_id (fun p hp => by have := h1 p hp; omega)
        have hr : strike a r = r := strike_id (fun p hp => by have := h1 p hp; omega)
        rw [e, fold_true, hs, ins_front (fun p hp => by have := h1 p hp; omega), hr]
        simp [endR]
      · have e : stepR a y (out, false) q = (out ++ [q], false) := by
          have : q.1 ≠ a := fun e => he e.symm
          simp [stepR, hlt, he, this]
        have hs : strike a (q :: r) = q :: strike a r := by
          unfold strike
          rw [List.filter_cons_of_pos (by simp; omega)]
        rw [e, fold_false a y r _ h2, hs]
        have : ins a y (q :: strike a r) = q :: ins a y (strike a r) := by
          rw [ins, if_neg hlt]
        rw [this]
        simp
theorem accR_end {a y : Nat} {L : LL} (h : Srt L) : endR a y (accR a y (decide (y = 0)) L L.length) = putL L a y := by
  unfold accR putL
  rw [List.take_length]
  by_cases h0 : y = 0
  · rw [decide_eq_true h0, fold_true, if_pos h0]
    simp [endR]
  · rw [decide_eq_false h0, fold_false a y L [] h, if_neg h0]
    simp
theorem row_base {w : World} {b c e size n : Nat} {v : Value} {xs : List Value} (h : w.ownsRow c e size v n xs) (hb : b ≤ c) : w.ownsRow b e size v n xs := by
  obtain ⟨h1, h2⟩ := h
  refine ⟨h1, ?_⟩
  rcases h2 with h2 | ⟨g, cap, cur, hv, hg, r⟩
  · exact .inl h2
  · exact .inr ⟨g, cap, cur, hv, by omega, r⟩
theorem row_keep {S : Nat → Prop} {w w' : World} {base e size n : Nat} {v : Value} {xs : List Value} (h : w.ownsRow base e size v n xs) (t : Turns S w w') (hs : ∀ g, v.ownBlock = some g → ¬ S g) : w'.ownsRow base e size v n xs := by
  obtain ⟨h1, h2⟩ := h
  refine ⟨h1, ?_⟩
  rcases h2 with h2 | ⟨g, cap, cur, hv, hg, hh, r⟩
  · exact .inl h2
  · exact .inr ⟨g, cap, cur, hv, hg, (t.block g (Array.getElem?_eq_some_iff.1 hh).1 (hs g (by rw [hv]; rfl))).trans hh, r⟩
theorem pair_new (w : World) (x z : Value) (T : Nat) : ∀ j u, [x, z][j]? = some u → (w.alloc (.cells #[x, z] T)).cell? ((⟨w.heap.size, 0, none⟩ : Addr).add j) = some u := by
  intro j u hu
  match j, hu with
  | 0, hu => simp at hu; subst hu; simp [Addr.add]
  | 1, hu => simp at hu; subst hu; simp [Addr.add]
theorem info31 : (Tryz.prog.info? 77).map (fun i => (i.zero, i.size, i.bytes)) = some (some (.agg #[.int .u32 0, .int .u64 0]), 2, 16) := by kernel_rfl
/-- What the reference's access leaves. -/
def RLeft (w w' : World) (base R : Nat) (L : LL) (n k a was is : Nat) : Prop := ∃ s, RefAt w' base R s L n k a was is ∧ (∀ g, s.ownBlock = some g → w.heap.size ≤ g) ∧ Turns (fun j => j = R) w w'
theorem racc_fin {w w1 wx : World} {base R n kd a l y : Nat} {s0 v : Value} {L' : LL} (t5 : Turns (fun k => k = R) w w1) (hs5 : w1.heap.size = w.heap.size) (r5 : w1.heap[R]? = some (.cells #[s0, .int .i64 ((n : Int) + 1), .int .u8 kd, .int .u32 a, .int .u64 l, .int .u64 y] 152 (0, 0))) (hR : R < w1.heap.size)
    (hg : Good L') (hb : Below w1.heap.size w1 wx) (hown : wx.ownsRow w1.heap.size 77 2 v L'.length (flatW L')) (hbase : base ≤ w.heap.size) : RLeft w (wx.setCell ⟨R, 0, none⟩ v) base R L' (n + 1) kd a l y := by
  have hlt := hown.lt
  have ts : Turns (fun k => k = R) wx (wx.setCell ⟨R, 0, none⟩ v) := (Turns.refl _ _).setCell _ _ rfl
  refine ⟨v, ⟨hg, ?_, row_base (row_keep hown ts (fun g hg e => by have := (hlt g hg).1; omega)) (by omega), fun e => by have := (hlt R e).1; omega⟩, fun g hg => by have := (hlt g hg).1; omega, ?_⟩
  · exact row_set ((hb.block R hR).trans r5) 0 v
  · exact (t5.trans (Turns.of_below (S := fun _ => False) hb) (fun _ _ h => h.elim)).trans ts (fun _ _ h => h)
set_option maxHeartbeats 4000000 in
set_option maxRecDepth 100000 in
theorem racc_z (x : Bool) (w : World) (base R : Nat) (s : Value) (L : LL) (n k0 a0 was is kd a v y : Nat) (h : RefAt w base R s L n k0 a0 was is) (hbase : base ≤ w.heap.size) (ha : a < 4294967296) (hn : n < 4611686018427387904) (hyl : y < 18446744073709551616)
    (hx : byteB a = x) (hs : (x = false ∧ y = v) ∨ (x = true ∧ (v : Int) % 256 = (y : Int))) :
    Calls Tryz.prog 80 #[Pt R, .int .u8 kd, .int .u32 a, .int .u64 v] w fun e w' => e = .returned (.int .u64 (look L a : Nat)) ∧ RLeft w w' base R (putL L a y) (n + 1) kd a (look L a) y := by
  have hb := fun W => rbyte_any a ha W
  rw [hx] at hb
  have hp := rpeek_any w base R s L n k0 a0 was is a h
  have HB := Lib.hid hb; have HP := Lib.hid hp
  have c1 : w.cell? ⟨R, 1, none⟩ = some (.int .i64 n) := cell_row h.row 1
  have f1 : w.frozen? ⟨R, 1, none⟩ = false := froz_row h.row 1
  have f2 : w.frozen? ⟨R, 2, none⟩ = false := froz_row h.row 2
  have f3 : w.frozen? ⟨R, 3, none⟩ = false := froz_row h.row 3
  have f4 : w.frozen? ⟨R, 4, none⟩ = false := froz_row h.row 4
  have f5 : w.frozen? ⟨R, 5, none⟩ = false := froz_row h.row 5
  have d2 : w.cell? ⟨R, 2, none⟩ = some (.int .u8 k0) := cell_row h.row 2
  have d3 : w.cell? ⟨R, 3, none⟩ = some (.int .u32 a0) := cell_row h.row 3
  have d4 : w.cell? ⟨R, 4, none⟩ = some (.int .u64 was) := cell_row h.row 4
  have d5 : w.cell? ⟨R, 5, none⟩ = some (.int .u64 is) := cell_row h.row 5
  have hlt : R < w.heap.size := (Array.getElem?_eq_some_iff.1 h.row).1
  have hlen := h.good.length
  have t0 : ((y : Int) == 0) = decide (y = 0) := by
    by_cases e : y = 0
    · simp [e]
    · rw [decide_eq_false e, beq_eq_false_iff_ne]; omega
  have hend := accR_end (a := a) (y := y) h.good.1
  have HE := Lib.hid hend
  have t5 := ((((((Turns.refl (fun k => k = R) w).setCell ⟨R, 1, none⟩ (.int .i64 ((n : Int) + 1)) rfl).setCell ⟨R, 2, none⟩ (.int .u8 kd) rfl).setCell ⟨R, 3, none⟩ (.int .u32 a) rfl).setCell ⟨R, 4, none⟩ (.int .u64 (look L a : Nat)) rfl).setCell ⟨R, 5, none⟩ (.int .u64 y) rfl)
  have r5 : (((((w.setCell ⟨R, 1, none⟩ (.int .i64 ((n : Int) + 1))).setCell ⟨R, 2, none⟩ (.int .u8 kd)).setCell ⟨R, 3, none⟩ (.int .u32 a)).setCell ⟨R, 4, none⟩ (.int .u64 (look L a : Nat))).setCell ⟨R, 5, none⟩ (.int .u64 y)).heap[R]? = some (.cells #[s, .int .i64 ((n : Int) + 1), .int .u8 kd, .int .u32 a, .int .u64 (look L a : Nat), .int .u64 y] 152 (0, 0)) :=
    row_set (row_set (row_set (row_set (row_set h.row 1 (.int .i64 ((n : Int) + 1))) 2 (.int .u8 kd)) 3 (.int .u32 a)) 4 (.int .u64 (look L a : Nat))) 5 (.int .u64 y)
  have o5 := row_keep h.own t5 (fun g hg e => h.ne (by rw [hg, e]))
  have hs5 : (((((w.setCell ⟨R, 1, none⟩ (.int .i64 ((n : Int) + 1))).setCell ⟨R, 2, none⟩ (.int .u8 kd)).setCell ⟨R, 3, none⟩ (.int .u32 a)).setCell ⟨R, 4, none⟩ (.int .u64 (look L a : Nat))).setCell ⟨R, 5, none⟩ (.int .u64 y)).heap.size = w.heap.size := by simp [World.setCell]
  obtain ⟨p, cap, rfl, hpp⟩ := row_slice h.own
  have HPP := Lib.hid hpp
  have HNE := Lib.hid h.ne
  have HG := Lib.hid h.good
  clear hb hp hend hx h hpp
  generalize look L a = l at *
  generalize hb0 : decide (y = 0) = b0 at *
  have HB0 := Lib.hid hb0
  clear hb0
  rcases hs with ⟨rfl, rfl⟩ | ⟨rfl, hs'⟩
  all_goals
    go_enter Tryz.func80, Tryz.ntmps80
    go_wp2_with (first
      | (go_at_call 94; refine (HB.out _).mono ?_; rintro e w' ⟨rfl, rfl⟩)
      | (go_at_call 95; refine HP.out.mono ?_; rintro e w' ⟨rfl, rfl⟩))
    generalize (((((w.setCell ⟨R, 1, none⟩ (.int .i64 ((n : Int) + 1))).setCell ⟨R, 2, none⟩ (.int .u8 kd)).setCell ⟨R, 3, none⟩ (.int .u32 a)).setCell ⟨R, 4, none⟩ (.int .u64 l)).setCell ⟨R, 5, none⟩ (.int .u64 y)) = w1 at *
    have T5 := Lib.hid t5; have R5 := Lib.hid r5; have O5 := Lib.hid o5; have HS5 := Lib.hid hs5
    clear t5 r5 o5 hs5 t0 c1 f1 f2 f3 f4 f5 d2 d3 d4 d5
    obtain ⟨i0, hi, hz0, hz1, hz2⟩ := info_parts info31
    have hR1 : R < w1.heap.size := by rw [HS5.out]; exact hlt
    go_loopg [10, 11, 12] L.length (fun q s10 s11 s12 wx => ∃ k : Nat, k ≤ L.length ∧ q = L.length - k ∧ s12 = .int .i64 k ∧ s11 = .bool (accR a y b0 L k).2 ∧ wx.ownsRow w1.heap.size 77 2 s10 (accR a y b0 L k).1.length (flatW (accR a y b0 L k).1) ∧ Below w1.heap.size w1 wx)
    case atStart => exact ⟨0, by omega, rfl, rfl, rfl, World.ownsRow_nil _ _ _ _, Below.refl _ _⟩
    case round =>
      obtain ⟨k, hk, rfl, rfl, rfl, hown, hbx⟩ := hrel
      have hal := accR_len a y b0 L k hk
      have BX := Lib.hid hbx
      have hsz := hbx.size
      have e0 : wr.cell? ⟨R, 0, none⟩ = some (.slice p L.length cap) := cell_row ((hbx.block R hR1).trans R5.out) 0
      clear hbx
      by_cases hlt2 : k < L.length
      · obtain ⟨g, rfl⟩ := HPP.out (by omega)
        have hgl : g < w1.heap.size := (O5.out.lt g rfl).2
        obtain ⟨g1, g2⟩ := row_pair O5.out k hlt2
        have hac := accR_succ a y b0 hlt2
        have hx1 := (HG.out.2 (L[k]!) (by rw [getElem!_pos L k hlt2]; exact List.getElem_mem hlt2)).1
        generalize hac1 : accR a y b0 L (k + 1) = ac1 at *
        have HAC1 := Lib.hid hac1
        clear hac1
        generalize accR a y b0 L k = ac at *
        obtain ⟨out, put⟩ := ac
        generalize hq : L[k]! = q at *
        obtain ⟨x, z⟩ := q
        have HAC := Lib.hid hac; have G1 := Lib.hid g1; have G2 := Lib.hid g2; have HQ := Lib.hid hq
        clear hac g1 g2 hq
        simp only at hown hal hx1
        have k1 : ∀ W, Below w1.heap.size w1 W → W.cell? ⟨g, k * 2, none⟩ = some (.int .u32 x) := fun W hW => (hW.cell (by exact hgl)).trans G1.out
        have k2 : ∀ W, Below w1.heap.size w1 W → W.cell? ⟨g, k * 2 + 1, none⟩ = some (.int .u64 z) := fun W hW => (hW.cell (by exact hgl)).trans G2.out
        have k3 : ∀ W, Below w1.heap.size w1 W → W.cell? ⟨R, 0, none⟩ = some (.slice (some ⟨g, 0, none⟩) L.length cap) := fun W hW => cell_row ((hW.block R hR1).trans R5.out) 0
        have m1 := k1 wr BX.out
        have m2 := k2 wr BX.out
        have K1 := Lib.hid k1; have K2 := Lib.hid k2; have K3 := Lib.hid k3
        clear k1 k2 k3
        have hbwr := BX.out
        have Bwr := Lib.hid hbwr
        have hszwr := hsz
        have heq : accR a y b0 L (k + 1) = ac1 := HAC1.out
        have HEQ := Lib.hid heq
        clear hbwr heq
        by_cases hxa : x = a
        · subst hxa
          cases put
          · have t2 : decide ((x : Int) ≤ (x : Int)) = true := by simp
            have Owr := Lib.hid hown
            clear hown
            go_wp2_with (at_builtin; refine wpList_append_own _ rfl _ _ 78 rfl w1.heap.size 77 i0 (.agg #[.int .u32 0, .int .u64 0]) 2 16 Tryz.underlying78 hi hz0 hz1 hz2 rfl (by decide) _ _ _ rfl (Owr.out.alloc _) ⟨wr.heap.size, 0, none⟩ 1 1 [.int .u32 x, .int .u64 y] rfl rfl (pair_new _ _ _ _) (by intro j hj; simp at hj; rcases hj with rfl | rfl <;> rfl) ?q1c3 ?q1c4 ?q1c5 ?_)
            case q1c3 => unfold maxLen; (try simp); omega
            case q1c4 => (try simp); omega
            case q1c5 => (try simp); omega
            intro vwa wa hownwa hgrwa _
            have hbwa : Below w1.heap.size w1 wa := (Bwr.out.alloc hszwr _).grown hgrwa (by simp; omega) (fun j hj => (Owr.out.lt j hj).1)
            have hszwa := hbwa.size
            have n1wa := K1.out _ hbwa
            have n2wa := K2.out _ hbwa
            have n3wa := K3.out _ hbwa
            have Bwa := Lib.hid hbwa; have Owa := Lib.hid hownwa
            clear hbwa hownwa hgrwa
            have hst : ac1 = (out ++ [(x, y)], true) := by rw [HAC.out]; simp [stepR]
            subst hst
            have HRW := Lib.hid (show wa.ownsRow w1.heap.size 77 2 vwa (out ++ [(x, y)] : LL).length (flatW (out ++ [(x, y)])) by rw [flatW_snoc]; simpa [encW] using Owa.out)
            go_wp2_with fail
            go_roundg (L.length - (k + 1))
            case measure => omega
            case rel => exact ⟨k + 1, by omega, rfl, by go_num, by rw [HEQ.out], by rw [HEQ.out]; exact HRW.out, Bwa.out⟩
          · have Owr := Lib.hid hown
            clear hown
            have hst : ac1 = (out, true) := by rw [HAC.out]; simp [stepR]
            subst hst
            have HRW := Lib.hid (show wr.ownsRow w1.heap.size 77 2 u10 (out : LL).length (flatW (out)) by exact Owr.out)
            go_wp2_with fail
            go_roundg (L.length - (k + 1))
            case measure => omega
            case rel => exact ⟨k + 1, by omega, rfl, by go_num, by rw [HEQ.out], by rw [HEQ.out]; exact HRW.out, Bwr.out⟩
        · have t1 : ((x : Int) != (a : Int)) = true := by rw [bne_iff_ne]; omega
          have HXA := Lib.hid hxa
          cases put
          · have Owr := Lib.hid hown
            clear hown
            by_cases hax : a < x
            · have t2 : decide ((a : Int) ≤ (x : Int)) = true := by simp; omega
              clear hxa
              go_wp2_with (at_builtin; refine wpList_append_own _ rfl _ _ 78 rfl w1.heap.size 77 i0 (.agg #[.int .u32 0, .int .u64 0]) 2 16 Tryz.underlying78 hi hz0 hz1 hz2 rfl (by decide) _ _ _ rfl (Owr.out.alloc _) ⟨wr.heap.size, 0, none⟩ 1 1 [.int .u32 a, .int .u64 y] rfl rfl (pair_new _ _ _ _) (by intro j hj; simp at hj; rcases hj with rfl | rfl <;> rfl) ?q2c3 ?q2c4 ?q2c5 ?_)
              case q2c3 => unfold maxLen; (try simp); omega
              case q2c4 => (try simp); omega
              case q2c5 => (try simp); omega
              intro vwa wa hownwa hgrwa _
              have hbwa : Below w1.heap.size w1 wa := (Bwr.out.alloc hszwr _).grown hgrwa (by simp; omega) (fun j hj => (Owr.out.lt j hj).1)
              have hszwa := hbwa.size
              have n1wa := K1.out _ hbwa
              have n2wa := K2.out _ hbwa
              have n3wa := K3.out _ hbwa
              have Bwa := Lib.hid hbwa; have Owa := Lib.hid hownwa
              clear hbwa hownwa hgrwa
              go_wp2_with (at_builtin; refine wpList_append_own _ rfl _ _ 78 rfl w1.heap.size 77 i0 (.agg #[.int .u32 0, .int .u64 0]) 2 16 Tryz.underlying78 hi hz0 hz1 hz2 rfl (by decide) _ _ _ rfl (Owa.out.alloc _) ⟨wa.heap.size, 0, none⟩ 1 1 [.int .u32 x, .int .u64 z] rfl rfl (pair_new _ _ _ _) (by intro j hj; simp at hj; rcases hj with rfl | rfl <;> rfl) ?q3c3 ?q3c4 ?q3c5 ?_)
              case q3c3 => unfold maxLen; (try simp); omega
              case q3c4 => (try simp); omega
              case q3c5 => (try simp); omega
              intro vwb wb hownwb hgrwb _
              have hbwb : Below w1.heap.size w1 wb := (Bwa.out.alloc hszwa _).grown hgrwb (by simp; omega) (fun j hj => (Owa.out.lt j hj).1)
              have hszwb := hbwb.size
              have n1wb := K1.out _ hbwb
              have n2wb := K2.out _ hbwb
              have n3wb := K3.out _ hbwb
              have Bwb := Lib.hid hbwb; have Owb := Lib.hid hownwb
              clear hbwb hownwb hgrwb
              have hst : ac1 = (out ++ [(a, y)] ++ [(x, z)], true) := by rw [HAC.out]; simp [stepR, hax]
              subst hst
              have HRW := Lib.hid (show wb.ownsRow w1.heap.size 77 2 vwb (out ++ [(a, y)] ++ [(x, z)] : LL).length (flatW (out ++ [(a, y)] ++ [(x, z)])) by rw [flatW_snoc, flatW_snoc]; simpa [encW] using Owb.out)
              go_wp2_with fail
              go_roundg (L.length - (k + 1))
              case measure => omega
              case rel => exact ⟨k + 1, by omega, rfl, by go_num, by rw [HEQ.out], by rw [HEQ.out]; exact HRW.out, Bwb.out⟩
            · have t2 : (x : Int) < (a : Int) := by omega
              have hne : a ≠ x := fun e => HXA.out e.symm
              have HNE2 := Lib.hid hne; have HAX := Lib.hid hax
              clear hxa hne hax
              go_wp2_with (at_builtin; refine wpList_append_own _ rfl _ _ 78 rfl w1.heap.size 77 i0 (.agg #[.int .u32 0, .int .u64 0]) 2 16 Tryz.underlying78 hi hz0 hz1 hz2 rfl (by decide) _ _ _ rfl (Owr.out.alloc _) ⟨wr.heap.size, 0, none⟩ 1 1 [.int .u32 x, .int .u64 z] rfl rfl (pair_new _ _ _ _) (by intro j hj; simp at hj; rcases hj with rfl | rfl <;> rfl) ?q4c3 ?q4c4 ?q4c5 ?_)
              case q4c3 => unfold maxLen; (try simp); omega
              case q4c4 => (try simp); omega
              case q4c5 => (try simp); omega
              intro vwa wa hownwa hgrwa _
              have hbwa : Below w1.heap.size w1 wa := (Bwr.out.alloc hszwr _).grown hgrwa (by simp; omega) (fun j hj => (Owr.out.lt j hj).1)
              have hszwa := hbwa.size
              have n1wa := K1.out _ hbwa
              have n2wa := K2.out _ hbwa
              have n3wa := K3.out _ hbwa
              have Bwa := Lib.hid hbwa; have Owa := Lib.hid hownwa
              clear hbwa hownwa hgrwa
              have hst : ac1 = (out ++ [(x, z)], false) := by rw [HAC.out]; simp [stepR, HXA.out, HNE2.out, HAX.out]
              subst hst
              have HRW := Lib.hid (show wa.ownsRow w1.heap.size 77 2 vwa (out ++ [(x, z)] : LL).length (flatW (out ++ [(x, z)])) by rw [flatW_snoc]; simpa [encW] using Owa.out)
              go_wp2_with fail
              go_roundg (L.length - (k + 1))
              case measure => omega
              case rel => exact ⟨k + 1, by omega, rfl, by go_num, by rw [HEQ.out], by rw [HEQ.out]; exact HRW.out, Bwa.out⟩
          · have Owr := Lib.hid hown
            clear hown hxa
            go_wp2_with (at_builtin; refine wpList_append_own _ rfl _ _ 78 rfl w1.heap.size 77 i0 (.agg #[.int .u32 0, .int .u64 0]) 2 16 Tryz.underlying78 hi hz0 hz1 hz2 rfl (by decide) _ _ _ rfl (Owr.out.alloc _) ⟨wr.heap.size, 0, none⟩ 1 1 [.int .u32 x, .int .u64 z] rfl rfl (pair_new _ _ _ _) (by intro j hj; simp at hj; rcases hj with rfl | rfl <;> rfl) ?q5c3 ?q5c4 ?q5c5 ?_)
            case q5c3 => unfold maxLen; (try simp); omega
            case q5c4 => (try simp); omega
            case q5c5 => (try simp); omega
            intro vwa wa hownwa hgrwa _
            have hbwa : Below w1.heap.size w1 wa := (Bwr.out.alloc hszwr _).grown hgrwa (by simp; omega) (fun j hj => (Owr.out.lt j hj).1)
            have hszwa := hbwa.size
            have n1wa := K1.out _ hbwa
            have n2wa := K2.out _ hbwa
            have n3wa := K3.out _ hbwa
            have Bwa := Lib.hid hbwa; have Owa := Lib.hid hownwa
            clear hbwa hownwa hgrwa
            have hst : ac1 = (out ++ [(x, z)], true) := by rw [HAC.out]; simp [stepR, HXA.out]
            subst hst
            have HRW := Lib.hid (show wa.ownsRow w1.heap.size 77 2 vwa (out ++ [(x, z)] : LL).length (flatW (out ++ [(x, z)])) by rw [flatW_snoc]; simpa [encW] using Owa.out)
            go_wp2_with fail
            go_roundg (L.length - (k + 1))
            case measure => omega
            case rel => exact ⟨k + 1, by omega, rfl, by go_num, by rw [HEQ.out], by rw [HEQ.out]; exact HRW.out, Bwa.out⟩
      · obtain rfl : k = L.length := by omega
        have hgp : Good (putL L a y) := HG.out.put ha hyl
        have HGP := Lib.hid hgp
        clear hgp
        generalize accR a y b0 L L.length = ac at *
        obtain ⟨out, put⟩ := ac
        have e1 : wr.frozen? ⟨R, 0, none⟩ = false := froz_row ((BX.out.block R hR1).trans R5.out) 0
        have Owr := Lib.hid hown
        clear hown
        cases put
        · have hl2 : out ++ [(a, y)] = putL L a y := by rw [← HE.out]; simp [endR]
          have HL2 := Lib.hid hl2
          clear hl2
          have k3 : ∀ W, Below w1.heap.size w1 W → W.cell? ⟨R, 0, none⟩ = some (.slice p L.length cap) := fun W hW => cell_row ((hW.block R hR1).trans R5.out) 0
          have k4 : ∀ W, Below w1.heap.size w1 W → W.frozen? ⟨R, 0, none⟩ = false := fun W hW => froz_row ((hW.block R hR1).trans R5.out) 0
          have K3 := Lib.hid k3; have K4 := Lib.hid k4
          clear k3 k4
          go_wp2_with (at_builtin; refine wpList_append_own _ rfl _ _ 78 rfl w1.heap.size 77 i0 (.agg #[.int .u32 0, .int .u64 0]) 2 16 Tryz.underlying78 hi hz0 hz1 hz2 rfl (by decide) _ _ _ rfl (Owr.out.alloc _) ⟨wr.heap.size, 0, none⟩ 1 1 [.int .u32 a, .int .u64 y] rfl rfl (pair_new _ _ _ _) (by intro j hj; simp at hj; rcases hj with rfl | rfl <;> rfl) ?z3 ?z4 ?z5 ?_)
          case z3 => unfold maxLen; (try simp); omega
          case z4 => (try simp); omega
          case z5 => (try simp); omega
          intro vwa wa hownwa hgrwa _
          have hbwa : Below w1.heap.size w1 wa := (BX.out.alloc hsz _).grown hgrwa (by simp; omega) (fun j hj => (Owr.out.lt j hj).1)
          have n3 := K3.out _ hbwa
          have n4 := K4.out _ hbwa
          have Bwa := Lib.hid hbwa; have Owa := Lib.hid hownwa
          clear hbwa hownwa hgrwa
          have HRW := Lib.hid (show wa.ownsRow w1.heap.size 77 2 vwa (putL L a y).length (flatW (putL L a y)) by rw [← HL2.out, flatW_snoc]; simpa [encW] using Owa.out)
          obtain ⟨p2, cap2, rfl, _⟩ := row_slice HRW.out
          go_wp2_with fail
          go_ret
          exact ⟨rfl, racc_fin T5.out HS5.out R5.out hR1 HGP.out Bwa.out HRW.out hbase⟩
        · have hl2 : out = putL L a y := by rw [← HE.out]; simp [endR]
          have HL2 := Lib.hid hl2
          clear hl2
          have HRW := Lib.hid (show wr.ownsRow w1.heap.size 77 2 u10 (putL L a y).length (flatW (putL L a y)) by rw [← HL2.out]; exact Owr.out)
          obtain ⟨p2, cap2, rfl, _⟩ := row_slice HRW.out
          go_wp2_with fail
          go_ret
          exact ⟨rfl, racc_fin T5.out HS5.out R5.out hR1 HGP.out BX.out HRW.out hbase⟩
theorem racc_any (w : World) (base R : Nat) (s : Value) (L : LL) (n k0 a0 was is kd a v : Nat) (h : RefAt w base R s L n k0 a0 was is) (hbase : base ≤ w.heap.size) (ha : a < 4294967296) (hn : n < 4611686018427387904) (hv : v < 18446744073709551616) :
    Calls Tryz.prog 80 #[Pt R, .int .u8 kd, .int .u32 a, .int .u64 v] w fun e w' => e = .returned (.int .u64 (look L a : Nat)) ∧ RLeft w w' base R (putL L a (bring a v)) (n + 1) kd a (look L a) (bring a v) := by
  refine racc_z (byteB a) w base R s L n k0 a0 was is kd a v (bring a v) h hbase ha hn (bring_lt hv) rfl ?_
  unfold bring
  by_cases hb : byteB a = true
  · right
    rw [if_pos hb]
    exact ⟨hb, by simp⟩
  · left
    rw [if_neg hb]
    exact ⟨by simpa using hb, rfl⟩
end Go.Proofs.YthafnphpcdbnlaaGreatDoor.S2
set_option linter.unusedVariables false
set_option linter.unusedSimpArgs false
namespace Go.Proofs.YthafnphpcdbnlaaGreatDoor.S2
open Go.Proofs.YthafnphpcdbnlaaGreatDoor
def cpl (d : Nat) : Nat := 18446744073709551615 - d
def negN (d : Nat) : Nat := (18446744073709551616 - d) % 18446744073709551616
theorem wrap_neg (d : Nat) (hd : d < 18446744073709551616) : IntKind.u64.wrap (-(d : Int)) = (negN d : Nat) := by
  unfold negN
  simp [IntKind.wrap, IntKind.bits, IntKind.signed]
  omega
theorem wrap_one (z : Nat) : IntKind.u64.wrap ((z : Int) + 1) = ((z + 1) % 18446744073709551616 : Nat) := by
  simp [IntKind.wrap, IntKind.bits, IntKind.signed]
theorem bv_not (d : Nat) (hd : d < 18446744073709551616) : (~~~(BitVec.ofNat 64 d)).toNat = cpl d := by
  rw [BitVec.toNat_not, BitVec.toNat_ofNat, Nat.mod_eq_of_lt hd]
  rfl
theorem andNot_nat (z d : Nat) (hz : z < 18446744073709551616) (hd : d < 18446744073709551616) : bits .andNot .u64 (z : Int) (d : Int) = ((z &&& cpl d : Nat) : Int) := by
  have e1 : bits .andNot .u64 (z : Int) (d : Int) = IntKind.u64.wrap ((BitVec.ofInt 64 (z : Int) &&& ~~~(BitVec.ofInt 64 (d : Int))).toNat : Int) := rfl
  rw [e1, IntKind.wrap_u64, BitVec.ofInt_natCast, BitVec.ofInt_natCast, BitVec.toNat_and, bv_not d hd, BitVec.toNat_ofNat, Nat.mod_eq_of_lt hz]
  have := Nat.and_le_left (n := z) (m := cpl d)
  omega
theorem cpl_lt (d : Nat) : cpl d < 18446744073709551616 := by unfold cpl; omega
theorem test_cpl (d i : Nat) (hd : d < 18446744073709551616) : (cpl d).testBit i = (decide (i < 64) && !d.testBit i) := by
  have h := Nat.testBit_two_pow_sub_succ (x := d) (n := 64) hd i
  rw [← h]
  congr 1
  unfold cpl
  simp only [Nat.reducePow]
  omega
theorem xor_cpl (d : Nat) (hd : d < 18446744073709551616) : 18446744073709551615 ^^^ d = cpl d := by
  apply Nat.eq_of_testBit_eq
  intro i
  rw [Nat.testBit_xor, test_cpl d i hd, show (18446744073709551615 : Nat) = 2 ^ 64 - 1 from rfl, Nat.testBit_two_pow_sub_one]
  by_cases h : i < 64
  · simp [h]
  · have : d.testBit i = false := Nat.testBit_lt_two_pow (Nat.lt_of_lt_of_le hd (Nat.pow_le_pow_right (n := 2) (by omega) (by omega : 64 ≤ i)))
    simp [h, this]
theorem bits_not (d : Nat) (hd : d < 18446744073709551616) : bits .xor .u64 IntKind.u64.max (d : Int) = ((cpl d : Nat) : Int) := by
  rw [show IntKind.u64.max = ((18446744073709551615 : Nat) : Int) from rfl]
  rw [← xor_cpl d hd]
  exact bits_xor_u64_nat 18446744073709551615 d (by omega) hd
theorem and_back (z d : Nat) (hd : d < 18446744073709551616) : (z ||| d) &&& cpl d = z &&& cpl d := by
  apply Nat.eq_of_testBit_eq
  intro i
  rw [Nat.testBit_and, Nat.testBit_and, Nat.testBit_or, test_cpl d i hd]
  cases z.testBit i <;> cases d.testBit i <;> simp
theorem and_back8 (z d : Nat) (hz : z < 256) (hd : d < 18446744073709551616) : ((z ||| d) % 256 &&& cpl d) % 256 = z &&& cpl d := by
  apply Nat.eq_of_testBit_eq
  intro i
  rw [show (256 : Nat) = 2 ^ 8 from rfl, Nat.testBit_mod_two_pow, Nat.testBit_and, Nat.testBit_mod_two_pow, Nat.testBit_and, Nat.testBit_or, test_cpl d i hd]
  by_cases h : i < 8
  · have : i < 64 := by omega
    cases z.testBit i <;> cases d.testBit i <;> simp [h, this]
  · have : z.testBit i = false := Nat.testBit_lt_two_pow (Nat.lt_of_lt_of_le hz (Nat.pow_le_pow_right (n := 2) (by omega) (by omega : 8 ≤ i)))
    simp [h, this]
theorem bring_bring (a v : Nat) : bring a (bring a v) = bring a v := by unfold bring; split <;> omega
theorem bring_back (a v d : Nat) (hd : d < 18446744073709551616) : bring a (bring a (bring a v ||| d) &&& cpl d) = bring a v &&& cpl d := by
  unfold bring
  split
  · exact and_back8 _ d (by omega) hd
  · exact and_back v d hd
theorem bring_neg (a v d : Nat) (hv : v < 18446744073709551616) (_hd : d < 18446744073709551616) : bring a ((bring a ((bring a v + d) % 18446744073709551616) + negN d) % 18446744073709551616) = bring a v := by
  unfold bring negN
  split <;> omega
end Go.Proofs.YthafnphpcdbnlaaGreatDoor.S2
