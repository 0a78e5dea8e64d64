/- The document's Chosen; a row's choices as ints. -/
import Derived.Test.YtemdaafnmjenmaaB1
namespace Go.Proofs.Ytemdaafnmjenmaa
open Go.RowKit

/-- How far a filter is: has it stopped, by which tokens was it asked. -/
structure Ch where
  stopped : Bool
  asked : List Int
/-- An entry chosen, by what is answered the first time, the second time .. (0: take, 1: skip, others: stop). -/
def fch (key : Int) (ch : Nat → Nat) (s : Ch) (e : Ent) : Bool × Ch :=
  if e.k ≠ key ∨ s.stopped = true then (false, s) else (decide (ch s.asked.length = 0), ⟨decide (ch s.asked.length ≠ 0 ∧ ch s.asked.length ≠ 1), s.asked ++ [e.z]⟩)
/-- What a row of choices answers; behind them: stop. -/
def chl (cl : List Nat) (i : Nat) : Nat := if i < cl.length then cl[i]! else 2
def iv (c : Nat) : Value := .int .i64 (c : Int)
theorem asked_le (key : Int) (ch : Nat → Nat) (st : Ch) (D : List Ent) : (part (fch key ch) st D).2.2.asked.length ≤ st.asked.length + D.length := by
  have H : ∀ (F : List Ent) (x : List Ent × List Ent × Ch), (F.foldl (step (fch key ch)) x).2.2.asked.length ≤ x.2.2.asked.length + F.length := by
    intro F
    induction F with
    | nil => intro x; exact Nat.le_refl _
    | cons e r ih =>
      intro x
      rw [List.foldl_cons]
      refine Nat.le_trans (ih _) ?_
      have : (step (fch key ch) x e).2.2.asked.length ≤ x.2.2.asked.length + 1 := by
        unfold step fch
        by_cases c : e.k ≠ key ∨ x.2.2.stopped = true
        · rw [if_pos c]; simp
        · rw [if_neg c]; simp only [List.length_append, List.length_singleton]; split <;> simp
      simp only [List.length_cons]
      omega
  exact H D ([], [], st)
theorem rd_iv {w : World} {b : Nat} {A : Option Addr} {cl : List Nat} (h : Rd w b A (cl.map iv)) {i : Nat} (hi : i < cl.length) : ∃ g o, A = some ⟨g, o, none⟩ ∧ g < b ∧ w.cell? ⟨g, o + i, none⟩ = some (.int .i64 (cl[i]! : Nat)) := by
  obtain ⟨g, o, e, hg, hl⟩ := h (by simp; omega)
  refine ⟨g, o, e, hg, hl i _ ?_⟩
  rw [List.getElem?_map, List.getElem?_eq_getElem hi, getElem!_pos cl i hi]; rfl
set_option maxHeartbeats 4000000 in
theorem rchosen_any {w : World} {b1 b2 : Nat} {A C : Option Addr} {D : List Ent} {cl : List Nat} (c c' : Nat) (key : Int) (hr : Rd w b1 A (flat D)) (hb1 : b1 ≤ w.heap.size) (hlen : D.length ≤ 1000) (hrc : Rd w b2 C (cl.map iv)) (hb2 : b2 ≤ w.heap.size) (hcl : cl.length ≤ 1000000) :
    Calls Try.prog 24 #[.slice A D.length c, .int .u32 key, .slice C cl.length c'] w fun e w' => ∃ s1 s2, e = .returned (.tuple #[s1, s2]) ∧ Two w' w.heap.size s1 s2 (part (fch key (chl cl)) ⟨false, []⟩ D).1 (part (fch key (chl cl)) ⟨false, []⟩ D).2.1 ∧ Below w.heap.size w w' := by
  have HR := Lib.hid hr; have HBS := Lib.hid hb1; have HRC := Lib.hid hrc; have HBC := Lib.hid hb2
  clear hr hb1 hrc hb2
  obtain ⟨n, hn⟩ : ∃ n, n = D.length := ⟨_, rfl⟩
  rw [← hn]
  have HN := Lib.hid hn
  have hn6 : n ≤ 1000 := by omega
  clear hn hlen
  go_enter Try.func24, Try.ntmps24
  go_wp2_with fail
  go_loopg [8, 9, 10, 11, 12] n (fun q s8 s9 s10 s11 s12 wx => ∃ (k : Nat) (st : Ch), k ≤ n ∧ q = n - k ∧ s12 = .int .i64 (k : Int) ∧ (s10 = .int .i64 (st.asked.length : Int) ∧ s11 = .bool st.stopped) ∧ Below w.heap.size w wx ∧ (part (fch key (chl cl)) ⟨false, []⟩ (D.take k)).2.2 = st ∧ Two wx w.heap.size s8 s9 (part (fch key (chl cl)) ⟨false, []⟩ (D.take k)).1 (part (fch key (chl cl)) ⟨false, []⟩ (D.take k)).2.1)
  case atStart => exact ⟨0, ⟨false, []⟩, by omega, rfl, rfl, ⟨rfl, rfl⟩, Below.refl _ _, rfl, two_nil _ _⟩
  case round =>
    obtain ⟨k, st, hk, rfl, rfl, ⟨rfl, rfl⟩, hb, hst, htw⟩ := hrel
    have HB := Lib.hid hb; have HTW := Lib.hid htw
    clear hb htw
    by_cases hkn : k < n
    · obtain ⟨lb', lo, rfl, hlb, c0, c1, c2⟩ := (HR.out.below HB.out HBS.out).ent (i := k) (by have := HN.out; omega)
      have hsn := part_snoc (f := fch key (chl cl)) (st := ⟨false, []⟩) (D := D) (k := k) (by have := HN.out; omega)
      have hle := part_len (fch key (chl cl)) ⟨false, []⟩ (D.take k)
      have hal := asked_le key (chl cl) ⟨false, []⟩ (D.take k)
      rw [List.length_take] at hle hal
      obtain ⟨y, hy⟩ : ∃ y, y = part (fch key (chl cl)) ⟨false, []⟩ (D.take (k + 1)) := ⟨_, rfl⟩
      rw [← hy] at hsn
      have HY := Lib.hid hy
      clear hy
      generalize part (fch key (chl cl)) ⟨false, []⟩ (D.take k) = x at *
      obtain ⟨T, L, stop, asked⟩ := x
      subst hst
      generalize hd : D[k]! = d at *
      clear hd
      dsimp only at hle hal HTW
      unfold step fch at hsn
      dsimp only at hsn
      have hlT : T.length ≤ 1000 := by have := Nat.min_le_left k D.length; omega
      have hlL : L.length ≤ 1000 := by have := Nat.min_le_left k D.length; omega
      have hla : asked.length ≤ 1000 := by have := Nat.min_le_left k D.length; simp at hal; omega
      obtain ⟨A1, cap1, rfl, _, _⟩ := HTW.out.r1.shape
      obtain ⟨A2, cap2, rfl, _, _⟩ := HTW.out.r2.shape
      have hs : w.heap.size ≤ wr.heap.size := HB.out.size
      clear hal
      by_cases hq : d.k = key
      · subst hq
        cases stop with
        | true =>
          rw [if_pos (show d.k ≠ d.k ∨ true = true from .inr rfl)] at hsn
          simp only [Bool.false_eq_true, if_false] at hsn
          have HSN := Lib.hid hsn
          clear hsn hle
          go_wp2_with (at_builtin; refine wpList_append_row lay39 rfl _ _ rfl rfl (HTW.out.r2.alloc _) (flat_one' _) (by simp; omega) 1 rfl (rd_one wr d 39) rfl (flat_one' _) (by omega) ?_; intro v' w2 hr2 ht2 ho2; (have HR2 := Lib.hid hr2); (have HT2 := Lib.hid ht2); (have HO2 := Lib.hid ho2); (clear hr2 ht2 ho2))
          go_roundg (n - (k + 1))
          case measure => omega
          case rel => exact ⟨k + 1, ⟨true, asked⟩, by omega, rfl, by go_num, ⟨rfl, rfl⟩, HB.out.trans (((below1 wr _).mono hs).trans ((HTW.out.r2.alloc _).below_of HT2.out (by simp; omega))), by rw [← HY.out, HSN.out], by rw [← HY.out, HSN.out]; exact (HTW.out.alloc _).right HR2.out HT2.out HO2.out⟩
        | false =>
          rw [if_neg (show ¬ (d.k ≠ d.k ∨ false = true) by simp)] at hsn
          by_cases hin : asked.length < cl.length
          · obtain ⟨gc, oc, rfl, hgc, cc⟩ := rd_iv (HRC.out.below HB.out HBC.out) hin
            unfold chl at hsn
            rw [if_pos hin] at hsn
            generalize cl[asked.length]! = x at *
            by_cases hx0 : x = 0
            · subst hx0
              simp only [decide_true, if_true, ne_eq, not_true_eq_false, false_and, decide_false] at hsn
              have HSN := Lib.hid hsn
              clear hsn hle
              go_wp2_with (at_builtin; refine wpList_append_row lay39 rfl _ _ rfl rfl (HTW.out.r1.alloc _) (flat_one' _) (by simp; omega) 1 rfl (rd_one wr d 39) rfl (flat_one' _) (by omega) ?_; intro v' w2 hr2 ht2 ho2; (have HR2 := Lib.hid hr2); (have HT2 := Lib.hid ht2); (have HO2 := Lib.hid ho2); (clear hr2 ht2 ho2))
              go_roundg (n - (k + 1))
              case measure => omega
              case rel => exact ⟨k + 1, ⟨false, asked ++ [d.z]⟩, by omega, rfl, by go_num, ⟨by simp, rfl⟩, HB.out.trans (((below1 wr _).mono hs).trans ((HTW.out.r1.alloc _).below_of HT2.out (by simp; omega))), by rw [← HY.out, HSN.out], by rw [← HY.out, HSN.out]; exact (HTW.out.alloc _).left HR2.out HT2.out HO2.out⟩
            · by_cases hx1 : x = 1
              · subst hx1
                simp only [Nat.succ_ne_self, decide_false, Bool.false_eq_true, if_false, ne_eq, not_true_eq_false, and_false] at hsn
                have HSN := Lib.hid hsn
                clear hsn hle
                go_wp2_with (at_builtin; refine wpList_append_row lay39 rfl _ _ rfl rfl (HTW.out.r2.alloc _) (flat_one' _) (by simp; omega) 1 rfl (rd_one wr d 39) rfl (flat_one' _) (by omega) ?_; intro v' w2 hr2 ht2 ho2; (have HR2 := Lib.hid hr2); (have HT2 := Lib.hid ht2); (have HO2 := Lib.hid ho2); (clear hr2 ht2 ho2))
                go_roundg (n - (k + 1))
                case measure => omega
                case rel => exact ⟨k + 1, ⟨false, asked ++ [d.z]⟩, by omega, rfl, by go_num, ⟨by simp, rfl⟩, HB.out.trans (((below1 wr _).mono hs).trans ((HTW.out.r2.alloc _).below_of HT2.out (by simp; omega))), by rw [← HY.out, HSN.out], by rw [← HY.out, HSN.out]; exact (HTW.out.alloc _).right HR2.out HT2.out HO2.out⟩
              · have hd2 : decide (x ≠ 0 ∧ x ≠ 1) = true := by simp [hx0, hx1]
                rw [hd2, decide_eq_false hx0] at hsn
                simp only [Bool.false_eq_true, if_false] at hsn
                have hxi0 : ((x : Int) == 0) = false := by rw [beq_eq_false_iff_ne]; omega
                have hxi1 : ((x : Int) == 1) = false := by rw [beq_eq_false_iff_ne]; omega
                clear hx0 hx1 hd2
                have HSN := Lib.hid hsn
                clear hsn hle
                go_wp2_with (at_builtin; refine wpList_append_row lay39 rfl _ _ rfl rfl (HTW.out.r2.alloc _) (flat_one' _) (by simp; omega) 1 rfl (rd_one wr d 39) rfl (flat_one' _) (by omega) ?_; intro v' w2 hr2 ht2 ho2; (have HR2 := Lib.hid hr2); (have HT2 := Lib.hid ht2); (have HO2 := Lib.hid ho2); (clear hr2 ht2 ho2))
                go_roundg (n - (k + 1))
                case measure => omega
                case rel => exact ⟨k + 1, ⟨true, asked ++ [d.z]⟩, by omega, rfl, by go_num, ⟨by simp, by rw [show ((x : Int) != 1) = true by simp [bne, hxi1]]⟩, HB.out.trans (((below1 wr _).mono hs).trans ((HTW.out.r2.alloc _).below_of HT2.out (by simp; omega))), by rw [← HY.out, HSN.out], by rw [← HY.out, HSN.out]; exact (HTW.out.alloc _).right HR2.out HT2.out HO2.out⟩
          · unfold chl at hsn
            rw [if_neg hin] at hsn
            rw [show decide ((2 : Nat) = 0) = false from rfl, show decide ((2 : Nat) ≠ 0 ∧ (2 : Nat) ≠ 1) = true from rfl] at hsn
            simp only [Bool.false_eq_true, if_false] at hsn
            have HSN := Lib.hid hsn
            clear hsn hle
            go_wp2_with (at_builtin; refine wpList_append_row lay39 rfl _ _ rfl rfl (HTW.out.r2.alloc _) (flat_one' _) (by simp; omega) 1 rfl (rd_one wr d 39) rfl (flat_one' _) (by omega) ?_; intro v' w2 hr2 ht2 ho2; (have HR2 := Lib.hid hr2); (have HT2 := Lib.hid ht2); (have HO2 := Lib.hid ho2); (clear hr2 ht2 ho2))
            go_roundg (n - (k + 1))
            case measure => omega
            case rel => exact ⟨k + 1, ⟨true, asked ++ [d.z]⟩, by omega, rfl, by go_num, ⟨by simp, rfl⟩, HB.out.trans (((below1 wr _).mono hs).trans ((HTW.out.r2.alloc _).below_of HT2.out (by simp; omega))), by rw [← HY.out, HSN.out], by rw [← HY.out, HSN.out]; exact (HTW.out.alloc _).right HR2.out HT2.out HO2.out⟩
      · rw [if_pos (show d.k ≠ key ∨ stop = true from .inl hq)] at hsn
        simp only [Bool.false_eq_true, if_false] at hsn
        have HSN := Lib.hid hsn
        clear hsn hle
        go_wp2_with (at_builtin; refine wpList_append_row lay39 rfl _ _ rfl rfl (HTW.out.r2.alloc _) (flat_one' _) (by simp; omega) 1 rfl (rd_one wr d 39) rfl (flat_one' _) (by omega) ?_; intro v' w2 hr2 ht2 ho2; (have HR2 := Lib.hid hr2); (have HT2 := Lib.hid ht2); (have HO2 := Lib.hid ho2); (clear hr2 ht2 ho2))
        go_roundg (n - (k + 1))
        case measure => omega
        case rel => exact ⟨k + 1, ⟨stop, asked⟩, by omega, rfl, by go_num, ⟨rfl, rfl⟩, HB.out.trans (((below1 wr _).mono hs).trans ((HTW.out.r2.alloc _).below_of HT2.out (by simp; omega))), by rw [← HY.out, HSN.out], by rw [← HY.out, HSN.out]; exact (HTW.out.alloc _).right HR2.out HT2.out HO2.out⟩
    · obtain rfl : k = n := by omega
      clear hst
      go_wp2_with fail
      go_ret2
      have := HTW.out
      rw [HN.out, List.take_length] at this
      exact ⟨_, _, rfl, this, HB.out⟩
end Go.Proofs.Ytemdaafnmjenmaa
