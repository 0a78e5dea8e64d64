/- queues. -/
import Derived.Test.YtcdoklgjicfkmaaG1
namespace Go.Proofs.Ytcdoklgjicfkmaa
open Go.RowKit

/-- Queues that are built one by one: the list's own memory is none of theirs. -/
structure Tq (w : World) (base : Nat) (s : Value) (ss : List Value) (Ls : List (List Ent)) : Prop where
  row : Row w base 1 s Ls.length ss
  qs : ∀ i, i < Ls.length → ∃ v, ss[i]? = some v ∧ RowE w base v Ls[i]!
  off : ∀ (i : Nat) (v : Value) (g : Nat), ss[i]? = some v → v.ownBlock = some g → s.ownBlock ≠ some g
theorem Tq.len {w : World} {base : Nat} {s : Value} {ss : List Value} {Ls : List (List Ent)} (h : Tq w base s ss Ls) : ss.length = Ls.length := by
  have := h.row.len
  omega
theorem Tq.at {w : World} {base : Nat} {s : Value} {ss : List Value} {Ls : List (List Ent)} (h : Tq w base s ss Ls) {i : Nat} {v : Value} (hv : ss[i]? = some v) : RowE w base v Ls[i]! := by
  have hi : i < Ls.length := by rw [← h.len]; exact (List.getElem?_eq_some_iff.1 hv).1
  obtain ⟨u, hu, hr⟩ := h.qs i hi
  rw [hv] at hu
  cases hu
  exact hr
theorem tq_nil (w : World) (base : Nat) : Tq w base (.slice none 0 0) [] [] := ⟨row_nil _ _ _, fun i hi => by simp at hi, fun i v g e => by simp at e⟩
theorem Tq.keep {S : Nat → Prop} {w w' : World} {base : Nat} {s : Value} {ss : List Value} {Ls : List (List Ent)} (h : Tq w base s ss Ls) (t : Turns S w w') (hs : ∀ g, base ≤ g → g < w.heap.size → ¬ S g) : Tq w' base s ss Ls :=
  ⟨h.row.keep t (fun g e => hs g (h.row.lt g e).1 (h.row.lt g e).2), fun i hi => by
    obtain ⟨v, hv, hr⟩ := h.qs i hi
    exact ⟨v, hv, hr.keep t (fun g e => hs g (hr.lt g e).1 (hr.lt g e).2)⟩, h.off⟩
theorem Tq.new {w w' : World} {base : Nat} {s : Value} {ss : List Value} {Ls : List (List Ent)} (h : Tq w base s ss Ls) (hb : Below w.heap.size w w') : Tq w' base s ss Ls :=
  h.keep (Turns.of_below (S := fun _ => False) hb) (fun _ _ _ e => e)
theorem Tq.push {w w1 w2 : World} {base : Nat} {s s' v : Value} {ss : List Value} {Ls : List (List Ent)} {D : List Ent} (h : Tq w base s ss Ls) (hbase : base ≤ w.heap.size) (hb : Below w.heap.size w w1) (hv : RowE w1 w.heap.size v D)
    (hr : Row w2 base 1 s' (Ls.length + 1) (ss ++ [v])) (ht : Turns (fun k => s.ownBlock = some k) w1 w2) (hs : s'.ownBlock = s.ownBlock ∨ s'.ownBlock = some w1.heap.size) : Tq w2 base s' (ss ++ [v]) (Ls ++ [D]) := by
  have h1 := h.new hb
  have hlen := h.len
  have hso : ∀ g, s.ownBlock = some g → g < w.heap.size := fun g e => (h.row.lt g e).2
  have hvs : ∀ g, v.ownBlock = some g → s.ownBlock ≠ some g := fun g e e' => by have := (hv.lt g e).1; have := hso g e'; omega
  refine ⟨by rw [List.length_append]; exact hr, fun i hi => ?_, fun i u g hu e => ?_⟩
  · rw [List.length_append, List.length_singleton] at hi
    by_cases h' : i < Ls.length
    · obtain ⟨u, hu, hru⟩ := h1.qs i h'
      refine ⟨u, by rw [List.getElem?_append_left (by omega)]; exact hu, ?_⟩
      rw [get_app_ne h']
      exact hru.keep ht (fun g e => h.off i u g hu e)
    · obtain rfl : i = Ls.length := by omega
      refine ⟨v, by rw [← hlen]; simp, ?_⟩
      rw [get_app_last]
      exact (hv.keep ht hvs).base hbase
  · have hcase : (i < Ls.length ∧ ss[i]? = some u) ∨ u = v := by
      by_cases h' : i < Ls.length
      · rw [List.getElem?_append_left (by omega)] at hu
        exact .inl ⟨h', hu⟩
      · rw [List.getElem?_append_right (by omega)] at hu
        have := List.mem_of_getElem? hu
        exact .inr (by simpa using this)
    have hg : g < w1.heap.size ∧ s.ownBlock ≠ some g := by
      rcases hcase with ⟨h', hu'⟩ | rfl
      · exact ⟨((h1.at hu').lt g e).2, h.off i u g hu' e⟩
      · exact ⟨(hv.lt g e).2, hvs g e⟩
    rcases hs with hs | hs
    · rw [hs]; exact hg.2
    · rw [hs]; intro e2; simp at e2; omega
/-- .. as they are read. -/
theorem Tq.rd {w : World} {base m c : Nat} {A : Option Addr} {ss : List Value} {Ls : List (List Ent)} (h : Tq w base (.slice A m c) ss Ls) : m = Ls.length ∧ Qs w w.heap.size A Ls := by
  have hlen := h.len
  have hm : m = Ls.length := by obtain ⟨A', cap', e, _⟩ := h.row; cases e; rfl
  subst hm
  refine ⟨rfl, ss, hlen, h.row.rd, fun i hi => ?_⟩
  obtain ⟨v, hv, hr⟩ := h.qs i hi
  obtain ⟨A', c', rfl, h1, h2⟩ := hr.shape
  exact ⟨A', c', hv, h1, h2, hr.rd⟩
theorem Tq.one {w : World} {base : Nat} {s : Value} {ss : List Value} {Ls : List (List Ent)} (h : Tq w base s ss Ls) : ∀ u ∈ ss, u.oneCell' = true := fun u hu => by
  obtain ⟨i, hi, rfl⟩ := List.getElem_of_mem hu
  obtain ⟨A, c, e, _⟩ := (h.at (List.getElem?_eq_getElem hi)).shape
  rw [e]; rfl
set_option maxHeartbeats 2000000 in
theorem queues_any {w : World} {s : Value} {F : Int → Value} {M : Int → List Bk} (hrs : Rs w s F M) {b : Int} (hb : InI b) {n : Nat} (hsize : ∀ w, Calls Try.prog 23 #[.int .i64 b] w fun e w' => e = .returned (.int .i64 (n : Nat)) ∧ w = w') (hl : (M b).length = n) (hn : n ≤ 256) (hq : ∀ i, i < n → (M b)[i]!.q.length ≤ 100000) :
    Calls Try.prog 22 #[s, .int .i64 b] w fun e w' => ∃ s' ss, e = .returned s' ∧ Tq w' w.heap.size s' ss ((M b).map Bk.q) ∧ Below w.heap.size w w' := by
  have HRS := Lib.hid hrs; have HS := Lib.hid hsize; have HL := Lib.hid hl; have HQ := Lib.hid hq
  clear hrs hsize hl hq
  go_enter Try.func22, Try.ntmps22
  go_wp2_with fail
  go_loopg [5, 6] n (fun q s5 s6 wx => ∃ (k : Nat) (ss : List Value), k ≤ n ∧ q = n - k ∧ s6 = .int .i64 (k : Int) ∧ Tq wx w.heap.size s5 ss (((M b).map Bk.q).take k) ∧ Below w.heap.size w wx)
  case atStart => exact ⟨0, [], by omega, rfl, rfl, tq_nil _ _, Below.refl _ _⟩
  case round =>
    obtain ⟨k, ss, hk, rfl, rfl, ht, hb⟩ := hrel
    have HT := Lib.hid ht; have HB := Lib.hid hb
    clear ht hb
    by_cases hkn : k < n
    · have hkl : k < (M b).length := by rw [HL.out]; exact hkn
      have hqk := queue_yes (HRS.out.below HB.out) hb hkl (by have := HQ.out k hkn; omega)
      have hsn : ((M b).map Bk.q).take (k + 1) = ((M b).map Bk.q).take k ++ [(M b)[k]!.q] := by
        rw [take_snocL (by rw [List.length_map]; exact hkl), map_at _ hkl]
      have htl : (((M b).map Bk.q).take k).length = k := by rw [List.length_take, List.length_map]; omega
      obtain ⟨D, hD⟩ : ∃ D, D = (M b)[k]!.q := ⟨_, rfl⟩
      rw [← hD] at hqk hsn
      obtain ⟨nd, hnd⟩ : ∃ nd, nd = D.length := ⟨_, rfl⟩
      have HND := Lib.hid hnd
      rw [← hnd] at hqk
      have HQK := Lib.hid hqk; have HSN := Lib.hid hsn; have HTL := Lib.hid htl
      clear hkl hqk hsn htl hD hnd
      go_wp2_with (go_at_call 23; refine (HS.out _).mono ?_; rintro e w' ⟨rfl, rfl⟩)
      refine HQK.out.mono ?_
      rintro e w1 ⟨A1, rfl, hr1, hb1⟩
      have HR1 := Lib.hid hr1; have HB1 := Lib.hid hb1
      have HTB : Hid (Tq w1 w.heap.size u5 ss (((M b).map Bk.q).take k)) := Lib.hid (HT.out.new hb1)
      clear hr1 hb1
      go_wp2_with (at_builtin; refine wpList_append_row layQ rfl _ _ rfl rfl (HTB.out.row.alloc _) HT.out.one (by have := HB.out.size; have := HB1.out.size; simp; omega) 1 rfl (rd_one1 w1 (.slice A1 nd nd) 31) rfl (fun u hu => by simp at hu; rw [hu]; rfl) (by have := HTL.out; omega) ?_; intro v2 w2 hr2 ht2 ho2; (have HR2 := Lib.hid hr2); (have HT2 := Lib.hid ht2); (have HO2 := Lib.hid ho2); (clear hr2 ht2 ho2))
      go_roundg (n - (k + 1))
      case measure => omega
      case rel =>
        have hbe := below1 w1 (.cells #[.slice A1 nd nd] 31)
        have hr2 := HR2.out
        have ho := HO2.out
        refine ⟨k + 1, ss ++ [.slice A1 nd nd], by omega, rfl, by go_num, ?_, ?_⟩
        · rw [HSN.out]
          exact HT.out.push HB.out.size (HB1.out.trans (hbe.mono HB1.out.size)) (HR1.out.new hbe) hr2 HT2.out ho
        · have t3 := ((Turns.refl _ w1).alloc _).trans HT2.out (fun k _ e => e)
          exact (HB.out.trans (HB1.out.mono HB.out.size)).trans (t3.below (Nat.le_trans HB.out.size HB1.out.size) (fun x hx e => by have := (HT.out.row.lt x e).1; omega))
    · obtain rfl : k = n := by omega
      go_wp2_with (go_at_call 23; refine (HS.out _).mono ?_; rintro e w' ⟨rfl, rfl⟩)
      go_ret
      have ht := HT.out
      rw [List.take_of_length_le (by rw [List.length_map, HL.out]; exact Nat.le_refl _)] at ht
      exact ⟨_, ss, rfl, ht, HB.out⟩
end Go.Proofs.Ytcdoklgjicfkmaa
