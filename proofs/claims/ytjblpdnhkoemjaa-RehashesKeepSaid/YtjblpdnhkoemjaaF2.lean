/- Queues turned into the document's; the document's Rehash. -/
import Derived.Test.YtjblpdnhkoemjaaP2
import Derived.Test.YtjblpdnhkoemjaaF1
namespace Go.Proofs.Ytjblpdnhkoemjaa
open Go.RowKit

theorem cb_of {w : World} {base : Nat} {s : Value} {D : List Ent} (h : RowE w base s D) (hd : s = .slice none 0 0 ∨ 0 < D.length) : CB w s := by
  rcases hd with rfl | hd
  · exact cb_none w
  · exact h.cb hd (by omega)
theorem Tab.one {w : World} {base : Nat} {s : Value} {ss : List Value} {Ls : List (List Ent)} (h : Tab w base s ss Ls) : ∀ u ∈ ss, u.oneCell' = true := fun u hu => by
  obtain ⟨i, hi, rfl⟩ := List.getElem_of_mem hu
  obtain ⟨A, c, e, _⟩ := (h.rowE (List.getElem?_eq_getElem hi)).shape
  rw [e]; rfl
theorem take_snocL {Ls : List (List Ent)} {k : Nat} (h : k < Ls.length) : Ls.take (k + 1) = Ls.take k ++ [Ls[k]!] := take_snoc h
set_option maxHeartbeats 1000000 in
theorem others9_any {w : World} {base c : Nat} {A : Option Addr} {Ls : List (List Ent)} (hq : Qs w base A Ls) (hbase : base ≤ w.heap.size) (hc : Ls.length ≤ c) (hc9 : c ≤ 9223372036854775807) (hlen : Ls.length ≤ 1000) (hall : ∀ i, i < Ls.length → Ls[i]!.length ≤ 1000) :
    Calls Try.prog 8 #[.slice A Ls.length c] w fun e w' => ∃ s ss, e = .returned s ∧ Tab w' w.heap.size s ss Ls ∧ Below w.heap.size w w' := by
  have HQ := Lib.hid hq; have HBS := Lib.hid hbase; have HALL := Lib.hid hall
  clear hq hbase hall
  obtain ⟨N, hN⟩ : ∃ N, N = Ls.length := ⟨_, rfl⟩
  rw [← hN] at hc hlen ⊢
  have HN := Lib.hid hN
  clear hN
  go_enter Try.func8, Try.ntmps8
  go_wp2_with fail
  go_loopg [3, 4] N (fun q s3 s4 wx => ∃ (k : Nat) (ss : List Value), k ≤ N ∧ q = N - k ∧ s4 = .int .i64 (k : Int) ∧ Tab wx w.heap.size s3 ss (Ls.take k) ∧ Below w.heap.size w wx)
  case atStart => exact ⟨0, [], by omega, rfl, rfl, tab_nil _ _, Below.refl _ _⟩
  case round =>
    obtain ⟨k, ss, hk, rfl, rfl, ht, hb⟩ := hrel
    have HT := Lib.hid ht; have HB := Lib.hid hb
    clear ht hb
    by_cases hkn : k < N
    · have hkl : k < Ls.length := by have := HN.out; omega
      obtain ⟨g, o, A', c', rfl, hg, cq, hc', hc9', hrd⟩ := (HQ.out.below HB.out HBS.out).at hkl
      have HSN := Lib.hid (take_snocL hkl)
      have hl := HALL.out k hkl
      have htl : (Ls.take k).length = k := by rw [List.length_take]; omega
      have hds := fun W (h : Below wr.heap.size wr W) => others_any (w := W) c' (hrd.below (h.mono (by have := HB.out.size; have := HBS.out; omega)) (Nat.le_refl _)) (by have := HB.out.size; have := h.size; have := HBS.out; omega) hl
      have HDS := Lib.hid hds; have HTL := Lib.hid htl
      obtain ⟨D, hD⟩ : ∃ D, D = Ls[k]! := ⟨_, rfl⟩
      rw [← hD] at cq hc' HDS HSN
      clear hds hl hrd hD htl
      go_wp2_with (first
        | (go_at_call 19; refine (HDS.out _ (Below.refl _ _)).mono ?_; rintro e w1 ⟨v1, rfl, hr1, hnn1, hb1⟩; (obtain ⟨A1, c1, hv1, _, _⟩ := hr1.shape); subst hv1; (have HR1 := Lib.hid hr1); (have HNN1 := Lib.hid hnn1); (have HB1 := Lib.hid hb1); (clear hr1 hnn1 hb1))
        | (at_builtin; refine wpList_append_row layR rfl _ _ rfl rfl ((HT.out.row.new HB1.out).alloc _) HT.out.one (by have := HB.out.size; have := HB1.out.size; simp; omega) 1 rfl (rd_one1 w1 (.slice A1 D.length c1) 45) rfl (fun u hu => by simp at hu; rw [hu]; rfl) (by have := HTL.out; omega) ?_; intro v2 w2 hr2 ht2 ho2; (have HR2 := Lib.hid hr2); (have HT2 := Lib.hid ht2); (have HO2 := Lib.hid ho2); (clear hr2 ht2 ho2)))
      go_roundg (N - (k + 1))
      case measure => omega
      case rel =>
        have hba := HB1.out.alloc HB1.out.size (.cells #[.slice A1 D.length c1] 45)
        refine ⟨k + 1, ss ++ [.slice A1 D.length c1], by omega, rfl, by go_num, ?_, ?_⟩
        · rw [HSN.out]
          exact HT.out.push HB.out.size hba (HR1.out.alloc _) ((cb_of HR1.out HNN1.out).turn ((Turns.refl (fun _ => False) _).alloc _) (fun _ _ e => e)) HR2.out HT2.out HO2.out
        · exact HB.out.trans ((hba.mono HB.out.size).trans (HT2.out.below (by have := HB.out.size; have := hba.size; omega) (fun j hj e => by have := (HT.out.row.lt j e).1; omega)))
    · obtain rfl : k = N := by omega
      go_wp2_with fail
      go_ret
      refine ⟨_, ss, rfl, ?_, HB.out⟩
      have := HT.out
      rwa [HN.out, List.take_length] at this
end Go.Proofs.Ytjblpdnhkoemjaa
