/- The document's begin and New. -/
import Derived.Test.YtcdoklgjicfkmaaU4
namespace Go.Proofs.Ytcdoklgjicfkmaa
open Go.RowKit

theorem tflat_snoc (L : List Bk) (x : Bk) : tflat (L ++ [x]) = tflat L ++ [.int .u64 x.a, .int .u64 x.f] := by
  refine (tflat_ext (by simp [tflat_len]; omega) fun j hj => ?_).symm
  rw [List.length_append, List.length_singleton] at hj
  by_cases h : j < L.length * 2
  · rw [List.getElem?_append_left (by rw [tflat_len]; exact h), tflat_at L h]
    unfold tcell
    rw [get_app_ne (by omega)]
  · rw [List.getElem?_append_right (by rw [tflat_len]; omega), tflat_len]
    unfold tcell
    rw [show j / 2 = L.length by omega, get_app_last]
    have : j = L.length * 2 ∨ j = L.length * 2 + 1 := by omega
    rcases this with rfl | rfl
    · simp
    · rw [show L.length * 2 + 1 - L.length * 2 = 1 by omega]
      simp [Nat.add_mod]
theorem tflat_fresh (now : Int) (Ls : List (List Ent)) : tflat (fresh now Ls) = tflat (List.replicate Ls.length ⟨now, now, []⟩) := by
  refine (tflat_ext (by simp [tflat_len, fresh_len]) fun j hj => ?_).symm
  rw [fresh_len] at hj
  rw [tflat_at _ (by rw [List.length_replicate]; exact hj)]
  unfold tcell
  rw [fresh_at now Ls (by omega)]
  have : (List.replicate Ls.length (⟨now, now, []⟩ : Bk))[j / 2]! = ⟨now, now, []⟩ := by
    rw [List.getElem!_eq_getElem?_getD, List.getElem?_replicate, if_pos (by omega)]; rfl
  rw [this]
theorem info86 : ∃ i, Try.prog.info? 86 = some i ∧ i.zero = some (.agg #[.int .u64 0, .int .u64 0]) ∧ i.size = 2 ∧ i.bytes = 16 := info_of (by kernel_rfl)
theorem layT : Lay 73 86 2 16 (.agg #[.int .u64 0, .int .u64 0]) := ⟨Try.underlying73, info86, rfl, by decide, by decide⟩
theorem rd_two (w : World) (x y : Value) (T : TypeId) : Rd (w.alloc (.cells #[x, y] T)) (w.heap.size + 1) (some ⟨w.heap.size, 0, none⟩) [x, y] := fun _ => by
  refine ⟨w.heap.size, 0, rfl, by omega, fun j u e => ?_⟩
  have hnew := heap_alloc_new w (.cells #[x, y] T)
  rw [cell_row hnew, Nat.zero_add]
  simpa using e
theorem rbegin_any (x : Int) (w : World) : Calls Try.prog 51 #[.int .u64 x] w fun e w' => e = .returned (.agg #[.int .u64 x, .int .u64 x]) ∧ Below w.heap.size w w' := by
  go_enter Try.func51, Try.ntmps51
  go_wp2
  exact bodyPost_ret (v := .agg #[.int .u64 x, .int .u64 x]) (by simp [results, Try.results51, go_sem]) rfl ⟨rfl, below1 w _⟩
theorem tflat_one (L : List Bk) : ∀ u ∈ tflat L, u.oneCell' = true := fun u hu => by
  simp only [tflat, List.mem_map] at hu
  obtain ⟨j, _, rfl⟩ := hu
  unfold tcell
  split <;> rfl
set_option maxHeartbeats 1000000 in
theorem rbegins_any {w : World} {b : Int} {n : Nat} (hs : ∀ w, Calls Try.prog 49 #[.int .i64 b] w fun e w' => e = .returned (.int .i64 (n : Nat)) ∧ w = w') (hn : n ≤ 256) (now : Int) :
    Calls Try.prog 28 #[.int .i64 b, .int .u64 now] w fun e w' => ∃ s, e = .returned s ∧ Row w' w.heap.size 2 s n (tflat (List.replicate n ⟨now, now, []⟩)) ∧ Below w.heap.size w w' := by
  have HS := Lib.hid hs
  clear hs
  go_enter Try.func28, Try.ntmps28
  go_wp2_with fail
  go_loopg [5, 6] n (fun q s5 s6 wx => ∃ k : Nat, k ≤ n ∧ q = n - k ∧ s6 = .int .i64 (k : Int) ∧ Row wx w.heap.size 2 s5 k (tflat (List.replicate k ⟨now, now, []⟩)) ∧ Below w.heap.size w wx)
  case atStart => exact ⟨0, by omega, rfl, rfl, row_nil _ _ _, Below.refl _ _⟩
  case round =>
    obtain ⟨k, hk, rfl, rfl, hrow, hb⟩ := hrel
    have HROW := Lib.hid hrow; have HB := Lib.hid hb
    clear hrow hb
    by_cases hkn : k < n
    · go_wp2_with (go_at_call 49; refine (HS.out _).mono ?_; rintro e w' ⟨rfl, rfl⟩)
      refine (rbegin_any now _).mono ?_
      rintro e w1 ⟨rfl, hb1⟩
      have HB1 := Lib.hid hb1
      clear hb1
      go_wp2_with (at_builtin; refine wpList_append_row layT rfl _ _ rfl rfl ((HROW.out.new HB1.out).new (below1 _ _)) (tflat_one _) (by have := HB.out.size; have := HB1.out.size; simp; omega) 1 rfl (rd_two w1 _ _ 86) rfl (fun u hu => by simp at hu; rw [hu]; rfl) (by omega) ?_; intro v' w2 hr2 ht2 ho2; (have HR2 := Lib.hid hr2); (have HT2 := Lib.hid ht2); (clear hr2 ht2 ho2))
      go_roundg (n - (k + 1))
      case measure => omega
      case rel =>
        refine ⟨k + 1, by omega, rfl, by go_num, ?_, ?_⟩
        · have := HR2.out
          rw [← tflat_snoc (List.replicate k ⟨now, now, []⟩) ⟨now, now, []⟩, ← List.replicate_succ'] at this
          exact this
        · have t3 := ((Turns.refl _ w1).alloc _).trans HT2.out (fun k _ e => e)
          exact (HB.out.trans (HB1.out.mono HB.out.size)).trans (t3.below (by have := HB.out.size; have := HB1.out.size; omega) (fun x hx e => by have := (HROW.out.lt x e).1; omega))
    · obtain rfl : k = n := by omega
      go_wp2_with (go_at_call 49; refine (HS.out _).mono ?_; rintro e w' ⟨rfl, rfl⟩)
      go_ret
      exact ⟨_, rfl, HROW.out, HB.out⟩
/-- What of new queues' blocks is owned for what. -/
def NewT (s : Value) (ss : List Value) (b : Int) (x : Nat) (r : Role) : Prop := (s.ownBlock = some x ∧ r = .tab b) ∨ ∃ i v, ss[i]? = some v ∧ v.ownBlock = some x ∧ r = .q b i
theorem NewT.fun {w : World} {base : Nat} {s : Value} {ss : List Value} {Ls : List (List Ent)} (h : Tab w base s ss Ls) {b : Int} {x : Nat} {r r' : Role} (e : NewT s ss b x r) (e' : NewT s ss b x r') : r = r' := by
  rcases e with ⟨h1, rfl⟩ | ⟨i, v, hv, h1, rfl⟩
  · rcases e' with ⟨_, rfl⟩ | ⟨j, u, hu, h2, rfl⟩
    · rfl
    · exact absurd h1 (h.off j u x hu h2)
  · rcases e' with ⟨h2, rfl⟩ | ⟨j, u, hu, h2, rfl⟩
    · exact absurd h2 (h.off i v x hv h1)
    · rw [h.apart i j v u x hv hu h1 h2]
theorem NewT.lt {w : World} {base : Nat} {s : Value} {ss : List Value} {Ls : List (List Ent)} (h : Tab w base s ss Ls) {b : Int} {x : Nat} {r : Role} (e : NewT s ss b x r) : base ≤ x ∧ x < w.heap.size := by
  rcases e with ⟨h1, rfl⟩ | ⟨i, v, hv, h1, rfl⟩
  · exact h.row.lt x h1
  · exact h.lt hv h1
theorem tab_qflat {w : World} {base : Nat} {s : Value} {ss : List Value} {Ls : List (List Ent)} (h : Tab w base s ss Ls) : Row w base 1 s Ls.length (qflat Ls.length fun i => (ss[i]?).getD nilS) := by
  have hl := h.len
  have : ss = qflat Ls.length fun i => (ss[i]?).getD nilS := by
    refine List.ext_getElem? fun j => ?_
    by_cases hj : j < Ls.length
    · rw [qflat_at _ hj, List.getElem?_eq_getElem (by omega)]; rfl
    · rw [List.getElem?_eq_none (by omega), List.getElem?_eq_none (by rw [qflat_len]; omega)]
  have hr := h.row
  rw [this] at hr
  exact hr
end Go.Proofs.Ytcdoklgjicfkmaa
