import Derived.Test.YtopkdnjploipaaaDoorW4
namespace Go.Proofs.YtopkdnjploipaaaDoor
open Go.RowKit Go.Sort Go.Lib

theorem joined0 (L : List ByteArray) (v : Value) (B : Nat) (w : World) (hown : w.ownsRow B 9 1 v L.length (L.map Value.string)) (hB : B ≤ w.heap.size) (hn : L.length ≤ 4) (hlen : (join (L.map (·.data.toList)) [43]).length ≤ 140737488355328) :
    Calls Tryd.prog 26 #[.string ⟨#[]⟩, v] w fun e w' => e = .returned (.string (outJ L)) ∧ Below w.heap.size w w' := by
  rcases hown.2 with ⟨rfl, h0⟩ | ⟨g, cap, cur, rfl, hg1, hg2, hg3, hg4, hg5, hg6⟩
  · obtain rfl : L = [] := List.eq_nil_of_length_eq_zero h0
    go_enter Tryd.func26, Tryd.ntmps26
    go_wp2
    go_ret
    exact ⟨rfl, Below.refl _ _⟩
  · cases L with
    | nil =>
      clear hown hg6
      go_enter Tryd.func26, Tryd.ntmps26
      go_wp2
      go_ret
      exact ⟨rfl, Below.refl _ _⟩
    | cons x r =>
      have hj := joinL (x :: r) (by simp) _ B w hown hB (by omega) hlen
      generalize hk : (x :: r).length = k at *
      have hk0 : ((k : Int) == 0) = false := by rw [beq_eq_false_iff_ne]; simp at hk; omega
      have HJ := Lib.hid hj
      clear hk hj hown hg6
      go_enter Tryd.func26, Tryd.ntmps26
      go_wp2_with (go_at_call 30; refine HJ.out.mono ?_; rintro e w' ⟨rfl, hb⟩)
      go_ret
      exact ⟨rfl, hb⟩

set_option maxHeartbeats 400000 in
theorem joined1 (s : ByteArray) (hs : s.toList.isEmpty = false) (L : List ByteArray) (v : Value) (B : Nat) (w : World) (hown : w.ownsRow B 9 1 v L.length (L.map Value.string)) (hB : B ≤ w.heap.size) (hn : L.length ≤ 4) (hlen : (join ((L ++ [s]).map (·.data.toList)) [43]).length ≤ 140737488355328) :
    Calls Tryd.prog 26 #[.string s, v] w fun e w' => e = .returned (.string (outJ (L ++ [s]))) ∧ Below B w w' := by
  obtain ⟨i0, hi, hz0, hz1, hz2⟩ := info_parts info9
  have hj : ∀ (v' : Value) (w1 : World), w1.ownsRow B 9 1 v' (L.length + 1) (L.map Value.string ++ [.string s]) → B ≤ w1.heap.size → Calls Tryd.prog 30 #[v', .string ⟨#[43]⟩] w1 fun e w' => e = .returned (.string (outJ (L ++ [s]))) ∧ Below w1.heap.size w1 w' := fun v' w1 h1 h2 =>
    joinL (L ++ [s]) (by simp) v' B w1 (by simpa using h1) h2 (by simp; omega) hlen
  have hl : ∀ (v' : Value) (w1 : World), w1.ownsRow B 9 1 v' (L.length + 1) (L.map Value.string ++ [.string s]) → ∃ a c, v' = .slice (some a) (L.length + 1) c := fun v' w1 h => by
    rcases h.2 with ⟨rfl, h0⟩ | ⟨g, cap, cur, rfl, _⟩
    · omega
    · exact ⟨_, _, rfl⟩
  generalize hk : L.length = k at *
  have hk0 : ((k : Int) + 1 == 0) = false := by rw [beq_eq_false_iff_ne]; omega
  have HJ := Lib.hid hj
  have HL := Lib.hid hl
  clear hj hlen hl hk
  go_enter Tryd.func26, Tryd.ntmps26
  go_wp2_with (at_builtin; refine wpList_append_own _ rfl _ _ 40 rfl B 9 i0 (.string ByteArray.empty) 1 16 Tryd.underlying40 hi hz0 hz1 hz2 rfl (by decide) _ _ _ rfl (hown.alloc _) ⟨w.heap.size, 0, none⟩ 1 1 [.string s] rfl rfl ?c1 ?c2 ?c3 ?c4 ?c5 ?_)
  case c1 =>
    intro j u hj
    match j, hj with
    | 0, hj => simp at hj; subst hj; simp [Addr.add]
  case c2 => intro u hu; simp at hu; subst hu; rfl
  case c3 => unfold maxLen; omega
  case c4 => omega
  case c5 => simp; omega
  · intro v' w1 hown' hgrow _
    have hb1 : Below B w w1 := (((Below.refl B w)).alloc hB _).grown hgrow (by simp; omega) (fun j hj => by have := (hown.lt j hj).1; omega)
    obtain ⟨a, c, rfl⟩ := HL.out v' w1 hown'
    have HJ2 := HJ.out _ w1 hown' (by have := hb1.size; omega)
    have HJ3 := Lib.hid HJ2
    have hsz := hb1.size
    clear HJ2 hown' hown hgrow
    go_wp2_with (go_at_call 30; refine HJ3.out.mono ?_; rintro e w' ⟨rfl, hb⟩)
    go_ret
    exact ⟨rfl, hb1.trans (hb.mono (by omega))⟩
end Go.Proofs.YtopkdnjploipaaaDoor
