/- A set's tables, looked for: table, Has, at; a list copied. -/
import Derived.Test.YtcdoklgjicfkmaaT1
import Derived.Maps.OwnSet
namespace Go.Proofs.Ytcdoklgjicfkmaa
open Go.RowKit

/-- A set, or none, and what is found at each number of bits. -/
def Sv (w : World) (s : Value) (F : Int → Value) : Prop :=
  (s = .pointer none ∧ ∀ b, F b = nilS) ∨ ∃ sb, s = .pointer (some ⟨sb, 0, none⟩) ∧
    ((w.cell? ⟨sb, 0, none⟩ = some (.map none) ∧ ∀ b, F b = nilS) ∨ ∃ mb n, w.cell? ⟨sb, 0, none⟩ = some (.map (some mb)) ∧ MapAt w mb n F)
theorem Sv.below {w w' : World} {s : Value} {F : Int → Value} (h : Sv w s F) (hb : Below w.heap.size w w') : Sv w' s F := by
  rcases h with h | ⟨sb, rfl, ⟨hc, hF⟩ | ⟨mb, n, hc, hm⟩⟩
  · exact .inl h
  · refine .inr ⟨sb, rfl, .inl ⟨?_, hF⟩⟩
    have : sb < w.heap.size := (Array.getElem?_eq_some_iff.1 (cells_at (g := sb) (o := 0) (by rw [hc]; rfl)).choose_spec.choose_spec.choose_spec).1
    rw [hb.cell (p := ⟨sb, 0, none⟩) this]
    exact hc
  · refine .inr ⟨sb, rfl, .inr ⟨mb, n, ?_, hm.keep (Turns.of_below (S := fun _ => False) hb) (fun h => h)⟩⟩
    have : sb < w.heap.size := (Array.getElem?_eq_some_iff.1 (cells_at (g := sb) (o := 0) (by rw [hc]; rfl)).choose_spec.choose_spec.choose_spec).1
    rw [hb.cell (p := ⟨sb, 0, none⟩) this]
    exact hc
theorem table_any {w : World} {s : Value} {F : Int → Value} (h : Sv w s F) {b : Int} (hb : InI b) : Calls Try.prog 40 #[s, .int .i64 b] w fun e w' => e = .returned (F b) ∧ w = w' := by
  rcases h with ⟨rfl, hF⟩ | ⟨sb, rfl, ⟨hc, hF⟩ | ⟨mb, n, hc, hm⟩⟩
  · rw [hF b]
    clear hF
    go_enter Try.func40, Try.ntmps40
    go_wp2_with fail
    go_ret
    exact ⟨rfl, rfl⟩
  · rw [hF b]
    clear hF
    have hl : (Instr.lookup 44 (.map none) (.int .i64 b) false).run Try.prog w = .ok nilS w := Go.Maps.look_nil false key3 Try.underlying44 (zero69 w) (keyB hb)
    go_enter Try.func40, Try.ntmps40
    go_wp2_with fail
    go_ret
    exact ⟨rfl, rfl⟩
  · have hl := hm.look hb
    generalize F b = v at hl
    clear hm
    go_enter Try.func40, Try.ntmps40
    go_wp2_with fail
    go_ret
    exact ⟨rfl, rfl⟩
theorem has_any {w : World} {s : Value} {F : Int → Value} (h : Sv w s F) {b : Int} (hb : InI b) {A : Option Addr} {m c : Nat} (hF : F b = .slice A m c) : Calls Try.prog 18 #[s, .int .i64 b] w fun e w' => e = .returned (.bool (decide (0 < m))) ∧ w = w' := by
  have HT := Lib.hid (table_any h hb)
  rw [hF] at HT
  clear h hF
  go_enter Try.func18, Try.ntmps18
  go_wp2_with (go_at_call 40; refine HT.out.mono ?_; rintro e w' ⟨rfl, rfl⟩)
  go_ret
  exact ⟨by simp, rfl⟩
theorem at_no {w : World} {s : Value} {F : Int → Value} (h : Sv w s F) {b i : Int} (hb : InI b) {A : Option Addr} {m c : Nat} (hF : F b = .slice A m c) (hi : i < 0 ∨ (m : Int) ≤ i) :
    Calls Try.prog 42 #[s, .agg #[.int .i64 b, .int .i64 i]] w fun e w' => e = .returned (.pointer none) ∧ Below w.heap.size w w' := by
  have HT := Lib.hid (fun o => table_any (h.below (below1 w o)) hb)
  rw [hF] at HT
  clear h hF
  by_cases h0 : i < 0
  · have e0 : decide (i < 0) = true := by simpa using h0
    go_enter Try.func42, Try.ntmps42
    go_wp2_with (go_at_call 40; refine (HT.out _).mono ?_; rintro e w' ⟨rfl, rfl⟩)
    go_ret
    exact ⟨rfl, below1 w _⟩
  · have e0 : decide (i < 0) = false := by simpa using h0
    have e1 : decide ((m : Int) ≤ i) = true := by simp; omega
    go_enter Try.func42, Try.ntmps42
    go_wp2_with (go_at_call 40; refine (HT.out _).mono ?_; rintro e w' ⟨rfl, rfl⟩)
    go_ret
    exact ⟨rfl, below1 w _⟩
theorem at_yes {w : World} {s : Value} {F : Int → Value} (h : Sv w s F) {b : Int} {i : Nat} (hb : InI b) {g o m c : Nat} (hF : F b = .slice (some ⟨g, o, none⟩) m c) (hi : i < m) :
    Calls Try.prog 42 #[s, .agg #[.int .i64 b, .int .i64 (i : Int)]] w fun e w' => e = .returned (.pointer (some ⟨g, o + i * 3, none⟩)) ∧ Below w.heap.size w w' := by
  have HT := Lib.hid (fun o => table_any (h.below (below1 w o)) hb)
  rw [hF] at HT
  clear h hF
  have e0 : decide ((i : Int) < 0) = false := by simp
  have e1 : decide ((m : Int) ≤ (i : Int)) = false := by simp; omega
  have e2 : ¬ m ≤ i := by omega
  go_enter Try.func42, Try.ntmps42
  go_wp2_with (go_at_call 40; refine (HT.out _).mono ?_; rintro e w' ⟨rfl, rfl⟩)
  go_ret
  exact ⟨rfl, below1 w _⟩
theorem copied_any {w : World} {base : Nat} {A : Option Addr} {D : List Ent} (c : Nat) (hr : Rd w base A (flat D)) (hbase : base ≤ w.heap.size) (hlen : D.length ≤ 1000000) :
    Calls Try.prog 43 #[.slice A D.length c] w fun e w' => ∃ A', e = .returned (.slice A' D.length D.length) ∧ RowE w' w.heap.size (.slice A' D.length D.length) D ∧ Below w.heap.size w w' := by
  have HR := Lib.hid hr
  clear hr
  go_enter Try.func43, Try.ntmps43
  go_wp2_with (first
    | (at_builtin; refine wpList_append_row layE rfl _ _ rfl rfl (row_nil w w.heap.size 3) (fun u hu => by cases hu) (Nat.le_refl _) c rfl HR.out (flat_len D) (flat_one' D) (by omega) ?_; intro v' w2 hr2 ht2 ho2; (obtain ⟨A2, c2, rfl, hc2, hc29⟩ := hr2.shape); (have HR2 := Lib.hid hr2); (have HT2 := Lib.hid ht2); (clear hr2 ht2 ho2))
    | (go_at_call 48; refine (clip_any _ _ _ _ (by omega) (by omega)).mono ?_; rintro e w' ⟨rfl, rfl⟩))
  go_ret
  have hr := HR2.out
  simp only [Nat.zero_add, List.nil_append] at hr ⊢
  exact ⟨_, rfl, hr.clip, HT2.out.below (Nat.le_refl _) (fun k hk e => by change (none : Option Nat) = some k at e; cases e)⟩
end Go.Proofs.Ytcdoklgjicfkmaa
