import Derived.Test.YtopkdnjploipaaaDoorWd
import Derived.Deep.RegionHeld3
namespace Go.Proofs.YtopkdnjploipaaaDoor
open Go.RowKit Go.Sort Go.Lib
structure Held3 (w0 : World) (l q : Bool) (h : Int) (w : World) : Prop where
  tabs : Tabs w
  below : Below w0.heap.size w0 w
  size : w0.heap.size < w.heap.size
theorem Held3.next {w0 w w' : World} {l q : Bool} {h : Int} (H : Held3 w0 l q h w) (hb : Below w.heap.size w w') : Held3 w0 l q h w' :=
  ⟨H.tabs.below hb, H.below.trans (hb.mono (Nat.le_of_lt H.size)), Nat.lt_of_lt_of_le H.size hb.size⟩
theorem Held3.drew {w0 w : World} {l q : Bool} {h : Int} (H : Held3 w0 l q h w) : Held3 w0 l q h w.drew :=
  ⟨H.tabs.below ((Below.refl _ _).drew), H.below.drew, H.size⟩
theorem keep0 {w0 w : World} {l q : Bool} {h : Int} (H : Held3 w0 l q h w) (c0 : w.cell? ⟨w0.heap.size, 0, none⟩ = some (.bool l)) (c1 : w.cell? ⟨w0.heap.size, 1, none⟩ = some (.bool q)) (c2 : w.cell? ⟨w0.heap.size, 2, none⟩ = some (.int .i64 h)) :
    w.drew.cell? ⟨w0.heap.size, 0, none⟩ = some (.bool l) ∧ w.drew.cell? ⟨w0.heap.size, 1, none⟩ = some (.bool q) ∧ w.drew.cell? ⟨w0.heap.size, 2, none⟩ = some (.int .i64 h) ∧ Held3 w0 l q h w.drew :=
  ⟨c0, c1, c2, H.drew⟩
theorem keep1 {w0 w w' : World} {l q : Bool} {h : Int} (hb : Below w.heap.size w w') (H : Held3 w0 l q h w) (c0 : w.cell? ⟨w0.heap.size, 0, none⟩ = some (.bool l)) (c1 : w.cell? ⟨w0.heap.size, 1, none⟩ = some (.bool q)) (c2 : w.cell? ⟨w0.heap.size, 2, none⟩ = some (.int .i64 h)) :
    w'.cell? ⟨w0.heap.size, 0, none⟩ = some (.bool l) ∧ w'.cell? ⟨w0.heap.size, 1, none⟩ = some (.bool q) ∧ w'.cell? ⟨w0.heap.size, 2, none⟩ = some (.int .i64 h) ∧ Held3 w0 l q h w' :=
  ⟨(hb.cell H.size).trans c0, (hb.cell H.size).trans c1, (hb.cell H.size).trans c2, H.next hb⟩
set_option maxHeartbeats 2000000 in
set_option maxRecDepth 100000 in
theorem law_word (l q : Bool) (h : Int) (hh : -9223372036854775808 ≤ h) (hh2 : h ≤ 9223372036854775807) (u : Nat) (hu : u < 18446744073709551616) (w : World) (hT : Tabs w) : Calls Tryd.prog 3 #[.agg #[.bool l, .bool q, .int .i64 h], .int .u64 u] w fun e w' => e = .returned (.bool true) ∧ Below w.heap.size w w' := by
  have h1 := fun W => put_any l q h hh hh2 W
  have h2 := fun W => rput_any l q h hh hh2 W
  have h3 := fun W => other_any l q h W
  have h4 := fun W => as_any u hu W
  have h5 := fun W => ras_any u hu W
  have h6 := fun W => other_any (bitB u 0) (bitB u 1) (headN u) W
  have h7 := fun W hW => lives_any W hW
  unfold asV at h4 h5
  generalize putN l q h = p at *
  generalize bitB u 0 = x at *
  generalize bitB u 1 = y at *
  generalize headN u = z at *
  have H1 := Lib.hid h1
  have H2 := Lib.hid h2
  have H3 := Lib.hid h3
  have H4 := Lib.hid h4
  have H5 := Lib.hid h5
  have H6 := Lib.hid h6
  have H7 := Lib.hid h7
  clear h1 h2 h3 h4 h5 h6 h7
  go_enter Tryd.func3, Tryd.ntmps3
  go_wp2_with fail
  have hk : Held3 w l q h (w.alloc (.cells #[.bool l, .bool q, .int .i64 h] 23)) := ⟨hT.below ((Below.refl _ _).alloc (Nat.le_refl _) _), (Below.refl _ _).alloc (Nat.le_refl _) _, by simp⟩
  have c0 : (w.alloc (.cells #[.bool l, .bool q, .int .i64 h] 23)).cell? ⟨w.heap.size, 0, none⟩ = some (.bool l) := by simp [World.cell?_alloc_at]
  have c1 : (w.alloc (.cells #[.bool l, .bool q, .int .i64 h] 23)).cell? ⟨w.heap.size, 1, none⟩ = some (.bool q) := by simp [World.cell?_alloc_at]
  have c2 : (w.alloc (.cells #[.bool l, .bool q, .int .i64 h] 23)).cell? ⟨w.heap.size, 2, none⟩ = some (.int .i64 h) := by simp [World.cell?_alloc_at]
  generalize w.alloc (.cells #[.bool l, .bool q, .int .i64 h] 23) = wa at *
  go_region_held3 (fun w' => w'.cell? ⟨w.heap.size, 0, none⟩ = some (.bool l) ∧ w'.cell? ⟨w.heap.size, 1, none⟩ = some (.bool q) ∧ w'.cell? ⟨w.heap.size, 2, none⟩ = some (.int .i64 h) ∧ Held3 w l q h w')
    (first
      | exact keep0 hk c0 c1 c2
      | (go_split_ands; exact keep1 (by assumption) (by assumption) (by assumption) (by assumption) (by assumption)))
    (first
      | (go_at_call 8; refine (H1.out _).mono ?_; rintro e w1 ⟨rfl, hb⟩)
      | (go_at_call 9; refine (H2.out _).mono ?_; rintro e w1 ⟨rfl, hb⟩)
      | (go_at_call 11; refine (H4.out _).mono ?_; rintro e w1 ⟨rfl, hb⟩)
      | (go_at_call 12; refine (H5.out _).mono ?_; rintro e w1 ⟨rfl, hb⟩)
      | (go_at_call 13; go_split_ands; refine (H7.out _ (Held3.tabs (w0 := w) (l := l) (q := q) (h := h) (by assumption))).mono ?_; rintro e w1 ⟨rfl, hb⟩)
      | (go_at_call 10; with_reducible refine (H3.out _).mono ?_; rintro e w1 ⟨rfl, hb⟩)
      | (go_at_call 10; with_reducible refine (H6.out _).mono ?_; rintro e w1 ⟨rfl, hb⟩))
  all_goals (go_wp2; go_split_ands; go_ret; exact ⟨rfl, Held3.below (l := l) (q := q) (h := h) (by assumption)⟩)
end Go.Proofs.YtopkdnjploipaaaDoor
