/- A row's Choose; one that takes all. -/
import Derived.Test.YtemdaafnmjenmaaD2
namespace Go.Proofs.Ytemdaafnmjenmaa
open Go.RowKit

def uz (z : Int) : Value := .int .u64 z
theorem uz_one (l : List Int) : ∀ u ∈ l.map uz, u.oneCell' = true := fun u hu => by
  obtain ⟨_, _, rfl⟩ := List.mem_map.1 hu
  rfl
/-- A row of choices, and by which tokens it was asked. -/
structure RowAt (W : World) (b0 B : Nat) (Lp : Option Addr) (cl : List Nat) (c : Nat) (s : Value) (asked : List Int) : Prop where
  cell : W.heap[B]? = some (.cells #[.slice Lp cl.length c, s] 57 (0, 0))
  own : Row W (B + 1) 1 s asked.length (asked.map uz)
  list : Rd W b0 Lp (cl.map bv)
  low : b0 ≤ B
theorem RowAt.lt {W : World} {b0 B : Nat} {Lp : Option Addr} {cl : List Nat} {c : Nat} {s : Value} {asked : List Int} (h : RowAt W b0 B Lp cl c s asked) : B < W.heap.size := (Array.getElem?_eq_some_iff.1 h.cell).1
theorem RowAt.keep {S : Nat → Prop} {W W' : World} {b0 B : Nat} {Lp : Option Addr} {cl : List Nat} {c : Nat} {s : Value} {asked : List Int} (h : RowAt W b0 B Lp cl c s asked) (t : Turns S W W') (hB : ¬ S B) (hs : ∀ g, s.ownBlock = some g → ¬ S g) (hl : ∀ b, b < b0 → ¬ S b) : RowAt W' b0 B Lp cl c s asked :=
  ⟨(t.block B h.lt hB).trans h.cell, h.own.keep t hs, h.list.kept t (by have := h.lt; have := h.low; omega) hl, h.low⟩
theorem all_choose (z : Int) (W : World) : Calls Try.prog 54 #[.agg #[], .int .u64 z] W fun e W' => e = .returned (.int .u8 0) ∧ Below W.heap.size W W' := by
  go_enter Try.func54, Try.ntmps54
  go_wp2
  go_ret
  exact ⟨rfl, below1 W _⟩
/-- What a row is behind a call of Choose. -/
def Chose (W : World) (b0 B : Nat) (Lp : Option Addr) (cl : List Nat) (c : Nat) (s : Value) (asked : List Int) (z : Int) (W' : World) : Prop :=
  ∃ s', RowAt W' b0 B Lp cl c s' (asked ++ [z]) ∧ (s'.ownBlock = s.ownBlock ∨ ∃ g, s'.ownBlock = some g ∧ W.heap.size ≤ g) ∧ Turns (fun k => k = B ∨ s.ownBlock = some k) W W'
theorem turns_drewN (S : Nat → Prop) (w : World) (k : Nat) : Turns S w (w.drewN k) := ⟨rfl, rfl, rfl, Nat.le_refl _, fun _ _ _ => rfl⟩
theorem Chose.drewN {W W' : World} {b0 B : Nat} {Lp : Option Addr} {cl : List Nat} {c : Nat} {s : Value} {asked : List Int} {z : Int} (h : Chose W b0 B Lp cl c s asked z W') (k : Nat) : Chose W b0 B Lp cl c s asked z (W'.drewN k) := by
  obtain ⟨s', h1, h2, h3⟩ := h
  exact ⟨s', h1.keep (turns_drewN (fun _ => False) _ _) (fun e => e) (fun _ _ e => e) (fun _ _ e => e), h2, h3.trans (turns_drewN (fun _ => False) _ _) (fun _ _ e => e.elim)⟩
set_option maxHeartbeats 2000000 in
theorem choose_any {W : World} {b0 B : Nat} {Lp : Option Addr} {cl : List Nat} {c : Nat} {s : Value} {asked : List Int} (z : Int) (h : RowAt W b0 B Lp cl c s asked) (hc : cl.length ≤ 1000) (ha : asked.length ≤ 1000) (hby : ∀ x ∈ cl, x < 256) :
    Calls Try.prog 53 #[.pointer (some ⟨B, 0, none⟩), .int .u64 z] W fun e W' => e = .returned (.int .u8 (chl (ints cl) asked.length : Nat)) ∧ Chose W b0 B Lp cl c s asked z W' := by
  obtain ⟨A, cap, rfl, _, _⟩ := h.own.shape
  have x0 : W.cell? ⟨B, 0, none⟩ = some (.slice Lp cl.length c) := cell_row h.cell 0
  have x1 : W.cell? ⟨B, 1, none⟩ = some (.slice A asked.length cap) := cell_row h.cell 1
  have f1 : W.frozen? ⟨B, 1, none⟩ = false := froz_row h.cell 1
  have hBl := h.lt
  have hneB : ¬ (Value.slice A asked.length cap).ownBlock = some B := fun e => by have := (h.own.lt B e).1; omega
  have hfin : ∀ v2 w2, Row w2 (B + 1) 1 v2 (asked.length + 1) (asked.map uz ++ [uz z]) → Turns (fun k => (Value.slice A asked.length cap).ownBlock = some k) (W.alloc (.cells #[.int .u64 z] 34)) w2 → (v2.ownBlock = (Value.slice A asked.length cap).ownBlock ∨ v2.ownBlock = some (W.alloc (.cells #[.int .u64 z] 34)).heap.size) →
      Chose W b0 B Lp cl c (.slice A asked.length cap) asked z (w2.setCell ⟨B, 1, none⟩ v2) := fun v2 w2 hr2 ht2 ho2 => by
    have t1 : Turns (fun k => k = B ∨ (Value.slice A asked.length cap).ownBlock = some k) W w2 := ((Turns.refl _ W).alloc _).trans ht2 (fun k _ e => .inr e)
    have t2 : Turns (fun k => k = B) w2 (w2.setCell ⟨B, 1, none⟩ v2) := (Turns.refl _ _).setCell _ _ rfl
    have hcell : w2.heap[B]? = some (.cells #[.slice Lp cl.length c, .slice A asked.length cap] 57 (0, 0)) := (ht2.block B (by simp; omega) hneB).trans (((below1 W _).block B hBl).trans h.cell)
    have hl2 : Rd w2 b0 Lp (cl.map bv) := h.list.kept t1 (by have := h.low; omega) (fun b hb e => by
      rcases e with e | e
      · have := h.low; omega
      · have := (h.own.lt b e).1; have := h.low; omega)
    refine ⟨v2, ⟨row_set hcell 1 v2, ?_, hl2.kept t2 (by have := t1.size; have := h.low; omega) (fun b hb e => by have := h.low; omega), h.low⟩, ?_, t1.trans t2 (fun k _ e => .inl e)⟩
    · have e1 : (asked ++ [z]).map uz = asked.map uz ++ [uz z] := by simp
      rw [e1, List.length_append]
      exact hr2.keep t2 (fun g hg e => by have := (hr2.lt g hg).1; omega)
    · rcases ho2 with e | e
      · exact .inl e
      · exact .inr ⟨_, e, by simp⟩
  have HFIN := Lib.hid hfin
  have hown := h.own.alloc (.cells #[.int .u64 z] 34)
  have hlist := h.list
  have hlow := h.low
  have HOWN := Lib.hid hown; have HLIST := Lib.hid hlist; have HLOW := Lib.hid hlow; have HNB := Lib.hid hneB; have HBY := Lib.hid hby
  have hownlt := h.own.lt
  have HLT := Lib.hid hownlt
  obtain ⟨m, hm⟩ : ∃ m, m = asked.length := ⟨_, rfl⟩
  have hil := ints_len cl
  clear h hfin hown hlist hlow hneB hby hownlt
  by_cases hin : asked.length < cl.length
  · obtain ⟨gc, oc, rfl, hgc, hcc⟩ := rd_bv HLIST.out hin
    have hch : chl (ints cl) asked.length = cl[asked.length]! % 4 := by
      unfold chl
      rw [if_pos (by rw [hil]; exact hin), getElem!_pos (ints cl) asked.length (by rw [hil]; exact hin), getElem!_pos cl asked.length hin]
      simp [ints]
    rw [hch]
    have hx : cl[asked.length]! < 256 := HBY.out _ (by rw [getElem!_pos cl asked.length hin]; exact List.getElem_mem hin)
    generalize cl[asked.length]! = x at *
    have hne3 : ¬ (Value.slice A asked.length cap).ownBlock = some gc := fun e => by have := (HLT.out gc e).1; have := HLOW.out; omega
    have hgl : gc < W.heap.size := by have := HLOW.out; omega
    have hgB : ¬ gc = B := by have := HLOW.out; omega
    have HN3 := Lib.hid hne3
    clear hne3 hch
    go_enter Try.func53, Try.ntmps53
    go_wp2_with (at_builtin; refine wpList_append_row layU rfl _ _ rfl rfl HOWN.out (uz_one _) (by simp; omega) 1 rfl (rd_one1 W (uz z) 34) rfl (by intro u hu; simp at hu; subst hu; rfl) (by omega) ?_; intro v2 w2 hr2 ht2 ho2; (have hfin := HFIN.out v2 w2 hr2 ht2 ho2); (have HF := Lib.hid hfin); obtain ⟨A2, cap2, rfl, _, _⟩ := hr2.shape; (have y1 : w2.cell? ⟨B, 1, none⟩ = some (.slice A asked.length cap) := (ht2.cell (by simp; omega) HNB.out).trans (((below1 W _).cell (p := ⟨B, 1, none⟩) hBl).trans x1)); (have y0 : w2.cell? ⟨B, 0, none⟩ = some (.slice (some ⟨gc, oc, none⟩) cl.length c) := (ht2.cell (by simp; omega) HNB.out).trans (((below1 W _).cell (p := ⟨B, 0, none⟩) hBl).trans x0)); (have g1 : w2.frozen? ⟨B, 1, none⟩ = false := (ht2.frozen (by simp; omega) HNB.out).trans (((below1 W _).frozen (p := ⟨B, 1, none⟩) hBl).trans f1)); (have yc : w2.cell? ⟨gc, oc + asked.length, none⟩ = some (.int .u8 x) := (ht2.cell (by simp; omega) HN3.out).trans (((below1 W _).cell (p := ⟨gc, oc + asked.length, none⟩) hgl).trans hcc)); (clear hfin hr2 ht2 ho2 x0 x1 f1))
    have z1 := World.cell?_setCell_same w2 ⟨B, 1, none⟩ (.slice A2 (asked.length + 1) cap2) y1
    have z0 := (World.cell?_setCell_other w2 ⟨B, 1, none⟩ ⟨B, 0, none⟩ (.slice A2 (asked.length + 1) cap2) (by simp)).trans y0
    have zc := (World.cell?_setCell_other w2 ⟨B, 1, none⟩ ⟨gc, oc + asked.length, none⟩ (.slice A2 (asked.length + 1) cap2) (by simp; (try omega))).trans yc
    obtain ⟨w3, hw3⟩ : ∃ w3, w3 = w2.setCell ⟨B, 1, none⟩ (.slice A2 (asked.length + 1) cap2) := ⟨_, rfl⟩
    rw [← hw3] at HF z1 z0 zc ⊢
    have hnl : ¬ ((cl.length : Int) < (asked.length : Int) + 1) := by omega
    have hxm : ((x : Int) % 4) = ((x % 4 : Nat) : Int) := by omega
    have HXM := Lib.hid hxm
    clear hw3 y0 y1 yc g1 hxm
    go_quiet (fail)
    go_wp2_with fail
    go_quiet (fail)
    go_wp2_with fail
    go_ret
    exact ⟨by simp, (HF.out.drewN _).drewN _⟩
  · have hch : chl (ints cl) asked.length = 2 := by
      unfold chl
      rw [if_neg (by rw [hil]; exact hin)]
    rw [hch]
    clear hch
    go_enter Try.func53, Try.ntmps53
    go_wp2_with (at_builtin; refine wpList_append_row layU rfl _ _ rfl rfl HOWN.out (uz_one _) (by simp; omega) 1 rfl (rd_one1 W (uz z) 34) rfl (by intro u hu; simp at hu; subst hu; rfl) (by omega) ?_; intro v2 w2 hr2 ht2 ho2; (have hfin := HFIN.out v2 w2 hr2 ht2 ho2); (have HF := Lib.hid hfin); obtain ⟨A2, cap2, rfl, _, _⟩ := hr2.shape; (have y1 : w2.cell? ⟨B, 1, none⟩ = some (.slice A asked.length cap) := (ht2.cell (by simp; omega) HNB.out).trans (((below1 W _).cell (p := ⟨B, 1, none⟩) hBl).trans x1)); (have y0 : w2.cell? ⟨B, 0, none⟩ = some (.slice Lp cl.length c) := (ht2.cell (by simp; omega) HNB.out).trans (((below1 W _).cell (p := ⟨B, 0, none⟩) hBl).trans x0)); (have g1 : w2.frozen? ⟨B, 1, none⟩ = false := (ht2.frozen (by simp; omega) HNB.out).trans (((below1 W _).frozen (p := ⟨B, 1, none⟩) hBl).trans f1)); (clear hfin hr2 ht2 ho2 x0 x1 f1))
    have z1 := World.cell?_setCell_same w2 ⟨B, 1, none⟩ (.slice A2 (asked.length + 1) cap2) y1
    have z0 := (World.cell?_setCell_other w2 ⟨B, 1, none⟩ ⟨B, 0, none⟩ (.slice A2 (asked.length + 1) cap2) (by simp)).trans y0
    obtain ⟨w3, hw3⟩ : ∃ w3, w3 = w2.setCell ⟨B, 1, none⟩ (.slice A2 (asked.length + 1) cap2) := ⟨_, rfl⟩
    rw [← hw3] at HF z1 z0 ⊢
    have hnl : ((cl.length : Int) < (asked.length : Int) + 1) := by omega
    clear hw3 y0 y1 g1
    go_quiet (fail)
    go_wp2_with fail
    go_ret
    exact ⟨rfl, HF.out.drewN _⟩
end Go.Proofs.Ytemdaafnmjenmaa
