/- Texts of this seat, one behind the other. -/
import Derived.Test.YtpmafdggbeppcaaGreatDoorMLawVoid1814
import Derived.Deep.RegionLaw
import Derived.Deep.RegionHeld3
import Derived.Laws.StructEq
import Derived.Deep.LoopGhost
import Derived.StillTailTactics
import Derived.Deep.MidRow
import Derived.Laws.CopyOwn
import Derived.Maps.Own
import Derived.OwnWalkIn
import Derived.Deep.AppendSrc
set_option linter.unusedVariables false
set_option linter.unusedSimpArgs false
namespace Go.Proofs.YtpmafdggbeppcaaGreatDoor.S11
set_option maxRecDepth 100000
set_option maxHeartbeats 16000000
open Go.Proofs.YtpmafdggbeppcaaGreatDoor
open Go.RowKit
def refB (D : List Nt) (n : Nt) : Bool := !isK n.k || fallsB D n.s
def addD (D : List Nt) (n : Nt) : List Nt := if refB D n then D else D ++ [n]
def addE (D : List Nt) (n : Nt) : Int := if refB D n then 1 else 0
theorem addD_yes {D : List Nt} {n : Nt} (h : refB D n = true) : addD D n = D ∧ addE D n = 1 := by simp [addD, addE, h]
theorem addD_no {D : List Nt} {n : Nt} (h : refB D n = false) : addD D n = D ++ [n] ∧ addE D n = 0 := by simp [addD, addE, h]
def Leaves (T : Nat) (K : IntKind) (w w' : World) (base p : Nat) (s : Value) (D : List Nt) : Prop :=
  ∃ s', LAt T K w' base p s' D ∧ (s'.ownBlock = s.ownBlock ∨ ∃ g, s'.ownBlock = some g ∧ w.heap.size ≤ g) ∧ Turns (fun k => k = p ∨ s.ownBlock = some k) w w'
section
variable {T : Nat} {K : IntKind} {w w' : World} {base p : Nat} {s : Value} {D : List Nt}
theorem Leaves.same (h : LAt T K w base p s D) (b : Below w.heap.size w w') : Leaves T K w w' base p s D := ⟨s, h.new b, .inl rfl, Turns.of_below b⟩
theorem leaves_put {w3 : World} {s3 : Value} {F : List Nt} (h : LAt T K w base p s D) (hb : Below w.heap.size w w') (hr : Row w3 base 7 s3 F.length (flat K F)) (ht : Turns (fun k => s.ownBlock = some k) w' w3) (ho : s3.ownBlock = s.ownBlock ∨ s3.ownBlock = some w'.heap.size) :
    Leaves T K w (w3.setCell ⟨p, 0, none⟩ s3) base p s F := by
  have hsz := hb.size
  have t1 : Turns (fun k => k = p) w3 (w3.setCell ⟨p, 0, none⟩ s3) := (Turns.refl _ _).setCell _ _ rfl
  have hne3 : s3.ownBlock ≠ some p := by
    rcases ho with e | e
    · rw [e]; exact h.ne
    · rw [e]; intro e'; injection e' with e'; have := h.lt; omega
  have tb : Turns (fun k => s.ownBlock = some k) w w3 := (Turns.of_below hb).trans ht (fun _ _ e => e)
  refine ⟨s3, ⟨?_, hr.keep t1 (fun g hg e => hne3 (by rw [hg, e])), hne3, h.low⟩, ?_, (tb.mono (fun k _ e => .inr e)).trans t1 (fun k _ e => .inl e)⟩
  · exact row_set ((tb.block p h.lt h.ne).trans h.box) 0 _
  · rcases ho with e | e
    · exact .inl e
    · exact .inr ⟨_, e, hsz⟩
end
abbrev nb (K : IntKind) (n : Nt) : Array Value := #[.int .i64 n.s, .int .i64 n.t, .int K (n.k : Int), .int .u32 n.a, .int .i64 n.o, .int .u32 n.b, .int .u64 n.v]
theorem below1 (w : World) (o : Obj) : Below w.heap.size w (w.alloc o) := (Below.refl _ _).alloc (Nat.le_refl _) _
theorem rd_note (w : World) (n : Nt) : Rd (w.alloc (.cells (nb .u8 n) 250)) (w.heap.size + 1) (some ⟨w.heap.size, 0, none⟩) (flat .u8 [n]) := fun _ =>
  ⟨w.heap.size, 0, rfl, by omega, fun j u e => by rw [Nat.zero_add, cell_row (heap_alloc_new w _)]; rw [flat_one] at e; simpa using e⟩
theorem add_any {w : World} {base p : Nat} {s : Value} {D : List Nt} (h : LAt 264 .u8 w base p s D) (hbase : base ≤ w.heap.size) (hT : Tab w) (n : Nt) (hk : n.k < 256) (hlen : D.length ≤ 100000) :
    Calls Tryz.prog 184 #[Pt p, ag .u8 n] w fun e w' => e = .returned (.int .i64 (addE D n)) ∧ Leaves 264 .u8 w w' base p s (addD D n) := by
  have hb : Below w.heap.size w (w.alloc (.cells (nb .u8 n) 250)) := (Below.refl _ _).alloc (Nat.le_refl _) _
  have hq := isKind_any n.k hk _ (hT.below hb hT.1)
  have h1 := h.new hb
  have hf := falls_any h1 (by omega) n.s
  have HB := Lib.hid hb; have HQ := Lib.hid hq; have HF := Lib.hid hf; have H := Lib.hid h; have HBS := Lib.hid hbase
  have hlt := h.lt
  have hc0 := h1.cell
  have hf0 := h1.froz
  have HC0 := Lib.hid hc0
  have HF0 := Lib.hid hf0
  clear hb hq hf h hbase hT h1 hc0 hf0
  cases hki : isK n.k
  · have hr : refB D n = true := by simp [refB, hki]
    rw [(addD_yes hr).1, (addD_yes hr).2]
    rw [hki] at HQ
    clear HF HC0 HF0
    go_enter Tryz.func184, Tryz.ntmps184
    go_wp2_with (go_at_call 190; refine HQ.out.mono ?_; rintro e w' ⟨rfl, rfl⟩)
    go_ret
    exact ⟨rfl, Leaves.same H.out HB.out⟩
  · rw [hki] at HQ
    cases hfa : fallsB D n.s
    · have hr : refB D n = false := by simp [refB, hki, hfa]
      rw [(addD_no hr).1, (addD_no hr).2]
      rw [hfa] at HF
      have hrow := (H.out.new HB.out).own
      have HROW := Lib.hid hrow
      obtain ⟨A, cap, hs, hcap, hc9⟩ := hrow.shape
      clear hrow
      subst hs
      have c0 := HC0.out
      have hmax : decide ((1048576 : Int) ≤ (D.length : Int)) = false := by rw [decide_eq_false_iff_not]; omega
      have HMAX := Lib.hid hmax
      clear hmax
      go_enter Tryz.func184, Tryz.ntmps184
      go_upto_if 19 with (first
        | (go_at_call 190; refine HQ.out.mono ?_; rintro e w' ⟨rfl, rfl⟩)
        | (go_at_call 191; refine HF.out.mono ?_; rintro e w' ⟨rfl, rfl⟩))
      rw [HMAX.out]
      go_upto_region 7 with (fail)
      have hnew := heap_alloc_new w (.cells (nb .u8 n) 250)
      have n0 := cell_row hnew 0; have n1 := cell_row hnew 1; have n2 := cell_row hnew 2; have n3 := cell_row hnew 3; have n4 := cell_row hnew 4; have n5 := cell_row hnew 5; have n6 := cell_row hnew 6
      have f0 := HF0.out
      have hfin := fun wy w3 s3 (hy : Below w.heap.size w wy) => leaves_put (w' := wy) (w3 := w3) (s3 := s3) (F := D ++ [n]) H.out hy
      have HFIN := Lib.hid hfin
      have hy := fun o => (HB.out.alloc (by simp) o).drew
      have HY := Lib.hid hy
      clear hy
      have hltb : p < (w.alloc (.cells (nb .u8 n) 250)).heap.size := by simp; omega
      have hbsb : base ≤ (w.alloc (.cells (nb .u8 n) 250)).heap.size := by have := HBS.out; simp; omega
      have HBSB := Lib.hid hbsb
      have hne : ¬ (Value.slice A D.length cap).ownBlock = some p := H.out.ne
      have HNE := Lib.hid hne
      generalize w.heap.size = X at *
      clear HC0 HF0 hfin hnew hne hbsb HQ HF
      generalize w.alloc (.cells (nb .u8 n) 250) = wb at *
      simp only [List.getElem?_toArray, List.getElem?_cons_zero, List.getElem?_cons_succ] at n0 n1 n2 n3 n4 n5 n6
      go_region_law (first
        | (refine step_append_row (v := .slice A D.length cap) layP rfl _ _ rfl (by rfl) (HROW.out.new (below1 _ _)).drew (flat_one' _ _) (by have := HBSB.out; simp; omega) 1 rfl (rd_note wb n) rfl (flat_one' _ _) (by omega) ?_; intro v3 w3 hr3 ht3 ho3; obtain ⟨A3, cap3, hv3, _, _⟩ := hr3.shape; subst hv3; (have c3 : w3.cell? ⟨p, 0, none⟩ = some (.slice A D.length cap) := (ht3.cell (by simp; omega) HNE.out).trans (((below1 wb.drew _).cell (p := ⟨p, 0, none⟩) hltb).trans c0)); (have f3 : w3.frozen? ⟨p, 0, none⟩ = false := (ht3.frozen (by simp; omega) HNE.out).trans (((Turns.of_below (S := fun _ => False) (below1 wb.drew _)).frozen hltb (fun e => e)).trans f0))))
      all_goals
        have hr4 : Row w3 base 7 (.slice A3 (D.length + 1) cap3) (D ++ [n]).length (flat .u8 (D ++ [n])) := by rw [flat_app, List.length_append]; exact hr3
        have HR4 := Lib.hid hr4; have HT4 := Lib.hid ht3; have HO4 := Lib.hid ho3
        clear hr4 ht3 ho3 hr3 c3 f3 n0 n1 n2 n3 n4 n5 n6
        go_wp2_with fail
        go_ret
        exact ⟨rfl, HFIN.out _ _ _ (HY.out _) HR4.out HT4.out HO4.out⟩
    · have hr : refB D n = true := by simp [refB, hfa]
      rw [(addD_yes hr).1, (addD_yes hr).2]
      rw [hfa] at HF
      clear HC0 HF0
      go_enter Tryz.func184, Tryz.ntmps184
      go_wp2_with (first
        | (go_at_call 190; refine HQ.out.mono ?_; rintro e w' ⟨rfl, rfl⟩)
        | (go_at_call 191; refine HF.out.mono ?_; rintro e w' ⟨rfl, rfl⟩))
      go_ret
      exact ⟨rfl, Leaves.same H.out HB.out⟩
end Go.Proofs.YtpmafdggbeppcaaGreatDoor.S11
namespace Go.Proofs.YtpmafdggbeppcaaGreatDoor.S12
open Go.Proofs.YtpmafdggbeppcaaGreatDoor Go.Proofs.YtpmafdggbeppcaaGreatDoor.S11
open Go.RowKit
def L02 : S2.LL := S2.newL (fun _ => 0) (fun _ => 2) 1
def cellsP (B : Nat) (M : Option Nat) (L : S2.LL) (n k a was is : Nat) : Part where
  ok w := S2.CellsAt w B M L n k a was is
  fp k := S2.Fp B M k
  lt w h k e := h.lt k e
  kept S w w' h t hs := h.kept (S := S) ⟨t.os, t.tape, t.output, t.size, t.block⟩ hs
def clockP (base B T most : Nat) (s : Value) (D : List Nat) : Part where
  ok w := S3.ClockAt w base B T most s D
  fp k := k = B ∨ s.ownBlock = some k
  lt w h k e := by
    rcases e with rfl | e
    · exact h.lt
    · exact (h.own.lt k e).2
  kept S w w' h t hs := h.kept (S := S) ⟨t.os, t.tape, t.output, t.size, t.block⟩ (hs B (.inl rfl)) (fun g e => hs g (.inr e))
def permitsP (B : Nat) (f : Nat → S4.Pk) (n kd pk : Int) : Part where
  ok w := S4.PkAt w B f n kd pk
  fp k := k = B
  lt w h k e := by rw [e]; exact h.lt
  kept S w w' h t hs := h.kept (T := S) t (hs B rfl)
def linksP (B : Nat) (S : S5.Lk) : Part where
  ok w := S5.Has w B S
  fp k := k = B
  lt w h k e := by rw [e]; exact h.lt
  kept S w w' h t hs := h.kept (T := S) ⟨t.os, t.tape, t.output, t.size, t.block⟩ (hs B rfl)
def tablesP (base : Nat) (own : Nat → Option S10.Role) (s : Value) (n : Nat) (M : Int → List S10.Bk) : Part where
  ok w := S10.St w base own s n M
  fp k := S10.Mine own k
  lt w h k e := (h.fp e).2
  kept S w w' h t hs := h.keep (S := S) ⟨t.os, t.tape, t.output, t.size, t.block⟩ hs
def notesP (T : Nat) (K : IntKind) (base p : Nat) (s : Value) (D : List S11.Nt) : Part where
  ok w := S11.LAt T K w base p s D
  fp k := k = p ∨ s.ownBlock = some k
  lt w h k e := by
    rcases e with rfl | e
    · exact h.lt
    · exact (h.own.lt k e).2
  kept S w w' h t hs := h.kept (S := S) t (hs p (.inl rfl)) (fun g e => hs g (.inr e))
section
variable {w w' : World} {base b0 i : Nat} {l : List Part}
theorem t_cells {B : Nat} {M : Option Nat} {L L' : S2.LL} {n k a was is n' k' a' was' is' : Nat} (h : Parts w base l) (hi : l[i]? = some (cellsP B M L n k a was is)) (hl : S2.Left w w' B M L' n' k' a' was' is') :
    ∃ M', Parts w' base (l.set i (cellsP B M' L' n' k' a' was' is')) ∧ Below base w w' := by
  obtain ⟨M', c, sm, t⟩ := hl
  refine ⟨M', h.turn hi (cellsP B M' L' n' k' a' was' is') c ⟨t.os, t.tape, t.output, t.size, t.block⟩ (fun k e => ?_)⟩
  rcases e with e | e
  · exact .inl (.inl e)
  · rcases sm k e with e | e
    · exact .inl (.inr e)
    · exact .inr e
theorem t_clock {B T most T' most' : Nat} {s s' : Value} {D D' : List Nat} (h : Parts w base l) (hi : l[i]? = some (clockP b0 B T most s D)) (c : S3.ClockAt w' b0 B T' most' s' D') (ho : ∀ g, s'.ownBlock = some g → s.ownBlock = some g ∨ w.heap.size ≤ g) (t : S3.Turns (fun k => k = B ∨ s.ownBlock = some k) w w') :
    Parts w' base (l.set i (clockP b0 B T' most' s' D')) ∧ Below base w w' := by
  refine h.turn hi (clockP b0 B T' most' s' D') c ⟨t.os, t.tape, t.output, t.size, t.block⟩ (fun k e => ?_)
  rcases e with e | e
  · exact .inl (.inl e)
  · rcases ho k e with e | e
    · exact .inl (.inr e)
    · exact .inr e
theorem t_permits {B : Nat} {f f' : Nat → S4.Pk} {n kd pk n' kd' pk' : Int} (h : Parts w base l) (hi : l[i]? = some (permitsP B f n kd pk)) (hp : S4.PSets w w' B f' n' kd' pk') :
    Parts w' base (l.set i (permitsP B f' n' kd' pk')) ∧ Below base w w' :=
  h.turn hi (permitsP B f' n' kd' pk') hp.1 hp.2.1 (fun k e => .inl e)
theorem t_links {B : Nat} {S S' : S5.Lk} (h : Parts w base l) (hi : l[i]? = some (linksP B S)) (hp : S5.Sets w w' B S') :
    Parts w' base (l.set i (linksP B S')) ∧ Below base w w' := by
  obtain ⟨c, t⟩ := hp
  exact h.turn hi (linksP B S') c ⟨t.os, t.tape, t.output, t.size, t.block⟩ (fun k e => .inl e)
theorem t_tables {own own' : Nat → Option S10.Role} {s : Value} {n n' : Nat} {M M' : Int → List S10.Bk} (h : Parts w base l) (hi : l[i]? = some (tablesP b0 own s n M)) (c : S10.St w' b0 own' s n' M') (t : S10.Turns (S10.Mine own) w w') (f : S10.Fresh own own' w) :
    Parts w' base (l.set i (tablesP b0 own' s n' M')) ∧ Below base w w' :=
  h.turn hi (tablesP b0 own' s n' M') c ⟨t.os, t.tape, t.output, t.size, t.block⟩ (fun k ⟨r, e⟩ => f k r e)
theorem t_notes {T p : Nat} {K : IntKind} {s : Value} {D F : List S11.Nt} (h : Parts w base l) (hi : l[i]? = some (notesP T K b0 p s D)) (hl : S11.Leaves T K w w' b0 p s F) :
    ∃ s', Parts w' base (l.set i (notesP T K b0 p s' F)) ∧ Below base w w' := by
  obtain ⟨s', c, ho, t⟩ := hl
  refine ⟨s', h.turn hi (notesP T K b0 p s' F) c t (fun k e => ?_)⟩
  rcases e with e | e
  · exact .inl (.inl e)
  · rcases ho with ho | ⟨g, ho, hg⟩
    · rw [ho] at e; exact .inl (.inr e)
    · rw [ho] at e; injection e with e; subst e; exact .inr hg
end
end Go.Proofs.YtpmafdggbeppcaaGreatDoor.S12
namespace Go.Proofs.YtpmafdggbeppcaaGreatDoor.S8
open Go.Proofs.YtpmafdggbeppcaaGreatDoor
open Go.RowKit
section
variable {T : TypeId} {w w' : World} {B a f : Nat}
end
end Go.Proofs.YtpmafdggbeppcaaGreatDoor.S8
namespace Go.Proofs.YtpmafdggbeppcaaGreatDoor.S8
open Go.Proofs.YtpmafdggbeppcaaGreatDoor
open Go.RowKit
section
variable {T : TypeId} {w w' : World} {B : Nat} {a f : Int}
end
end Go.Proofs.YtpmafdggbeppcaaGreatDoor.S8
namespace Go.Proofs.YtpmafdggbeppcaaGreatDoor.S12
open Go.Proofs.YtpmafdggbeppcaaGreatDoor Go.Proofs.YtpmafdggbeppcaaGreatDoor.S11
open Go.RowKit
theorem bcell {w w' : World} {a : Addr} {v : Value} (h : Below w.heap.size w w') (hc : w.cell? a = some v) : w'.cell? a = some v := by
  have hl : a.block < w.heap.size := by
    unfold World.cell? at hc
    cases hb : w.heap[a.block]? with
    | none => simp [hb] at hc
    | some x => exact (Array.getElem?_eq_some_iff.1 hb).1
  exact (h.cell hl).trans hc
def TmIn (w : World) (B : Nat) (a f : Int) : Prop := w.heap[B]? = some (.cells #[.int .u64 a, .int .u64 f] 125 (0, 0))
section
variable {w w' : World} {B : Nat} {a f : Int}
theorem TmIn.lt (h : TmIn w B a f) : B < w.heap.size := (Array.getElem?_eq_some_iff.1 h).1
theorem TmIn.c0 (h : TmIn w B a f) : w.cell? ⟨B, 0, none⟩ = some (.int .u64 a) := by simp [World.cell?, show w.heap[B]? = _ from h]
theorem TmIn.c1 (h : TmIn w B a f) : w.cell? ⟨B, 1, none⟩ = some (.int .u64 f) := by simp [World.cell?, show w.heap[B]? = _ from h]
theorem TmIn.new (h : TmIn w B a f) (b : Below w.heap.size w w') : TmIn w' B a f := (b.block B h.lt).trans h
theorem TmIn.put (h : TmIn w B a f) (x y : Int) : TmIn ((w.setCell ⟨B, 0, none⟩ (.int .u64 x)).setCell ⟨B, 1, none⟩ (.int .u64 y)) B x y := by
  have h' : w.heap[B]? = _ := h
  simp [TmIn, World.setCell, Array.getElem?_modify, h']
end
end Go.Proofs.YtpmafdggbeppcaaGreatDoor.S12
namespace Go.Proofs.YtpmafdggbeppcaaGreatDoor.S12
set_option maxRecDepth 100000
set_option maxHeartbeats 16000000
open Go.Proofs.YtpmafdggbeppcaaGreatDoor Go.Proofs.YtpmafdggbeppcaaGreatDoor.S11
open Go.RowKit
noncomputable def pcells (a b c d e f : Value) (spin : Int) : Array Value := ((((((Tryz.zeroCells74.setIfInBounds 0 a).setIfInBounds 1 b).setIfInBounds 2 c).setIfInBounds 3 d).setIfInBounds 4 e).setIfInBounds 5 f).setIfInBounds 6 (.int .i64 spin)
theorem zsize : Tryz.zeroCells74.size = 71 := by kernel_rfl
theorem pc0 (a b c d e f : Value) (sp : Int) : (pcells a b c d e f sp)[0]? = some a := by
  simp [pcells, Array.getElem?_setIfInBounds, zsize]
theorem pc1 (a b c d e f : Value) (sp : Int) : (pcells a b c d e f sp)[1]? = some b := by
  simp [pcells, Array.getElem?_setIfInBounds, zsize]
theorem pc2 (a b c d e f : Value) (sp : Int) : (pcells a b c d e f sp)[2]? = some c := by
  simp [pcells, Array.getElem?_setIfInBounds, zsize]
theorem pc3 (a b c d e f : Value) (sp : Int) : (pcells a b c d e f sp)[3]? = some d := by
  simp [pcells, Array.getElem?_setIfInBounds, zsize]
theorem pc4 (a b c d e f : Value) (sp : Int) : (pcells a b c d e f sp)[4]? = some e := by
  simp [pcells, Array.getElem?_setIfInBounds, zsize]
theorem pc5 (a b c d e f : Value) (sp : Int) : (pcells a b c d e f sp)[5]? = some f := by
  simp [pcells, Array.getElem?_setIfInBounds, zsize]
theorem pc6 (a b c d e f : Value) (sp : Int) : (pcells a b c d e f sp)[6]? = some (.int .i64 sp) := by
  simp [pcells, Array.getElem?_setIfInBounds, zsize]
structure Wm where
  cB : Nat
  cM : Option Nat
  L : S2.LL
  n : Nat
  k : Nat
  a : Nat
  was : Nat
  is : Nat
  kb : Nat
  kB : Nat
  T : Nat
  most : Nat
  ks : Value
  D : List Nat
  pB : Nat
  pf : Nat → S4.Pk
  pn : Nat
  pk : Int
  pp : Int
  lB : Nat
  lk : S5.Lk
  tb : Nat
  tO : Nat → Option S10.Role
  ts : Value
  tn : Nat
  tM : Int → List S10.Bk
  nb : Nat
  nB : Nat
  ns : Value
  nD : List Nt
  wB : Nat
  sp : Int
abbrev Pw (B : Nat) : Value := .pointer (some ⟨B, 0, none⟩)
noncomputable def Wm.cs (X : Wm) : Array Value := pcells (Pw X.cB) (Pw X.kB) (Pw X.pB) (Pw X.lB) X.ts (Pw X.nB) X.sp
noncomputable def Wm.parts (X : Wm) : List Part := [cellsP X.cB X.cM X.L X.n X.k X.a X.was X.is, clockP X.kb X.kB X.T X.most X.ks X.D, permitsP X.pB X.pf (X.pn : Int) X.pk X.pp, linksP X.lB X.lk, tablesP X.tb X.tO X.ts X.tn X.tM, notesP 264 .u8 X.nb X.nB X.ns X.nD, blockP X.wB (.cells X.cs 74)]
def PW (w : World) (base : Nat) (X : Wm) : Prop := Parts w base X.parts
section
variable {w w' : World} {base : Nat} {X : Wm}
theorem PW.cells (h : PW w base X) : S2.CellsAt w X.cB X.cM X.L X.n X.k X.a X.was X.is := h.ok 0 _ rfl
theorem PW.clock (h : PW w base X) : S3.ClockAt w X.kb X.kB X.T X.most X.ks X.D := h.ok 1 _ rfl
theorem PW.permits (h : PW w base X) : S4.PkAt w X.pB X.pf (X.pn : Int) X.pk X.pp := h.ok 2 _ rfl
theorem PW.links (h : PW w base X) : S5.Has w X.lB X.lk := h.ok 3 _ rfl
theorem PW.tables (h : PW w base X) : S10.St w X.tb X.tO X.ts X.tn X.tM := h.ok 4 _ rfl
theorem PW.notes (h : PW w base X) : S11.LAt 264 .u8 w X.nb X.nB X.ns X.nD := h.ok 5 _ rfl
theorem PW.own (h : PW w base X) : w.heap[X.wB]? = some (.cells X.cs 74) := h.ok 6 _ rfl
theorem PW.new (h : PW w base X) (b : Below w.heap.size w w') : PW w' base X := Parts.new h b
theorem PW.drew (h : PW w base X) : PW w.drew base X := Parts.drew h
theorem PW.size (h : PW w base X) : base ≤ w.heap.size := Parts.size h
theorem PW.c0 (h : PW w base X) : w.cell? ⟨X.wB, 0, none⟩ = some (Pw X.cB) := (cell_row h.own 0).trans (pc0 _ _ _ _ _ _ _)
theorem PW.c1 (h : PW w base X) : w.cell? ⟨X.wB, 1, none⟩ = some (Pw X.kB) := (cell_row h.own 1).trans (pc1 _ _ _ _ _ _ _)
theorem PW.c2 (h : PW w base X) : w.cell? ⟨X.wB, 2, none⟩ = some (Pw X.pB) := (cell_row h.own 2).trans (pc2 _ _ _ _ _ _ _)
theorem PW.c3 (h : PW w base X) : w.cell? ⟨X.wB, 3, none⟩ = some (Pw X.lB) := (cell_row h.own 3).trans (pc3 _ _ _ _ _ _ _)
theorem PW.c4 (h : PW w base X) : w.cell? ⟨X.wB, 4, none⟩ = some X.ts := (cell_row h.own 4).trans (pc4 _ _ _ _ _ _ _)
theorem PW.c5 (h : PW w base X) : w.cell? ⟨X.wB, 5, none⟩ = some (Pw X.nB) := (cell_row h.own 5).trans (pc5 _ _ _ _ _ _ _)
theorem PW.c6 (h : PW w base X) : w.cell? ⟨X.wB, 6, none⟩ = some (.int .i64 X.sp) := (cell_row h.own 6).trans (pc6 _ _ _ _ _ _ _)
end
def Foot (X : Wm) (k : Nat) : Prop := ∃ (i : Nat) (p : Part), X.parts[i]? = some p ∧ p.fp k
theorem PW.foot_lt {w : World} {base : Nat} {X : Wm} (h : PW w base X) {k : Nat} (hk : Foot X k) : k < w.heap.size := by
  obtain ⟨i, p, hp, hf⟩ := hk
  exact p.lt w (h.ok i p hp) k hf
theorem PW.keep {S : Nat → Prop} {w w' : World} {base : Nat} {X : Wm} (h : PW w base X) (t : Turns S w w') (hs : ∀ k, Foot X k → ¬ S k) : PW w' base X :=
  Parts.kept h t (fun i p hp k hk => hs k ⟨i, p, hp, hk⟩)
theorem steps_any {w : World} {base : Nat} {X : Wm} (h : PW w base X) (h1 : X.n ≤ 1000000000) (h2 : X.pn ≤ 1000000000) :
    Calls Tryz.prog 100 #[Pw X.wB] w fun e w' => e = .returned (.int .i64 ((X.n + X.pn : Nat) : Int)) ∧ Below w.heap.size w w' := by
  have hmf : ∀ (fn : Fn) (first cap : Array Value) (w : World), (Instr.makeFunc fn first cap).run Tryz.prog w = .ok (.func fn first cap) w := fun _ _ _ _ => rfl
  have hi0 : ∀ (x y : Value) (w : World), (Instr.index 292 (.agg #[x, y]) (.int .i64 0)).run Tryz.prog w = .ok x w := fun _ _ _ => by kernel_rfl
  have hi1 : ∀ (x y : Value) (w : World), (Instr.index 292 (.agg #[x, y]) (.int .i64 1)).run Tryz.prog w = .ok y w := fun _ _ _ => by kernel_rfl
  have HC := Lib.hid (fun (W : World) (b : Below w.heap.size w W) => S2.count_any W X.cB X.cM X.L X.n X.k X.a X.was X.is (h.new b).cells)
  have HP := Lib.hid (fun (W : World) (b : Below w.heap.size w W) => S4.pcount_any (h.new b).permits)
  have c0 := h.c0; have c2 := h.c2
  clear h
  obtain ⟨cB, cM, L, n, k, a, was, is, kb, kB, T, most, ks, D, pB, pf, pn, pk, pp, lB, lk, tb, tO, ts, tn, tM, nb, nB, ns, nD, wB, sp⟩ := X
  dsimp only at *
  have hw1 : IntKind.i64.wrap (0 + (n : Int)) = (n : Int) := by rw [IntKind.wrap_i64]; omega
  have hw2 : IntKind.i64.wrap ((n : Int) + (pn : Int)) = ((n + pn : Nat) : Int) := by rw [IntKind.wrap_i64]; omega
  have HG1 : Hid (Value.int IntKind.i64 (wrap64 (n : Int)) = .int .i64 (n : Int)) := Lib.hid (by rw [show wrap64 (n : Int) = n from by unfold wrap64; omega])
  have HG2 : Hid (Value.int IntKind.i64 (wrap64 ((n : Int) + (pn : Int))) = .int .i64 ((n + pn : Nat) : Int)) := Lib.hid (by rw [show wrap64 ((n : Int) + (pn : Int)) = ((n + pn : Nat) : Int) from by unfold wrap64; omega])
  clear h1 h2 hw1 hw2
  generalize ((n + pn : Nat) : Int) = tot at *
  go_enter Tryz.func100, Tryz.ntmps100
  go_wp2_with fail
  go_quiet (fail)
  go_wp2_with fail
  have HB0 : Hid (Below w.heap.size w (w.drewN nq)) := Lib.hid ⟨rfl, rfl, rfl, Nat.le_refl _, fun _ _ => rfl⟩
  go_loopg [3, 5, 19] 2 (fun q s3 s5 s19 wx => Below w.heap.size w wx ∧ ((q = 2 ∧ s19 = .int .i64 0 ∧ s3 = .int .i64 0) ∨ (q = 1 ∧ s19 = .int .i64 1 ∧ s3 = .int .i64 (n : Int)) ∨ (q = 0 ∧ s19 = .int .i64 2 ∧ s3 = .int .i64 tot)))
  case atStart => exact ⟨HB0.out, .inl ⟨rfl, rfl, rfl⟩⟩
  case round =>
    obtain ⟨hb, h⟩ := hrel
    have HB := Lib.hid hb
    clear hb
    rcases h with ⟨rfl, rfl, rfl⟩ | ⟨rfl, rfl, rfl⟩ | ⟨rfl, rfl, rfl⟩
    · go_wp2_with (go_at_call 106; refine (HC.out _ HB.out).mono ?_; rintro e w' ⟨rfl, rfl⟩)
      go_roundg 1
      case measure => omega
      case rel => exact ⟨HB.out, .inr (.inl ⟨rfl, rfl, HG1.out⟩)⟩
    · go_wp2_with (go_at_call 132; refine (HP.out _ HB.out).mono ?_; rintro e w' ⟨rfl, rfl⟩)
      go_roundg 0
      case measure => omega
      case rel => exact ⟨HB.out, .inr (.inr ⟨rfl, rfl, HG2.out⟩)⟩
    · go_wp2_with fail
      go_ret
      exact ⟨rfl, HB.out⟩
end Go.Proofs.YtpmafdggbeppcaaGreatDoor.S12
namespace Go.Proofs.YtpmafdggbeppcaaGreatDoor.S12
open Go.Proofs.YtpmafdggbeppcaaGreatDoor Go.Proofs.YtpmafdggbeppcaaGreatDoor.S11
open Go.RowKit
end Go.Proofs.YtpmafdggbeppcaaGreatDoor.S12
namespace Go.Proofs.YtpmafdggbeppcaaGreatDoor.S5
open Go.Proofs.YtpmafdggbeppcaaGreatDoor
open Go.RowKit
def go : Nat → Lk → Nat → Lk × Option Nat
  | 0, S, a => (S, some a)
  | n + 1, S, a => if S (a * 3 + 2) = 0 then (if S (a * 3) = 0 then (S, none) else go n (upd S ((S (a * 3) - 1) * 3 + 1) (a + 1)) (S (a * 3) - 1)) else (S, some a)
def closeS (t : Nat) : Lk × Option Nat → Lk × Nat
  | (S, none) => (S, 0)
  | (S, some a) => (upd S (t * 3 + 2) (S (a * 3 + 2)), S (a * 3 + 2))
def seekS (S : Lk) (t : Nat) : Lk × Nat := closeS t (go 64 S t)
end Go.Proofs.YtpmafdggbeppcaaGreatDoor.S5
namespace Go.Proofs.YtpmafdggbeppcaaGreatDoor.S5
open Go.Proofs.YtpmafdggbeppcaaGreatDoor
open Go.RowKit
def seekO (S : Lk) : Option Nat → Lk × Nat
  | some t => seekS S t
  | none => (S, 0)
def cutO (S : Lk) : Option Nat → Option Nat → Lk × Nat
  | some h, some t => (if S (t * 3 + 1) = 0 then S else upd S (h * 3 + 2) (S (t * 3 + 1)), S (t * 3 + 1))
  | _, _ => (S, 0)
end Go.Proofs.YtpmafdggbeppcaaGreatDoor.S5
namespace Go.Proofs.YtpmafdggbeppcaaGreatDoor.S5
open Go.Proofs.YtpmafdggbeppcaaGreatDoor
open Go.RowKit
def lnk3 (S : Lk) (t : Nat) : Value := .tuple #[.int .i64 ((S (t * 3) : Int) - 1), .int .i64 ((S (t * 3 + 1) : Int) - 1), .int .i64 ((S (t * 3 + 2) : Int) - 1)]
theorem below0 (w : World) : Below w.heap.size w w.drew := ⟨rfl, rfl, rfl, Nat.le_refl _, fun _ _ => rfl⟩
theorem rat_yes {w : World} {B : Nat} {S : Lk} (h : Has w B S) (t : Nat) (ht : t < 64) : Calls Tryz.prog 62 #[Pt B, .int .i64 (t : Int)] w fun e w' => e = .returned (lnk3 S t) ∧ Below w.heap.size w w' := by
  unfold lnk3
  have hh := is_yes t ht
  have c0 := h.cell (t * 3) (by omega)
  have c1 := h.cell (t * 3 + 1) (by omega)
  have c2 := h.cell (t * 3 + 2) (by omega)
  have l0 := h.le (t * 3)
  have l1 := h.le (t * 3 + 1)
  have l2 := h.le (t * 3 + 2)
  have HH := Lib.hid hh
  clear hh h
  generalize S (t * 3) = x at *
  generalize S (t * 3 + 1) = y at *
  generalize S (t * 3 + 2) = z at *
  go_enter Tryz.func62, Tryz.ntmps62
  go_wp2_with fail
  refine (HH.out _).mono ?_
  rintro e w' ⟨rfl, rfl⟩
  go_wp2_with fail
  go_region
  all_goals
    go_wp2_with fail
    go_ret3
    exact ⟨rfl, below0 w⟩
end Go.Proofs.YtpmafdggbeppcaaGreatDoor.S5
namespace Go.Proofs.YtpmafdggbeppcaaGreatDoor.S5
open Go.Proofs.YtpmafdggbeppcaaGreatDoor
open Go.RowKit
end Go.Proofs.YtpmafdggbeppcaaGreatDoor.S5
namespace Go.Proofs.YtpmafdggbeppcaaGreatDoor.S5
open Go.Proofs.YtpmafdggbeppcaaGreatDoor
open Go.RowKit
end Go.Proofs.YtpmafdggbeppcaaGreatDoor.S5
namespace Go.Proofs.YtpmafdggbeppcaaGreatDoor.S5
open Go.Proofs.YtpmafdggbeppcaaGreatDoor
open Go.RowKit
def Z192 : Array Value := Array.replicate 192 (.int .i64 0)
theorem zero46 (w : World) : (zeroValue 256).run Tryz.prog w = .ok (.agg Z192) w := by kernel_rfl
def S0 : Lk := fun _ => 0
theorem cell_row {w : World} {B : Nat} {cs : Array Value} {T : TypeId} (h : w.heap[B]? = some (.cells cs T (0, 0))) (o : Nat) : w.cell? ⟨B, o, none⟩ = cs[o]? := by
  simp [World.cell?, h]
theorem froz_row {w : World} {B : Nat} {cs : Array Value} {T : TypeId} (h : w.heap[B]? = some (.cells cs T (0, 0))) (o : Nat) : w.frozen? ⟨B, o, none⟩ = false := by
  simp [World.frozen?, h]
theorem z192 {i : Nat} (hi : i < 192) : Z192[i]? = some (.int .i64 0) := by
  unfold Z192
  rw [Array.getElem?_replicate, if_pos hi]
theorem has_row {w : World} {B : Nat} {T : TypeId} (hb : w.heap[B]? = some (.cells Z192 T (0, 0))) : Has w B S0 :=
  ⟨(Array.getElem?_eq_some_iff.1 hb).1, fun i hi => (cell_row hb i).trans (z192 hi), fun i _ => froz_row hb i, fun _ => Nat.zero_le _⟩
theorem has_zero (w : World) (T : TypeId) : Has (w.alloc (.cells Z192 T)) w.heap.size S0 := has_row (heap_alloc_new w _)
theorem new_any (w : World) : Calls Tryz.prog 80 #[] w fun e w' => e = .returned (Pt w.heap.size) ∧ Has w' w.heap.size S0 ∧ Below w.heap.size w w' := by
  have z := zero46
  go_enter Tryz.func80, Tryz.ntmps80
  go_wp2_with fail
  go_ret
  exact ⟨rfl, has_zero w 256, below1 w _⟩
section
variable {w : World} {B : Nat} {S S' : Lk} {x y v : Int} {o p : Option Nat} {r : Nat}
end
end Go.Proofs.YtpmafdggbeppcaaGreatDoor.S5
