/- Texts of this seat, one behind the other. -/
import Derived.Test.YtieiiabbeglmfaaGreatDoorMLawFair2043
set_option linter.unusedVariables false
set_option linter.unusedSimpArgs false
set_option linter.unusedVariables false
set_option linter.unusedSimpArgs false
namespace Go.Proofs.YtieiiabbeglmfaaGreatDoor.S10
open Go.Proofs.YtieiiabbeglmfaaGreatDoor
open Go.RowKit
section
variable {w : World} {s : Value} {F : Int → Value} {M : Int → List Bk} {b : Int}
end
section
variable {w : World} {base : Nat} {own : Nat → Option Role} {s : Value} {n : Nat} {M : Int → List Bk} {b : Int}
theorem putT_yes (h : St w base own s n M) (hb : InI b) {i : Nat} (hi : i < (M b).length) (ta tf : Int) :
    Calls Tryz.prog 34 #[s, .agg #[.int .i64 b, .int .i64 (i : Int)], .agg #[.int .u64 ta, .int .u64 tf]] w fun e w' => e = .returned (.bool true) ∧ St w' base own s n (upd M b ((M b).set i { (M b)[i]! with a := ta, f := tf })) ∧ Turns (Mine own) w w' := by
  obtain ⟨sb, mb, F, V, hf⟩ := h
  obtain ⟨g, o, c, hF, hog, hcs⟩ := hf.bk hi
  have HT := Lib.hid (fun W hW => at_yes (hf.rs.sv.below (w' := W) hW) hb hF hi)
  obtain ⟨v0, k0, f0⟩ := hcs 0 (by omega)
  obtain ⟨v1, k1, f1⟩ := hcs 1 (by omega)
  rw [Nat.add_zero] at k0 f0
  have hgl := (hf.fp g _ hog).2
  have HK := Lib.hid (fun W (hb : Below w.heap.size w W) => (⟨(hb.cell (p := ⟨g, o + i * 3, none⟩) hgl).trans k0, (hb.cell (p := ⟨g, o + i * 3 + 1, none⟩) hgl).trans k1, (hb.frozen (p := ⟨g, o + i * 3, none⟩) hgl).trans f0, (hb.frozen (p := ⟨g, o + i * 3 + 1, none⟩) hgl).trans f1⟩ : _ ∧ _ ∧ _ ∧ _))
  have HF := Lib.hid hF; have HST := Lib.hid hf; have HI := Lib.hid hi; have HOG := Lib.hid hog; have HGL := Lib.hid hgl
  clear hf hF hcs k0 f0 k1 f1 hi hog
  have hbb : Below w.heap.size w ((w.alloc (.cells #[.int .i64 b, .int .i64 (i : Int)] 97)).alloc (.cells #[.int .u64 ta, .int .u64 tf] 100)) := (below1 w _).alloc (by simp) _
  have HBB := Lib.hid hbb
  clear hbb
  go_enter Tryz.func34, Tryz.ntmps34
  go_wp2_with fail
  refine (HT.out _ HBB.out).mono ?_
  rintro e w1 ⟨rfl, hb1⟩
  have hx := pair_facts hb1
  rw [show (w.alloc (.cells #[Value.int .i64 b, .int .i64 (i : Int)] 97)).heap.size = w.heap.size + 1 by simp] at hx
  have HB1 := Lib.hid (HBB.out.trans (hb1.mono HBB.out.size))
  clear hb1
  have x0 : w1.cell? ⟨w.heap.size + 1, 0, none⟩ = some (.int .u64 ta) := cell_row hx 0
  have x1 : w1.cell? ⟨w.heap.size + 1, 1, none⟩ = some (.int .u64 tf) := cell_row hx 1
  clear hx
  have hgX : g ≠ w.heap.size + 1 := by have := HGL.out; omega
  obtain ⟨k0, k1, f0, f1⟩ := HK.out w1 HB1.out
  obtain ⟨X, hX⟩ : ∃ X, X = w.heap.size + 1 := ⟨_, rfl⟩
  rw [← hX] at x0 x1 hgX ⊢
  clear hX
  go_upto_region 4 with (fail)
  go_region
  all_goals
    go_wp2_with fail
    go_ret
    have hS := (HST.out.keep (Turns.of_below (S := fun _ => False) HB1.out) (fun _ _ e => e)).putT HI.out HF.out ta tf
    refine ⟨rfl, ⟨sb, mb, F, V, hS.keep (Turns.refl (fun _ => False) _).drew (fun _ _ e => e)⟩, ?_⟩
    exact (((Turns.of_below HB1.out).setCell _ _ ⟨_, HOG.out⟩).setCell _ _ ⟨_, HOG.out⟩).drew
end
end Go.Proofs.YtieiiabbeglmfaaGreatDoor.S10
set_option linter.unusedVariables false
set_option linter.unusedSimpArgs false
namespace Go.Proofs.YtieiiabbeglmfaaGreatDoor.S8
open Go.Proofs.YtieiiabbeglmfaaGreatDoor
open Go.RowKit
def sat (a b : Nat) : Nat := if a + b ≤ 18446744073709551615 then a + b else 18446744073709551615
section
variable {T : TypeId} {w w' : World} {B a f : Nat}
end
theorem below1 (w : World) (o : Obj) : Below w.heap.size w (w.alloc o) := (Below.refl _ _).alloc (Nat.le_refl _) _
theorem fix_any (p q : Addr) (x n : Nat) (w : World) (hp : w.cell? p = some (.int .u64 x)) (hz : w.frozen? p = false) (hq : w.cell? q = some (.int .u64 n)) :
    CallsD Tryz.prog 261 #[.pointer (some p), .pointer (some q)] .returning w fun e u' w' => u' = .returning ∧ e = .returned (.tuple #[]) ∧ w' = if x < n then w.setCell p (.int .u64 (18446744073709551615 : Nat)) else w := by
  by_cases h : x < n
  · rw [if_pos h]
    go_enter_d Tryz.func261, Tryz.ntmps261
    go_wp2
    go_end0
    exact ⟨rfl, rfl⟩
  · rw [if_neg h]
    go_enter_d Tryz.func261, Tryz.ntmps261
    go_wp2
    go_end0
    exact ⟨rfl, rfl⟩
def rnd (a b : Nat) : Nat := (a + b) % 18446744073709551616
theorem rnd_wrap (a b : Nat) : IntKind.u64.wrap ((a : Int) + (b : Int)) = ((rnd a b : Nat) : Int) := by
  rw [IntKind.wrap_u64]; unfold rnd; omega
theorem rnd_sat {a b : Nat} (ha : a ≤ 18446744073709551615) (hb : b ≤ 18446744073709551615) : (if rnd a b < a then 18446744073709551615 else rnd a b) = sat a b := by
  unfold rnd sat
  split <;> split <;> omega
theorem end_any (n d : Nat) (hn : n ≤ 18446744073709551615) (hd : d ≤ 18446744073709551615) (w : World) : Calls Tryz.prog 249 #[.int .u64 n, .int .u64 d] w fun e w' => e = .returned (.int .u64 (sat n d : Nat)) ∧ Below w.heap.size w w' := by
  have hmf : ∀ (fn : Fn) (first cap : Array Value) (w : World), (Instr.makeFunc fn first cap).run Tryz.prog w = .ok (.func fn first cap) w := fun _ _ _ _ => rfl
  have hr := rnd_wrap n d
  have hs := rnd_sat hn hd
  generalize sat n d = r at *
  generalize rnd n d = s at *
  clear hn hd
  have HS := Lib.hid hs
  clear hs
  go_enter_defers Tryz.func249, Tryz.ntmps249
  go_wp2
  refine leaves_cons (f := 261) (args := #[.pointer (some ⟨w.heap.size + 1, 0, none⟩), .pointer (some ⟨w.heap.size, 0, none⟩)]) (by simp) (by simp [go_sem]) ?_
  refine (fix_any ⟨w.heap.size + 1, 0, none⟩ ⟨w.heap.size, 0, none⟩ s n _ (by simp [go_sem]) (by simp [go_sem]) (by simp [go_sem, World.cell?_alloc_lt])).mono ?_
  rintro e u' w'' ⟨rfl, rfl, rfl⟩
  have hb : Below w.heap.size w ((w.alloc (Obj.cells #[Value.int IntKind.u64 n] 23)).alloc (Obj.cells #[Value.int IntKind.u64 s] 23)) := ((Below.refl _ _).alloc (Nat.le_refl _) _).alloc (by simp) _
  by_cases h : s < n
  · have e := HS.out
    rw [if_pos h] at e
    subst e
    rw [if_pos h]
    simp [Leaves, settle, results, Tryz.results249, go_sem]
    exact ((Below.refl _ _).alloc (Nat.le_refl _) _).alloc (by simp) _
  · have e := HS.out
    rw [if_neg h] at e
    subst e
    rw [if_neg h]
    simp [Leaves, settle, results, Tryz.results249, go_sem]
    exact hb
end Go.Proofs.YtieiiabbeglmfaaGreatDoor.S8
set_option linter.unusedVariables false
set_option linter.unusedSimpArgs false
namespace Go.Proofs.YtieiiabbeglmfaaGreatDoor.S12
open Go.Proofs.YtieiiabbeglmfaaGreatDoor Go.Proofs.YtieiiabbeglmfaaGreatDoor.S11
open Go.RowKit
abbrev TmI (a f : Int) : Value := .agg #[.int .u64 a, .int .u64 f]
section
variable {w w' : World} {B : Nat} {a f : Int}
theorem TmIn.z0 (h : TmIn w B a f) : w.frozen? ⟨B, 0, none⟩ = false := by simp [World.frozen?, show w.heap[B]? = _ from h]
theorem TmIn.z1 (h : TmIn w B a f) : w.frozen? ⟨B, 1, none⟩ = false := by simp [World.frozen?, show w.heap[B]? = _ from h]
theorem TmIn.made (w : World) (a f : Int) : TmIn (w.alloc (.cells #[.int .u64 a, .int .u64 f] 100)) w.heap.size a f := heap_alloc_new w _
end
theorem due_int (a f : Int) (n : Nat) (w : World) : Calls Tryz.prog 227 #[TmI a f, .int .u64 n] w fun e w' => e = .returned (.bool (decide (a < (n : Int)))) ∧ Below w.heap.size w w' := by
  go_enter Tryz.func227, Tryz.ntmps227
  go_wp2
  go_ret
  exact ⟨rfl, (Below.refl _ _).alloc (Nat.le_refl _) _⟩
theorem two_int (w : World) (a f : Int) : TmIn ((w.alloc (.cells #[.int .u64 a, .int .u64 f] 100)).alloc (.cells #[.int .u64 0, .int .u64 0] 100)) w.heap.size a f
    ∧ TmIn ((w.alloc (.cells #[.int .u64 a, .int .u64 f] 100)).alloc (.cells #[.int .u64 0, .int .u64 0] 100)) (w.heap.size + 1) 0 0
    ∧ Below w.heap.size w ((w.alloc (.cells #[.int .u64 a, .int .u64 f] 100)).alloc (.cells #[.int .u64 0, .int .u64 0] 100)) := by
  refine ⟨(TmIn.made w a f).new (S8.below1 _ _), ?_, (S8.below1 w _).alloc (by simp) _⟩
  have h := TmIn.made (w.alloc (.cells #[.int .u64 a, .int .u64 f] 100)) 0 0
  rw [show (w.alloc (.cells #[.int .u64 a, .int .u64 f] 100)).heap.size = w.heap.size + 1 by simp] at h
  exact h
theorem fire_yes (a f : Int) (n d : Nat) (h : a < (n : Int)) (hn : n ≤ 18446744073709551615) (hd : d ≤ 18446744073709551615) (w : World) :
    Calls Tryz.prog 228 #[TmI a f, .int .u64 n, .int .u64 d] w fun e w' => e = .returned (.tuple #[TmI (S8.sat n d : Nat) n, .bool true]) ∧ Below w.heap.size w w' := by
  have q := due_int a f n
  have r := S8.end_any n d hn hd
  have Q := Lib.hid q; have R := Lib.hid r
  clear q r
  generalize S8.sat n d = s at *
  clear hn hd
  obtain ⟨a1, a2, hb⟩ := two_int w a f
  rw [decide_eq_true h] at Q
  clear h
  go_enter Tryz.func228, Tryz.ntmps228
  go_upto_region 1 with (fail)
  generalize (w.alloc (.cells #[.int .u64 a, .int .u64 f] 100)).alloc (.cells #[.int .u64 0, .int .u64 0] 100) = w1 at *
  have c0 := a1.c0; have c1 := a1.c1
  have A2 := Lib.hid a2; have HB := Lib.hid hb
  clear a1 a2 hb
  go_wp2_with fail
  refine (Q.out _).mono ?_
  rintro e w2 ⟨rfl, b2⟩
  have A3 := Lib.hid (A2.out.new b2)
  have HB2 := Lib.hid (HB.out.trans (b2.mono HB.out.size))
  clear b2
  go_wp2_with fail
  refine (R.out _).mono ?_
  rintro e w3 ⟨rfl, b3⟩
  have a4 := A3.out.new b3
  have HB3 := Lib.hid (HB2.out.trans (b3.mono HB2.out.size))
  have c0 := a4.c0; have c1 := a4.c1; have z0 := a4.z0; have z1 := a4.z1
  have h4 := a4.put (s : Int) (n : Int)
  have d0 := h4.c0; have d1 := h4.c1
  have hB : w.heap.size ≤ w.heap.size + 1 := Nat.le_succ _
  clear a4 h4 b3
  go_wp2_with fail
  exact bodyPost_ret (v := .tuple #[TmI (s : Int) (n : Int), .bool true]) (by simp [results, Tryz.results228, go_sem, d0, d1]) rfl ⟨rfl, (HB3.out.setCell (p := ⟨w.heap.size + 1, 0, none⟩) hB _).setCell (p := ⟨w.heap.size + 1, 1, none⟩) hB _⟩
end Go.Proofs.YtieiiabbeglmfaaGreatDoor.S12
set_option linter.unusedVariables false
set_option linter.unusedSimpArgs false
namespace Go.Proofs.YtieiiabbeglmfaaGreatDoor.S12
open Go.Proofs.YtieiiabbeglmfaaGreatDoor Go.Proofs.YtieiiabbeglmfaaGreatDoor.S11
open Go.RowKit
section
variable {w w' : World} {base : Nat} {X : Wm}
end
theorem PW.foot_lt {w : World} {base : Nat} {X : Wm} (h : PW w base X) {k : Nat} (hk : Foot X k) : k < w.heap.size := by
  obtain ⟨i, p, hp, hf⟩ := hk
  exact p.lt w (h.ok i p hp) k hf
def drawN (D : List Nat) (most : Nat) : Nat := match D with
  | [] => 0
  | d :: _ => S3.brt d most
theorem drawN_le {T most : Nat} {D : List Nat} (h : S3.Nums T most D) : drawN D most ≤ 18446744073709551615 := by
  cases D with
  | nil => exact Nat.zero_le _
  | cons d D => exact Nat.le_trans (Nat.mod_le _ _) (h.all d (by simp))
theorem foot_clock {X : Wm} {s : Value} {D : List Nat} {T : Nat} (hs : s.ownBlock = X.ks.ownBlock) {k : Nat} (h : Foot { X with ks := s, D := D, T := T } k) : Foot X k := by
  obtain ⟨i, p, hp, hf⟩ := h
  match i, hp with
  | 0, hp => exact ⟨0, _, rfl, by injection hp with hp; subst hp; exact hf⟩
  | 1, hp =>
    injection hp with hp; subst hp
    refine ⟨1, _, rfl, ?_⟩
    rcases hf with e | e
    · exact .inl e
    · exact .inr (by rw [← hs]; exact e)
  | 2, hp => exact ⟨2, _, rfl, by injection hp with hp; subst hp; exact hf⟩
  | 3, hp => exact ⟨3, _, rfl, by injection hp with hp; subst hp; exact hf⟩
  | 4, hp => exact ⟨4, _, rfl, by injection hp with hp; subst hp; exact hf⟩
  | 5, hp => exact ⟨5, _, rfl, by injection hp with hp; subst hp; exact hf⟩
  | 6, hp => exact ⟨6, _, rfl, by injection hp with hp; subst hp; exact hf⟩
  | i + 7, hp => simp [Wm.parts] at hp
end Go.Proofs.YtieiiabbeglmfaaGreatDoor.S12
set_option linter.unusedVariables false
set_option linter.unusedSimpArgs false
namespace Go.Proofs.YtieiiabbeglmfaaGreatDoor.S12
set_option maxRecDepth 100000
set_option maxHeartbeats 16000000
open Go.Proofs.YtieiiabbeglmfaaGreatDoor Go.Proofs.YtieiiabbeglmfaaGreatDoor.S11
open Go.RowKit
def onlyN (Q : Exit → Act → World → Prop) : Exit → Act → World → Prop
  | .normal, a, w => Q .normal a w
  | _, _, _ => False
section
variable {w0 w w' : World} {base WB : Nat} {M : Sd} {r : List Part} {X : Wm}
theorem fire_no (h : Pg w0 w base WB M r X) {b : Int} (hb : S10.InI b) {ni : Nat} (hi : ni < (M.m b).length) (hd : ¬ (M.m b)[ni]!.a < (M.T : Int)) :
    Calls Tryz.prog 196 #[Pw WB, .agg #[.int .i64 b, .int .i64 (ni : Int)]] w fun e w' => e = .returned (.bool false) ∧ Pg w0 w' base WB M r X := by
  obtain rfl := h.wB
  obtain rfl := h.xm
  obtain ⟨ta, hta⟩ : ∃ ta, ta = (X.tM b)[ni]!.a := ⟨_, rfl⟩
  obtain ⟨tf, htf⟩ : ∃ tf, tf = (X.tM b)[ni]!.f := ⟨_, rfl⟩
  have HDD : Hid (¬ ta < (X.T : Int)) := Lib.hid (by rw [hta]; exact hd)
  have ht : ∀ W tb tO ts tn, S10.St W tb tO ts tn X.tM → Calls Tryz.prog 35 #[ts, .agg #[.int .i64 b, .int .i64 (ni : Int)]] W fun e w' => e = .returned (.agg #[.int .u64 ta, .int .u64 tf]) ∧ Below W.heap.size W w' := fun W tb tO ts tn hs => by
    obtain ⟨F, hr⟩ := hs.rs
    rw [hta, htf]
    exact S10.timer_yes hr hb hi
  obtain ⟨i, hI⟩ : ∃ i : Int, i = (ni : Int) := ⟨_, rfl⟩
  rw [← hI] at ht ⊢
  clear hta htf hI hi hd hb
  have hB : Below w.heap.size w (w.alloc (.cells #[.int .i64 b, .int .i64 i] 97)) := (Below.refl _ _).alloc (Nat.le_refl _) _
  have hnew := heap_alloc_new w (.cells #[.int .i64 b, .int .i64 i] 97)
  have p0 := cell_row hnew 0; have p1 := cell_row hnew 1
  have hpt : ∃ B0, B0 = w.heap.size := ⟨_, rfl⟩
  obtain ⟨B0, hB0⟩ := hpt
  have hbs := h.size
  rw [← hB0] at p0 p1
  simp only [List.getElem?_toArray, List.getElem?_cons_zero, List.getElem?_cons_succ] at p0 p1
  have hW0 := hnew
  rw [← hB0] at hW0
  have HB := Lib.hid hB; have HB0 := Lib.hid hB0; have HH := Lib.hid h; have HBS := Lib.hid hbs
  clear h hB hnew hB0 hbs
  go_enter Tryz.func196, Tryz.ntmps196
  go_upto_region 3 with (fail)
  rw [← HB0.out]
  generalize w.alloc (.cells #[.int .i64 b, .int .i64 i] 97) = wb at *
  have HF : Hid (∀ W, Below wb.heap.size wb W → Pg w0 W base X.wB X.sd r X) := Lib.hid (fun W q => HH.out.new (HB.out.trans (q.mono HB.out.size)))
  have HTI := Lib.hid (fun (W : World) (q : Below wb.heap.size wb W) => ht W X.tb X.tO X.ts X.tn (HF.out W q).pw.tables)
  have HNOW := Lib.hid (fun (W : World) (q : Below wb.heap.size wb W) => S3.now_any (HF.out W q).pw.clock)
  have HDUE := Lib.hid (due_int ta tf X.T)
  have HC : Hid (∀ W, Below wb.heap.size wb W → W.cell? ⟨X.wB, 1, none⟩ = some (Pw X.kB) ∧ W.cell? ⟨X.wB, 4, none⟩ = some X.ts ∧ W.cell? ⟨B0, 0, none⟩ = some (.int .i64 b) ∧ W.cell? ⟨B0, 1, none⟩ = some (.int .i64 i)) := Lib.hid (fun W q => ⟨(HF.out W q).pw.c1, (HF.out W q).pw.c4, bcell q p0, bcell q p1⟩)
  have HN0 : Hid (∀ k, Foot X k → k ≠ B0) := Lib.hid (fun k hk e => by have := HH.out.pw.foot_lt hk; have := HB0.out; omega)
  have HW0 : Hid (wb.heap[B0]? = some (.cells #[.int .i64 b, .int .i64 i] 97)) := Lib.hid hW0
  clear HB HB0 HH HBS ht hW0
  obtain ⟨c1, c4, q0, q1⟩ := HC.out wb (Below.refl _ _)
  obtain ⟨cB, cM, L, n, kk, aa, was, is, kb, kB, T, most, ks, D, pB, pf, pn, pk, pp, lB, lk, tb, tO, ts, tn, tM, nb, nB, ns, nD, wB, sp, tk⟩ := X
  dsimp only at *
  have R0 : Hid (Below wb.heap.size wb wb.drew) := Lib.hid ((Below.refl _ _).drew)
  have R00 : Hid (Below wb.heap.size wb (wb.alloc (.cells #[.int .u64 0, .int .u64 0] 100))) := Lib.hid ((Below.refl _ _).alloc (Nat.le_refl _) _)
  have R0a : Hid (Below wb.heap.size wb (wb.alloc (.cells #[.int .u64 0, .int .u64 0] 100)).drew) := Lib.hid R00.out.drew
  clear R00 R0a
  refine wp_mono (Q := onlyN (fun _ a' w' => ∃ Bx : Nat, a' = { tmps := #[Pw wB, .agg #[.int .i64 b, .int .i64 i], undef, Pw B0, .bool false, Pw Bx, .int .u64 (T : Int), undef, Pw wB, .bool false, Pw wB, .pointer (some ⟨wB, 0, none⟩), .pointer (some ⟨wB, 4, none⟩), ts, .agg #[.int .i64 b, .int .i64 i], TmI ta tf, Pw wB, .pointer (some ⟨wB, 0, none⟩), .pointer (some ⟨wB, 1, none⟩), Pw kB, .int .u64 (T : Int), undef, undef, undef, undef, undef, undef, undef, undef, undef, undef, undef, undef, undef, undef, undef, undef, undef, undef, undef, undef, undef, undef, undef], defers := [] } ∧ Below wb.heap.size wb w' ∧ wb.heap.size ≤ Bx ∧ TmIn w' Bx ta tf)) ?_ ?_
  · refine wp_region_held_drew (S := fun w' => w'.cell? ⟨wB, 1, none⟩ = some (Pw kB) ∧ w'.cell? ⟨wB, 4, none⟩ = some ts ∧ w'.cell? ⟨B0, 0, none⟩ = some (.int .i64 b) ∧ w'.cell? ⟨B0, 1, none⟩ = some (.int .i64 i)) (by kernel_rfl) ?_ (fun hHeld => ?_)
    · exact HC.out _ R0.out
    refine tA 0 ⟨some 10, .move (.tmp 0), 24, "worlds.go:85", #[], none⟩ ?vax1 ?rax1
    (try simp only [Act.put, tC, tD, tE])
    refine tA 1 ⟨some 11, .nilCheck (.tmp 10), 0, "worlds.go:85", #[⟨0, .data⟩], none⟩ ?vax2 ?rax2
    (try simp only [Act.put, tC, tD, tE])
    refine tA 2 ⟨some 12, .fieldAddr 47 (.tmp 11) 4, 0, "worlds.go:85", #[⟨1, .data⟩], none⟩ ?vax3 ?rax3
    (try simp only [Act.put, tC, tD, tE])
    refine tA 3 ⟨some 13, .load 43 (.tmp 12), 43, "worlds.go:85", #[⟨2, .data⟩], none⟩ ?vax4 ?rax4
    (try simp only [Act.put, tC, tD, tE])
    refine tA 4 ⟨some 14, .load 97 (.tmp 3), 97, "worlds.go:85", #[], none⟩ ?vax5 ?rax5
    (try simp only [Act.put, tC, tD, tE])
    refine tA 6 ⟨some 16, .move (.tmp 0), 24, "worlds.go:85", #[], none⟩ ?vax6 ?rax6
    (try simp only [Act.put, tC, tD, tE])
    refine tA 7 ⟨some 17, .nilCheck (.tmp 16), 0, "worlds.go:85", #[⟨6, .data⟩], none⟩ ?vax7 ?rax7
    (try simp only [Act.put, tC, tD, tE])
    refine tA 8 ⟨some 18, .fieldAddr 47 (.tmp 17) 1, 0, "worlds.go:85", #[⟨7, .data⟩], none⟩ ?vax8 ?rax8
    (try simp only [Act.put, tC, tD, tE])
    refine tA 9 ⟨some 19, .load 40 (.tmp 18), 40, "worlds.go:85", #[⟨8, .data⟩], none⟩ ?vax9 ?rax9
    (try simp only [Act.put, tC, tD, tE])
    refine wpAnyH_ready (rs := [5, 11]) (by kernel_rfl) (by simp) ?_
    refine AllReadyH.cons (o := ⟨some 15, .call ⟨.value (.func 35), #[.tmp 13, .tmp 14], #[43, 97]⟩, 100, "worlds.go:85", #[⟨3, .data⟩, ⟨4, .data⟩], none⟩) rfl (fun Kq hKq => ?_) ?_
    · go_simp
      (refine (HTI.out _ R0.out).mono ?_; rintro e w1 ⟨rfl, hb1⟩)
      have R1 : Hid (Below wb.heap.size wb w1) := Lib.hid (R0.out.trans (hb1.mono R0.out.size))
      clear hb1
      refine hKq.out _ _ ?_ (fun hHeld => ?_)
      · exact HC.out _ R1.out
      clear hKq Kq
      (try simp only [Act.put, tC, tD, tE])
      refine wpAnyH_ready (rs := [10, 11]) (by kernel_rfl) (by simp) ?_
      refine AllReadyH.cons (o := ⟨some 20, .call ⟨.value (.func 72), #[.tmp 19], #[40]⟩, 23, "worlds.go:85", #[⟨9, .data⟩, ⟨5, .chain⟩], none⟩) rfl (fun Kq hKq => ?_) ?_
      · go_simp
        (refine (HNOW.out _ R1.out).mono ?_; rintro e w2 ⟨rfl, rfl⟩)
        refine hKq.out _ _ ?_ (fun hHeld => ?_)
        · exact HC.out _ R1.out
        clear hKq Kq
        (try simp only [Act.put, tC, tD, tE])
        refine wpAnyH_ready (rs := [11]) (by kernel_rfl) (by simp) ?_
        refine AllReadyH.cons (o := ⟨some 5, .alloc 100, 0, "worlds.go:85", #[], none⟩) rfl (fun Kq hKq => ?_) AllReadyH.nil
        go_simp
        have R3 : Hid (Below wb.heap.size wb (w1.alloc (.cells #[.int .u64 0, .int .u64 0] 100))) := Lib.hid ((R1.out.alloc R1.out.size _))
        have TZ3 : Hid (TmIn (w1.alloc (.cells #[.int .u64 0, .int .u64 0] 100)) w1.heap.size 0 0) := Lib.hid (TmIn.made w1 0 0)
        generalize w1.alloc (.cells #[.int .u64 0, .int .u64 0] 100) = w3 at *
        refine hKq.out _ _ ?_ (fun hHeld => ?_)
        · exact HC.out _ R3.out
        clear hKq Kq
        (try simp only [Act.put, tC, tD, tE])
        refine wpAnyH_ready (rs := [12]) (by kernel_rfl) (by simp) ?_
        refine AllReadyH.cons (o := ⟨none, .store 100 (.tmp 5) (.tmp 15), 0, "worlds.go:85", #[⟨11, .data⟩, ⟨5, .data⟩, ⟨10, .chain⟩, ⟨0, .phase⟩, ⟨1, .phase⟩, ⟨2, .phase⟩, ⟨3, .phase⟩, ⟨4, .phase⟩, ⟨5, .phase⟩, ⟨6, .textOnly .lateStores⟩, ⟨7, .textOnly .lateStores⟩, ⟨8, .textOnly .lateStores⟩, ⟨9, .textOnly .lateStores⟩, ⟨10, .textOnly .lateStoresUnsure⟩, ⟨11, .phase⟩], none⟩) rfl (fun Kq hKq => ?_) AllReadyH.nil
        have z0 := TZ3.out.c0; have z1 := TZ3.out.c1; have f0 := TZ3.out.z0; have f1 := TZ3.out.z1
        go_simp
        have hle : wb.heap.size ≤ w1.heap.size := by have := R1.out.size; omega
        have R4 : Hid (Below wb.heap.size wb ((w3.setCell ⟨w1.heap.size, 0, none⟩ (.int .u64 ta)).setCell ⟨w1.heap.size, 1, none⟩ (.int .u64 tf))) := Lib.hid ((R3.out.setCell (p := ⟨w1.heap.size, 0, none⟩) hle _).setCell (p := ⟨w1.heap.size, 1, none⟩) hle _)
        have TZ4 : Hid (TmIn ((w3.setCell ⟨w1.heap.size, 0, none⟩ (.int .u64 ta)).setCell ⟨w1.heap.size, 1, none⟩ (.int .u64 tf)) w1.heap.size ta tf) := Lib.hid (TZ3.out.put ta tf)
        clear z0 z1 f0 f1
        generalize ((w3.setCell ⟨w1.heap.size, 0, none⟩ (.int .u64 ta)).setCell ⟨w1.heap.size, 1, none⟩ (.int .u64 tf)) = w4 at *
        refine hKq.out _ _ ?_ (fun hHeld => ?_)
        · exact HC.out _ R4.out
        clear hKq Kq
        (try simp only [Act.put, tC, tD, tE])
        refine tA 13 ⟨some 6, .assign (.tmp 20), 23, "worlds.go:85", #[⟨10, .data⟩, ⟨12, .chain⟩, ⟨0, .phase⟩, ⟨1, .phase⟩, ⟨2, .phase⟩, ⟨3, .phase⟩, ⟨4, .phase⟩, ⟨5, .phase⟩, ⟨6, .phase⟩, ⟨7, .phase⟩, ⟨8, .phase⟩, ⟨9, .phase⟩, ⟨10, .phase⟩, ⟨11, .phase⟩, ⟨12, .phase⟩], none⟩ ?vax10 ?rax10
        (try simp only [Act.put, tC, tD, tE])
        refine wpAnyH_done (by kernel_rfl) ?_ _
        exact ⟨w1.heap.size, rfl, R4.out, hle, TZ4.out⟩
      refine AllReadyH.cons (o := ⟨some 5, .alloc 100, 0, "worlds.go:85", #[], none⟩) rfl (fun Kq hKq => ?_) AllReadyH.nil
      go_simp
      have R2 : Hid (Below wb.heap.size wb (w1.alloc (.cells #[.int .u64 0, .int .u64 0] 100))) := Lib.hid ((R1.out.alloc R1.out.size _))
      have TZ2 : Hid (TmIn (w1.alloc (.cells #[.int .u64 0, .int .u64 0] 100)) w1.heap.size 0 0) := Lib.hid (TmIn.made w1 0 0)
      generalize w1.alloc (.cells #[.int .u64 0, .int .u64 0] 100) = w2 at *
      refine hKq.out _ _ ?_ (fun hHeld => ?_)
      · exact HC.out _ R2.out
      clear hKq Kq
      (try simp only [Act.put, tC, tD, tE])
      refine wpAnyH_ready (rs := [10]) (by kernel_rfl) (by simp) ?_
      refine AllReadyH.cons (o := ⟨some 20, .call ⟨.value (.func 72), #[.tmp 19], #[40]⟩, 23, "worlds.go:85", #[⟨9, .data⟩, ⟨5, .chain⟩], none⟩) rfl (fun Kq hKq => ?_) AllReadyH.nil
      go_simp
      (refine (HNOW.out _ R2.out).mono ?_; rintro e w3 ⟨rfl, rfl⟩)
      refine hKq.out _ _ ?_ (fun hHeld => ?_)
      · exact HC.out _ R2.out
      clear hKq Kq
      (try simp only [Act.put, tC, tD, tE])
      refine wpAnyH_ready (rs := [12]) (by kernel_rfl) (by simp) ?_
      refine AllReadyH.cons (o := ⟨none, .store 100 (.tmp 5) (.tmp 15), 0, "worlds.go:85", #[⟨11, .data⟩, ⟨5, .data⟩, ⟨10, .chain⟩, ⟨0, .phase⟩, ⟨1, .phase⟩, ⟨2, .phase⟩, ⟨3, .phase⟩, ⟨4, .phase⟩, ⟨5, .phase⟩, ⟨6, .textOnly .lateStores⟩, ⟨7, .textOnly .lateStores⟩, ⟨8, .textOnly .lateStores⟩, ⟨9, .textOnly .lateStores⟩, ⟨10, .textOnly .lateStoresUnsure⟩, ⟨11, .phase⟩], none⟩) rfl (fun Kq hKq => ?_) AllReadyH.nil
      have z0 := TZ2.out.c0; have z1 := TZ2.out.c1; have f0 := TZ2.out.z0; have f1 := TZ2.out.z1
      go_simp
      have hle : wb.heap.size ≤ w1.heap.size := by have := R1.out.size; omega
      have R4 : Hid (Below wb.heap.size wb ((w2.setCell ⟨w1.heap.size, 0, none⟩ (.int .u64 ta)).setCell ⟨w1.heap.size, 1, none⟩ (.int .u64 tf))) := Lib.hid ((R2.out.setCell (p := ⟨w1.heap.size, 0, none⟩) hle _).setCell (p := ⟨w1.heap.size, 1, none⟩) hle _)
      have TZ4 : Hid (TmIn ((w2.setCell ⟨w1.heap.size, 0, none⟩ (.int .u64 ta)).setCell ⟨w1.heap.size, 1, none⟩ (.int .u64 tf)) w1.heap.size ta tf) := Lib.hid (TZ2.out.put ta tf)
      clear z0 z1 f0 f1
      generalize ((w2.setCell ⟨w1.heap.size, 0, none⟩ (.int .u64 ta)).setCell ⟨w1.heap.size, 1, none⟩ (.int .u64 tf)) = w4 at *
      refine hKq.out _ _ ?_ (fun hHeld => ?_)
      · exact HC.out _ R4.out
      clear hKq Kq
      (try simp only [Act.put, tC, tD, tE])
      refine tA 13 ⟨some 6, .assign (.tmp 20), 23, "worlds.go:85", #[⟨10, .data⟩, ⟨12, .chain⟩, ⟨0, .phase⟩, ⟨1, .phase⟩, ⟨2, .phase⟩, ⟨3, .phase⟩, ⟨4, .phase⟩, ⟨5, .phase⟩, ⟨6, .phase⟩, ⟨7, .phase⟩, ⟨8, .phase⟩, ⟨9, .phase⟩, ⟨10, .phase⟩, ⟨11, .phase⟩, ⟨12, .phase⟩], none⟩ ?vax11 ?rax11
      (try simp only [Act.put, tC, tD, tE])
      refine wpAnyH_done (by kernel_rfl) ?_ _
      exact ⟨w1.heap.size, rfl, R4.out, hle, TZ4.out⟩
    refine AllReadyH.cons (o := ⟨some 5, .alloc 100, 0, "worlds.go:85", #[], none⟩) rfl (fun Kq hKq => ?_) AllReadyH.nil
    go_simp
    have R1 : Hid (Below wb.heap.size wb ((wb.alloc (.cells #[.int .u64 0, .int .u64 0] 100)).drew)) := Lib.hid (((Below.refl _ _).alloc (Nat.le_refl _) _).drew)
    have TZ1 : Hid (TmIn ((wb.alloc (.cells #[.int .u64 0, .int .u64 0] 100)).drew) wb.heap.size 0 0) := Lib.hid (TmIn.made wb 0 0)
    generalize (wb.alloc (.cells #[.int .u64 0, .int .u64 0] 100)).drew = w1 at *
    refine hKq.out _ _ ?_ (fun hHeld => ?_)
    · exact HC.out _ R1.out
    clear hKq Kq
    (try simp only [Act.put, tC, tD, tE])
    refine wpAnyH_ready (rs := [5]) (by kernel_rfl) (by simp) ?_
    refine AllReadyH.cons (o := ⟨some 15, .call ⟨.value (.func 35), #[.tmp 13, .tmp 14], #[43, 97]⟩, 100, "worlds.go:85", #[⟨3, .data⟩, ⟨4, .data⟩], none⟩) rfl (fun Kq hKq => ?_) AllReadyH.nil
    go_simp
    (refine (HTI.out _ R1.out).mono ?_; rintro e w2 ⟨rfl, hb2⟩)
    have R2 : Hid (Below wb.heap.size wb w2) := Lib.hid (R1.out.trans (hb2.mono R1.out.size))
    have TZ2 := Lib.hid (TZ1.out.new hb2)
    clear hb2
    refine hKq.out _ _ ?_ (fun hHeld => ?_)
    · exact HC.out _ R2.out
    clear hKq Kq
    (try simp only [Act.put, tC, tD, tE])
    refine wpAnyH_ready (rs := [10]) (by kernel_rfl) (by simp) ?_
    refine AllReadyH.cons (o := ⟨some 20, .call ⟨.value (.func 72), #[.tmp 19], #[40]⟩, 23, "worlds.go:85", #[⟨9, .data⟩, ⟨5, .chain⟩], none⟩) rfl (fun Kq hKq => ?_) AllReadyH.nil
    go_simp
    (refine (HNOW.out _ R2.out).mono ?_; rintro e w3 ⟨rfl, rfl⟩)
    refine hKq.out _ _ ?_ (fun hHeld => ?_)
    · exact HC.out _ R2.out
    clear hKq Kq
    (try simp only [Act.put, tC, tD, tE])
    refine wpAnyH_ready (rs := [12]) (by kernel_rfl) (by simp) ?_
    refine AllReadyH.cons (o := ⟨none, .store 100 (.tmp 5) (.tmp 15), 0, "worlds.go:85", #[⟨11, .data⟩, ⟨5, .data⟩, ⟨10, .chain⟩, ⟨0, .phase⟩, ⟨1, .phase⟩, ⟨2, .phase⟩, ⟨3, .phase⟩, ⟨4, .phase⟩, ⟨5, .phase⟩, ⟨6, .textOnly .lateStores⟩, ⟨7, .textOnly .lateStores⟩, ⟨8, .textOnly .lateStores⟩, ⟨9, .textOnly .lateStores⟩, ⟨10, .textOnly .lateStoresUnsure⟩, ⟨11, .phase⟩], none⟩) rfl (fun Kq hKq => ?_) AllReadyH.nil
    have z0 := TZ2.out.c0; have z1 := TZ2.out.c1; have f0 := TZ2.out.z0; have f1 := TZ2.out.z1
    go_simp
    have hle : wb.heap.size ≤ wb.heap.size := by have := Nat.le_refl wb.heap.size; omega
    have R4 : Hid (Below wb.heap.size wb ((w2.setCell ⟨wb.heap.size, 0, none⟩ (.int .u64 ta)).setCell ⟨wb.heap.size, 1, none⟩ (.int .u64 tf))) := Lib.hid ((R2.out.setCell (p := ⟨wb.heap.size, 0, none⟩) hle _).setCell (p := ⟨wb.heap.size, 1, none⟩) hle _)
    have TZ4 : Hid (TmIn ((w2.setCell ⟨wb.heap.size, 0, none⟩ (.int .u64 ta)).setCell ⟨wb.heap.size, 1, none⟩ (.int .u64 tf)) wb.heap.size ta tf) := Lib.hid (TZ2.out.put ta tf)
    clear z0 z1 f0 f1
    generalize ((w2.setCell ⟨wb.heap.size, 0, none⟩ (.int .u64 ta)).setCell ⟨wb.heap.size, 1, none⟩ (.int .u64 tf)) = w4 at *
    refine hKq.out _ _ ?_ (fun hHeld => ?_)
    · exact HC.out _ R4.out
    clear hKq Kq
    (try simp only [Act.put, tC, tD, tE])
    refine tA 13 ⟨some 6, .assign (.tmp 20), 23, "worlds.go:85", #[⟨10, .data⟩, ⟨12, .chain⟩, ⟨0, .phase⟩, ⟨1, .phase⟩, ⟨2, .phase⟩, ⟨3, .phase⟩, ⟨4, .phase⟩, ⟨5, .phase⟩, ⟨6, .phase⟩, ⟨7, .phase⟩, ⟨8, .phase⟩, ⟨9, .phase⟩, ⟨10, .phase⟩, ⟨11, .phase⟩, ⟨12, .phase⟩], none⟩ ?vax12 ?rax12
    (try simp only [Act.put, tC, tD, tE])
    refine wpAnyH_done (by kernel_rfl) ?_ _
    exact ⟨wb.heap.size, rfl, R4.out, hle, TZ4.out⟩
  · rintro e a2 w2 hq
    cases e <;> try exact hq.elim
    obtain ⟨Bx, rfl, hb2, hle, htz⟩ := hq
    (try dsimp only)
    have TZ := Lib.hid htz
    have z0 := htz.c0; have z1 := htz.c1
    have HB2 := Lib.hid hb2; have HLE := Lib.hid hle
    clear htz hb2 hle
    have hd := HDD.out
    rw [decide_eq_false hd] at HDUE
    go_wp2_with (go_at_call 227; refine (HDUE.out _).mono ?_; rintro e w3 ⟨rfl, b3⟩)
    go_ret
    exact ⟨rfl, HF.out w3 (HB2.out.trans (b3.mono HB2.out.size))⟩
end
end Go.Proofs.YtieiiabbeglmfaaGreatDoor.S12
set_option linter.unusedVariables false
set_option linter.unusedSimpArgs false
set_option linter.unusedVariables false
set_option linter.unusedSimpArgs false
namespace Go.Proofs.YtieiiabbeglmfaaGreatDoor.S18
open Go.Proofs.YtieiiabbeglmfaaGreatDoor Go.Proofs.YtieiiabbeglmfaaGreatDoor.S11 Go.Proofs.YtieiiabbeglmfaaGreatDoor.S12 Go.Proofs.YtieiiabbeglmfaaGreatDoor.S13 Go.Proofs.YtieiiabbeglmfaaGreatDoor.S14 Go.Proofs.YtieiiabbeglmfaaGreatDoor.S15 Go.Proofs.YtieiiabbeglmfaaGreatDoor.S16
open Go.RowKit
section
variable {w0 w w' : World} {base WB : Nat} {M : Sd} {r : List Part} {j e u B : Nat} {l l' : Rows} {X : Wm} {P : Pa}
end
end Go.Proofs.YtieiiabbeglmfaaGreatDoor.S18
set_option linter.unusedVariables false
set_option linter.unusedSimpArgs false
set_option linter.unusedVariables false
set_option linter.unusedSimpArgs false
namespace Go.Proofs.YtieiiabbeglmfaaGreatDoor.S18
open Go.Proofs.YtieiiabbeglmfaaGreatDoor Go.Proofs.YtieiiabbeglmfaaGreatDoor.S11 Go.Proofs.YtieiiabbeglmfaaGreatDoor.S12 Go.Proofs.YtieiiabbeglmfaaGreatDoor.S13 Go.Proofs.YtieiiabbeglmfaaGreatDoor.S14 Go.Proofs.YtieiiabbeglmfaaGreatDoor.S15 Go.Proofs.YtieiiabbeglmfaaGreatDoor.S16
open Go.RowKit
section
variable {M : Sd} {D : Pd} {a pi : Nat} {Q : List S10.Ent} {E : En} {F : Fr}
end
end Go.Proofs.YtieiiabbeglmfaaGreatDoor.S18
set_option linter.unusedVariables false
set_option linter.unusedSimpArgs false
set_option linter.unusedVariables false
set_option linter.unusedSimpArgs false
namespace Go.Proofs.YtieiiabbeglmfaaGreatDoor.S18
open Go.Proofs.YtieiiabbeglmfaaGreatDoor Go.Proofs.YtieiiabbeglmfaaGreatDoor.S11 Go.Proofs.YtieiiabbeglmfaaGreatDoor.S12 Go.Proofs.YtieiiabbeglmfaaGreatDoor.S13 Go.Proofs.YtieiiabbeglmfaaGreatDoor.S14 Go.Proofs.YtieiiabbeglmfaaGreatDoor.S15 Go.Proofs.YtieiiabbeglmfaaGreatDoor.S16
open Go.RowKit
section
variable {M : Sd} {D : Pd} {pb pi : Nat} {E : En} {F : Fr}
structure Stays (M M' : Sd) (i : Nat) : Prop where
  L : M'.L = M.L
  m : M'.m = M.m
  nD : M'.nD = M.nD
  T : M'.T = M.T
  sp : M'.sp = M.sp
  pf : ∀ j, j ≠ i → M'.pf j = M.pf j
  p : (M'.pf i).p = false
theorem stay1 (hon : D.on = false) (hp : (M.pf (2 * D.t)).p = false) : pit (M, (⟨8, D, pb, pi, E, F, 0, 0⟩ : Pa)) = (M.park (2 * D.t), (⟨8, D, pb, pi, E, F, 0, 0⟩ : Pa)) := by
  have hg : slpG M D = 0 := by
    unfold slpG
    rw [hon, if_neg (by decide), hp, if_neg (by decide)]
  show ((if D.on then M.until (2 * D.t) D.at' else M.park (2 * D.t)), (if slpG M D = 0 then (⟨8, D, pb, pi, E, F, 0, 0⟩ : Pa) else if slpG M D = 2 then ⟨9, D, pb, pi, ow0 D.t, F, 0, 0⟩ else ⟨0, D, pb, pi, E, F, 0, 2⟩)) = _
  rw [hon, if_neg (by decide), if_pos hg]
theorem park_p {M : Sd} {i : Nat} (hp : (M.pf i).p = false) : ((M.park i).pf i).p = false := by
  show (S4.updP M.pf i (S4.parkK (M.pf i)) i).p = false
  unfold S4.updP S4.parkK
  rw [if_pos rfl, hp, if_neg (by decide)]
theorem park_ne {M : Sd} {i j : Nat} (h : j ≠ i) : (M.park i).pf j = M.pf j := by
  show S4.updP M.pf i (S4.parkK (M.pf i)) j = _
  unfold S4.updP
  exact if_neg h
theorem stays (hon : D.on = false) (hp : (M.pf (2 * D.t)).p = false) : ∀ n, ∃ M', pitn (M, (⟨8, D, pb, pi, E, F, 0, 0⟩ : Pa)) n = (M', (⟨8, D, pb, pi, E, F, 0, 0⟩ : Pa)) ∧ Stays M M' (2 * D.t)
  | 0 => ⟨M, rfl, rfl, rfl, rfl, rfl, rfl, fun _ _ => rfl, hp⟩
  | n + 1 => by
    obtain ⟨M', e, s⟩ := stays hon hp n
    refine ⟨M'.park (2 * D.t), ?_, s.L, s.m, s.nD, s.T, s.sp, fun j hj => (park_ne hj).trans (s.pf j hj), park_p s.p⟩
    show pit (pitn (M, (⟨8, D, pb, pi, E, F, 0, 0⟩ : Pa)) n) = _
    rw [e]
    exact stay1 hon s.p
end
end Go.Proofs.YtieiiabbeglmfaaGreatDoor.S18
namespace Go.Proofs.YtieiiabbeglmfaaGreatDoor.S19
abbrev Rows := Go.Proofs.YtieiiabbeglmfaaGreatDoor.S18.Rows
end Go.Proofs.YtieiiabbeglmfaaGreatDoor.S19
set_option linter.unusedVariables false
set_option linter.unusedSimpArgs false
namespace Go.Proofs.YtieiiabbeglmfaaGreatDoor.S12
open Go.Proofs.YtieiiabbeglmfaaGreatDoor Go.Proofs.YtieiiabbeglmfaaGreatDoor.S11
def Sd.tok (M : Sd) (t z : Nat) : Sd := { M with tk := updT M.tk t z }
end Go.Proofs.YtieiiabbeglmfaaGreatDoor.S12
namespace Go.Proofs.YtieiiabbeglmfaaGreatDoor.S19
open Go.Proofs.YtieiiabbeglmfaaGreatDoor Go.Proofs.YtieiiabbeglmfaaGreatDoor.S11 Go.Proofs.YtieiiabbeglmfaaGreatDoor.S12 Go.Proofs.YtieiiabbeglmfaaGreatDoor.S13 Go.Proofs.YtieiiabbeglmfaaGreatDoor.S14 Go.Proofs.YtieiiabbeglmfaaGreatDoor.S15 Go.Proofs.YtieiiabbeglmfaaGreatDoor.S16 Go.Proofs.YtieiiabbeglmfaaGreatDoor.S18
open Go.RowKit
section
variable {w0 w w' : World} {base WB : Nat} {M : Sd} {r : List Part} {j e u B : Nat} {l l' : Rows} {X : Wm}
theorem tok_at (h : Pg w0 w base WB M r X) {t : Nat} (ht : t < 64) : w.cell? ⟨WB, 7 + t, none⟩ = some (.int .u64 ((M.tk t : Nat) : Int)) := by
  rw [← h.wB, ← h.xm]
  exact (cell_row h.pw.own (7 + t)).trans (pct _ _ _ _ _ _ _ _ ht)
theorem tok_fz (h : Pg w0 w base WB M r X) (t : Nat) : w.frozen? ⟨WB, 7 + t, none⟩ = false := by
  rw [← h.wB]
  exact froz_row h.pw.own (7 + t)
theorem tok_put (h : Pg w0 w base WB M r X) {t : Nat} (ht : t < 64) (z : Nat) : ∃ X', Pg w0 (w.setCell ⟨WB, 7 + t, none⟩ (.int .u64 (z : Int))) base WB (M.tok t z) r X' ∧ X'.pB = X.pB := by
  have e := h.wB
  have hB := h.pw.own
  rw [e] at hB
  have h1 : (w.setCell ⟨WB, 7 + t, none⟩ (.int .u64 (z : Int))).heap[WB]? = some (.cells (Wm.cs { X with tk := updT X.tk t z }) 47 (0, 0)) := set_blk hB (7 + t) (.int .u64 (z : Int)) _ (by unfold Wm.cs; exact pctw _ _ _ _ _ _ _ _ ht z)
  obtain ⟨hp, hb⟩ := h.ps.turn (i := 6) rfl (blockP WB (.cells (Wm.cs { X with tk := updT X.tk t z }) 47)) h1 ((Turns.refl (fun k => k = X.wB) w).setCell ⟨WB, 7 + t, none⟩ _ e.symm) (fun k hk => .inl (hk.trans e.symm))
  refine ⟨{ X with tk := updT X.tk t z }, ⟨?_, e, ?_, h.bl.trans hb⟩, rfl⟩
  · have e2 : (X.parts ++ r).set 6 (blockP WB (.cells (Wm.cs { X with tk := updT X.tk t z }) 47)) = Wm.parts { X with tk := updT X.tk t z } ++ r := by rw [← e]; rfl
    rw [← e2]; exact hp
  · rw [← h.xm]; rfl
end
end Go.Proofs.YtieiiabbeglmfaaGreatDoor.S19
