/- Texts of this seat, one behind the other. -/
import Derived.Test.YtpmafdggbeppcaaGreatDoorMLawVoid1843
import Derived.Deep.CutRange
import Derived.StillTailTactics
import Derived.Deep.CutBlock
import Derived.Deep.RegionHeld3
import Derived.Deep.DeepCutAuto
set_option linter.unusedVariables false
set_option linter.unusedSimpArgs false
namespace Go.Proofs.YtpmafdggbeppcaaGreatDoor.S12
set_option maxRecDepth 100000
set_option maxHeartbeats 16000000
open Go.Proofs.YtpmafdggbeppcaaGreatDoor Go.Proofs.YtpmafdggbeppcaaGreatDoor.S11
open Go.RowKit
def GIn (w : World) (base : Nat) (p : Option Addr) (n : Nat) (G : Nat → Int) : Prop := 0 < n → ∃ lb lo, p = some ⟨lb, lo, none⟩ ∧ lb < base ∧ ∀ i, i < n → w.cell? ⟨lb, lo + i, none⟩ = some (.int .i64 (G i))
structure Qu where
  b : Int
  i : Int
  A : Option Addr
  c : Nat
  D : List S10.Ent
  ta : Int
  tf : Int
instance : Inhabited Qu := ⟨⟨0, 0, none, 0, [], 0, 0⟩⟩
def QIn (w : World) (base : Nat) (p : Option Addr) (n : Nat) (Q : Nat → Qu) : Prop := 0 < n → ∃ lb lo, p = some ⟨lb, lo, none⟩ ∧ lb < base ∧ ∀ i, i < n → w.cell? ⟨lb, lo + i * 5, none⟩ = some (.int .i64 (Q i).b) ∧ w.cell? ⟨lb, lo + i * 5 + 1, none⟩ = some (.int .i64 (Q i).i) ∧ w.cell? ⟨lb, lo + i * 5 + 2, none⟩ = some (.slice (Q i).A (Q i).D.length (Q i).c) ∧ w.cell? ⟨lb, lo + i * 5 + 3, none⟩ = some (.int .u64 (Q i).ta) ∧ w.cell? ⟨lb, lo + i * 5 + 4, none⟩ = some (.int .u64 (Q i).tf)
structure QOk (w : World) (base : Nat) (q : Qu) : Prop where
  b : S10.InI q.b
  le : q.D.length ≤ q.c
  c : q.c ≤ 9223372036854775807
  rd : S10.Rd w base q.A (S10.flat q.D)
  keys : S10.Keys q.D
theorem GIn.below {w w' : World} {base b : Nat} {p : Option Addr} {n : Nat} {G : Nat → Int} (h : GIn w base p n G) (hb : Below b w w') (hbb : base ≤ b) : GIn w' base p n G := fun h0 => by
  obtain ⟨lb, lo, e, hl, hc⟩ := h h0
  exact ⟨lb, lo, e, hl, fun i hi => (hb.cell (p := ⟨lb, lo + i, none⟩) (Nat.lt_of_lt_of_le hl hbb)).trans (hc i hi)⟩
theorem QIn.below {w w' : World} {base b : Nat} {p : Option Addr} {n : Nat} {Q : Nat → Qu} (h : QIn w base p n Q) (hb : Below b w w') (hbb : base ≤ b) : QIn w' base p n Q := fun h0 => by
  obtain ⟨lb, lo, e, hl, hc⟩ := h h0
  have k : ∀ j, w'.cell? ⟨lb, j, none⟩ = w.cell? ⟨lb, j, none⟩ := fun j => hb.cell (p := ⟨lb, j, none⟩) (Nat.lt_of_lt_of_le hl hbb)
  refine ⟨lb, lo, e, hl, fun i hi => ?_⟩
  obtain ⟨h1, h2, h3, h4, h5⟩ := hc i hi
  exact ⟨(k _).trans h1, (k _).trans h2, (k _).trans h3, (k _).trans h4, (k _).trans h5⟩
theorem QOk.below {w w' : World} {base b : Nat} {q : Qu} (h : QOk w base q) (hb : Below b w w') (hbb : base ≤ b) : QOk w' base q := ⟨h.b, h.le, h.c, h.rd.below hb hbb, h.keys⟩
section
variable {w0 w w' : World} {base WB RB N cn tn : Nat} {M RM : Sd} {E : List Part} {X : Wm} {Y : Rm}
theorem Bg.outside (h : Bg w0 w base WB RB N cn tn M RM E X Y) {S : Nat → Prop} (t : Turns S w w') (hs : ∀ k, S k → k < base) : Bg w' w' base WB RB N cn tn M RM E X Y :=
  { h with pr := Parts.kept h.pr t (fun i p hp k hk e => by have := h.pr.low i p hp k hk; have := hs k e; omega), rb := Nat.le_trans h.rb t.size, bl := Below.refl _ _ }
end
theorem Parts.rebase {w : World} {b b' : Nat} {l : List Part} (h : Parts w b l) (hb : b' ≤ b) : Parts w b' l :=
  ⟨Nat.le_trans hb h.size, h.ok, h.apart, fun i p hp k hk => Nat.le_trans hb (h.low i p hp k hk)⟩
structure BCut (w wx : World) (B0 B1 B2 B3 b1 : Nat) (fb : Array Value) (Y : Rm) (sp : Int) (mo : Nat) (D : List Nat) (A : Option Addr) (c : Nat) : Prop where
  p0 : wx.heap[B0]? = some (.cells fb 37 (0, 0))
  p1 : wx.heap[B1]? = some (.cells #[.pointer none, .pointer none] 27 (0, 0))
  p2 : wx.heap[B2]? = some (.cells #[.pointer none, Pw Y.wB] 27 (0, 0))
  p3 : wx.heap[B3]? = some (.cells #[.int .i64 sp, .int .u64 (mo : Int), .slice A D.length c] 32 (0, 0))
  py : Parts wx b1 Y.parts
  r0 : RAt0 Y sp mo D
  rb : Y.rb ≤ wx.heap.size
  ok : okC sp D.length = true
  dl : D.length ≤ c
  dc : c ≤ 9223372036854775807
  mm : mo ≤ 18446744073709551615
  rd : S3.Rd wx w.heap.size A D
  dd : ∀ d ∈ D, d ≤ 18446744073709551615
  bl : Below w.heap.size w wx
  sz : b1 ≤ wx.heap.size
theorem begin_any {w : World} {sp : Int} {mo dc sn sc gn gc qn qc tk : Nat} {dA sA gA qA : Option Addr} {D : List Nat} {SA SV : Nat → Nat} {G : Nat → Int} {Q : Nat → Qu}
    (hd : D.length ≤ 1048576) (hdl : D.length ≤ dc) (hdc : dc ≤ 9223372036854775807) (hmo : mo ≤ 18446744073709551615) (hrd : S3.Rd w w.heap.size dA D) (hdd : ∀ d ∈ D, d ≤ 18446744073709551615)
    (hsn : sn ≤ 1048576) (hsi : S2.WIn w w.heap.size sA sn SA SV) (hso : S2.WOk sn SA SV) (hgi : GIn w w.heap.size gA gn G) (hgo : ∀ i, i < gn → S10.InI (G i)) (hgn : gn ≤ 9223372036854775807) (hqi : QIn w w.heap.size qA qn Q) (hqo : ∀ i, i < qn → QOk w w.heap.size (Q i)) (hqn : qn ≤ 9223372036854775807) (htk : tk ≤ 18446744073709551615) :
    Calls Tryz.prog 7 #[.agg #[.int .i64 sp, .int .u64 (mo : Int), .slice dA D.length dc, .slice sA sn sc, .slice gA gn gc, .slice qA qn qc, .int .u64 (tk : Int)]] w fun e w' => ∃ M X Y, e = .returned (.agg #[Pw X.wB, Pw Y.wB]) ∧ Bg w w' w.heap.size X.wB Y.wB 1200 2097164 7 M M [] X Y := by
  have hbw : Below w.heap.size w ((((w.alloc (.cells #[.int .i64 sp, .int .u64 (mo : Int), .slice dA D.length dc, .slice sA sn sc, .slice gA gn gc, .slice qA qn qc, .int .u64 (tk : Int)] 37)).alloc (.cells #[.pointer none, .pointer none] 27)).alloc (.cells #[.pointer none, .pointer none] 27)).alloc (.cells #[.int .i64 sp, .int .u64 (mo : Int), .slice dA D.length dc] 32)) := ((((Below.refl _ _).alloc (Nat.le_refl _) _).alloc (by simp) _).alloc (by simp; omega) _).alloc (by simp; omega) _
  have h0 := heap_alloc_new w (.cells #[.int .i64 sp, .int .u64 (mo : Int), .slice dA D.length dc, .slice sA sn sc, .slice gA gn gc, .slice qA qn qc, .int .u64 (tk : Int)] 37)
  have h1 := heap_alloc_new (w.alloc (.cells #[.int .i64 sp, .int .u64 (mo : Int), .slice dA D.length dc, .slice sA sn sc, .slice gA gn gc, .slice qA qn qc, .int .u64 (tk : Int)] 37)) (.cells #[.pointer none, .pointer none] 27)
  have h2 := heap_alloc_new ((w.alloc (.cells #[.int .i64 sp, .int .u64 (mo : Int), .slice dA D.length dc, .slice sA sn sc, .slice gA gn gc, .slice qA qn qc, .int .u64 (tk : Int)] 37)).alloc (.cells #[.pointer none, .pointer none] 27)) (.cells #[.pointer none, .pointer none] 27)
  have h3 := heap_alloc_new (((w.alloc (.cells #[.int .i64 sp, .int .u64 (mo : Int), .slice dA D.length dc, .slice sA sn sc, .slice gA gn gc, .slice qA qn qc, .int .u64 (tk : Int)] 37)).alloc (.cells #[.pointer none, .pointer none] 27)).alloc (.cells #[.pointer none, .pointer none] 27)) (.cells #[.int .i64 sp, .int .u64 (mo : Int), .slice dA D.length dc] 32)
  have s1 : (w.alloc (.cells #[.int .i64 sp, .int .u64 (mo : Int), .slice dA D.length dc, .slice sA sn sc, .slice gA gn gc, .slice qA qn qc, .int .u64 (tk : Int)] 37)).heap.size = w.heap.size + 1 := by simp
  have s2 : ((w.alloc (.cells #[.int .i64 sp, .int .u64 (mo : Int), .slice dA D.length dc, .slice sA sn sc, .slice gA gn gc, .slice qA qn qc, .int .u64 (tk : Int)] 37)).alloc (.cells #[.pointer none, .pointer none] 27)).heap.size = w.heap.size + 2 := by simp
  have s3 : (((w.alloc (.cells #[.int .i64 sp, .int .u64 (mo : Int), .slice dA D.length dc, .slice sA sn sc, .slice gA gn gc, .slice qA qn qc, .int .u64 (tk : Int)] 37)).alloc (.cells #[.pointer none, .pointer none] 27)).alloc (.cells #[.pointer none, .pointer none] 27)).heap.size = w.heap.size + 3 := by simp
  have s4 : ((((w.alloc (.cells #[.int .i64 sp, .int .u64 (mo : Int), .slice dA D.length dc, .slice sA sn sc, .slice gA gn gc, .slice qA qn qc, .int .u64 (tk : Int)] 37)).alloc (.cells #[.pointer none, .pointer none] 27)).alloc (.cells #[.pointer none, .pointer none] 27)).alloc (.cells #[.int .i64 sp, .int .u64 (mo : Int), .slice dA D.length dc] 32)).heap.size = w.heap.size + 4 := by simp
  have u2 := fun (k : Nat) (hk : k < w.heap.size + 3) => (below1 (((w.alloc (.cells #[.int .i64 sp, .int .u64 (mo : Int), .slice dA D.length dc, .slice sA sn sc, .slice gA gn gc, .slice qA qn qc, .int .u64 (tk : Int)] 37)).alloc (.cells #[.pointer none, .pointer none] 27)).alloc (.cells #[.pointer none, .pointer none] 27)) (.cells #[.int .i64 sp, .int .u64 (mo : Int), .slice dA D.length dc] 32)).block k (by rw [s3]; exact hk)
  have u1 := fun (k : Nat) (hk : k < w.heap.size + 2) => (below1 ((w.alloc (.cells #[.int .i64 sp, .int .u64 (mo : Int), .slice dA D.length dc, .slice sA sn sc, .slice gA gn gc, .slice qA qn qc, .int .u64 (tk : Int)] 37)).alloc (.cells #[.pointer none, .pointer none] 27)) (.cells #[.pointer none, .pointer none] 27)).block k (by rw [s2]; exact hk)
  have u0 := fun (k : Nat) (hk : k < w.heap.size + 1) => (below1 (w.alloc (.cells #[.int .i64 sp, .int .u64 (mo : Int), .slice dA D.length dc, .slice sA sn sc, .slice gA gn gc, .slice qA qn qc, .int .u64 (tk : Int)] 37)) (.cells #[.pointer none, .pointer none] 27)).block k (by rw [s1]; exact hk)
  rw [s1] at h1
  rw [s2] at h2
  rw [s3] at h3
  have h2' := (u2 (w.heap.size + 2) (by omega)).trans h2
  have h1' := (u2 (w.heap.size + 1) (by omega)).trans ((u1 (w.heap.size + 1) (by omega)).trans h1)
  have h0' := (u2 w.heap.size (by omega)).trans ((u1 w.heap.size (by omega)).trans ((u0 w.heap.size (by omega)).trans h0))
  obtain ⟨B0, hB0⟩ : ∃ B0, B0 = w.heap.size := ⟨_, rfl⟩
  obtain ⟨B1, hB1⟩ : ∃ B1, B1 = w.heap.size + 1 := ⟨_, rfl⟩
  obtain ⟨B2, hB2⟩ : ∃ B2, B2 = w.heap.size + 2 := ⟨_, rfl⟩
  obtain ⟨B3, hB3⟩ : ∃ B3, B3 = w.heap.size + 3 := ⟨_, rfl⟩
  obtain ⟨b1, hb1⟩ : ∃ b1, b1 = w.heap.size + 4 := ⟨_, rfl⟩
  rw [← hB0] at h0'
  rw [← hB1] at h1'
  rw [← hB2] at h2'
  rw [← hB3] at h3
  rw [← hb1] at s4
  have HB := Lib.hid (And.intro hB0 (And.intro hB1 (And.intro hB2 (And.intro hB3 hb1))))
  have H0 := Lib.hid h0'; have H1 := Lib.hid h1'; have H2 := Lib.hid h2'; have H3 := Lib.hid h3; have HBW := Lib.hid hbw; have HS4 := Lib.hid s4
  have HDD := Lib.hid (And.intro hd (And.intro hdl (And.intro hdc (And.intro hmo (And.intro hrd hdd)))))
  have HSI := Lib.hid (And.intro hsn (And.intro hsi hso)); have HGI := Lib.hid (And.intro hgi (And.intro hgo hgn)); have HQI := Lib.hid (And.intro hqi (And.intro hqo hqn)); have HTK := Lib.hid htk
  clear h0 h1 h2 h3 h0' h1' h2' s1 s2 s3 s4 u0 u1 u2 hd hdl hdc hmo hrd hdd hsn hsi hso hgi hgo hgn hqi hqo hqn htk hbw
  go_enter Tryz.func7, Tryz.ntmps7
  go_upto_region 3 with (fail)
  rw [← hB0, show B0 + 1 = B1 by omega, show B1 + 1 = B2 by omega, show B2 + 1 = B3 by omega]
  generalize ((((w.alloc (.cells #[.int .i64 sp, .int .u64 (mo : Int), .slice dA D.length dc, .slice sA sn sc, .slice gA gn gc, .slice qA qn qc, .int .u64 (tk : Int)] 37)).alloc (.cells #[.pointer none, .pointer none] 27)).alloc (.cells #[.pointer none, .pointer none] 27)).alloc (.cells #[.int .i64 sp, .int .u64 (mo : Int), .slice dA D.length dc] 32)) = w1 at *
  have HLT : Hid (B0 < b1 ∧ B1 < b1 ∧ B2 < b1 ∧ B3 < b1 ∧ w.heap.size ≤ B0 ∧ w.heap.size ≤ B1 ∧ w.heap.size ≤ B2 ∧ w.heap.size ≤ B3 ∧ B0 ≠ B2 ∧ B1 ≠ B2 ∧ B3 ≠ B2 ∧ B0 ≠ B3 ∧ B1 ≠ B3) := Lib.hid (by omega)
  clear hB0 hB1 hB2 hB3 hb1 HB
  have c0 := cell_row H3.out 0; have c1 := cell_row H3.out 1; have c2 := cell_row H3.out 2
  have y1 := cell_row H2.out 1; have z1 := froz_row H2.out 1
  simp only [List.getElem?_toArray, List.getElem?_cons_zero, List.getElem?_cons_succ] at c0 c1 c2 y1
  have hrd1 := HDD.out.2.2.2.2.1.below HBW.out (Nat.le_refl _)
  have HRD1 := Lib.hid hrd1
  clear hrd1
  go_upto_region 4 with (first
    | (go_at_call 35; refine (S3.otherC_any sp (mo : Int) dc HRD1.out HBW.out.size (by have := HDD.out.1; omega)).mono ?_; rintro e wo ⟨Ao, co, rfl, hlo, hco, hro, hbo⟩;
       have HRN := Lib.hid (rnew_any (w := wo) sp mo co hlo hco HDD.out.2.2.2.1 hro.rd (Nat.le_refl _) HDD.out.2.2.2.2.2);
       have y1' := bcell hbo y1;
       have HBO := Lib.hid hbo; clear hro hbo)
    | (go_at_call 34; refine HRN.out.mono ?_; rintro e wr ⟨v, er, rfl, hre, hbr⟩;
       have HRE := Lib.hid hre; have HBR := Lib.hid (HBO.out.trans (hbr.mono HBO.out.size));
       have hq2 : wr.heap[B2]? = _ := (HBR.out.block B2 (by rw [HS4.out]; exact HLT.out.2.2.1)).trans H2.out;
       have y2 := cell_row hq2 1; have z2 := froz_row hq2 1; have HQ2 := Lib.hid hq2; clear hre hbr hq2))
  have hq2s : (wr.setCell ⟨B2, 1, none⟩ (.pointer v)).heap[B2]? = some (.cells #[.pointer none, .pointer v] 27 (0, 0)) := by
    have h' := HQ2.out
    simp [World.setCell, Array.getElem?_modify, h']
  have hts : Turns (fun k => k = B2) wr (wr.setCell ⟨B2, 1, none⟩ (.pointer v)) := (Turns.refl (fun k => k = B2) wr).setCell ⟨B2, 1, none⟩ _ rfl
  have hblk : ∀ k o, k < b1 → k ≠ B2 → w1.heap[k]? = some o → (wr.setCell ⟨B2, 1, none⟩ (.pointer v)).heap[k]? = some o := fun k o hk hne e =>
    (hts.block k (by have := HBR.out.size; have := HS4.out; omega) hne).trans ((HBR.out.block k (by rw [HS4.out]; exact hk)).trans e)
  have hq0s := hblk B0 _ HLT.out.1 HLT.out.2.2.2.2.2.2.2.2.1 H0.out
  have hq1s := hblk B1 _ HLT.out.2.1 HLT.out.2.2.2.2.2.2.2.2.2.1 H1.out
  have hq3s := hblk B3 _ HLT.out.2.2.2.1 HLT.out.2.2.2.2.2.2.2.2.2.2.1 H3.out
  have hbs : Below w.heap.size w (wr.setCell ⟨B2, 1, none⟩ (.pointer v)) := (HBW.out.trans (HBR.out.mono HBW.out.size)).setCell (p := ⟨B2, 1, none⟩) HLT.out.2.2.2.2.2.2.1 _
  have hszs : b1 ≤ (wr.setCell ⟨B2, 1, none⟩ (.pointer v)).heap.size := by have := hts.size; have := HBR.out.size; have := HS4.out; omega
  have hkeep : ∀ l, Parts wr wo.heap.size l → Parts (wr.setCell ⟨B2, 1, none⟩ (.pointer v)) b1 l := fun l hl => (hl.kept hts (fun i p hp k hk e => by have := hl.low i p hp k hk; have := HBO.out.size; have := HS4.out; have := HLT.out; omega)).rebase (by have := HBO.out.size; have := HS4.out; omega)
  have hsz2 := hts.size
  have HQ2S := Lib.hid hq2s; have HQ0S := Lib.hid hq0s; have HQ1S := Lib.hid hq1s; have HQ3S := Lib.hid hq3s; have HBS := Lib.hid hbs; have HSZS := Lib.hid hszs; have HKEEP := Lib.hid hkeep; have HSZ2 := Lib.hid hsz2
  clear hq2s hts hblk hq0s hq1s hq3s hbs hszs hkeep hsz2 c0 c1 c2 y1 z1 y1' y2 z2 HQ2
  generalize wr.setCell ⟨B2, 1, none⟩ (.pointer v) = ws at *
  have y1 := cell_row HQ2S.out 1
  simp only [List.getElem?_toArray, List.getElem?_cons_zero, List.getElem?_cons_succ] at y1
  go_upto_if 23 with (fail)
  clear y1
  go_cut [] (fun wx => ∃ Y sp' mo' D' A' c', BCut w wx B0 B1 B2 B3 b1 #[.int .i64 sp, .int .u64 (mo : Int), .slice dA D.length dc, .slice sA sn sc, .slice gA gn gc, .slice qA qn qc, .int .u64 (tk : Int)] Y sp' mo' D' A' c')
  case first =>
    rcases HRE.out with ⟨hok, rfl, Y, hv, py, r0, rb⟩ | ⟨hok, hv, rfl⟩
    · injection hv with hv
      subst hv
      have HPY := Lib.hid py; have HR0 := Lib.hid r0; have HRB := Lib.hid rb; have HOK := Lib.hid hok
      clear py r0 rb hok
      go_wp2_with fail
      go_meet
      exact ⟨Y, sp, mo, D, dA, dc, HQ0S.out, HQ1S.out, HQ2S.out, HQ3S.out, HKEEP.out _ HPY.out, HR0.out, Nat.le_trans HRB.out HSZ2.out, HOK.out, HDD.out.2.1, HDD.out.2.2.1, HDD.out.2.2.2.1, HDD.out.2.2.2.2.1.below HBS.out (Nat.le_refl _), HDD.out.2.2.2.2.2, HBS.out, HSZS.out⟩
    · injection hv with hv
      subst hv
      have x0 := cell_row HQ3S.out 0; have x1 := cell_row HQ3S.out 1; have x2 := cell_row HQ3S.out 2
      have f0 := froz_row HQ3S.out 0; have f1 := froz_row HQ3S.out 1; have f2 := froz_row HQ3S.out 2
      simp only [List.getElem?_toArray, List.getElem?_cons_zero, List.getElem?_cons_succ] at x0 x1 x2
      clear hok
      go_upto_region 6 with (fail)
      have e3 : (((ws.setCell ⟨B3, 0, none⟩ (.int .i64 0)).setCell ⟨B3, 1, none⟩ (.int .u64 0)).setCell ⟨B3, 2, none⟩ (.slice none 0 0)).heap[B3]? = some (.cells #[.int .i64 0, .int .u64 0, .slice none 0 0] 32 (0, 0)) := by
        have h' := HQ3S.out
        simp [World.setCell, Array.getElem?_modify, h']
      have tt : Turns (fun k => k = B3) ws (((ws.setCell ⟨B3, 0, none⟩ (.int .i64 0)).setCell ⟨B3, 1, none⟩ (.int .u64 0)).setCell ⟨B3, 2, none⟩ (.slice none 0 0)) := (((Turns.refl (fun k => k = B3) ws).setCell ⟨B3, 0, none⟩ _ rfl).setCell ⟨B3, 1, none⟩ _ rfl).setCell ⟨B3, 2, none⟩ _ rfl
      have hbe : Below w.heap.size w (((ws.setCell ⟨B3, 0, none⟩ (.int .i64 0)).setCell ⟨B3, 1, none⟩ (.int .u64 0)).setCell ⟨B3, 2, none⟩ (.slice none 0 0)) := (((HBS.out.setCell (p := ⟨B3, 0, none⟩) HLT.out.2.2.2.2.2.2.2.1 _).setCell (p := ⟨B3, 1, none⟩) HLT.out.2.2.2.2.2.2.2.1 _).setCell (p := ⟨B3, 2, none⟩) HLT.out.2.2.2.2.2.2.2.1 _)
      have hb_ : ∀ k o, k < b1 → k ≠ B3 → ws.heap[k]? = some o → (((ws.setCell ⟨B3, 0, none⟩ (.int .i64 0)).setCell ⟨B3, 1, none⟩ (.int .u64 0)).setCell ⟨B3, 2, none⟩ (.slice none 0 0)).heap[k]? = some o := fun k o hk hne e => (tt.block k (by have := HSZS.out; omega) hne).trans e
      have e0 := hb_ B0 _ HLT.out.1 HLT.out.2.2.2.2.2.2.2.2.2.2.2.1 HQ0S.out
      have e1 := hb_ B1 _ HLT.out.2.1 HLT.out.2.2.2.2.2.2.2.2.2.2.2.2 HQ1S.out
      have e2 := hb_ B2 _ HLT.out.2.2.1 (fun e => HLT.out.2.2.2.2.2.2.2.2.2.2.1 e.symm) HQ2S.out
      have HE0 := Lib.hid e0; have HE1 := Lib.hid e1; have HE2 := Lib.hid e2; have HE3 := Lib.hid e3; have HBE := Lib.hid hbe
      have HSE : Hid (b1 ≤ (((ws.setCell ⟨B3, 0, none⟩ (.int .i64 0)).setCell ⟨B3, 1, none⟩ (.int .u64 0)).setCell ⟨B3, 2, none⟩ (.slice none 0 0)).heap.size) := Lib.hid (Nat.le_trans HSZS.out tt.size)
      clear e0 e1 e2 e3 tt hbe hb_ x0 x1 x2 f0 f1 f2
      generalize (((ws.setCell ⟨B3, 0, none⟩ (.int .i64 0)).setCell ⟨B3, 1, none⟩ (.int .u64 0)).setCell ⟨B3, 2, none⟩ (.slice none 0 0)) = we at *
      have x0 := cell_row HE3.out 0; have x1 := cell_row HE3.out 1; have x2 := cell_row HE3.out 2
      have y1 := cell_row HE2.out 1; have z1 := froz_row HE2.out 1
      simp only [List.getElem?_toArray, List.getElem?_cons_zero, List.getElem?_cons_succ] at x0 x1 x2 y1
      have hoc : Calls Tryz.prog 35 #[.agg #[.int .i64 0, .int .u64 0, .slice none 0 0]] we fun e w' => S3.OthC we w' 0 0 [] e := S3.otherC_any (D := []) (b2 := 0) 0 0 0 S3.Rd.nil (Nat.zero_le _) (by simp)
      have HOC := Lib.hid hoc
      clear hoc
      go_wp2_with (first
        | (go_at_call 35; refine HOC.out.mono ?_; rintro e wo2 ⟨Ao2, co2, rfl, hlo2, hco2, hro2, hbo2⟩;
           have HRN2 := Lib.hid (show Calls Tryz.prog 34 #[.agg #[.int .i64 0, .int .u64 0, .slice Ao2 0 co2]] wo2 fun e w' => ∃ v er, e = .returned (.tuple #[.pointer v, .int .i64 er]) ∧ RNewE wo2 w' 0 0 [] (.pointer v) er ∧ Below wo2.heap.size wo2 w' from rnew_any (w := wo2) (D := []) 0 0 co2 hlo2 hco2 (by omega) hro2.rd (Nat.le_refl _) (fun d hd => by cases hd));
           have y1' := bcell hbo2 y1;
           have HBO2 := Lib.hid hbo2; clear hro2 hbo2)
        | (go_at_call 34; refine HRN2.out.mono ?_; rintro e wr2 ⟨v2, er2, rfl, hre2, hbr2⟩;
           have HRE2 := Lib.hid hre2; have HBR2 := Lib.hid (HBO2.out.trans (hbr2.mono HBO2.out.size));
           have hq2 : wr2.heap[B2]? = _ := (HBR2.out.block B2 (by have := HSE.out; have := HLT.out; omega)).trans HE2.out;
           have y2 := cell_row hq2 1; have z2 := froz_row hq2 1; have HQ22 := Lib.hid hq2; clear hre2 hbr2 hq2))
      rcases HRE2.out with ⟨hok2, rfl, Y, hv2, py, r0, rb⟩ | ⟨hok2, _, _⟩
      · injection hv2 with hv2
        subst hv2
        have hq2s : (wr2.setCell ⟨B2, 1, none⟩ (Pw Y.wB)).heap[B2]? = some (.cells #[.pointer none, Pw Y.wB] 27 (0, 0)) := by
          have h' := HQ22.out
          simp [World.setCell, Array.getElem?_modify, h']
        have hts : Turns (fun k => k = B2) wr2 (wr2.setCell ⟨B2, 1, none⟩ (Pw Y.wB)) := (Turns.refl (fun k => k = B2) wr2).setCell ⟨B2, 1, none⟩ _ rfl
        have hblk : ∀ k o, k < b1 → k ≠ B2 → we.heap[k]? = some o → (wr2.setCell ⟨B2, 1, none⟩ (Pw Y.wB)).heap[k]? = some o := fun k o hk hne e =>
          (hts.block k (by have := HBR2.out.size; have := HSE.out; omega) hne).trans ((HBR2.out.block k (by have := HSE.out; omega)).trans e)
        have hbs2 : Below w.heap.size w (wr2.setCell ⟨B2, 1, none⟩ (Pw Y.wB)) := (HBE.out.trans (HBR2.out.mono HBE.out.size)).setCell (p := ⟨B2, 1, none⟩) HLT.out.2.2.2.2.2.2.1 _
        go_meet
        exact ⟨Y, 0, 0, [], none, 0, hblk B0 _ HLT.out.1 HLT.out.2.2.2.2.2.2.2.2.1 HE0.out, hblk B1 _ HLT.out.2.1 HLT.out.2.2.2.2.2.2.2.2.2.1 HE1.out, hq2s, hblk B3 _ HLT.out.2.2.2.1 HLT.out.2.2.2.2.2.2.2.2.2.2.1 HE3.out,
          (py.kept hts (fun i p hp k hk e => by have := py.low i p hp k hk; have := HBO2.out.size; have := HSE.out; have := HLT.out; omega)).rebase (by have := HBO2.out.size; have := HSE.out; omega),
          r0, Nat.le_trans rb hts.size, hok2, by simp, by omega, by omega, S3.Rd.nil, (fun d hd => by cases hd), hbs2, Nat.le_trans (Nat.le_trans HSE.out HBR2.out.size) hts.size⟩
      · exact absurd hok2 (by decide)
  case rest =>
    obtain ⟨Y, sp', mo', D', A', c', hc⟩ := hcut
    have x0 := cell_row hc.p3 0; have x1 := cell_row hc.p3 1; have x2 := cell_row hc.p3 2
    simp only [List.getElem?_toArray, List.getElem?_cons_zero, List.getElem?_cons_succ] at x0 x1 x2
    have HNW := Lib.hid (wnew_any sp' mo' c' hc.dl hc.dc hc.mm hc.rd hc.bl.size hc.dd)
    have HC := Lib.hid hc
    clear hc HRE HBR HQ0S HQ1S HQ2S HQ3S HBS HSZS HKEEP HSZ2 HBO HRD1 HBW HS4 H0 H1 H2 H3 HRN hlo hco
    go_upto_region 8 with (first
      | (go_at_call 36; refine HNW.out.mono ?_; rintro e wn ⟨v, er, rfl, hwe, hbn⟩;
         have hq2 : wn.heap[B2]? = _ := (hbn.block B2 (by have := HC.out.sz; have := HLT.out; omega)).trans HC.out.p2;
         have y2 := cell_row hq2 0; have z2 := froz_row hq2 0; have HQ2 := Lib.hid hq2; have HWE := Lib.hid hwe; have HBN := Lib.hid hbn; clear hq2 hwe hbn))
    rcases HWE.out with ⟨_, rfl, X, hv, pw, a0⟩ | ⟨hok, _, _⟩
    · injection hv with hv
      subst hv
      have hbg := bg_first (base := b1) (w0 := wn) HC.out.py HC.out.r0 HC.out.rb pw a0 HBN.out (Below.refl _ _) (by have := HC.out.ok; simp [okC] at this; omega)
      have hts : Turns (fun k => k = B2) wn (wn.setCell ⟨B2, 0, none⟩ (Pw X.wB)) := (Turns.refl (fun k => k = B2) wn).setCell ⟨B2, 0, none⟩ _ rfl
      have hbg2 := hbg.outside hts (fun k e => by have := HLT.out; omega)
      have hq2s : (wn.setCell ⟨B2, 0, none⟩ (Pw X.wB)).heap[B2]? = some (.cells #[Pw X.wB, Pw Y.wB] 27 (0, 0)) := by
        have h' := HQ2.out
        simp [World.setCell, Array.getElem?_modify, h']
      have g0 := (hts.block B0 (by have := HBN.out.size; have := HC.out.sz; have := HLT.out; omega) HLT.out.2.2.2.2.2.2.2.2.1).trans ((HBN.out.block B0 (by have := HC.out.sz; have := HLT.out; omega)).trans HC.out.p0)
      have g1 := (hts.block B1 (by have := HBN.out.size; have := HC.out.sz; have := HLT.out; omega) HLT.out.2.2.2.2.2.2.2.2.2.1).trans ((HBN.out.block B1 (by have := HC.out.sz; have := HLT.out; omega)).trans HC.out.p1)
      have hbs : Below w.heap.size w (wn.setCell ⟨B2, 0, none⟩ (Pw X.wB)) := (HC.out.bl.trans (HBN.out.mono HC.out.bl.size)).setCell (p := ⟨B2, 0, none⟩) HLT.out.2.2.2.2.2.2.1 _
      have hsz : b1 ≤ (wn.setCell ⟨B2, 0, none⟩ (Pw X.wB)).heap.size := hbg2.pr.size
      have HBG := Lib.hid hbg2; have HG0 := Lib.hid g0; have HG1 := Lib.hid g1; have HG2 := Lib.hid hq2s; have HBS := Lib.hid hbs; have HSZ := Lib.hid hsz
      obtain ⟨WB, hWB⟩ : ∃ WB, WB = X.wB := ⟨_, rfl⟩
      obtain ⟨RB, hRB⟩ : ∃ RB, RB = Y.wB := ⟨_, rfl⟩
      rw [← hWB, ← hRB] at HG2
      rw [← hWB] at HBG HG0 HG1 HBS HSZ ⊢
      rw [← hRB] at HBG
      have HBE : Hid (BgE (wn.setCell ⟨B2, 0, none⟩ (Pw WB)) (wn.setCell ⟨B2, 0, none⟩ (Pw WB)) b1 WB RB 0 0 1 []) := Lib.hid ⟨_, X, Y, HBG.out⟩
      clear hbg hts hbg2 hq2s g0 g1 hbs hsz HC HNW HWE HBN HQ2 HBG pw a0 x0 x1 x2 y2 z2 hWB hRB
      generalize wn.setCell ⟨B2, 0, none⟩ (Pw WB) = wS at *
      have y0 := cell_row HG2.out 0
      simp only [List.getElem?_toArray, List.getElem?_cons_zero, List.getElem?_cons_succ] at y0
      go_upto_region 11 with (fail)
      clear y0
      have HWB1 : Hid (w.heap.size ≤ b1) := Lib.hid (by have := HLT.out; omega)
      have HCELL : Hid (∀ W, Below b1 wS W → W.cell? ⟨B2, 0, none⟩ = some (Pw WB) ∧ W.cell? ⟨B2, 1, none⟩ = some (Pw RB) ∧ W.cell? ⟨B1, 0, none⟩ = some (.pointer none) ∧ W.cell? ⟨B0, 3, none⟩ = some (.slice sA sn sc) ∧ W.cell? ⟨B0, 4, none⟩ = some (.slice gA gn gc) ∧ W.cell? ⟨B0, 5, none⟩ = some (.slice qA qn qc) ∧ W.cell? ⟨B0, 6, none⟩ = some (.int .u64 (tk : Int))) := Lib.hid (fun W q => by
        have k2 := (q.block B2 HLT.out.2.2.1).trans HG2.out
        have k1 := (q.block B1 HLT.out.2.1).trans HG1.out
        have k0 := (q.block B0 HLT.out.1).trans HG0.out
        exact ⟨cell_row k2 0, cell_row k2 1, cell_row k1 0, cell_row k0 3, cell_row k0 4, cell_row k0 5, cell_row k0 6⟩)
      have HIN : Hid (∀ W, Below b1 wS W → Below w.heap.size w W) := Lib.hid (fun W q => HBS.out.trans (q.mono HWB1.out))
      clear HBS
      go_upto_block 0 with fail
      go_cut [] (fun wx => BgE wS wx b1 WB RB 0 12 7 [])
      case first =>
        go_wp2_with fail
        go_loopg [5, 6] 6 (fun q s5 s6 wx => ∃ (i : Nat) (bits : Int), i ≤ gn ∧ i ≤ 6 ∧ q = 6 - i ∧ s6 = .int .i64 (i : Int) ∧ s5 = .int .i64 bits ∧ (0 ≤ bits ∧ bits ≤ 8) ∧ BgE wS wx b1 WB RB 0 (2 * i) (1 + i) [])
        case atStart => exact ⟨0, 2, by omega, by omega, rfl, rfl, rfl, by omega, HBE.out⟩
        case round =>
          obtain ⟨i, bits, hi1, hi2, rfl, rfl, rfl, hbits, M, X, Y, hbg⟩ := hrel
          obtain ⟨k0, k1, k2, k3, k4, k5, k6⟩ := HCELL.out _ hbg.bl
          by_cases hin : i < gn ∧ i < 6
          · obtain ⟨hi3, hi4⟩ := hin
            obtain ⟨lb, lo, hga, hlb, hgc⟩ := HGI.out.1 (by omega)
            have HGC : Hid (∀ W, Below b1 wS W → W.cell? ⟨lb, lo + i, none⟩ = some (.int .i64 (G i))) := Lib.hid (fun W q => ((HIN.out W q).cell (p := ⟨lb, lo + i, none⟩) hlb).trans (hgc i hi3))
            subst hga
            obtain ⟨a, M', h1, h2, h5, h6⟩ := bg_grow (E := []) hbg.gd (by omega) (fr := bits) (tg := G i) (by unfold S10.InI; omega) (HGI.out.2.1 i hi3)
            have HGR := Lib.hid h5; have HGW := Lib.hid h6; have HAF := Lib.hid (And.intro h1 h2)
            have d1 : decide ((i : Int) < (gn : Int)) = true := by simp; omega
            have d2 : decide ((i : Int) < 6) = true := by simp; omega
            have hi5 : (i : Int) < (gn : Int) := by omega
            have k8 := HGC.out _ hbg.bl
            have k7 := hbg.c.2.2.2.2.2
            have HB0 := Lib.hid hbg; have HBI := Lib.hid hbits
            clear hbg h1 h2 h5 h6 hgc hlb hbits k0 k2 k3 k5 k6
            go_upto_region 14 with (fail)
            go_still_tail 11, (by kernel_rfl)
            change wpList _ _ _ _ _ wr.drew
            go_upto_if 66 with (go_at_call 37; refine (HGR.out _ _ _ _ _ _ _ _ _ (HB0.out.new ((Below.refl _ _).drew))).mono ?_; rintro e w3 ⟨rfl, Y3, h3, ht3⟩)
            have H3B := Lib.hid h3
            clear h3 ht3 HB0 HGR
            cases a
            · obtain rfl := HAF.out.1 rfl
              clear k1 k4 k7 k8
              go_wp2_with fail
              go_roundg (6 - (i + 1))
              case measure => omega
              case rel => exact ⟨i + 1, bits, by omega, by omega, rfl, by go_num, rfl, HBI.out, _, X, Y3, H3B.out.mono (Nat.le_refl _) (by omega) (by omega)⟩
            · have hg28 := HAF.out.2 rfl
              have HG28 := Lib.hid hg28
              have k7 := H3B.out.c.2.2.1
              clear hg28 HAF
              go_upto_region 15 with (fail)
              obtain ⟨j0, j1, j2, j3, j4, j5, j6⟩ := HCELL.out _ H3B.out.bl
              have j8 := HGC.out _ H3B.out.bl
              go_still_tail 11, (by kernel_rfl)
              change wpList _ _ _ _ _ w3.drew
              go_upto_region 16 with (go_at_call 38; refine (HGW.out _ _ _ _ _ _ _ _ _ (by omega) (H3B.out.new ((Below.refl _ _).drew))).mono ?_; rintro e w4 ⟨rfl, X4, h4, ht4⟩)
              obtain ⟨l0, l1, l2, l3, l4, l5, l6⟩ := HCELL.out _ h4.bl
              have l8 := HGC.out _ h4.bl
              obtain ⟨gv, hgv⟩ : ∃ gv : Nat, G i = (gv : Int) := Int.eq_ofNat_of_zero_le (by have := HG28.out; omega)
              have hwu : IntKind.u64.wrap (G i) = (gv : Int) := by
                rw [IntKind.wrap_u64]
                have := HG28.out
                omega
              have hps : Calls Tryz.prog 39 #[.agg #[Pw WB, Pw RB], .agg #[.int .u32 0, .int .u64 (gv : Int)]] w4 fun e w' => e = .returned (.tuple #[]) ∧ BgE wS w' b1 WB RB 0 (2 * i + 2) (1 + i + 1) [] := pair_store h4 (a := 0) (v := gv) (by omega) (by have := HG28.out; omega) (by omega)
              have HPS := Lib.hid hps; have HWU := Lib.hid hwu
              clear hgv h4 ht4 hps HGW H3B j0 j1 j2 j3 j4 j5 j6 j8 k7 hwu
              go_upto_region 17 with (fail)
              have hwu := HWU.out
              clear l8
              go_wp2_with (go_at_call 39; refine HPS.out.mono ?_; rintro e w5 ⟨rfl, M5, X5, Y5, h5⟩)
              go_roundg (6 - (i + 1))
              case measure => omega
              case rel => exact ⟨i + 1, G i, by omega, by omega, rfl, by go_num, rfl, by have := HG28.out; omega, M5, X5, Y5, h5.mono (Nat.le_refl _) (by omega) (by omega)⟩
          · have HBX := Lib.hid (show BgE wS wr b1 WB RB 0 12 7 [] from ⟨M, X, Y, hbg.mono (Nat.le_refl _) (by omega) (by omega)⟩)
            clear hbg hbits HBE
            by_cases hi5 : i < gn
            · have d1 : decide ((i : Int) < (gn : Int)) = true := by simp; omega
              have d2 : decide ((i : Int) < 6) = false := by simp; omega
              go_wp2_with fail
              go_meet
              exact HBX.out
            · have d1 : decide ((i : Int) < (gn : Int)) = false := by simp; omega
              go_wp2_with fail
              go_meet
              exact HBX.out
      case rest =>
        have HB1 := Lib.hid hcut
        clear hcut HBE
        go_upto_region 18 with (fail)
        go_upto_block 2 with fail
        go_cut [] (fun wx => BgE wS wx b1 WB RB 1200 12 7 [])
        case first =>
          go_wp2_with fail
          go_loopg [7, 8, 9] 20 (fun q s7 s8 s9 wx => ∃ i : Nat, i ≤ qn ∧ i ≤ 20 ∧ q = 20 - i ∧ s7 = .int .i64 (i : Int) ∧ BgE wS wx b1 WB RB (60 * i) 12 7 [])
          case atStart => exact ⟨0, by omega, by omega, rfl, rfl, HB1.out⟩
          case round =>
            obtain ⟨i, hi1, hi2, rfl, rfl, M, X, Y, hbg⟩ := hrel
            obtain ⟨k0, k1, k2, k3, k4, k5, k6⟩ := HCELL.out _ hbg.bl
            by_cases hin : i < qn ∧ i < 20
            · obtain ⟨hi3, hi4⟩ := hin
              obtain ⟨lb, lo, hqa, hlb, hqc⟩ := HQI.out.1 (by omega)
              have HQC : Hid (∀ W, Below b1 wS W → W.cell? ⟨lb, lo + i * 5, none⟩ = some (.int .i64 (Q i).b) ∧ W.cell? ⟨lb, lo + i * 5 + 1, none⟩ = some (.int .i64 (Q i).i) ∧ W.cell? ⟨lb, lo + i * 5 + 2, none⟩ = some (.slice (Q i).A (Q i).D.length (Q i).c) ∧ W.cell? ⟨lb, lo + i * 5 + 3, none⟩ = some (.int .u64 (Q i).ta) ∧ W.cell? ⟨lb, lo + i * 5 + 4, none⟩ = some (.int .u64 (Q i).tf)) := Lib.hid (fun W q => by
                have kk : ∀ j, W.cell? ⟨lb, j, none⟩ = w.cell? ⟨lb, j, none⟩ := fun j => (HIN.out W q).cell (p := ⟨lb, j, none⟩) hlb
                obtain ⟨q1, q2, q3, q4, q5⟩ := hqc i hi3
                exact ⟨(kk _).trans q1, (kk _).trans q2, (kk _).trans q3, (kk _).trans q4, (kk _).trans q5⟩)
              have hok := HQI.out.2.1 i hi3
              have HOK := Lib.hid hok
              clear hqc hok
              subst hqa
              generalize Q i = qq at *
              obtain ⟨b, i2, A, c, D, ta, tf⟩ := qq
              dsimp only at *
              obtain ⟨q1, q2, q3, q4, q5⟩ := HQC.out _ hbg.bl
              have d1 : decide ((i : Int) < (qn : Int)) = true := by simp; omega
              have d2 : decide ((i : Int) < 20) = true := by simp; omega
              have hi5 : (i : Int) < (qn : Int) := by omega
              have HB0 := Lib.hid hbg
              have HO2 : Hid (S10.InI b ∧ S10.Rd w w.heap.size A (S10.flat D) ∧ S10.Keys D) := Lib.hid ⟨HOK.out.b, HOK.out.rd, HOK.out.keys⟩
              clear hbg k0 k1 k2 k3 k4 k6 hlb HOK
              go_upto_region 22 with (fail)
              have h8 := HB0.out.push (blockP wr.heap.size (.cells #[.int .i64 b, .int .i64 i2, .slice A D.length c, .int .u64 ta, .int .u64 tf] 127)) (below1 _ _) (heap_alloc_new _ _) (fun k e => Nat.le_of_eq (show k = wr.heap.size from e).symm)
              have H8 := Lib.hid h8
              clear h8 HB0 q1 q2 q3 q4 q5
              generalize wr.alloc (.cells #[.int .i64 b, .int .i64 i2, .slice A D.length c, .int .u64 ta, .int .u64 tf] 127) = w8 at *
              generalize wr.heap.size = B8 at *
              have hq8 : w8.heap[B8]? = some (.cells #[.int .i64 b, .int .i64 i2, .slice A D.length c, .int .u64 ta, .int .u64 tf] 127) := H8.out.pr.ok 14 _ rfl
              have e2 := cell_row hq8 2
              simp only [List.getElem?_toArray, List.getElem?_cons_zero, List.getElem?_cons_succ] at e2
              by_cases hlen : D.length ≤ 20
              · have d3 : decide ((20 : Int) < (D.length : Int)) = false := by simp; omega
                have e0 := cell_row hq8 0; have e1 := cell_row hq8 1
                simp only [List.getElem?_toArray, List.getElem?_cons_zero, List.getElem?_cons_succ] at e0 e1
                have HL := Lib.hid hlen
                clear hq8 hlen
                go_upto_region 24 with (go_at_call 40; refine (S10.otherP_any b i2 _).mono ?_; rintro e w5 ⟨rfl, hb5⟩)
                have h9 := (H8.out.new hb5).push (blockP w5.heap.size (.cells #[.int .i64 b, .int .i64 i2] 128)) (below1 _ _) (heap_alloc_new _ _) (fun k e => Nat.le_of_eq (show k = w5.heap.size from e).symm)
                obtain ⟨B9, hB9⟩ : ∃ B9, B9 = w5.heap.size := ⟨_, rfl⟩
                obtain ⟨E, hE⟩ : ∃ E, E = ([] ++ [blockP B8 (.cells #[.int .i64 b, .int .i64 i2, .slice A D.length c, .int .u64 ta, .int .u64 tf] 127)]) ++ [blockP B9 (.cells #[.int .i64 b, .int .i64 i2] 128)] := ⟨_, rfl⟩
                rw [← hB9] at h9 ⊢
                rw [← hE] at h9
                have HEC : Hid (∀ W X Y M RM N cn tn, Bg wS W b1 WB RB N cn tn M RM E X Y → W.heap[B8]? = some (.cells #[.int .i64 b, .int .i64 i2, .slice A D.length c, .int .u64 ta, .int .u64 tf] 127) ∧ W.heap[B9]? = some (.cells #[.int .i64 b, .int .i64 i2] 128)) := Lib.hid (fun W X Y M RM N cn tn h => by
                  subst hE
                  exact ⟨h.pr.ok 14 _ rfl, h.pr.ok 15 _ rfl⟩)
                have H9 := Lib.hid h9
                clear h9 H8 hb5 e0 e1 e2 hE hB9
                generalize w5.alloc (.cells #[.int .i64 b, .int .i64 i2] 128) = w9 at *
                obtain ⟨a1, M1, hp1, hp2⟩ := bg_put (E := E) H9.out.gd HO2.out.1 i2 HO2.out.2.2 (by have := HL.out; omega)
                have HP1 := Lib.hid hp1; have HP2 := Lib.hid hp2
                clear hp1 hp2
                obtain ⟨k0, k1, k2, k3, k4, k5, k6⟩ := HCELL.out _ H9.out.bl
                obtain ⟨g8, g9⟩ := HEC.out _ _ _ _ _ _ _ _ H9.out
                have e0 := cell_row g8 0; have e1 := cell_row g8 1; have e2 := cell_row g8 2
                simp only [List.getElem?_toArray, List.getElem?_cons_zero, List.getElem?_cons_succ] at e0 e1 e2
                have m4 := H9.out.c.2.2.1
                clear k1 k2 k3 k4 k5 k6 g8 g9
                have HRQ : Hid (∀ W, Below b1 wS W → S10.Rd W w.heap.size A (S10.flat D) ∧ w.heap.size ≤ W.heap.size) := Lib.hid (fun W q => ⟨HO2.out.2.1.below (HIN.out W q) (Nat.le_refl _), (HIN.out W q).size⟩)
                go_still_tail 9, (by kernel_rfl)
                change wpList _ _ _ _ _ w9.drew
                go_upto_region 25 with (go_at_call 41; refine (HP1.out _ _ _ _ _ _ _ _ _ _ _ _ (H9.out.new ((Below.refl _ _).drew)) (HRQ.out _ H9.out.bl).1 (HRQ.out _ H9.out.bl).2).mono ?_; rintro e w10 ⟨rfl, X10, h10, ht10⟩)
                have H10 := Lib.hid h10
                clear h10 ht10 k0 e0 e1 e2 m4 HP1 H9
                obtain ⟨k0, k1, k2, k3, k4, k5, k6⟩ := HCELL.out _ H10.out.bl
                obtain ⟨g8, g9⟩ := HEC.out _ _ _ _ _ _ _ _ H10.out
                have e2 := cell_row g8 2; have f0 := cell_row g9 0; have f1 := cell_row g9 1
                simp only [List.getElem?_toArray, List.getElem?_cons_zero, List.getElem?_cons_succ] at e2 f0 f1
                have m4 := H10.out.c.2.2.2.2.2
                clear k0 k2 k3 k4 k5 k6 g8 g9
                have HOT := Lib.hid (fun (W : World) (q : Below w10.heap.size w10 W) => S10.others_any (w := W) (A := A) (D := D) c (HRQ.out W (H10.out.bl.trans (q.mono H10.out.pr.size))).1 (HRQ.out W (H10.out.bl.trans (q.mono H10.out.pr.size))).2 (by have := HL.out; omega))
                have HKP : Hid (∀ W, Below w10.heap.size w10 W → W.cell? ⟨B2, 1, none⟩ = some (Pw RB) ∧ W.cell? ⟨RB, 4, none⟩ = some Y.ts ∧ W.cell? ⟨B9, 0, none⟩ = some (.int .i64 b) ∧ W.cell? ⟨B9, 1, none⟩ = some (.int .i64 i2) ∧ W.cell? ⟨B8, 2, none⟩ = some (.slice A D.length c)) := Lib.hid (fun W q => ⟨bcell q k1, bcell q m4, bcell q f0, bcell q f1, bcell q e2⟩)
                have HKQ : Hid (∀ W Y', Bg wS W b1 WB RB (60 * i + 60) 12 7 M1 M1 E X10 Y' → Y'.ts = Y.ts → W.cell? ⟨B2, 1, none⟩ = some (Pw RB) ∧ W.cell? ⟨RB, 4, none⟩ = some Y.ts ∧ W.cell? ⟨B9, 0, none⟩ = some (.int .i64 b) ∧ W.cell? ⟨B9, 1, none⟩ = some (.int .i64 i2) ∧ W.cell? ⟨B8, 2, none⟩ = some (.slice A D.length c)) := Lib.hid (fun W Y' h ht => by
                  obtain ⟨g8, g9⟩ := HEC.out _ _ _ _ _ _ _ _ h
                  have hr := h.c.2.2.2.2.2
                  rw [ht] at hr
                  exact ⟨(HCELL.out _ h.bl).2.1, hr, cell_row g9 0, cell_row g9 1, cell_row g8 2⟩)
                go_region_held3 (fun w' => w'.cell? ⟨B2, 1, none⟩ = some (Pw RB) ∧ w'.cell? ⟨RB, 4, none⟩ = some Y.ts ∧ w'.cell? ⟨B9, 0, none⟩ = some (.int .i64 b) ∧ w'.cell? ⟨B9, 1, none⟩ = some (.int .i64 i2) ∧ w'.cell? ⟨B8, 2, none⟩ = some (.slice A D.length c))
                  (first
                    | exact ⟨k1, m4, f0, f1, e2⟩
                    | exact HKP.out _ HB11.out
                    | exact HKQ.out _ _ H12.out HT12.out)
                  (first
                    | (go_at_call 43; refine (HOT.out _ ((Below.refl _ _).drew)).mono ?_; rintro e w11 ⟨so, rfl, hro, _, hb11⟩; obtain ⟨A11, c11, hs11, _, _⟩ := S10.Row.shape hro; subst hs11; have HB11 : Hid (Below w10.heap.size w10 w11) := Lib.hid (((Below.refl _ w10).drew).trans hb11); have HRO := Lib.hid (S10.Row.rd hro); clear hro hb11)
                    | (go_at_call 42; refine (HP2.out _ _ _ _ _ _ _ _ _ _ _ _ (H10.out.new HB11.out) HRO.out (Nat.le_refl _)).mono ?_; rintro e w12 ⟨rfl, Y12, h12, ht12⟩; have H12 := Lib.hid h12; have HT12 := Lib.hid ht12; clear h12 ht12))
                clear k1 e2 f0 f1 m4 HKP HKQ HOT HP2 H10
                all_goals
                  obtain ⟨a2, M2, hp3, hp4⟩ := bg_putT (E := E) H12.out.gd HO2.out.1 i2 ta tf
                  have HP3 := Lib.hid hp3; have HP4 := Lib.hid hp4
                  clear hp3 hp4
                  obtain ⟨k0, k1, k2, k3, k4, k5, k6⟩ := HCELL.out _ H12.out.bl
                  obtain ⟨g8, g9⟩ := HEC.out _ _ _ _ _ _ _ _ H12.out
                  have e0 := cell_row g8 0; have e1 := cell_row g8 1; have e3 := cell_row g8 3; have e4 := cell_row g8 4
                  simp only [List.getElem?_toArray, List.getElem?_cons_zero, List.getElem?_cons_succ] at e0 e1 e3 e4
                  have m4 := H12.out.c.2.2.1
                  clear k1 k2 k3 k4 k5 k6 g8 g9
                  go_upto_region 26 with (fail)
                  go_still_tail 9, (by kernel_rfl)
                  change wpList _ _ _ _ _ w12.drew
                  go_upto_region 27 with (go_at_call 44; refine (HP3.out _ _ _ _ _ _ _ _ _ (H12.out.new ((Below.refl _ _).drew))).mono ?_; rintro e w13 ⟨rfl, X13, h13, ht13⟩)
                  have H13 := Lib.hid h13
                  clear h13 ht13 k0 e0 e1 e3 e4 m4 HP3 H12 HT12
                  obtain ⟨k0, k1, k2, k3, k4, k5, k6⟩ := HCELL.out _ H13.out.bl
                  obtain ⟨g8, g9⟩ := HEC.out _ _ _ _ _ _ _ _ H13.out
                  have e3 := cell_row g8 3; have e4 := cell_row g8 4; have f0 := cell_row g9 0; have f1 := cell_row g9 1
                  simp only [List.getElem?_toArray, List.getElem?_cons_zero, List.getElem?_cons_succ] at e3 e4 f0 f1
                  have m4 := H13.out.c.2.2.2.2.2
                  clear k0 k2 k3 k4 k5 k6 g8 g9
                  go_still_tail 13, (by kernel_rfl)
                  change wpList _ _ _ _ _ w13.drew
                  go_wp2_with (go_at_call 45; refine (HP4.out _ _ _ _ _ _ _ _ _ (H13.out.new ((Below.refl _ _).drew))).mono ?_; rintro e w14 ⟨rfl, Y14, h14, ht14⟩)
                  go_roundg (20 - (i + 1))
                  case measure => omega
                  case rel => exact ⟨i + 1, by omega, by omega, rfl, by go_num, _, _, _, h14.drop.mono (by omega) (Nat.le_refl _) (Nat.le_refl _)⟩
              · have d3 : decide ((20 : Int) < (D.length : Int)) = true := by simp; omega
                clear hq8 hlen
                go_wp2_with fail
                go_roundg (20 - (i + 1))
                case measure => omega
                case rel => exact ⟨i + 1, by omega, by omega, rfl, by go_num, M, X, Y, H8.out.drop.mono (by omega) (Nat.le_refl _) (Nat.le_refl _)⟩
            · have HBX := Lib.hid (show BgE wS wr b1 WB RB 1200 12 7 [] from ⟨M, X, Y, hbg.mono (by omega) (Nat.le_refl _) (Nat.le_refl _)⟩)
              clear hbg
              by_cases hi5 : i < qn
              · have d1 : decide ((i : Int) < (qn : Int)) = true := by simp; omega
                have d2 : decide ((i : Int) < 20) = false := by simp; omega
                go_wp2_with fail
                go_meet
                exact HBX.out
              · have d1 : decide ((i : Int) < (qn : Int)) = false := by simp; omega
                go_wp2_with fail
                go_meet
                exact HBX.out
        case rest =>
          obtain ⟨M, X, Y, hbg⟩ := hcut
          obtain ⟨k0, k1, k2, k3, k4, k5, k6⟩ := HCELL.out _ hbg.bl
          have HPT := Lib.hid (pair_tick hbg HTK.out)
          clear hbg HB1 HGI HQI HTK k2 k3 k4 k5
          go_upto_region 29 with (go_at_call 46; refine HPT.out.mono ?_; rintro e w20 ⟨rfl, hbt⟩)
          have HBT := Lib.hid hbt
          clear hbt k0 k1 k6 HPT
          go_wp2_with fail
          go_loopg [10] sn (fun q s10 wx => ∃ i : Nat, i ≤ sn ∧ q = sn - i ∧ s10 = .int .i64 (i : Int) ∧ BgE wS wx b1 WB RB 1200 (12 + 2 * i) 7 [])
          case atStart => exact ⟨0, by omega, rfl, rfl, HBT.out⟩
          case round =>
            obtain ⟨i, hi1, rfl, rfl, M, X, Y, hbg⟩ := hrel
            obtain ⟨k0, k1, k2, k3, k4, k5, k6⟩ := HCELL.out _ hbg.bl
            by_cases hin : i < sn
            · obtain ⟨lb, lo, hsa, hlb, hsc⟩ := HSI.out.2.1 (by omega)
              obtain ⟨q1, q2⟩ := hsc i hin
              have r1 := ((HIN.out _ hbg.bl).cell (p := ⟨lb, lo + i * 2, none⟩) hlb).trans q1
              have r2 := ((HIN.out _ hbg.bl).cell (p := ⟨lb, lo + i * 2 + 1, none⟩) hlb).trans q2
              obtain ⟨ha, hv⟩ := HSI.out.2.2 i hin
              subst hsa
              generalize SA i = aa at *
              generalize SV i = vv at *
              have HPS := Lib.hid (fun (W : World) (q : Below wr.heap.size wr W) => pair_store (hbg.new q) ha hv (by have := HSI.out.1; omega))
              have hi5 : (i : Int) < (sn : Int) := by omega
              have hsn9 := HSI.out.1
              have d1 : decide ((i : Int) < (sn : Int)) = true := by simp; omega
              clear hbg hsc q1 q2 ha hv hlb k2 k4 k5 k6
              go_upto_region 32 with (fail)
              go_still_tail 6, (by kernel_rfl)
              change wpList _ _ _ _ _ wr.drew
              go_wp2_with (go_at_call 39; refine (HPS.out _ ((Below.refl _ _).drew)).mono ?_; rintro e w21 ⟨rfl, hb21⟩)
              go_roundg (sn - (i + 1))
              case measure => omega
              case rel => exact ⟨i + 1, by omega, rfl, by go_num, (by
                obtain ⟨M2, X2, Y2, h2⟩ := hb21
                exact ⟨M2, X2, Y2, h2.mono (Nat.le_refl _) (by omega) (Nat.le_refl _)⟩)⟩
            · obtain rfl : i = sn := by omega
              have d1 : decide ((i : Int) < (i : Int)) = false := by simp
              have hq1 : wr.heap[B1]? = some (.cells #[.pointer none, .pointer none] 27 (0, 0)) := (hbg.bl.block B1 HLT.out.2.1).trans HG1.out
              have z0 := cell_row hq1 0; have z1 := cell_row hq1 1; have f0 := froz_row hq1 0; have f1 := froz_row hq1 1
              simp only [List.getElem?_toArray, List.getElem?_cons_zero, List.getElem?_cons_succ] at z0 z1
              have hts : Turns (fun k => k = B1) wr ((wr.setCell ⟨B1, 0, none⟩ (Pw WB)).setCell ⟨B1, 1, none⟩ (Pw RB)) := ((Turns.refl (fun k => k = B1) wr).setCell ⟨B1, 0, none⟩ _ rfl).setCell ⟨B1, 1, none⟩ _ rfl
              have hbo := hbg.outside hts (fun k e => by have := HLT.out; omega)
              have hfb : ((wr.setCell ⟨B1, 0, none⟩ (Pw WB)).setCell ⟨B1, 1, none⟩ (Pw RB)).heap[B1]? = some (.cells #[Pw WB, Pw RB] 27 (0, 0)) := by simp [World.setCell, Array.getElem?_modify, hq1]
              have d4 := cell_row hfb 0; have d5 := cell_row hfb 1
              simp only [List.getElem?_toArray, List.getElem?_cons_zero, List.getElem?_cons_succ] at d4 d5
              have hbl : Below w.heap.size w ((wr.setCell ⟨B1, 0, none⟩ (Pw WB)).setCell ⟨B1, 1, none⟩ (Pw RB)) := ((HIN.out _ hbg.bl).setCell (p := ⟨B1, 0, none⟩) HLT.out.2.2.2.2.2.1 _).setCell (p := ⟨B1, 1, none⟩) HLT.out.2.2.2.2.2.1 _
              obtain ⟨we, hwe⟩ : ∃ we, we = (wr.setCell ⟨B1, 0, none⟩ (Pw WB)).setCell ⟨B1, 1, none⟩ (Pw RB) := ⟨_, rfl⟩
              have hfin : ∃ M X Y, X.wB = WB ∧ Y.wB = RB ∧ Bg w we w.heap.size X.wB Y.wB 1200 2097164 7 M M [] X Y := by
                rw [← hwe] at hbo hbl
                refine ⟨M, X, Y, hbg.wB, hbg.rB, ?_⟩
                rw [hbg.wB, hbg.rB]
                have hbm := hbo.mono (Nat.le_refl 1200) (show 12 + 2 * i ≤ 2097164 by have := HSI.out.1; omega) (Nat.le_refl 7)
                exact { hbm with pr := Parts.rebase hbo.pr HWB1.out, bl := hbl }
              rw [hwe] at hfin
              clear hwe
              have HFIN := Lib.hid hfin
              clear hbg hq1 hts hbo hfb hbl hfin k2 k4 k5 k6
              go_upto_region 33 with (fail)
              go_wp2_with fail
              exact bodyPost_ret (v := .agg #[Pw WB, Pw RB]) (by simp [results, Tryz.results7, go_sem, d4, d5]) rfl (by
                obtain ⟨M', X', Y', e1, e2, h'⟩ := HFIN.out
                exact ⟨M', X', Y', by rw [e1, e2], h'⟩)
    · exact absurd hok (by rw [HC.out.ok]; decide)
end Go.Proofs.YtpmafdggbeppcaaGreatDoor.S12
