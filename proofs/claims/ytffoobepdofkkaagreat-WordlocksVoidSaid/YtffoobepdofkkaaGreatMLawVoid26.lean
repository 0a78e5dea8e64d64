/- Texts of this seat, one behind the other. -/
import Derived.Test.YtffoobepdofkkaaGreatMLawVoid25
import Derived.Deep.CutRange
import Derived.StillTailTactics
import Derived.Deep.CutBlock
import Derived.Deep.RegionHeld3
import Derived.Deep.DeepCutAuto
namespace Go.Proofs.YtffoobepdofkkaaGreat.S12
open Go.Proofs.YtffoobepdofkkaaGreat Go.Proofs.YtffoobepdofkkaaGreat.S11
open Go.RowKit

/-- A cell of a list of structs that came in. -/
def GIn (w : World) (base : Nat) (p : Option Addr) (n : Nat) (G : Nat → Int) : Prop := 0 < n → ∃ lb lo, p = some ⟨lb, lo, none⟩ ∧ lb < base ∧ ∀ i, i < n → w.cell? ⟨lb, lo + i, none⟩ = some (.int .i64 (G i))
structure Qu where
  b : Int
  i : Int
  A : Option Addr
  c : Nat
  D : List S10.Ent
  ta : Int
  tf : Int
instance : Inhabited Qu := ⟨⟨0, 0, none, 0, [], 0, 0⟩⟩
def QIn (w : World) (base : Nat) (p : Option Addr) (n : Nat) (Q : Nat → Qu) : Prop := 0 < n → ∃ lb lo, p = some ⟨lb, lo, none⟩ ∧ lb < base ∧ ∀ i, i < n → w.cell? ⟨lb, lo + i * 5, none⟩ = some (.int .i64 (Q i).b) ∧ w.cell? ⟨lb, lo + i * 5 + 1, none⟩ = some (.int .i64 (Q i).i) ∧ w.cell? ⟨lb, lo + i * 5 + 2, none⟩ = some (.slice (Q i).A (Q i).D.length (Q i).c) ∧ w.cell? ⟨lb, lo + i * 5 + 3, none⟩ = some (.int .u64 (Q i).ta) ∧ w.cell? ⟨lb, lo + i * 5 + 4, none⟩ = some (.int .u64 (Q i).tf)
structure QOk (w : World) (base : Nat) (q : Qu) : Prop where
  b : S10.InI q.b
  le : q.D.length ≤ q.c
  c : q.c ≤ 9223372036854775807
  rd : S10.Rd w base q.A (S10.flat q.D)
  keys : S10.Keys q.D
theorem GIn.below {w w' : World} {base b : Nat} {p : Option Addr} {n : Nat} {G : Nat → Int} (h : GIn w base p n G) (hb : Below b w w') (hbb : base ≤ b) : GIn w' base p n G := fun h0 => by
  obtain ⟨lb, lo, e, hl, hc⟩ := h h0
  exact ⟨lb, lo, e, hl, fun i hi => (hb.cell (p := ⟨lb, lo + i, none⟩) (Nat.lt_of_lt_of_le hl hbb)).trans (hc i hi)⟩
theorem QIn.below {w w' : World} {base b : Nat} {p : Option Addr} {n : Nat} {Q : Nat → Qu} (h : QIn w base p n Q) (hb : Below b w w') (hbb : base ≤ b) : QIn w' base p n Q := fun h0 => by
  obtain ⟨lb, lo, e, hl, hc⟩ := h h0
  have k : ∀ j, w'.cell? ⟨lb, j, none⟩ = w.cell? ⟨lb, j, none⟩ := fun j => hb.cell (p := ⟨lb, j, none⟩) (Nat.lt_of_lt_of_le hl hbb)
  refine ⟨lb, lo, e, hl, fun i hi => ?_⟩
  obtain ⟨h1, h2, h3, h4, h5⟩ := hc i hi
  exact ⟨(k _).trans h1, (k _).trans h2, (k _).trans h3, (k _).trans h4, (k _).trans h5⟩
theorem QOk.below {w w' : World} {base b : Nat} {q : Qu} (h : QOk w base q) (hb : Below b w w') (hbb : base ≤ b) : QOk w' base q := ⟨h.b, h.le, h.c, h.rd.below hb hbb, h.keys⟩
section
variable {w0 w w' : World} {base WB RB N cn tn : Nat} {M RM : Sd} {E : List Part} {X : Wm} {Y : Rm}
/-- What turns below the base turns nothing of both. -/
theorem Bg.outside (h : Bg w0 w base WB RB N cn tn M RM E X Y) {S : Nat → Prop} (t : Turns S w w') (hs : ∀ k, S k → k < base) : Bg w' w' base WB RB N cn tn M RM E X Y :=
  { h with pr := Parts.kept h.pr t (fun i p hp k hk e => by have := h.pr.low i p hp k hk; have := hs k e; omega), rb := Nat.le_trans h.rb t.size, bl := Below.refl _ _ }
end
theorem Parts.rebase {w : World} {b b' : Nat} {l : List Part} (h : Parts w b l) (hb : b' ≤ b) : Parts w b' l :=
  ⟨Nat.le_trans hb h.size, h.ok, h.apart, fun i p hp k hk => Nat.le_trans hb (h.low i p hp k hk)⟩
/-- The document's world is made, and the config that it was made of stands. -/
structure BCut (w wx : World) (B0 B1 B2 B3 b1 : Nat) (fb : Array Value) (Y : Rm) (sp : Int) (mo : Nat) (D : List Nat) (A : Option Addr) (c : Nat) : Prop where
  p0 : wx.heap[B0]? = some (.cells fb 30 (0, 0))
  p1 : wx.heap[B1]? = some (.cells #[.pointer none, .pointer none] 36 (0, 0))
  p2 : wx.heap[B2]? = some (.cells #[.pointer none, Pw Y.wB] 36 (0, 0))
  p3 : wx.heap[B3]? = some (.cells #[.int .i64 sp, .int .u64 (mo : Int), .slice A D.length c] 25 (0, 0))
  py : Parts wx b1 Y.parts
  r0 : RAt0 Y sp mo D
  rb : Y.rb ≤ wx.heap.size
  ok : okC sp D.length = true
  dl : D.length ≤ c
  dc : c ≤ 9223372036854775807
  mm : mo ≤ 18446744073709551615
  rd : S3.Rd wx w.heap.size A D
  dd : ∀ d ∈ D, d ≤ 18446744073709551615
  bl : Below w.heap.size w wx
  sz : b1 ≤ wx.heap.size
set_option maxRecDepth 100000 in
set_option maxHeartbeats 8000000 in
theorem begin_any {w : World} {sp : Int} {mo dc sn sc gn gc qn qc tk : Nat} {dA sA gA qA : Option Addr} {D : List Nat} {SA SV : Nat → Nat} {G : Nat → Int} {Q : Nat → Qu}
    (hd : D.length ≤ 300) (hdl : D.length ≤ dc) (hdc : dc ≤ 9223372036854775807) (hmo : mo ≤ 18446744073709551615) (hrd : S3.Rd w w.heap.size dA D) (hdd : ∀ d ∈ D, d ≤ 18446744073709551615)
    (hsn : sn ≤ 100) (hsi : S2.WIn w w.heap.size sA sn SA SV) (hso : S2.WOk sn SA SV) (hgi : GIn w w.heap.size gA gn G) (hgo : ∀ i, i < gn → S10.InI (G i)) (hgn : gn ≤ 9223372036854775807) (hqi : QIn w w.heap.size qA qn Q) (hqo : ∀ i, i < qn → QOk w w.heap.size (Q i)) (hqn : qn ≤ 9223372036854775807) (htk : tk ≤ 18446744073709551615) :
    Calls Tryz.prog 6 #[.agg #[.int .i64 sp, .int .u64 (mo : Int), .slice dA D.length dc, .slice sA sn sc, .slice gA gn gc, .slice qA qn qc, .int .u64 (tk : Int)]] w fun e w' => ∃ M X Y, e = .returned (.agg #[Pw X.wB, Pw Y.wB]) ∧ Bg w w' w.heap.size X.wB Y.wB 1200 300 7 M M [] X Y := by
  have hbw : Below w.heap.size w ((((w.alloc (.cells #[.int .i64 sp, .int .u64 (mo : Int), .slice dA D.length dc, .slice sA sn sc, .slice gA gn gc, .slice qA qn qc, .int .u64 (tk : Int)] 30)).alloc (.cells #[.pointer none, .pointer none] 36)).alloc (.cells #[.pointer none, .pointer none] 36)).alloc (.cells #[.int .i64 sp, .int .u64 (mo : Int), .slice dA D.length dc] 25)) := ((((Below.refl _ _).alloc (Nat.le_refl _) _).alloc (by simp) _).alloc (by simp; omega) _).alloc (by simp; omega) _
  have h0 := heap_alloc_new w (.cells #[.int .i64 sp, .int .u64 (mo : Int), .slice dA D.length dc, .slice sA sn sc, .slice gA gn gc, .slice qA qn qc, .int .u64 (tk : Int)] 30)
  have h1 := heap_alloc_new (w.alloc (.cells #[.int .i64 sp, .int .u64 (mo : Int), .slice dA D.length dc, .slice sA sn sc, .slice gA gn gc, .slice qA qn qc, .int .u64 (tk : Int)] 30)) (.cells #[.pointer none, .pointer none] 36)
  have h2 := heap_alloc_new ((w.alloc (.cells #[.int .i64 sp, .int .u64 (mo : Int), .slice dA D.length dc, .slice sA sn sc, .slice gA gn gc, .slice qA qn qc, .int .u64 (tk : Int)] 30)).alloc (.cells #[.pointer none, .pointer none] 36)) (.cells #[.pointer none, .pointer none] 36)
  have h3 := heap_alloc_new (((w.alloc (.cells #[.int .i64 sp, .int .u64 (mo : Int), .slice dA D.length dc, .slice sA sn sc, .slice gA gn gc, .slice qA qn qc, .int .u64 (tk : Int)] 30)).alloc (.cells #[.pointer none, .pointer none] 36)).alloc (.cells #[.pointer none, .pointer none] 36)) (.cells #[.int .i64 sp, .int .u64 (mo : Int), .slice dA D.length dc] 25)
  have s1 : (w.alloc (.cells #[.int .i64 sp, .int .u64 (mo : Int), .slice dA D.length dc, .slice sA sn sc, .slice gA gn gc, .slice qA qn qc, .int .u64 (tk : Int)] 30)).heap.size = w.heap.size + 1 := by simp
  have s2 : ((w.alloc (.cells #[.int .i64 sp, .int .u64 (mo : Int), .slice dA D.length dc, .slice sA sn sc, .slice gA gn gc, .slice qA qn qc, .int .u64 (tk : Int)] 30)).alloc (.cells #[.pointer none, .pointer none] 36)).heap.size = w.heap.size + 2 := by simp
  have s3 : (((w.alloc (.cells #[.int .i64 sp, .int .u64 (mo : Int), .slice dA D.length dc, .slice sA sn sc, .slice gA gn gc, .slice qA qn qc, .int .u64 (tk : Int)] 30)).alloc (.cells #[.pointer none, .pointer none] 36)).alloc (.cells #[.pointer none, .pointer none] 36)).heap.size = w.heap.size + 3 := by simp
  have s4 : ((((w.alloc (.cells #[.int .i64 sp, .int .u64 (mo : Int), .slice dA D.length dc, .slice sA sn sc, .slice gA gn gc, .slice qA qn qc, .int .u64 (tk : Int)] 30)).alloc (.cells #[.pointer none, .pointer none] 36)).alloc (.cells #[.pointer none, .pointer none] 36)).alloc (.cells #[.int .i64 sp, .int .u64 (mo : Int), .slice dA D.length dc] 25)).heap.size = w.heap.size + 4 := by simp
  have u2 := fun (k : Nat) (hk : k < w.heap.size + 3) => (below1 (((w.alloc (.cells #[.int .i64 sp, .int .u64 (mo : Int), .slice dA D.length dc, .slice sA sn sc, .slice gA gn gc, .slice qA qn qc, .int .u64 (tk : Int)] 30)).alloc (.cells #[.pointer none, .pointer none] 36)).alloc (.cells #[.pointer none, .pointer none] 36)) (.cells #[.int .i64 sp, .int .u64 (mo : Int), .slice dA D.length dc] 25)).block k (by rw [s3]; exact hk)
  have u1 := fun (k : Nat) (hk : k < w.heap.size + 2) => (below1 ((w.alloc (.cells #[.int .i64 sp, .int .u64 (mo : Int), .slice dA D.length dc, .slice sA sn sc, .slice gA gn gc, .slice qA qn qc, .int .u64 (tk : Int)] 30)).alloc (.cells #[.pointer none, .pointer none] 36)) (.cells #[.pointer none, .pointer none] 36)).block k (by rw [s2]; exact hk)
  have u0 := fun (k : Nat) (hk : k < w.heap.size + 1) => (below1 (w.alloc (.cells #[.int .i64 sp, .int .u64 (mo : Int), .slice dA D.length dc, .slice sA sn sc, .slice gA gn gc, .slice qA qn qc, .int .u64 (tk : Int)] 30)) (.cells #[.pointer none, .pointer none] 36)).block k (by rw [s1]; exact hk)
  rw [s1] at h1
  rw [s2] at h2
  rw [s3] at h3
  have h2' := (u2 (w.heap.size + 2) (by omega)).trans h2
  have h1' := (u2 (w.heap.size + 1) (by omega)).trans ((u1 (w.heap.size + 1) (by omega)).trans h1)
  have h0' := (u2 w.heap.size (by omega)).trans ((u1 w.heap.size (by omega)).trans ((u0 w.heap.size (by omega)).trans h0))
  obtain ⟨B0, hB0⟩ : ∃ B0, B0 = w.heap.size := ⟨_, rfl⟩
  obtain ⟨B1, hB1⟩ : ∃ B1, B1 = w.heap.size + 1 := ⟨_, rfl⟩
  obtain ⟨B2, hB2⟩ : ∃ B2, B2 = w.heap.size + 2 := ⟨_, rfl⟩
  obtain ⟨B3, hB3⟩ : ∃ B3, B3 = w.heap.size + 3 := ⟨_, rfl⟩
  obtain ⟨b1, hb1⟩ : ∃ b1, b1 = w.heap.size + 4 := ⟨_, rfl⟩
  rw [← hB0] at h0'
  rw [← hB1] at h1'
  rw [← hB2] at h2'
  rw [← hB3] at h3
  rw [← hb1] at s4
  have HB := Lib.hid (And.intro hB0 (And.intro hB1 (And.intro hB2 (And.intro hB3 hb1))))
  have H0 := Lib.hid h0'; have H1 := Lib.hid h1'; have H2 := Lib.hid h2'; have H3 := Lib.hid h3; have HBW := Lib.hid hbw; have HS4 := Lib.hid s4
  have HDD := Lib.hid (And.intro hd (And.intro hdl (And.intro hdc (And.intro hmo (And.intro hrd hdd)))))
  have HSI := Lib.hid (And.intro hsn (And.intro hsi hso)); have HGI := Lib.hid (And.intro hgi (And.intro hgo hgn)); have HQI := Lib.hid (And.intro hqi (And.intro hqo hqn)); have HTK := Lib.hid htk
  clear h0 h1 h2 h3 h0' h1' h2' s1 s2 s3 s4 u0 u1 u2 hd hdl hdc hmo hrd hdd hsn hsi hso hgi hgo hgn hqi hqo hqn htk hbw
  go_enter Tryz.func6, Tryz.ntmps6
  go_upto_region 3 with (fail)
  rw [← hB0, show B0 + 1 = B1 by omega, show B1 + 1 = B2 by omega, show B2 + 1 = B3 by omega]
  generalize ((((w.alloc (.cells #[.int .i64 sp, .int .u64 (mo : Int), .slice dA D.length dc, .slice sA sn sc, .slice gA gn gc, .slice qA qn qc, .int .u64 (tk : Int)] 30)).alloc (.cells #[.pointer none, .pointer none] 36)).alloc (.cells #[.pointer none, .pointer none] 36)).alloc (.cells #[.int .i64 sp, .int .u64 (mo : Int), .slice dA D.length dc] 25)) = w1 at *
  have HLT : Hid (B0 < b1 ∧ B1 < b1 ∧ B2 < b1 ∧ B3 < b1 ∧ w.heap.size ≤ B0 ∧ w.heap.size ≤ B1 ∧ w.heap.size ≤ B2 ∧ w.heap.size ≤ B3 ∧ B0 ≠ B2 ∧ B1 ≠ B2 ∧ B3 ≠ B2 ∧ B0 ≠ B3 ∧ B1 ≠ B3) := Lib.hid (by omega)
  clear hB0 hB1 hB2 hB3 hb1 HB
  have c0 := cell_row H3.out 0; have c1 := cell_row H3.out 1; have c2 := cell_row H3.out 2
  have y1 := cell_row H2.out 1; have z1 := froz_row H2.out 1
  simp only [List.getElem?_toArray, List.getElem?_cons_zero, List.getElem?_cons_succ] at c0 c1 c2 y1
  have hrd1 := HDD.out.2.2.2.2.1.below HBW.out (Nat.le_refl _)
  have HRD1 := Lib.hid hrd1
  clear hrd1
  go_upto_region 4 with (first
    | (go_at_call 24; refine (S3.otherC_any sp (mo : Int) dc HRD1.out HBW.out.size (by have := HDD.out.1; omega)).mono ?_; rintro e wo ⟨Ao, co, rfl, hlo, hco, hro, hbo⟩;
       have HRN := Lib.hid (rnew_any (w := wo) sp mo co hlo hco HDD.out.2.2.2.1 hro.rd (Nat.le_refl _) HDD.out.2.2.2.2.2);
       have y1' := bcell hbo y1;
       have HBO := Lib.hid hbo; clear hro hbo)
    | (go_at_call 23; refine HRN.out.mono ?_; rintro e wr ⟨v, er, rfl, hre, hbr⟩;
       have HRE := Lib.hid hre; have HBR := Lib.hid (HBO.out.trans (hbr.mono HBO.out.size));
       have hq2 : wr.heap[B2]? = _ := (HBR.out.block B2 (by rw [HS4.out]; exact HLT.out.2.2.1)).trans H2.out;
       have y2 := cell_row hq2 1; have z2 := froz_row hq2 1; have HQ2 := Lib.hid hq2; clear hre hbr hq2))
  have hq2s : (wr.setCell ⟨B2, 1, none⟩ (.pointer v)).heap[B2]? = some (.cells #[.pointer none, .pointer v] 36 (0, 0)) := by
    have h' := HQ2.out
    simp [World.setCell, Array.getElem?_modify, h']
  have hts : Turns (fun k => k = B2) wr (wr.setCell ⟨B2, 1, none⟩ (.pointer v)) := (Turns.refl (fun k => k = B2) wr).setCell ⟨B2, 1, none⟩ _ rfl
  have hblk : ∀ k o, k < b1 → k ≠ B2 → w1.heap[k]? = some o → (wr.setCell ⟨B2, 1, none⟩ (.pointer v)).heap[k]? = some o := fun k o hk hne e =>
    (hts.block k (by have := HBR.out.size; have := HS4.out; omega) hne).trans ((HBR.out.block k (by rw [HS4.out]; exact hk)).trans e)
  have hq0s := hblk B0 _ HLT.out.1 HLT.out.2.2.2.2.2.2.2.2.1 H0.out
  have hq1s := hblk B1 _ HLT.out.2.1 HLT.out.2.2.2.2.2.2.2.2.2.1 H1.out
  have hq3s := hblk B3 _ HLT.out.2.2.2.1 HLT.out.2.2.2.2.2.2.2.2.2.2.1 H3.out
  have hbs : Below w.heap.size w (wr.setCell ⟨B2, 1, none⟩ (.pointer v)) := (HBW.out.trans (HBR.out.mono HBW.out.size)).setCell (p := ⟨B2, 1, none⟩) HLT.out.2.2.2.2.2.2.1 _
  have hszs : b1 ≤ (wr.setCell ⟨B2, 1, none⟩ (.pointer v)).heap.size := by have := hts.size; have := HBR.out.size; have := HS4.out; omega
  have hkeep : ∀ l, Parts wr wo.heap.size l → Parts (wr.setCell ⟨B2, 1, none⟩ (.pointer v)) b1 l := fun l hl => (hl.kept hts (fun i p hp k hk e => by have := hl.low i p hp k hk; have := HBO.out.size; have := HS4.out; have := HLT.out; omega)).rebase (by have := HBO.out.size; have := HS4.out; omega)
  have hsz2 := hts.size
  have HQ2S := Lib.hid hq2s; have HQ0S := Lib.hid hq0s; have HQ1S := Lib.hid hq1s; have HQ3S := Lib.hid hq3s; have HBS := Lib.hid hbs; have HSZS := Lib.hid hszs; have HKEEP := Lib.hid hkeep; have HSZ2 := Lib.hid hsz2
  clear hq2s hts hblk hq0s hq1s hq3s hbs hszs hkeep hsz2 c0 c1 c2 y1 z1 y1' y2 z2 HQ2
  generalize wr.setCell ⟨B2, 1, none⟩ (.pointer v) = ws at *
  have y1 := cell_row HQ2S.out 1
  simp only [List.getElem?_toArray, List.getElem?_cons_zero, List.getElem?_cons_succ] at y1
  go_upto_if 23 with (fail)
  clear y1
  go_cut [] (fun wx => ∃ Y sp' mo' D' A' c', BCut w wx B0 B1 B2 B3 b1 #[.int .i64 sp, .int .u64 (mo : Int), .slice dA D.length dc, .slice sA sn sc, .slice gA gn gc, .slice qA qn qc, .int .u64 (tk : Int)] Y sp' mo' D' A' c')
  case first =>
    rcases HRE.out with ⟨hok, rfl, Y, hv, py, r0, rb⟩ | ⟨hok, hv, rfl⟩
    · injection hv with hv
      subst hv
      have HPY := Lib.hid py; have HR0 := Lib.hid r0; have HRB := Lib.hid rb; have HOK := Lib.hid hok
      clear py r0 rb hok
      go_wp2_with fail
      go_meet
      exact ⟨Y, sp, mo, D, dA, dc, HQ0S.out, HQ1S.out, HQ2S.out, HQ3S.out, HKEEP.out _ HPY.out, HR0.out, Nat.le_trans HRB.out HSZ2.out, HOK.out, HDD.out.2.1, HDD.out.2.2.1, HDD.out.2.2.2.1, HDD.out.2.2.2.2.1.below HBS.out (Nat.le_refl _), HDD.out.2.2.2.2.2, HBS.out, HSZS.out⟩
    · injection hv with hv
      subst hv
      have x0 := cell_row HQ3S.out 0; have x1 := cell_row HQ3S.out 1; have x2 := cell_row HQ3S.out 2
      have f0 := froz_row HQ3S.out 0; have f1 := froz_row HQ3S.out 1; have f2 := froz_row HQ3S.out 2
      simp only [List.getElem?_toArray, List.getElem?_cons_zero, List.getElem?_cons_succ] at x0 x1 x2
      clear hok
      go_upto_region 6 with (fail)
      have e3 : (((ws.setCell ⟨B3, 0, none⟩ (.int .i64 0)).setCell ⟨B3, 1, none⟩ (.int .u64 0)).setCell ⟨B3, 2, none⟩ (.slice none 0 0)).heap[B3]? = some (.cells #[.int .i64 0, .int .u64 0, .slice none 0 0] 25 (0, 0)) := by
        have h' := HQ3S.out
        simp [World.setCell, Array.getElem?_modify, h']
      have tt : Turns (fun k => k = B3) ws (((ws.setCell ⟨B3, 0, none⟩ (.int .i64 0)).setCell ⟨B3, 1, none⟩ (.int .u64 0)).setCell ⟨B3, 2, none⟩ (.slice none 0 0)) := (((Turns.refl (fun k => k = B3) ws).setCell ⟨B3, 0, none⟩ _ rfl).setCell ⟨B3, 1, none⟩ _ rfl).setCell ⟨B3, 2, none⟩ _ rfl
      have hbe : Below w.heap.size w (((ws.setCell ⟨B3, 0, none⟩ (.int .i64 0)).setCell ⟨B3, 1, none⟩ (.int .u64 0)).setCell ⟨B3, 2, none⟩ (.slice none 0 0)) := (((HBS.out.setCell (p := ⟨B3, 0, none⟩) HLT.out.2.2.2.2.2.2.2.1 _).setCell (p := ⟨B3, 1, none⟩) HLT.out.2.2.2.2.2.2.2.1 _).setCell (p := ⟨B3, 2, none⟩) HLT.out.2.2.2.2.2.2.2.1 _)
      have hb_ : ∀ k o, k < b1 → k ≠ B3 → ws.heap[k]? = some o → (((ws.setCell ⟨B3, 0, none⟩ (.int .i64 0)).setCell ⟨B3, 1, none⟩ (.int .u64 0)).setCell ⟨B3, 2, none⟩ (.slice none 0 0)).heap[k]? = some o := fun k o hk hne e => (tt.block k (by have := HSZS.out; omega) hne).trans e
      have e0 := hb_ B0 _ HLT.out.1 HLT.out.2.2.2.2.2.2.2.2.2.2.2.1 HQ0S.out
      have e1 := hb_ B1 _ HLT.out.2.1 HLT.out.2.2.2.2.2.2.2.2.2.2.2.2 HQ1S.out
      have e2 := hb_ B2 _ HLT.out.2.2.1 (fun e => HLT.out.2.2.2.2.2.2.2.2.2.2.1 e.symm) HQ2S.out
      have HE0 := Lib.hid e0; have HE1 := Lib.hid e1; have HE2 := Lib.hid e2; have HE3 := Lib.hid e3; have HBE := Lib.hid hbe
      have HSE : Hid (b1 ≤ (((ws.setCell ⟨B3, 0, none⟩ (.int .i64 0)).setCell ⟨B3, 1, none⟩ (.int .u64 0)).setCell ⟨B3, 2, none⟩ (.slice none 0 0)).heap.size) := Lib.hid (Nat.le_trans HSZS.out tt.size)
      clear e0 e1 e2 e3 tt hbe hb_ x0 x1 x2 f0 f1 f2
      generalize (((ws.setCell ⟨B3, 0, none⟩ (.int .i64 0)).setCell ⟨B3, 1, none⟩ (.int .u64 0)).setCell ⟨B3, 2, none⟩ (.slice none 0 0)) = we at *
      have x0 := cell_row HE3.out 0; have x1 := cell_row HE3.out 1; have x2 := cell_row HE3.out 2
      have y1 := cell_row HE2.out 1; have z1 := froz_row HE2.out 1
      simp only [List.getElem?_toArray, List.getElem?_cons_zero, List.getElem?_cons_succ] at x0 x1 x2 y1
      have hoc : Calls Tryz.prog 24 #[.agg #[.int .i64 0, .int .u64 0, .slice none 0 0]] we fun e w' => S3.OthC we w' 0 0 [] e := S3.otherC_any (D := []) (b2 := 0) 0 0 0 S3.Rd.nil (Nat.zero_le _) (by simp)
      have HOC := Lib.hid hoc
      clear hoc
      go_wp2_with (first
        | (go_at_call 24; refine HOC.out.mono ?_; rintro e wo2 ⟨Ao2, co2, rfl, hlo2, hco2, hro2, hbo2⟩;
           have HRN2 := Lib.hid (show Calls Tryz.prog 23 #[.agg #[.int .i64 0, .int .u64 0, .slice Ao2 0 co2]] wo2 fun e w' => ∃ v er, e = .returned (.tuple #[.pointer v, .int .i64 er]) ∧ RNewE wo2 w' 0 0 [] (.pointer v) er ∧ Below wo2.heap.size wo2 w' from rnew_any (w := wo2) (D := []) 0 0 co2 hlo2 hco2 (by omega) hro2.rd (Nat.le_refl _) (fun d hd => by cases hd));
           have y1' := bcell hbo2 y1;
           have HBO2 := Lib.hid hbo2; clear hro2 hbo2)
        | (go_at_call 23; refine HRN2.out.mono ?_; rintro e wr2 ⟨v2, er2, rfl, hre2, hbr2⟩;
           have HRE2 := Lib.hid hre2; have HBR2 := Lib.hid (HBO2.out.trans (hbr2.mono HBO2.out.size));
           have hq2 : wr2.heap[B2]? = _ := (HBR2.out.block B2 (by have := HSE.out; have := HLT.out; omega)).trans HE2.out;
           have y2 := cell_row hq2 1; have z2 := froz_row hq2 1; have HQ22 := Lib.hid hq2; clear hre2 hbr2 hq2))
      rcases HRE2.out with ⟨hok2, rfl, Y, hv2, py, r0, rb⟩ | ⟨hok2, _, _⟩
      · injection hv2 with hv2
        subst hv2
        have hq2s : (wr2.setCell ⟨B2, 1, none⟩ (Pw Y.wB)).heap[B2]? = some (.cells #[.pointer none, Pw Y.wB] 36 (0, 0)) := by
          have h' := HQ22.out
          simp [World.setCell, Array.getElem?_modify, h']
        have hts : Turns (fun k => k = B2) wr2 (wr2.setCell ⟨B2, 1, none⟩ (Pw Y.wB)) := (Turns.refl (fun k => k = B2) wr2).setCell ⟨B2, 1, none⟩ _ rfl
        have hblk : ∀ k o, k < b1 → k ≠ B2 → we.heap[k]? = some o → (wr2.setCell ⟨B2, 1, none⟩ (Pw Y.wB)).heap[k]? = some o := fun k o hk hne e =>
          (hts.block k (by have := HBR2.out.size; have := HSE.out; omega) hne).trans ((HBR2.out.block k (by have := HSE.out; omega)).trans e)
        have hbs2 : Below w.heap.size w (wr2.setCell ⟨B2, 1, none⟩ (Pw Y.wB)) := (HBE.out.trans (HBR2.out.mono HBE.out.size)).setCell (p := ⟨B2, 1, none⟩) HLT.out.2.2.2.2.2.2.1 _
        go_meet
        exact ⟨Y, 0, 0, [], none, 0, hblk B0 _ HLT.out.1 HLT.out.2.2.2.2.2.2.2.2.1 HE0.out, hblk B1 _ HLT.out.2.1 HLT.out.2.2.2.2.2.2.2.2.2.1 HE1.out, hq2s, hblk B3 _ HLT.out.2.2.2.1 HLT.out.2.2.2.2.2.2.2.2.2.2.1 HE3.out,
          (py.kept hts (fun i p hp k hk e => by have := py.low i p hp k hk; have := HBO2.out.size; have := HSE.out; have := HLT.out; omega)).rebase (by have := HBO2.out.size; have := HSE.out; omega),
          r0, Nat.le_trans rb hts.size, hok2, by simp, by omega, by omega, S3.Rd.nil, (fun d hd => by cases hd), hbs2, Nat.le_trans (Nat.le_trans HSE.out HBR2.out.size) hts.size⟩
      · exact absurd hok2 (by decide)
  case rest =>
    obtain ⟨Y, sp', mo', D', A', c', hc⟩ := hcut
    have x0 := cell_row hc.p3 0; have x1 := cell_row hc.p3 1; have x2 := cell_row hc.p3 2
    simp only [List.getElem?_toArray, List.getElem?_cons_zero, List.getElem?_cons_succ] at x0 x1 x2
    have HNW := Lib.hid (wnew_any sp' mo' c' hc.dl hc.dc hc.mm hc.rd hc.bl.size hc.dd)
    have HC := Lib.hid hc
    clear hc HRE HBR HQ0S HQ1S HQ2S HQ3S HBS HSZS HKEEP HSZ2 HBO HRD1 HBW HS4 H0 H1 H2 H3 HRN hlo hco
    go_upto_region 8 with (first
      | (go_at_call 25; refine HNW.out.mono ?_; rintro e wn ⟨v, er, rfl, hwe, hbn⟩;
         have hq2 : wn.heap[B2]? = _ := (hbn.block B2 (by have := HC.out.sz; have := HLT.out; omega)).trans HC.out.p2;
         have y2 := cell_row hq2 0; have z2 := froz_row hq2 0; have HQ2 := Lib.hid hq2; have HWE := Lib.hid hwe; have HBN := Lib.hid hbn; clear hq2 hwe hbn))
    rcases HWE.out with ⟨_, rfl, X, hv, pw, a0⟩ | ⟨hok, _, _⟩
    · injection hv with hv
      subst hv
      have hbg := bg_first (base := b1) (w0 := wn) HC.out.py HC.out.r0 HC.out.rb pw a0 HBN.out (Below.refl _ _)
      have hts : Turns (fun k => k = B2) wn (wn.setCell ⟨B2, 0, none⟩ (Pw X.wB)) := (Turns.refl (fun k => k = B2) wn).setCell ⟨B2, 0, none⟩ _ rfl
      have hbg2 := hbg.outside hts (fun k e => by have := HLT.out; omega)
      have hq2s : (wn.setCell ⟨B2, 0, none⟩ (Pw X.wB)).heap[B2]? = some (.cells #[Pw X.wB, Pw Y.wB] 36 (0, 0)) := by
        have h' := HQ2.out
        simp [World.setCell, Array.getElem?_modify, h']
      have g0 := (hts.block B0 (by have := HBN.out.size; have := HC.out.sz; have := HLT.out; omega) HLT.out.2.2.2.2.2.2.2.2.1).trans ((HBN.out.block B0 (by have := HC.out.sz; have := HLT.out; omega)).trans HC.out.p0)
      have g1 := (hts.block B1 (by have := HBN.out.size; have := HC.out.sz; have := HLT.out; omega) HLT.out.2.2.2.2.2.2.2.2.2.1).trans ((HBN.out.block B1 (by have := HC.out.sz; have := HLT.out; omega)).trans HC.out.p1)
      have hbs : Below w.heap.size w (wn.setCell ⟨B2, 0, none⟩ (Pw X.wB)) := (HC.out.bl.trans (HBN.out.mono HC.out.bl.size)).setCell (p := ⟨B2, 0, none⟩) HLT.out.2.2.2.2.2.2.1 _
      have hsz : b1 ≤ (wn.setCell ⟨B2, 0, none⟩ (Pw X.wB)).heap.size := hbg2.pr.size
      have HBG := Lib.hid hbg2; have HG0 := Lib.hid g0; have HG1 := Lib.hid g1; have HG2 := Lib.hid hq2s; have HBS := Lib.hid hbs; have HSZ := Lib.hid hsz
      obtain ⟨WB, hWB⟩ : ∃ WB, WB = X.wB := ⟨_, rfl⟩
      obtain ⟨RB, hRB⟩ : ∃ RB, RB = Y.wB := ⟨_, rfl⟩
      rw [← hWB, ← hRB] at HG2
      rw [← hWB] at HBG HG0 HG1 HBS HSZ ⊢
      rw [← hRB] at HBG
      have HBE : Hid (BgE (wn.setCell ⟨B2, 0, none⟩ (Pw WB)) (wn.setCell ⟨B2, 0, none⟩ (Pw WB)) b1 WB RB 0 0 1 []) := Lib.hid ⟨_, X, Y, HBG.out⟩
      clear hbg hts hbg2 hq2s g0 g1 hbs hsz HC HNW HWE HBN HQ2 HBG pw a0 x0 x1 x2 y2 z2 hWB hRB
      generalize wn.setCell ⟨B2, 0, none⟩ (Pw WB) = wS at *
      have y0 := cell_row HG2.out 0
      simp only [List.getElem?_toArray, List.getElem?_cons_zero, List.getElem?_cons_succ] at y0
      go_upto_region 11 with (fail)
      clear y0
      have HWB1 : Hid (w.heap.size ≤ b1) := Lib.hid (by have := HLT.out; omega)
      have HCELL : Hid (∀ W, Below b1 wS W → W.cell? ⟨B2, 0, none⟩ = some (Pw WB) ∧ W.cell? ⟨B2, 1, none⟩ = some (Pw RB) ∧ W.cell? ⟨B1, 0, none⟩ = some (.pointer none) ∧ W.cell? ⟨B0, 3, none⟩ = some (.slice sA sn sc) ∧ W.cell? ⟨B0, 4, none⟩ = some (.slice gA gn gc) ∧ W.cell? ⟨B0, 5, none⟩ = some (.slice qA qn qc) ∧ W.cell? ⟨B0, 6, none⟩ = some (.int .u64 (tk : Int))) := Lib.hid (fun W q => by
        have k2 := (q.block B2 HLT.out.2.2.1).trans HG2.out
        have k1 := (q.block B1 HLT.out.2.1).trans HG1.out
        have k0 := (q.block B0 HLT.out.1).trans HG0.out
        exact ⟨cell_row k2 0, cell_row k2 1, cell_row k1 0, cell_row k0 3, cell_row k0 4, cell_row k0 5, cell_row k0 6⟩)
      have HIN : Hid (∀ W, Below b1 wS W → Below w.heap.size w W) := Lib.hid (fun W q => HBS.out.trans (q.mono HWB1.out))
      clear HBS
      go_upto_block 0 with fail
      go_cut [] (fun wx => BgE wS wx b1 WB RB 0 12 7 [])
      case first =>
        go_wp2_with fail
        go_loopg [5, 6] 6 (fun q s5 s6 wx => ∃ (i : Nat) (bits : Int), i ≤ gn ∧ i ≤ 6 ∧ q = 6 - i ∧ s6 = .int .i64 (i : Int) ∧ s5 = .int .i64 bits ∧ (0 ≤ bits ∧ bits ≤ 8) ∧ BgE wS wx b1 WB RB 0 (2 * i) (1 + i) [])
        case atStart => exact ⟨0, 2, by omega, by omega, rfl, rfl, rfl, by omega, HBE.out⟩
        case round =>
          obtain ⟨i, bits, hi1, hi2, rfl, rfl, rfl, hbits, M, X, Y, hbg⟩ := hrel
          obtain ⟨k0, k1, k2, k3, k4, k5, k6⟩ := HCELL.out _ hbg.bl
          by_cases hin : i < gn ∧ i < 6
          · obtain ⟨hi3, hi4⟩ := hin
            obtain ⟨lb, lo, hga, hlb, hgc⟩ := HGI.out.1 (by omega)
            have HGC : Hid (∀ W, Below b1 wS W → W.cell? ⟨lb, lo + i, none⟩ = some (.int .i64 (G i))) := Lib.hid (fun W q => ((HIN.out W q).cell (p := ⟨lb, lo + i, none⟩) hlb).trans (hgc i hi3))
            subst hga
            obtain ⟨a, M', h1, h2, h5, h6⟩ := bg_grow (E := []) hbg.gd (by omega) (fr := bits) (tg := G i) (by unfold S10.InI; omega) (HGI.out.2.1 i hi3)
            have HGR := Lib.hid h5; have HGW := Lib.hid h6; have HAF := Lib.hid (And.intro h1 h2)
            have d1 : decide ((i : Int) < (gn : Int)) = true := by simp; omega
            have d2 : decide ((i : Int) < 6) = true := by simp; omega
            have hi5 : (i : Int) < (gn : Int) := by omega
            have k8 := HGC.out _ hbg.bl
            have k7 := hbg.c.2.2.2.2.2
            have HB0 := Lib.hid hbg; have HBI := Lib.hid hbits
            clear hbg h1 h2 h5 h6 hgc hlb hbits k0 k2 k3 k5 k6
            go_upto_region 14 with (fail)
            go_still_tail 11, (by kernel_rfl)
            change wpList _ _ _ _ _ wr.drew
            go_upto_if 66 with (go_at_call 26; refine (HGR.out _ _ _ _ _ _ _ _ _ (HB0.out.new ((Below.refl _ _).drew))).mono ?_; rintro e w3 ⟨rfl, Y3, h3, ht3⟩)
            have H3B := Lib.hid h3
            clear h3 ht3 HB0 HGR
            cases a
            · obtain rfl := HAF.out.1 rfl
              clear k1 k4 k7 k8
              go_wp2_with fail
              go_roundg (6 - (i + 1))
              case measure => omega
              case rel => exact ⟨i + 1, bits, by omega, by omega, rfl, by go_num, rfl, HBI.out, _, X, Y3, H3B.out.mono (Nat.le_refl _) (by omega) (by omega)⟩
            · have hg28 := HAF.out.2 rfl
              have HG28 := Lib.hid hg28
              have k7 := H3B.out.c.2.2.1
              clear hg28 HAF
              go_upto_region 15 with (fail)
              obtain ⟨j0, j1, j2, j3, j4, j5, j6⟩ := HCELL.out _ H3B.out.bl
              have j8 := HGC.out _ H3B.out.bl
              go_still_tail 11, (by kernel_rfl)
              change wpList _ _ _ _ _ w3.drew
              go_upto_region 16 with (go_at_call 27; refine (HGW.out _ _ _ _ _ _ _ _ _ (by omega) (H3B.out.new ((Below.refl _ _).drew))).mono ?_; rintro e w4 ⟨rfl, X4, h4, ht4⟩)
              obtain ⟨l0, l1, l2, l3, l4, l5, l6⟩ := HCELL.out _ h4.bl
              have l8 := HGC.out _ h4.bl
              obtain ⟨gv, hgv⟩ : ∃ gv : Nat, G i = (gv : Int) := Int.eq_ofNat_of_zero_le (by have := HG28.out; omega)
              have hwu : IntKind.u64.wrap (G i) = (gv : Int) := by
                rw [IntKind.wrap_u64]
                have := HG28.out
                omega
              have hps : Calls Tryz.prog 10 #[.agg #[Pw WB, Pw RB], .agg #[.int .u32 0, .int .u64 (gv : Int)]] w4 fun e w' => e = .returned (.tuple #[]) ∧ BgE wS w' b1 WB RB 0 (2 * i + 2) (1 + i + 1) [] := pair_store h4 (a := 0) (v := gv) (by omega) (by have := HG28.out; omega) (by omega)
              have HPS := Lib.hid hps; have HWU := Lib.hid hwu
              clear hgv h4 ht4 hps HGW H3B j0 j1 j2 j3 j4 j5 j6 j8 k7 hwu
              go_upto_region 17 with (fail)
              have hwu := HWU.out
              clear l8
              go_wp2_with (go_at_call 10; refine HPS.out.mono ?_; rintro e w5 ⟨rfl, M5, X5, Y5, h5⟩)
              go_roundg (6 - (i + 1))
              case measure => omega
              case rel => exact ⟨i + 1, G i, by omega, by omega, rfl, by go_num, rfl, by have := HG28.out; omega, M5, X5, Y5, h5.mono (Nat.le_refl _) (by omega) (by omega)⟩
          · have HBX := Lib.hid (show BgE wS wr b1 WB RB 0 12 7 [] from ⟨M, X, Y, hbg.mono (Nat.le_refl _) (by omega) (by omega)⟩)
            clear hbg hbits HBE
            by_cases hi5 : i < gn
            · have d1 : decide ((i : Int) < (gn : Int)) = true := by simp; omega
              have d2 : decide ((i : Int) < 6) = false := by simp; omega
              go_wp2_with fail
              go_meet
              exact HBX.out
            · have d1 : decide ((i : Int) < (gn : Int)) = false := by simp; omega
              go_wp2_with fail
              go_meet
              exact HBX.out
      case rest =>
        have HB1 := Lib.hid hcut
        clear hcut HBE
        go_upto_region 18 with (fail)
        go_upto_block 2 with fail
        go_cut [] (fun wx => BgE wS wx b1 WB RB 1200 12 7 [])
        case first =>
          go_wp2_with fail
          go_loopg [7, 8, 9] 20 (fun q s7 s8 s9 wx => ∃ i : Nat, i ≤ qn ∧ i ≤ 20 ∧ q = 20 - i ∧ s7 = .int .i64 (i : Int) ∧ BgE wS wx b1 WB RB (60 * i) 12 7 [])
          case atStart => exact ⟨0, by omega, by omega, rfl, rfl, HB1.out⟩
          case round =>
            obtain ⟨i, hi1, hi2, rfl, rfl, M, X, Y, hbg⟩ := hrel
            obtain ⟨k0, k1, k2, k3, k4, k5, k6⟩ := HCELL.out _ hbg.bl
            by_cases hin : i < qn ∧ i < 20
            · obtain ⟨hi3, hi4⟩ := hin
              obtain ⟨lb, lo, hqa, hlb, hqc⟩ := HQI.out.1 (by omega)
              have HQC : Hid (∀ W, Below b1 wS W → W.cell? ⟨lb, lo + i * 5, none⟩ = some (.int .i64 (Q i).b) ∧ W.cell? ⟨lb, lo + i * 5 + 1, none⟩ = some (.int .i64 (Q i).i) ∧ W.cell? ⟨lb, lo + i * 5 + 2, none⟩ = some (.slice (Q i).A (Q i).D.length (Q i).c) ∧ W.cell? ⟨lb, lo + i * 5 + 3, none⟩ = some (.int .u64 (Q i).ta) ∧ W.cell? ⟨lb, lo + i * 5 + 4, none⟩ = some (.int .u64 (Q i).tf)) := Lib.hid (fun W q => by
                have kk : ∀ j, W.cell? ⟨lb, j, none⟩ = w.cell? ⟨lb, j, none⟩ := fun j => (HIN.out W q).cell (p := ⟨lb, j, none⟩) hlb
                obtain ⟨q1, q2, q3, q4, q5⟩ := hqc i hi3
                exact ⟨(kk _).trans q1, (kk _).trans q2, (kk _).trans q3, (kk _).trans q4, (kk _).trans q5⟩)
              have hok := HQI.out.2.1 i hi3
              have HOK := Lib.hid hok
              clear hqc hok
              subst hqa
              generalize Q i = qq at *
              obtain ⟨b, i2, A, c, D, ta, tf⟩ := qq
              dsimp only at *
              obtain ⟨q1, q2, q3, q4, q5⟩ := HQC.out _ hbg.bl
              have d1 : decide ((i : Int) < (qn : Int)) = true := by simp; omega
              have d2 : decide ((i : Int) < 20) = true := by simp; omega
              have hi5 : (i : Int) < (qn : Int) := by omega
              have HB0 := Lib.hid hbg
              have HO2 : Hid (S10.InI b ∧ S10.Rd w w.heap.size A (S10.flat D) ∧ S10.Keys D) := Lib.hid ⟨HOK.out.b, HOK.out.rd, HOK.out.keys⟩
              clear hbg k0 k1 k2 k3 k4 k6 hlb HOK
              go_upto_region 22 with (fail)
              have h8 := HB0.out.push (blockP wr.heap.size (.cells #[.int .i64 b, .int .i64 i2, .slice A D.length c, .int .u64 ta, .int .u64 tf] 103)) (below1 _ _) (heap_alloc_new _ _) (fun k e => Nat.le_of_eq (show k = wr.heap.size from e).symm)
              have H8 := Lib.hid h8
              clear h8 HB0 q1 q2 q3 q4 q5
              generalize wr.alloc (.cells #[.int .i64 b, .int .i64 i2, .slice A D.length c, .int .u64 ta, .int .u64 tf] 103) = w8 at *
              generalize wr.heap.size = B8 at *
              have hq8 : w8.heap[B8]? = some (.cells #[.int .i64 b, .int .i64 i2, .slice A D.length c, .int .u64 ta, .int .u64 tf] 103) := H8.out.pr.ok 14 _ rfl
              have e2 := cell_row hq8 2
              simp only [List.getElem?_toArray, List.getElem?_cons_zero, List.getElem?_cons_succ] at e2
              by_cases hlen : D.length ≤ 20
              · have d3 : decide ((20 : Int) < (D.length : Int)) = false := by simp; omega
                have e0 := cell_row hq8 0; have e1 := cell_row hq8 1
                simp only [List.getElem?_toArray, List.getElem?_cons_zero, List.getElem?_cons_succ] at e0 e1
                have HL := Lib.hid hlen
                clear hq8 hlen
                go_upto_region 24 with (go_at_call 28; refine (S10.otherP_any b i2 _).mono ?_; rintro e w5 ⟨rfl, hb5⟩)
                have h9 := (H8.out.new hb5).push (blockP w5.heap.size (.cells #[.int .i64 b, .int .i64 i2] 104)) (below1 _ _) (heap_alloc_new _ _) (fun k e => Nat.le_of_eq (show k = w5.heap.size from e).symm)
                obtain ⟨B9, hB9⟩ : ∃ B9, B9 = w5.heap.size := ⟨_, rfl⟩
                obtain ⟨E, hE⟩ : ∃ E, E = ([] ++ [blockP B8 (.cells #[.int .i64 b, .int .i64 i2, .slice A D.length c, .int .u64 ta, .int .u64 tf] 103)]) ++ [blockP B9 (.cells #[.int .i64 b, .int .i64 i2] 104)] := ⟨_, rfl⟩
                rw [← hB9] at h9 ⊢
                rw [← hE] at h9
                have HEC : Hid (∀ W X Y M RM N cn tn, Bg wS W b1 WB RB N cn tn M RM E X Y → W.heap[B8]? = some (.cells #[.int .i64 b, .int .i64 i2, .slice A D.length c, .int .u64 ta, .int .u64 tf] 103) ∧ W.heap[B9]? = some (.cells #[.int .i64 b, .int .i64 i2] 104)) := Lib.hid (fun W X Y M RM N cn tn h => by
                  subst hE
                  exact ⟨h.pr.ok 14 _ rfl, h.pr.ok 15 _ rfl⟩)
                have H9 := Lib.hid h9
                clear h9 H8 hb5 e0 e1 e2 hE hB9
                generalize w5.alloc (.cells #[.int .i64 b, .int .i64 i2] 104) = w9 at *
                obtain ⟨a1, M1, hp1, hp2⟩ := bg_put (E := E) H9.out.gd HO2.out.1 i2 HO2.out.2.2 (by have := HL.out; omega)
                have HP1 := Lib.hid hp1; have HP2 := Lib.hid hp2
                clear hp1 hp2
                obtain ⟨k0, k1, k2, k3, k4, k5, k6⟩ := HCELL.out _ H9.out.bl
                obtain ⟨g8, g9⟩ := HEC.out _ _ _ _ _ _ _ _ H9.out
                have e0 := cell_row g8 0; have e1 := cell_row g8 1; have e2 := cell_row g8 2
                simp only [List.getElem?_toArray, List.getElem?_cons_zero, List.getElem?_cons_succ] at e0 e1 e2
                have m4 := H9.out.c.2.2.1
                clear k1 k2 k3 k4 k5 k6 g8 g9
                have HRQ : Hid (∀ W, Below b1 wS W → S10.Rd W w.heap.size A (S10.flat D) ∧ w.heap.size ≤ W.heap.size) := Lib.hid (fun W q => ⟨HO2.out.2.1.below (HIN.out W q) (Nat.le_refl _), (HIN.out W q).size⟩)
                go_still_tail 9, (by kernel_rfl)
                change wpList _ _ _ _ _ w9.drew
                go_upto_region 25 with (go_at_call 29; refine (HP1.out _ _ _ _ _ _ _ _ _ _ _ _ (H9.out.new ((Below.refl _ _).drew)) (HRQ.out _ H9.out.bl).1 (HRQ.out _ H9.out.bl).2).mono ?_; rintro e w10 ⟨rfl, X10, h10, ht10⟩)
                have H10 := Lib.hid h10
                clear h10 ht10 k0 e0 e1 e2 m4 HP1 H9
                obtain ⟨k0, k1, k2, k3, k4, k5, k6⟩ := HCELL.out _ H10.out.bl
                obtain ⟨g8, g9⟩ := HEC.out _ _ _ _ _ _ _ _ H10.out
                have e2 := cell_row g8 2; have f0 := cell_row g9 0; have f1 := cell_row g9 1
                simp only [List.getElem?_toArray, List.getElem?_cons_zero, List.getElem?_cons_succ] at e2 f0 f1
                have m4 := H10.out.c.2.2.2.2.2
                clear k0 k2 k3 k4 k5 k6 g8 g9
                have HOT := Lib.hid (fun (W : World) (q : Below w10.heap.size w10 W) => S10.others_any (w := W) (A := A) (D := D) c (HRQ.out W (H10.out.bl.trans (q.mono H10.out.pr.size))).1 (HRQ.out W (H10.out.bl.trans (q.mono H10.out.pr.size))).2 (by have := HL.out; omega))
                have HKP : Hid (∀ W, Below w10.heap.size w10 W → W.cell? ⟨B2, 1, none⟩ = some (Pw RB) ∧ W.cell? ⟨RB, 4, none⟩ = some Y.ts ∧ W.cell? ⟨B9, 0, none⟩ = some (.int .i64 b) ∧ W.cell? ⟨B9, 1, none⟩ = some (.int .i64 i2) ∧ W.cell? ⟨B8, 2, none⟩ = some (.slice A D.length c)) := Lib.hid (fun W q => ⟨bcell q k1, bcell q m4, bcell q f0, bcell q f1, bcell q e2⟩)
                have HKQ : Hid (∀ W Y', Bg wS W b1 WB RB (60 * i + 60) 12 7 M1 M1 E X10 Y' → Y'.ts = Y.ts → W.cell? ⟨B2, 1, none⟩ = some (Pw RB) ∧ W.cell? ⟨RB, 4, none⟩ = some Y.ts ∧ W.cell? ⟨B9, 0, none⟩ = some (.int .i64 b) ∧ W.cell? ⟨B9, 1, none⟩ = some (.int .i64 i2) ∧ W.cell? ⟨B8, 2, none⟩ = some (.slice A D.length c)) := Lib.hid (fun W Y' h ht => by
                  obtain ⟨g8, g9⟩ := HEC.out _ _ _ _ _ _ _ _ h
                  have hr := h.c.2.2.2.2.2
                  rw [ht] at hr
                  exact ⟨(HCELL.out _ h.bl).2.1, hr, cell_row g9 0, cell_row g9 1, cell_row g8 2⟩)
                go_region_held3 (fun w' => w'.cell? ⟨B2, 1, none⟩ = some (Pw RB) ∧ w'.cell? ⟨RB, 4, none⟩ = some Y.ts ∧ w'.cell? ⟨B9, 0, none⟩ = some (.int .i64 b) ∧ w'.cell? ⟨B9, 1, none⟩ = some (.int .i64 i2) ∧ w'.cell? ⟨B8, 2, none⟩ = some (.slice A D.length c))
                  (first
                    | exact ⟨k1, m4, f0, f1, e2⟩
                    | exact HKP.out _ HB11.out
                    | exact HKQ.out _ _ H12.out HT12.out)
                  (first
                    | (go_at_call 31; refine (HOT.out _ ((Below.refl _ _).drew)).mono ?_; rintro e w11 ⟨so, rfl, hro, _, hb11⟩; obtain ⟨A11, c11, hs11, _, _⟩ := S10.Row.shape hro; subst hs11; have HB11 : Hid (Below w10.heap.size w10 w11) := Lib.hid (((Below.refl _ w10).drew).trans hb11); have HRO := Lib.hid (S10.Row.rd hro); clear hro hb11)
                    | (go_at_call 30; refine (HP2.out _ _ _ _ _ _ _ _ _ _ _ _ (H10.out.new HB11.out) HRO.out (Nat.le_refl _)).mono ?_; rintro e w12 ⟨rfl, Y12, h12, ht12⟩; have H12 := Lib.hid h12; have HT12 := Lib.hid ht12; clear h12 ht12))
                clear k1 e2 f0 f1 m4 HKP HKQ HOT HP2 H10
                all_goals
                  obtain ⟨a2, M2, hp3, hp4⟩ := bg_putT (E := E) H12.out.gd HO2.out.1 i2 ta tf
                  have HP3 := Lib.hid hp3; have HP4 := Lib.hid hp4
                  clear hp3 hp4
                  obtain ⟨k0, k1, k2, k3, k4, k5, k6⟩ := HCELL.out _ H12.out.bl
                  obtain ⟨g8, g9⟩ := HEC.out _ _ _ _ _ _ _ _ H12.out
                  have e0 := cell_row g8 0; have e1 := cell_row g8 1; have e3 := cell_row g8 3; have e4 := cell_row g8 4
                  simp only [List.getElem?_toArray, List.getElem?_cons_zero, List.getElem?_cons_succ] at e0 e1 e3 e4
                  have m4 := H12.out.c.2.2.1
                  clear k1 k2 k3 k4 k5 k6 g8 g9
                  go_upto_region 26 with (fail)
                  go_still_tail 9, (by kernel_rfl)
                  change wpList _ _ _ _ _ w12.drew
                  go_upto_region 27 with (go_at_call 32; refine (HP3.out _ _ _ _ _ _ _ _ _ (H12.out.new ((Below.refl _ _).drew))).mono ?_; rintro e w13 ⟨rfl, X13, h13, ht13⟩)
                  have H13 := Lib.hid h13
                  clear h13 ht13 k0 e0 e1 e3 e4 m4 HP3 H12 HT12
                  obtain ⟨k0, k1, k2, k3, k4, k5, k6⟩ := HCELL.out _ H13.out.bl
                  obtain ⟨g8, g9⟩ := HEC.out _ _ _ _ _ _ _ _ H13.out
                  have e3 := cell_row g8 3; have e4 := cell_row g8 4; have f0 := cell_row g9 0; have f1 := cell_row g9 1
                  simp only [List.getElem?_toArray, List.getElem?_cons_zero, List.getElem?_cons_succ] at e3 e4 f0 f1
                  have m4 := H13.out.c.2.2.2.2.2
                  clear k0 k2 k3 k4 k5 k6 g8 g9
                  go_still_tail 13, (by kernel_rfl)
                  change wpList _ _ _ _ _ w13.drew
                  go_wp2_with (go_at_call 33; refine (HP4.out _ _ _ _ _ _ _ _ _ (H13.out.new ((Below.refl _ _).drew))).mono ?_; rintro e w14 ⟨rfl, Y14, h14, ht14⟩)
                  go_roundg (20 - (i + 1))
                  case measure => omega
                  case rel => exact ⟨i + 1, by omega, by omega, rfl, by go_num, _, _, _, h14.drop.mono (by omega) (Nat.le_refl _) (Nat.le_refl _)⟩
              · have d3 : decide ((20 : Int) < (D.length : Int)) = true := by simp; omega
                clear hq8 hlen
                go_wp2_with fail
                go_roundg (20 - (i + 1))
                case measure => omega
                case rel => exact ⟨i + 1, by omega, by omega, rfl, by go_num, M, X, Y, H8.out.drop.mono (by omega) (Nat.le_refl _) (Nat.le_refl _)⟩
            · have HBX := Lib.hid (show BgE wS wr b1 WB RB 1200 12 7 [] from ⟨M, X, Y, hbg.mono (by omega) (Nat.le_refl _) (Nat.le_refl _)⟩)
              clear hbg
              by_cases hi5 : i < qn
              · have d1 : decide ((i : Int) < (qn : Int)) = true := by simp; omega
                have d2 : decide ((i : Int) < 20) = false := by simp; omega
                go_wp2_with fail
                go_meet
                exact HBX.out
              · have d1 : decide ((i : Int) < (qn : Int)) = false := by simp; omega
                go_wp2_with fail
                go_meet
                exact HBX.out
        case rest =>
          obtain ⟨M, X, Y, hbg⟩ := hcut
          obtain ⟨k0, k1, k2, k3, k4, k5, k6⟩ := HCELL.out _ hbg.bl
          have HPT := Lib.hid (pair_tick hbg HTK.out)
          clear hbg HB1 HGI HQI HTK k2 k3 k4 k5
          go_upto_region 29 with (go_at_call 34; refine HPT.out.mono ?_; rintro e w20 ⟨rfl, hbt⟩)
          have HBT := Lib.hid hbt
          clear hbt k0 k1 k6 HPT
          go_wp2_with fail
          go_loopg [10] sn (fun q s10 wx => ∃ i : Nat, i ≤ sn ∧ q = sn - i ∧ s10 = .int .i64 (i : Int) ∧ BgE wS wx b1 WB RB 1200 (12 + 2 * i) 7 [])
          case atStart => exact ⟨0, by omega, rfl, rfl, HBT.out⟩
          case round =>
            obtain ⟨i, hi1, rfl, rfl, M, X, Y, hbg⟩ := hrel
            obtain ⟨k0, k1, k2, k3, k4, k5, k6⟩ := HCELL.out _ hbg.bl
            by_cases hin : i < sn
            · obtain ⟨lb, lo, hsa, hlb, hsc⟩ := HSI.out.2.1 (by omega)
              obtain ⟨q1, q2⟩ := hsc i hin
              have r1 := ((HIN.out _ hbg.bl).cell (p := ⟨lb, lo + i * 2, none⟩) hlb).trans q1
              have r2 := ((HIN.out _ hbg.bl).cell (p := ⟨lb, lo + i * 2 + 1, none⟩) hlb).trans q2
              obtain ⟨ha, hv⟩ := HSI.out.2.2 i hin
              subst hsa
              generalize SA i = aa at *
              generalize SV i = vv at *
              have HPS := Lib.hid (fun (W : World) (q : Below wr.heap.size wr W) => pair_store (hbg.new q) ha hv (by have := HSI.out.1; omega))
              have hi5 : (i : Int) < (sn : Int) := by omega
              have hsn9 := HSI.out.1
              have d1 : decide ((i : Int) < (sn : Int)) = true := by simp; omega
              clear hbg hsc q1 q2 ha hv hlb k2 k4 k5 k6
              go_upto_region 32 with (fail)
              go_still_tail 6, (by kernel_rfl)
              change wpList _ _ _ _ _ wr.drew
              go_wp2_with (go_at_call 10; refine (HPS.out _ ((Below.refl _ _).drew)).mono ?_; rintro e w21 ⟨rfl, hb21⟩)
              go_roundg (sn - (i + 1))
              case measure => omega
              case rel => exact ⟨i + 1, by omega, rfl, by go_num, (by
                obtain ⟨M2, X2, Y2, h2⟩ := hb21
                exact ⟨M2, X2, Y2, h2.mono (Nat.le_refl _) (by omega) (Nat.le_refl _)⟩)⟩
            · obtain rfl : i = sn := by omega
              have d1 : decide ((i : Int) < (i : Int)) = false := by simp
              have hq1 : wr.heap[B1]? = some (.cells #[.pointer none, .pointer none] 36 (0, 0)) := (hbg.bl.block B1 HLT.out.2.1).trans HG1.out
              have z0 := cell_row hq1 0; have z1 := cell_row hq1 1; have f0 := froz_row hq1 0; have f1 := froz_row hq1 1
              simp only [List.getElem?_toArray, List.getElem?_cons_zero, List.getElem?_cons_succ] at z0 z1
              have hts : Turns (fun k => k = B1) wr ((wr.setCell ⟨B1, 0, none⟩ (Pw WB)).setCell ⟨B1, 1, none⟩ (Pw RB)) := ((Turns.refl (fun k => k = B1) wr).setCell ⟨B1, 0, none⟩ _ rfl).setCell ⟨B1, 1, none⟩ _ rfl
              have hbo := hbg.outside hts (fun k e => by have := HLT.out; omega)
              have hfb : ((wr.setCell ⟨B1, 0, none⟩ (Pw WB)).setCell ⟨B1, 1, none⟩ (Pw RB)).heap[B1]? = some (.cells #[Pw WB, Pw RB] 36 (0, 0)) := by simp [World.setCell, Array.getElem?_modify, hq1]
              have d4 := cell_row hfb 0; have d5 := cell_row hfb 1
              simp only [List.getElem?_toArray, List.getElem?_cons_zero, List.getElem?_cons_succ] at d4 d5
              have hbl : Below w.heap.size w ((wr.setCell ⟨B1, 0, none⟩ (Pw WB)).setCell ⟨B1, 1, none⟩ (Pw RB)) := ((HIN.out _ hbg.bl).setCell (p := ⟨B1, 0, none⟩) HLT.out.2.2.2.2.2.1 _).setCell (p := ⟨B1, 1, none⟩) HLT.out.2.2.2.2.2.1 _
              obtain ⟨we, hwe⟩ : ∃ we, we = (wr.setCell ⟨B1, 0, none⟩ (Pw WB)).setCell ⟨B1, 1, none⟩ (Pw RB) := ⟨_, rfl⟩
              have hfin : ∃ M X Y, X.wB = WB ∧ Y.wB = RB ∧ Bg w we w.heap.size X.wB Y.wB 1200 300 7 M M [] X Y := by
                rw [← hwe] at hbo hbl
                refine ⟨M, X, Y, hbg.wB, hbg.rB, ?_⟩
                rw [hbg.wB, hbg.rB]
                have hbm := hbo.mono (Nat.le_refl 1200) (show 12 + 2 * i ≤ 300 by have := HSI.out.1; omega) (Nat.le_refl 7)
                exact { hbm with pr := Parts.rebase hbo.pr HWB1.out, bl := hbl }
              rw [hwe] at hfin
              clear hwe
              have HFIN := Lib.hid hfin
              clear hbg hq1 hts hbo hfb hbl hfin k2 k4 k5 k6
              go_upto_region 33 with (fail)
              go_wp2_with fail
              exact bodyPost_ret (v := .agg #[Pw WB, Pw RB]) (by simp [results, Tryz.results6, go_sem, d4, d5]) rfl (by
                obtain ⟨M', X', Y', e1, e2, h'⟩ := HFIN.out
                exact ⟨M', X', Y', by rw [e1, e2], h'⟩)
    · exact absurd hok (by rw [HC.out.ok]; decide)
end Go.Proofs.YtffoobepdofkkaaGreat.S12
namespace Go.Proofs.YtffoobepdofkkaaGreat.S12
open Go.Proofs.YtffoobepdofkkaaGreat Go.Proofs.YtffoobepdofkkaaGreat.S11
open Go.RowKit

theorem merge {S P : World → Prop} {G : Prop} (h2 : (∀ W, S W → P W) → G) (h1 : ∀ W, S W → P W) : G := h2 h1
set_option maxRecDepth 100000 in
/-- The document's steps. -/
theorem rsteps_any {w : World} {RB rB pB : Nat} {n pn : Nat} (h0 : w.cell? ⟨RB, 0, none⟩ = some (Pw rB)) (h2 : w.cell? ⟨RB, 2, none⟩ = some (Pw pB)) (c : w.cell? ⟨rB, 1, none⟩ = some (.int .i64 (n : Int))) (p : w.cell? ⟨pB, 512, none⟩ = some (.int .i64 (pn : Int))) (h1 : n ≤ 1000000000) (h3 : pn ≤ 1000000000) :
    Calls Tryz.prog 51 #[Pw RB] w fun e w' => e = .returned (.int .i64 ((n + pn : Nat) : Int)) ∧ Below w.heap.size w w' := by
  have hw : IntKind.i64.wrap ((n : Int) + (pn : Int)) = ((n + pn : Nat) : Int) := by rw [IntKind.wrap_i64]; omega
  have hw2 : wrap64 ((n : Int) + (pn : Int)) = ((n + pn : Nat) : Int) := by unfold wrap64; omega
  go_enter Tryz.func51, Tryz.ntmps51
  go_wp2_with fail
  go_quiet (fail)
  go_wp2_with fail
  go_ret
  exact ⟨rfl, rfl, rfl, rfl, Nat.le_refl _, fun _ _ => rfl⟩
theorem eql131 (k a x y : Int) (w : World) : (binOp .eql 131 (.agg #[.int .u8 k, .int .u32 a, .int .u64 x, .int .u64 y]) (.agg #[.int .u8 k, .int .u32 a, .int .u64 x, .int .u64 y])).run Tryz.prog w = .ok (.bool true) w := by
  simp [go_sem, Tryz.underlying131]
/-- What Same looks at. -/
def SameF (w2 : World) (B0 B1 WB RB cB kB nB rB rkB rpB rnB k a was is nl nc kl kc : Nat) (kd pp : Int) (nA kA : Option Addr) (w' : World) : Prop := Below w2.heap.size w2 w' ∧ w'.cell? ⟨B0, 0, none⟩ = some (Pw WB) ∧ w'.cell? ⟨B0, 1, none⟩ = some (Pw RB) ∧ w'.cell? ⟨B1, 0, none⟩ = some (.int .u8 kd) ∧ w'.cell? ⟨B1, 1, none⟩ = some (.int .i64 pp) ∧ w'.cell? ⟨WB, 0, none⟩ = some (Pw cB) ∧ w'.cell? ⟨WB, 1, none⟩ = some (Pw kB) ∧ w'.cell? ⟨WB, 5, none⟩ = some (Pw nB) ∧ w'.cell? ⟨RB, 0, none⟩ = some (Pw rB) ∧ w'.cell? ⟨RB, 1, none⟩ = some (Pw rkB) ∧ w'.cell? ⟨RB, 2, none⟩ = some (Pw rpB) ∧ w'.cell? ⟨RB, 5, none⟩ = some (Pw rnB) ∧ w'.cell? ⟨rB, 2, none⟩ = some (.int .u8 k) ∧ w'.cell? ⟨rB, 3, none⟩ = some (.int .u32 a) ∧ w'.cell? ⟨rB, 4, none⟩ = some (.int .u64 was) ∧ w'.cell? ⟨rB, 5, none⟩ = some (.int .u64 is) ∧ w'.cell? ⟨rpB, 513, none⟩ = some (.int .i64 kd) ∧ w'.cell? ⟨rpB, 514, none⟩ = some (.int .i64 pp) ∧ w'.cell? ⟨rnB, 0, none⟩ = some (.slice nA nl nc) ∧ w'.cell? ⟨rkB, 1, none⟩ = some (.slice kA kl kc)
theorem SameF.new {w2 w' w'' : World} {B0 B1 WB RB cB kB nB rB rkB rpB rnB k a was is nl nc kl kc : Nat} {kd pp : Int} {nA kA : Option Addr} (h : SameF w2 B0 B1 WB RB cB kB nB rB rkB rpB rnB k a was is nl nc kl kc kd pp nA kA w') (hb : Below w'.heap.size w' w'') : SameF w2 B0 B1 WB RB cB kB nB rB rkB rpB rnB k a was is nl nc kl kc kd pp nA kA w'' := by
  obtain ⟨hb0, c0, c1, c2, c3, c4, c5, c6, c7, c8, c9, c10, c11, c12, c13, c14, c15, c16, c17, c18⟩ := h
  exact ⟨hb0.trans (hb.mono hb0.size), bcell hb c0, bcell hb c1, bcell hb c2, bcell hb c3, bcell hb c4, bcell hb c5, bcell hb c6, bcell hb c7, bcell hb c8, bcell hb c9, bcell hb c10, bcell hb c11, bcell hb c12, bcell hb c13, bcell hb c14, bcell hb c15, bcell hb c16, bcell hb c17, bcell hb c18⟩
set_option maxRecDepth 100000 in
set_option maxHeartbeats 8000000 in
theorem pair_same {w0 w : World} {base WB RB N cn tn : Nat} {M : Sd} {E : List Part} {X : Wm} {Y : Rm} (h : Bg w0 w base WB RB N cn tn M M E X Y) (hc : cn ≤ 1000000) :
    Calls Tryz.prog 14 #[.agg #[Pw WB, Pw RB]] w fun e w' => e = .returned (.bool true) ∧ Below w.heap.size w w' := by
  have hb1 : Below w.heap.size w (w.alloc (.cells #[Pw WB, Pw RB] 36)) := (Below.refl _ _).alloc (Nat.le_refl _) _
  have hq0 := heap_alloc_new w (.cells #[Pw WB, Pw RB] 36)
  have h1 := h.new hb1
  obtain ⟨B0, hB0⟩ : ∃ B0, B0 = w.heap.size := ⟨_, rfl⟩
  rw [← hB0] at hq0
  have c0 := cell_row hq0 0; have c1 := cell_row hq0 1
  simp only [List.getElem?_toArray, List.getElem?_cons_zero, List.getElem?_cons_succ] at c0 c1
  have k2 := h1.pr.pw.c2
  rw [h1.wB] at k2
  have HL := Lib.hid (fun (W : World) (q : Below (w.alloc (.cells #[Pw WB, Pw RB] 36)).heap.size (w.alloc (.cells #[Pw WB, Pw RB] 36)) W) => S4.last_any (h1.new q).pr.pw.permits)
  have H1 := Lib.hid h1; have HB1 := Lib.hid hb1; have HQ0 := Lib.hid hq0
  have HB0 := Lib.hid hB0
  clear hb1 hq0 h1 h hB0
  go_enter Tryz.func14, Tryz.ntmps14
  go_upto_region 3 with (fail)
  rw [← HB0.out]
  generalize w.alloc (.cells #[Pw WB, Pw RB] 36) = w1 at *
  go_upto_region 4 with (go_at_call 49; refine (HL.out _ (Below.refl _ _)).mono ?_; rintro e wl ⟨rfl, hbl⟩)
  have hn := heap_alloc_new wl (.cells #[.int .u8 X.pk, .int .i64 X.pp] 126)
  have hbx : Below w1.heap.size w1 (wl.alloc (.cells #[.int .u8 X.pk, .int .i64 X.pp] 126)) := hbl.alloc hbl.size _
  have h2 := H1.out.new hbx
  have e0 := (hbx.block B0 (Array.getElem?_eq_some_iff.1 HQ0.out).1).trans HQ0.out
  obtain ⟨B1, hB1⟩ : ∃ B1, B1 = wl.heap.size := ⟨_, rfl⟩
  rw [← hB1] at hn ⊢
  have HBX := Lib.hid (HB1.out.trans (hbx.mono HB1.out.size))
  clear hbx hbl c0 c1 k2 HL
  generalize wl.alloc (.cells #[.int .u8 X.pk, .int .i64 X.pp] 126) = w2 at *
  have b0 := cell_row e0 0; have b1 := cell_row e0 1; have d0 := cell_row hn 0; have d1 := cell_row hn 1
  simp only [List.getElem?_toArray, List.getElem?_cons_zero, List.getElem?_cons_succ] at b0 b1 d0 d1
  obtain ⟨nA, nc, hns, _⟩ := h2.pr.rnotes.own.shape
  obtain ⟨kA, kc, hks, _⟩ := h2.pr.rclock.own
  have heq : X.sd = Y.sd := by rw [h2.xm, h2.ym]
  have e_n : X.n = Y.n := congrArg Sd.n heq
  have e_pn : X.pn = Y.pn := congrArg Sd.pn heq
  have e_k : X.k = Y.k := congrArg Sd.k heq
  have e_a : X.a = Y.a := congrArg Sd.a heq
  have e_was : X.was = Y.was := congrArg Sd.was heq
  have e_is : X.is = Y.is := congrArg Sd.is heq
  have e_pk : X.pk = Y.pk := congrArg Sd.pk heq
  have e_pp : X.pp = Y.pp := congrArg Sd.pp heq
  have e_nD : X.nD = Y.nD := congrArg Sd.nD heq
  have e_D : X.D = Y.D := congrArg Sd.D heq
  have hst : ∀ W, Below w2.heap.size w2 W → Calls Tryz.prog 50 #[Pw WB] W fun e w' => e = .returned (.int .i64 ((X.n + X.pn : Nat) : Int)) ∧ Below W.heap.size W w' := fun W q => by
    have := h2.new q
    rw [← this.wB]
    exact steps_any this.pr.pw (by have := h2.xn; omega) (by have := h2.pn; omega)
  have hrs : ∀ W, Below w2.heap.size w2 W → Calls Tryz.prog 51 #[Pw RB] W fun e w' => e = .returned (.int .i64 ((X.n + X.pn : Nat) : Int)) ∧ Below W.heap.size W w' := fun W q => by
    have g := h2.new q
    rw [← g.rB, e_n, e_pn]
    exact rsteps_any g.pr.r0 g.pr.r2 (cell_row g.pr.rcells.row 1) g.pr.rpermits.cn (by have := h2.yn; omega) (by have := h2.yp; omega)
  have hcl : ∀ W, Below w2.heap.size w2 W → Calls Tryz.prog 52 #[Pw X.cB] W fun e w' => e = .returned (.agg #[.int .u8 X.k, .int .u32 X.a, .int .u64 X.was, .int .u64 X.is]) ∧ Below W.heap.size W w' := fun W q => S2.last_any W _ _ _ _ _ _ _ _ (h2.new q).pr.pw.cells
  have hnc : ∀ W, Below w2.heap.size w2 W → Calls Tryz.prog 53 #[Pw X.nB] W fun e w' => e = .returned (.int .i64 (X.nD.length : Nat)) ∧ W = w' := fun W q => S11.count_any (h2.new q).pr.pw.notes
  have hlf : ∀ W, Below w2.heap.size w2 W → Calls Tryz.prog 54 #[Pw X.kB] W fun e w' => e = .returned (.int .i64 (X.D.length : Nat)) ∧ W = w' := fun W q => S3.left_any (h2.new q).pr.pw.clock
  have f4 := h2.pr.pw.c0; have f5 := h2.pr.pw.c1; have f6 := h2.pr.pw.c5
  have f7 := h2.pr.r0; have f8 := h2.pr.r1; have f9 := h2.pr.r2; have f10 := h2.pr.r5
  have f11 := cell_row h2.pr.rcells.row 2; have f12 := cell_row h2.pr.rcells.row 3; have f13 := cell_row h2.pr.rcells.row 4; have f14 := cell_row h2.pr.rcells.row 5
  simp only [List.getElem?_toArray, List.getElem?_cons_zero, List.getElem?_cons_succ] at f11 f12 f13 f14
  have f15 := h2.pr.rpermits.ck; have f16 := h2.pr.rpermits.cp
  have f17 := h2.pr.rnotes.cell
  have f18 := cell_row h2.pr.rclock.row 1
  simp only [List.getElem?_toArray, List.getElem?_cons_zero, List.getElem?_cons_succ] at f18
  rw [hns] at f17
  rw [hks] at f18
  rw [h2.wB] at f4 f5 f6
  rw [h2.rB] at f7 f8 f9 f10
  rw [← e_k] at f11; rw [← e_a] at f12; rw [← e_was] at f13; rw [← e_is] at f14; rw [← e_pk] at f15; rw [← e_pp] at f16; rw [← e_nD] at f17; rw [← e_D] at f18
  have hpk := h2.pkr
  have hwk : IntKind.i64.wrap X.pk = X.pk := by rw [IntKind.wrap_i64]; omega
  have hwk2 : wrap64 X.pk = X.pk := by unfold wrap64; omega
  obtain ⟨kB, hkB⟩ : ∃ x, x = X.kB := ⟨_, rfl⟩
  obtain ⟨cB, hcB⟩ : ∃ x, x = X.cB := ⟨_, rfl⟩
  obtain ⟨nB, hnB⟩ : ∃ x, x = X.nB := ⟨_, rfl⟩
  obtain ⟨rB, hrB⟩ : ∃ x, x = Y.rB := ⟨_, rfl⟩
  obtain ⟨rkB, hrkB⟩ : ∃ x, x = Y.kB := ⟨_, rfl⟩
  obtain ⟨rpB, hrpB⟩ : ∃ x, x = Y.pB := ⟨_, rfl⟩
  obtain ⟨rnB, hrnB⟩ : ∃ x, x = Y.nB := ⟨_, rfl⟩
  obtain ⟨k, hk⟩ : ∃ x, x = X.k := ⟨_, rfl⟩
  obtain ⟨a, ha⟩ : ∃ x, x = X.a := ⟨_, rfl⟩
  obtain ⟨was, hwas⟩ : ∃ x, x = X.was := ⟨_, rfl⟩
  obtain ⟨is, his⟩ : ∃ x, x = X.is := ⟨_, rfl⟩
  obtain ⟨nl, hnl⟩ : ∃ x, x = X.nD.length := ⟨_, rfl⟩
  obtain ⟨kl, hkl⟩ : ∃ x, x = X.D.length := ⟨_, rfl⟩
  obtain ⟨nn, hnn⟩ : ∃ x, x = X.n + X.pn := ⟨_, rfl⟩
  obtain ⟨kd, hkd⟩ : ∃ x, x = X.pk := ⟨_, rfl⟩
  obtain ⟨pp, hpp⟩ : ∃ x, x = X.pp := ⟨_, rfl⟩
  rw [← hnn] at hst hrs
  rw [← hcB, ← hk, ← ha, ← hwas, ← his] at hcl
  rw [← hnB, ← hnl] at hnc
  rw [← hkB, ← hkl] at hlf
  rw [← hcB] at f4; rw [← hkB] at f5; rw [← hnB] at f6; rw [← hrB] at f7 f11 f12 f13 f14; rw [← hrkB] at f8 f18; rw [← hrpB] at f9 f15 f16; rw [← hrnB] at f10 f17
  rw [← hk] at f11; rw [← ha] at f12; rw [← hwas] at f13; rw [← his] at f14; rw [← hkd] at f15 hwk hwk2 d0; rw [← hpp] at f16 d1; rw [← hnl] at f17; rw [← hkl] at f18
  have hev := fun W => eql131 k a was is W
  have HST := Lib.hid hst; have HRS := Lib.hid hrs; have HCL := Lib.hid hcl; have HNC := Lib.hid hnc; have HLF := Lib.hid hlf
  have HF : Hid (w2.drew.cell? ⟨B0, 0, none⟩ = some (Pw WB) ∧ w2.drew.cell? ⟨B0, 1, none⟩ = some (Pw RB) ∧ w2.drew.cell? ⟨B1, 0, none⟩ = some (.int .u8 kd) ∧ w2.drew.cell? ⟨B1, 1, none⟩ = some (.int .i64 pp) ∧ w2.drew.cell? ⟨WB, 0, none⟩ = some (Pw cB) ∧ w2.drew.cell? ⟨WB, 1, none⟩ = some (Pw kB) ∧ w2.drew.cell? ⟨WB, 5, none⟩ = some (Pw nB) ∧ w2.drew.cell? ⟨RB, 0, none⟩ = some (Pw rB) ∧ w2.drew.cell? ⟨RB, 1, none⟩ = some (Pw rkB) ∧ w2.drew.cell? ⟨RB, 2, none⟩ = some (Pw rpB) ∧ w2.drew.cell? ⟨RB, 5, none⟩ = some (Pw rnB) ∧ w2.drew.cell? ⟨rB, 2, none⟩ = some (.int .u8 k) ∧ w2.drew.cell? ⟨rB, 3, none⟩ = some (.int .u32 a) ∧ w2.drew.cell? ⟨rB, 4, none⟩ = some (.int .u64 was) ∧ w2.drew.cell? ⟨rB, 5, none⟩ = some (.int .u64 is) ∧ w2.drew.cell? ⟨rpB, 513, none⟩ = some (.int .i64 kd) ∧ w2.drew.cell? ⟨rpB, 514, none⟩ = some (.int .i64 pp) ∧ w2.drew.cell? ⟨rnB, 0, none⟩ = some (.slice nA nl nc) ∧ w2.drew.cell? ⟨rkB, 1, none⟩ = some (.slice kA kl kc)) := Lib.hid ⟨b0, b1, d0, d1, f4, f5, f6, f7, f8, f9, f10, f11, f12, f13, f14, f15, f16, f17, f18⟩
  clear hst hrs hcl hnc hlf b0 b1 d0 d1 f4 f5 f6 f7 f8 f9 f10 f11 f12 f13 f14 f15 f16 f17 f18 e0 hn h2 heq e_n e_pn e_k e_a e_was e_is e_pk e_pp e_nD e_D hns hks H1 HB1 HQ0 hpk hcB hkB hnB hrB hrkB hrpB hrnB hk ha hwas his hnl hkl hnn hkd hpp hB1 HB0 hc
  (try simp only [List.append_eq, List.cons_append, List.nil_append])
  refine wp_region_held_drew (S := fun w' => Below w2.heap.size w2 w' ∧ w'.cell? ⟨B0, 0, none⟩ = some (Pw WB) ∧ w'.cell? ⟨B0, 1, none⟩ = some (Pw RB) ∧ w'.cell? ⟨B1, 0, none⟩ = some (.int .u8 kd) ∧ w'.cell? ⟨B1, 1, none⟩ = some (.int .i64 pp) ∧ w'.cell? ⟨WB, 0, none⟩ = some (Pw cB) ∧ w'.cell? ⟨WB, 1, none⟩ = some (Pw kB) ∧ w'.cell? ⟨WB, 5, none⟩ = some (Pw nB) ∧ w'.cell? ⟨RB, 0, none⟩ = some (Pw rB) ∧ w'.cell? ⟨RB, 1, none⟩ = some (Pw rkB) ∧ w'.cell? ⟨RB, 2, none⟩ = some (Pw rpB) ∧ w'.cell? ⟨RB, 5, none⟩ = some (Pw rnB) ∧ w'.cell? ⟨rB, 2, none⟩ = some (.int .u8 k) ∧ w'.cell? ⟨rB, 3, none⟩ = some (.int .u32 a) ∧ w'.cell? ⟨rB, 4, none⟩ = some (.int .u64 was) ∧ w'.cell? ⟨rB, 5, none⟩ = some (.int .u64 is) ∧ w'.cell? ⟨rpB, 513, none⟩ = some (.int .i64 kd) ∧ w'.cell? ⟨rpB, 514, none⟩ = some (.int .i64 pp) ∧ w'.cell? ⟨rnB, 0, none⟩ = some (.slice nA nl nc) ∧ w'.cell? ⟨rkB, 1, none⟩ = some (.slice kA kl kc)) (by kernel_rfl) ?_ (fun hHeld => ?_)
  · exact ⟨(Below.refl _ _).drew, HF.out⟩
  refine wpAnyH_take (i := 0) (oi := ({ dst := some 18, op := Op.fieldAddr 36 (Operand.tmp 1) 0, type := 0, pos := "help.go:108", after := #[], guard := none } : Oper)) (v := ?vam1) rfl (by kernel_rfl) (by kernel_rfl) (by kernel_rfl) (fun _ _ _ h => h) (Or.inl ⟨by rfl, fun w hSw => ?hyam1⟩) (by assumption) ?ram1
  case hyam1 => (try dsimp only at hSw); go_simp; (try with_reducible rfl)
  (try simp only [Act.put, List.setIfInBounds_toArray, List.set_cons_zero, List.set_cons_succ])
  refine wpAnyH_take (i := 1) (oi := ({ dst := some 19, op := Op.load 33 (Operand.tmp 18), type := 33, pos := "help.go:108", after := #[{ on := 0, ground := Ground.data }], guard := none } : Oper)) (v := ?vam2) rfl (by kernel_rfl) (by kernel_rfl) (by kernel_rfl) (fun _ _ _ h => h) (Or.inl ⟨by rfl, fun w hSw => ?hyam2⟩) (by assumption) ?ram2
  case hyam2 => (try dsimp only at hSw); go_simp; (try with_reducible rfl)
  (try simp only [Act.put, List.setIfInBounds_toArray, List.set_cons_zero, List.set_cons_succ])
  refine wpAnyH_take (i := 3) (oi := ({ dst := some 21, op := Op.fieldAddr 36 (Operand.tmp 1) 1, type := 0, pos := "help.go:108", after := #[], guard := none } : Oper)) (v := ?vam3) rfl (by kernel_rfl) (by kernel_rfl) (by kernel_rfl) (fun _ _ _ h => h) (Or.inl ⟨by rfl, fun w hSw => ?hyam3⟩) (by assumption) ?ram3
  case hyam3 => (try dsimp only at hSw); go_simp; (try with_reducible rfl)
  (try simp only [Act.put, List.setIfInBounds_toArray, List.set_cons_zero, List.set_cons_succ])
  refine wpAnyH_take (i := 4) (oi := ({ dst := some 22, op := Op.load 34 (Operand.tmp 21), type := 34, pos := "help.go:108", after := #[{ on := 3, ground := Ground.data }], guard := none } : Oper)) (v := ?vam4) rfl (by kernel_rfl) (by kernel_rfl) (by kernel_rfl) (fun _ _ _ h => h) (Or.inl ⟨by rfl, fun w hSw => ?hyam4⟩) (by assumption) ?ram4
  case hyam4 => (try dsimp only at hSw); go_simp; (try with_reducible rfl)
  (try simp only [Act.put, List.setIfInBounds_toArray, List.set_cons_zero, List.set_cons_succ])
  refine wpAnyH_ready (rs := [2]) (by kernel_rfl) (by simp) ?_
  refine AllReadyH.cons (o := ({ dst := some 20, op := Op.call { callee := Callee.value (Operand.func 50), args := #[Operand.tmp 19], argTypes := #[33] }, type := 3, pos := "help.go:108", after := #[{ on := 1, ground := Ground.data }], guard := none } : Oper)) rfl (fun Kq hKq => ?_) AllReadyH.nil
  go_simp
  (refine (HST.out _ hHeld.1).mono ?_; rintro e w3 ⟨rfl, hb⟩)
  refine hKq.out _ _ ?_ (fun hHeld => ?_)
  · exact SameF.new hHeld hb
  clear hKq Kq
  (try simp only [Act.put, List.setIfInBounds_toArray, List.set_cons_zero, List.set_cons_succ])
  refine wpAnyH_ready (rs := [5]) (by kernel_rfl) (by simp) ?_
  refine AllReadyH.cons (o := ({ dst := some 23, op := Op.call { callee := Callee.value (Operand.func 51), args := #[Operand.tmp 22], argTypes := #[34] }, type := 3, pos := "help.go:108", after := #[{ on := 4, ground := Ground.data }, { on := 2, ground := Ground.chain }], guard := none } : Oper)) rfl (fun Kq hKq => ?_) AllReadyH.nil
  go_simp
  (refine (HRS.out _ hHeld.1).mono ?_; rintro e w3 ⟨rfl, hb⟩)
  refine hKq.out _ _ ?_ (fun hHeld => ?_)
  · exact SameF.new hHeld hb
  clear hKq Kq
  (try simp only [Act.put, List.setIfInBounds_toArray, List.set_cons_zero, List.set_cons_succ])
  refine wpAnyH_take (i := 6) (oi := ({ dst := some 24, op := Op.binOp BinOp.eql 3 (Operand.tmp 20) (Operand.tmp 23) 3, type := 4, pos := "help.go:108", after := #[{ on := 2, ground := Ground.data }, { on := 5, ground := Ground.data }], guard := none } : Oper)) (v := ?vam5) rfl (by kernel_rfl) (by kernel_rfl) (by kernel_rfl) (fun _ _ _ h => h) (Or.inl ⟨by rfl, fun w hSw => ?hyam5⟩) (by assumption) ?ram5
  case hyam5 => (try dsimp only at hSw); go_simp; (try with_reducible rfl)
  (try simp only [Act.put, List.setIfInBounds_toArray, List.set_cons_zero, List.set_cons_succ])
  refine wpAnyH_take (i := 7) (oi := ({ dst := some 25, op := Op.move (Operand.tmp 24), type := 4, pos := "help.go:108", after := #[{ on := 6, ground := Ground.data }, { on := 5, ground := Ground.chain }], guard := none } : Oper)) (v := ?vam6) rfl (by kernel_rfl) (by kernel_rfl) (by kernel_rfl) (fun _ _ _ h => h) (Or.inl ⟨by rfl, fun w hSw => ?hyam6⟩) (by assumption) ?ram6
  case hyam6 => (try dsimp only at hSw); go_simp; (try with_reducible rfl)
  (try simp only [Act.put, List.setIfInBounds_toArray, List.set_cons_zero, List.set_cons_succ])
  refine wpAnyH_take (i := 8) (oi := ({ dst := some 26, op := Op.fieldAddr 36 (Operand.tmp 1) 0, type := 0, pos := "help.go:108", after := #[{ on := 7, ground := Ground.guard }], guard := some (7, true) } : Oper)) (v := ?vam7) rfl (by kernel_rfl) (by kernel_rfl) (by kernel_rfl) (fun _ _ _ h => h) (Or.inl ⟨by rfl, fun w hSw => ?hyam7⟩) (by assumption) ?ram7
  case hyam7 => (try dsimp only at hSw); go_simp; (try with_reducible rfl)
  (try simp only [Act.put, List.setIfInBounds_toArray, List.set_cons_zero, List.set_cons_succ])
  refine wpAnyH_take (i := 9) (oi := ({ dst := some 27, op := Op.load 33 (Operand.tmp 26), type := 33, pos := "help.go:108", after := #[{ on := 8, ground := Ground.data }, { on := 7, ground := Ground.guard }], guard := some (7, true) } : Oper)) (v := ?vam8) rfl (by kernel_rfl) (by kernel_rfl) (by kernel_rfl) (fun _ _ _ h => h) (Or.inl ⟨by rfl, fun w hSw => ?hyam8⟩) (by assumption) ?ram8
  case hyam8 => (try dsimp only at hSw); go_simp; (try with_reducible rfl)
  (try simp only [Act.put, List.setIfInBounds_toArray, List.set_cons_zero, List.set_cons_succ])
  refine wpAnyH_take (i := 10) (oi := ({ dst := some 28, op := Op.nilCheck (Operand.tmp 27), type := 0, pos := "help.go:108", after := #[{ on := 9, ground := Ground.data }, { on := 7, ground := Ground.guard }], guard := some (7, true) } : Oper)) (v := ?vam9) rfl (by kernel_rfl) (by kernel_rfl) (by kernel_rfl) (fun _ _ _ h => h) (Or.inl ⟨by rfl, fun w hSw => ?hyam9⟩) (by assumption) ?ram9
  case hyam9 => (try dsimp only at hSw); go_simp; (try with_reducible rfl)
  (try simp only [Act.put, List.setIfInBounds_toArray, List.set_cons_zero, List.set_cons_succ])
  refine wpAnyH_take (i := 11) (oi := ({ dst := some 29, op := Op.fieldAddr 74 (Operand.tmp 28) 0, type := 0, pos := "help.go:108", after := #[{ on := 10, ground := Ground.data }, { on := 7, ground := Ground.guard }], guard := some (7, true) } : Oper)) (v := ?vam10) rfl (by kernel_rfl) (by kernel_rfl) (by kernel_rfl) (fun _ _ _ h => h) (Or.inl ⟨by rfl, fun w hSw => ?hyam10⟩) (by assumption) ?ram10
  case hyam10 => (try dsimp only at hSw); go_simp; (try with_reducible rfl)
  (try simp only [Act.put, List.setIfInBounds_toArray, List.set_cons_zero, List.set_cons_succ])
  refine wpAnyH_take (i := 12) (oi := ({ dst := some 30, op := Op.load 66 (Operand.tmp 29), type := 66, pos := "help.go:108", after := #[{ on := 11, ground := Ground.data }, { on := 7, ground := Ground.guard }], guard := some (7, true) } : Oper)) (v := ?vam11) rfl (by kernel_rfl) (by kernel_rfl) (by kernel_rfl) (fun _ _ _ h => h) (Or.inl ⟨by rfl, fun w hSw => ?hyam11⟩) (by assumption) ?ram11
  case hyam11 => (try dsimp only at hSw); go_simp; (try with_reducible rfl)
  (try simp only [Act.put, List.setIfInBounds_toArray, List.set_cons_zero, List.set_cons_succ])
  refine wpAnyH_take (i := 14) (oi := ({ dst := some 32, op := Op.fieldAddr 36 (Operand.tmp 1) 1, type := 0, pos := "help.go:108", after := #[{ on := 7, ground := Ground.guard }], guard := some (7, true) } : Oper)) (v := ?vam12) rfl (by kernel_rfl) (by kernel_rfl) (by kernel_rfl) (fun _ _ _ h => h) (Or.inl ⟨by rfl, fun w hSw => ?hyam12⟩) (by assumption) ?ram12
  case hyam12 => (try dsimp only at hSw); go_simp; (try with_reducible rfl)
  (try simp only [Act.put, List.setIfInBounds_toArray, List.set_cons_zero, List.set_cons_succ])
  refine wpAnyH_take (i := 15) (oi := ({ dst := some 33, op := Op.load 34 (Operand.tmp 32), type := 34, pos := "help.go:108", after := #[{ on := 14, ground := Ground.data }, { on := 7, ground := Ground.guard }], guard := some (7, true) } : Oper)) (v := ?vam13) rfl (by kernel_rfl) (by kernel_rfl) (by kernel_rfl) (fun _ _ _ h => h) (Or.inl ⟨by rfl, fun w hSw => ?hyam13⟩) (by assumption) ?ram13
  case hyam13 => (try dsimp only at hSw); go_simp; (try with_reducible rfl)
  (try simp only [Act.put, List.setIfInBounds_toArray, List.set_cons_zero, List.set_cons_succ])
  refine wpAnyH_take (i := 16) (oi := ({ dst := some 34, op := Op.nilCheck (Operand.tmp 33), type := 0, pos := "help.go:108", after := #[{ on := 15, ground := Ground.data }, { on := 7, ground := Ground.guard }], guard := some (7, true) } : Oper)) (v := ?vam14) rfl (by kernel_rfl) (by kernel_rfl) (by kernel_rfl) (fun _ _ _ h => h) (Or.inl ⟨by rfl, fun w hSw => ?hyam14⟩) (by assumption) ?ram14
  case hyam14 => (try dsimp only at hSw); go_simp; (try with_reducible rfl)
  (try simp only [Act.put, List.setIfInBounds_toArray, List.set_cons_zero, List.set_cons_succ])
  refine wpAnyH_take (i := 17) (oi := ({ dst := some 35, op := Op.fieldAddr 95 (Operand.tmp 34) 0, type := 0, pos := "help.go:108", after := #[{ on := 16, ground := Ground.data }, { on := 7, ground := Ground.guard }], guard := some (7, true) } : Oper)) (v := ?vam15) rfl (by kernel_rfl) (by kernel_rfl) (by kernel_rfl) (fun _ _ _ h => h) (Or.inl ⟨by rfl, fun w hSw => ?hyam15⟩) (by assumption) ?ram15
  case hyam15 => (try dsimp only at hSw); go_simp; (try with_reducible rfl)
  (try simp only [Act.put, List.setIfInBounds_toArray, List.set_cons_zero, List.set_cons_succ])
  refine wpAnyH_take (i := 18) (oi := ({ dst := some 36, op := Op.load 88 (Operand.tmp 35), type := 88, pos := "help.go:108", after := #[{ on := 17, ground := Ground.data }, { on := 7, ground := Ground.guard }], guard := some (7, true) } : Oper)) (v := ?vam16) rfl (by kernel_rfl) (by kernel_rfl) (by kernel_rfl) (fun _ _ _ h => h) (Or.inl ⟨by rfl, fun w hSw => ?hyam16⟩) (by assumption) ?ram16
  case hyam16 => (try dsimp only at hSw); go_simp; (try with_reducible rfl)
  (try simp only [Act.put, List.setIfInBounds_toArray, List.set_cons_zero, List.set_cons_succ])
  refine wpAnyH_take (i := 19) (oi := ({ dst := some 37, op := Op.nilCheck (Operand.tmp 36), type := 0, pos := "help.go:108", after := #[{ on := 18, ground := Ground.data }, { on := 7, ground := Ground.guard }], guard := some (7, true) } : Oper)) (v := ?vam17) rfl (by kernel_rfl) (by kernel_rfl) (by kernel_rfl) (fun _ _ _ h => h) (Or.inl ⟨by rfl, fun w hSw => ?hyam17⟩) (by assumption) ?ram17
  case hyam17 => (try dsimp only at hSw); go_simp; (try with_reducible rfl)
  (try simp only [Act.put, List.setIfInBounds_toArray, List.set_cons_zero, List.set_cons_succ])
  refine wpAnyH_take (i := 20) (oi := ({ dst := some 38, op := Op.fieldAddr 135 (Operand.tmp 37) 2, type := 0, pos := "help.go:108", after := #[{ on := 19, ground := Ground.data }, { on := 7, ground := Ground.guard }], guard := some (7, true) } : Oper)) (v := ?vam18) rfl (by kernel_rfl) (by kernel_rfl) (by kernel_rfl) (fun _ _ _ h => h) (Or.inl ⟨by rfl, fun w hSw => ?hyam18⟩) (by assumption) ?ram18
  case hyam18 => (try dsimp only at hSw); go_simp; (try with_reducible rfl)
  (try simp only [Act.put, List.setIfInBounds_toArray, List.set_cons_zero, List.set_cons_succ])
  refine wpAnyH_take (i := 21) (oi := ({ dst := some 39, op := Op.load 131 (Operand.tmp 38), type := 131, pos := "help.go:108", after := #[{ on := 20, ground := Ground.data }, { on := 7, ground := Ground.guard }], guard := some (7, true) } : Oper)) (v := ?vam19) rfl (by kernel_rfl) (by kernel_rfl) (by kernel_rfl) (fun _ _ _ h => h) (Or.inl ⟨by rfl, fun w hSw => ?hyam19⟩) (by assumption) ?ram19
  case hyam19 => (try dsimp only at hSw); go_simp; (try with_reducible rfl)
  (try simp only [Act.put, List.setIfInBounds_toArray, List.set_cons_zero, List.set_cons_succ])
  refine wpAnyH_ready (rs := [13]) (by kernel_rfl) (by simp) ?_
  refine AllReadyH.cons (o := ({ dst := some 31, op := Op.call { callee := Callee.value (Operand.func 52), args := #[Operand.tmp 30], argTypes := #[66] }, type := 131, pos := "help.go:108", after := #[{ on := 12, ground := Ground.data }, { on := 7, ground := Ground.chain }, { on := 7, ground := Ground.guard }], guard := some (7, true) } : Oper)) rfl (fun Kq hKq => ?_) AllReadyH.nil
  go_simp
  (refine (HCL.out _ hHeld.1).mono ?_; rintro e w3 ⟨rfl, hb⟩)
  refine hKq.out _ _ ?_ (fun hHeld => ?_)
  · exact SameF.new hHeld hb
  clear hKq Kq
  (try simp only [Act.put, List.setIfInBounds_toArray, List.set_cons_zero, List.set_cons_succ])
  refine wpAnyH_take (i := 22) (oi := ({ dst := some 40, op := Op.binOp BinOp.eql 131 (Operand.tmp 31) (Operand.tmp 39) 131, type := 4, pos := "help.go:108", after := #[{ on := 13, ground := Ground.data }, { on := 21, ground := Ground.data }, { on := 7, ground := Ground.guard }], guard := some (7, true) } : Oper)) (v := ?vam20) rfl (by kernel_rfl) (by kernel_rfl) (by kernel_rfl) (fun _ _ _ h => h) (Or.inl ⟨by rfl, fun w hSw => ?hyam20⟩) (by assumption) ?ram20
  case hyam20 => (try dsimp only at hSw); go_simp; (try with_reducible rfl)
  (try simp only [Act.put, List.setIfInBounds_toArray, List.set_cons_zero, List.set_cons_succ])
  refine wpAnyH_take (i := 23) (oi := ({ dst := some 41, op := Op.pick (Operand.tmp 25) (Operand.tmp 40) (Operand.const (Value.bool false)), type := 4, pos := "help.go:108", after := #[{ on := 7, ground := Ground.data }, { on := 22, ground := Ground.data }], guard := none } : Oper)) (v := ?vam21) rfl (by kernel_rfl) (by kernel_rfl) (by kernel_rfl) (fun _ _ _ h => h) (Or.inl ⟨by rfl, fun w hSw => ?hyam21⟩) (by assumption) ?ram21
  case hyam21 => (try dsimp only at hSw); go_simp; (try with_reducible rfl)
  (try simp only [Act.put, List.setIfInBounds_toArray, List.set_cons_zero, List.set_cons_succ])
  refine wpAnyH_take (i := 24) (oi := ({ dst := some 42, op := Op.move (Operand.tmp 41), type := 4, pos := "help.go:108", after := #[{ on := 23, ground := Ground.data }, { on := 13, ground := Ground.chain }], guard := none } : Oper)) (v := ?vam22) rfl (by kernel_rfl) (by kernel_rfl) (by kernel_rfl) (fun _ _ _ h => h) (Or.inl ⟨by rfl, fun w hSw => ?hyam22⟩) (by assumption) ?ram22
  case hyam22 => (try dsimp only at hSw); go_simp; (try with_reducible rfl)
  (try simp only [Act.put, List.setIfInBounds_toArray, List.set_cons_zero, List.set_cons_succ])
  refine wpAnyH_take (i := 25) (oi := ({ dst := some 43, op := Op.fieldAddr 126 (Operand.tmp 3) 0, type := 0, pos := "help.go:108", after := #[{ on := 24, ground := Ground.guard }], guard := some (24, true) } : Oper)) (v := ?vam23) rfl (by kernel_rfl) (by kernel_rfl) (by kernel_rfl) (fun _ _ _ h => h) (Or.inl ⟨by rfl, fun w hSw => ?hyam23⟩) (by assumption) ?ram23
  case hyam23 => (try dsimp only at hSw); go_simp; (try with_reducible rfl)
  (try simp only [Act.put, List.setIfInBounds_toArray, List.set_cons_zero, List.set_cons_succ])
  refine wpAnyH_take (i := 26) (oi := ({ dst := some 44, op := Op.load 124 (Operand.tmp 43), type := 124, pos := "help.go:108", after := #[{ on := 25, ground := Ground.data }, { on := 24, ground := Ground.guard }], guard := some (24, true) } : Oper)) (v := ?vam24) rfl (by kernel_rfl) (by kernel_rfl) (by kernel_rfl) (fun _ _ _ h => h) (Or.inl ⟨by rfl, fun w hSw => ?hyam24⟩) (by assumption) ?ram24
  case hyam24 => (try dsimp only at hSw); go_simp; (try with_reducible rfl)
  (try simp only [Act.put, List.setIfInBounds_toArray, List.set_cons_zero, List.set_cons_succ])
  refine wpAnyH_take (i := 27) (oi := ({ dst := some 45, op := Op.convert 124 3 (Operand.tmp 44), type := 3, pos := "help.go:108", after := #[{ on := 26, ground := Ground.data }, { on := 24, ground := Ground.guard }], guard := some (24, true) } : Oper)) (v := ?vam25) rfl (by kernel_rfl) (by kernel_rfl) (by kernel_rfl) (fun _ _ _ h => h) (Or.inl ⟨by rfl, fun w hSw => ?hyam25⟩) (by assumption) ?ram25
  case hyam25 => (try dsimp only at hSw); go_simp; (try with_reducible rfl)
  (try simp only [Act.put, List.setIfInBounds_toArray, List.set_cons_zero, List.set_cons_succ])
  refine wpAnyH_take (i := 28) (oi := ({ dst := some 46, op := Op.fieldAddr 36 (Operand.tmp 1) 1, type := 0, pos := "help.go:108", after := #[{ on := 24, ground := Ground.guard }], guard := some (24, true) } : Oper)) (v := ?vam26) rfl (by kernel_rfl) (by kernel_rfl) (by kernel_rfl) (fun _ _ _ h => h) (Or.inl ⟨by rfl, fun w hSw => ?hyam26⟩) (by assumption) ?ram26
  case hyam26 => (try dsimp only at hSw); go_simp; (try with_reducible rfl)
  (try simp only [Act.put, List.setIfInBounds_toArray, List.set_cons_zero, List.set_cons_succ])
  refine wpAnyH_take (i := 29) (oi := ({ dst := some 47, op := Op.load 34 (Operand.tmp 46), type := 34, pos := "help.go:108", after := #[{ on := 28, ground := Ground.data }, { on := 24, ground := Ground.guard }], guard := some (24, true) } : Oper)) (v := ?vam27) rfl (by kernel_rfl) (by kernel_rfl) (by kernel_rfl) (fun _ _ _ h => h) (Or.inl ⟨by rfl, fun w hSw => ?hyam27⟩) (by assumption) ?ram27
  case hyam27 => (try dsimp only at hSw); go_simp; (try with_reducible rfl)
  (try simp only [Act.put, List.setIfInBounds_toArray, List.set_cons_zero, List.set_cons_succ])
  refine wpAnyH_take (i := 30) (oi := ({ dst := some 48, op := Op.nilCheck (Operand.tmp 47), type := 0, pos := "help.go:108", after := #[{ on := 29, ground := Ground.data }, { on := 24, ground := Ground.guard }], guard := some (24, true) } : Oper)) (v := ?vam28) rfl (by kernel_rfl) (by kernel_rfl) (by kernel_rfl) (fun _ _ _ h => h) (Or.inl ⟨by rfl, fun w hSw => ?hyam28⟩) (by assumption) ?ram28
  case hyam28 => (try dsimp only at hSw); go_simp; (try with_reducible rfl)
  (try simp only [Act.put, List.setIfInBounds_toArray, List.set_cons_zero, List.set_cons_succ])
  refine wpAnyH_take (i := 31) (oi := ({ dst := some 49, op := Op.fieldAddr 95 (Operand.tmp 48) 2, type := 0, pos := "help.go:108", after := #[{ on := 30, ground := Ground.data }, { on := 24, ground := Ground.guard }], guard := some (24, true) } : Oper)) (v := ?vam29) rfl (by kernel_rfl) (by kernel_rfl) (by kernel_rfl) (fun _ _ _ h => h) (Or.inl ⟨by rfl, fun w hSw => ?hyam29⟩) (by assumption) ?ram29
  case hyam29 => (try dsimp only at hSw); go_simp; (try with_reducible rfl)
  (try simp only [Act.put, List.setIfInBounds_toArray, List.set_cons_zero, List.set_cons_succ])
  refine wpAnyH_take (i := 32) (oi := ({ dst := some 50, op := Op.load 90 (Operand.tmp 49), type := 90, pos := "help.go:108", after := #[{ on := 31, ground := Ground.data }, { on := 24, ground := Ground.guard }], guard := some (24, true) } : Oper)) (v := ?vam30) rfl (by kernel_rfl) (by kernel_rfl) (by kernel_rfl) (fun _ _ _ h => h) (Or.inl ⟨by rfl, fun w hSw => ?hyam30⟩) (by assumption) ?ram30
  case hyam30 => (try dsimp only at hSw); go_simp; (try with_reducible rfl)
  (try simp only [Act.put, List.setIfInBounds_toArray, List.set_cons_zero, List.set_cons_succ])
  refine wpAnyH_take (i := 33) (oi := ({ dst := some 51, op := Op.nilCheck (Operand.tmp 50), type := 0, pos := "help.go:108", after := #[{ on := 32, ground := Ground.data }, { on := 24, ground := Ground.guard }], guard := some (24, true) } : Oper)) (v := ?vam31) rfl (by kernel_rfl) (by kernel_rfl) (by kernel_rfl) (fun _ _ _ h => h) (Or.inl ⟨by rfl, fun w hSw => ?hyam31⟩) (by assumption) ?ram31
  case hyam31 => (try dsimp only at hSw); go_simp; (try with_reducible rfl)
  (try simp only [Act.put, List.setIfInBounds_toArray, List.set_cons_zero, List.set_cons_succ])
  refine wpAnyH_take (i := 34) (oi := ({ dst := some 52, op := Op.fieldAddr 140 (Operand.tmp 51) 2, type := 0, pos := "help.go:108", after := #[{ on := 33, ground := Ground.data }, { on := 24, ground := Ground.guard }], guard := some (24, true) } : Oper)) (v := ?vam32) rfl (by kernel_rfl) (by kernel_rfl) (by kernel_rfl) (fun _ _ _ h => h) (Or.inl ⟨by rfl, fun w hSw => ?hyam32⟩) (by assumption) ?ram32
  case hyam32 => (try dsimp only at hSw); go_simp; (try with_reducible rfl)
  (try simp only [Act.put, List.setIfInBounds_toArray, List.set_cons_zero, List.set_cons_succ])
  refine wpAnyH_take (i := 35) (oi := ({ dst := some 53, op := Op.load 3 (Operand.tmp 52), type := 3, pos := "help.go:108", after := #[{ on := 34, ground := Ground.data }, { on := 24, ground := Ground.guard }], guard := some (24, true) } : Oper)) (v := ?vam33) rfl (by kernel_rfl) (by kernel_rfl) (by kernel_rfl) (fun _ _ _ h => h) (Or.inl ⟨by rfl, fun w hSw => ?hyam33⟩) (by assumption) ?ram33
  case hyam33 => (try dsimp only at hSw); go_simp; (try with_reducible rfl)
  (try simp only [Act.put, List.setIfInBounds_toArray, List.set_cons_zero, List.set_cons_succ])
  refine wpAnyH_take (i := 36) (oi := ({ dst := some 54, op := Op.binOp BinOp.eql 3 (Operand.tmp 45) (Operand.tmp 53) 3, type := 4, pos := "help.go:108", after := #[{ on := 27, ground := Ground.data }, { on := 35, ground := Ground.data }, { on := 24, ground := Ground.guard }], guard := some (24, true) } : Oper)) (v := ?vam34) rfl (by kernel_rfl) (by kernel_rfl) (by kernel_rfl) (fun _ _ _ h => h) (Or.inl ⟨by rfl, fun w hSw => ?hyam34⟩) (by assumption) ?ram34
  case hyam34 => (try dsimp only at hSw); go_simp; (try with_reducible rfl)
  (try simp only [Act.put, List.setIfInBounds_toArray, List.set_cons_zero, List.set_cons_succ])
  refine wpAnyH_take (i := 37) (oi := ({ dst := some 55, op := Op.pick (Operand.tmp 42) (Operand.tmp 54) (Operand.const (Value.bool false)), type := 4, pos := "help.go:108", after := #[{ on := 24, ground := Ground.data }, { on := 36, ground := Ground.data }], guard := none } : Oper)) (v := ?vam35) rfl (by kernel_rfl) (by kernel_rfl) (by kernel_rfl) (fun _ _ _ h => h) (Or.inl ⟨by rfl, fun w hSw => ?hyam35⟩) (by assumption) ?ram35
  case hyam35 => (try dsimp only at hSw); go_simp; (try with_reducible rfl)
  (try simp only [Act.put, List.setIfInBounds_toArray, List.set_cons_zero, List.set_cons_succ])
  refine wpAnyH_take (i := 38) (oi := ({ dst := some 56, op := Op.move (Operand.tmp 55), type := 4, pos := "help.go:108", after := #[{ on := 37, ground := Ground.data }, { on := 24, ground := Ground.chain }], guard := none } : Oper)) (v := ?vam36) rfl (by kernel_rfl) (by kernel_rfl) (by kernel_rfl) (fun _ _ _ h => h) (Or.inl ⟨by rfl, fun w hSw => ?hyam36⟩) (by assumption) ?ram36
  case hyam36 => (try dsimp only at hSw); go_simp; (try with_reducible rfl)
  (try simp only [Act.put, List.setIfInBounds_toArray, List.set_cons_zero, List.set_cons_succ])
  refine wpAnyH_take (i := 39) (oi := ({ dst := some 57, op := Op.fieldAddr 126 (Operand.tmp 3) 1, type := 0, pos := "help.go:108", after := #[{ on := 38, ground := Ground.guard }], guard := some (38, true) } : Oper)) (v := ?vam37) rfl (by kernel_rfl) (by kernel_rfl) (by kernel_rfl) (fun _ _ _ h => h) (Or.inl ⟨by rfl, fun w hSw => ?hyam37⟩) (by assumption) ?ram37
  case hyam37 => (try dsimp only at hSw); go_simp; (try with_reducible rfl)
  (try simp only [Act.put, List.setIfInBounds_toArray, List.set_cons_zero, List.set_cons_succ])
  refine wpAnyH_take (i := 40) (oi := ({ dst := some 58, op := Op.load 3 (Operand.tmp 57), type := 3, pos := "help.go:108", after := #[{ on := 39, ground := Ground.data }, { on := 38, ground := Ground.guard }], guard := some (38, true) } : Oper)) (v := ?vam38) rfl (by kernel_rfl) (by kernel_rfl) (by kernel_rfl) (fun _ _ _ h => h) (Or.inl ⟨by rfl, fun w hSw => ?hyam38⟩) (by assumption) ?ram38
  case hyam38 => (try dsimp only at hSw); go_simp; (try with_reducible rfl)
  (try simp only [Act.put, List.setIfInBounds_toArray, List.set_cons_zero, List.set_cons_succ])
  refine wpAnyH_take (i := 41) (oi := ({ dst := some 59, op := Op.fieldAddr 36 (Operand.tmp 1) 1, type := 0, pos := "help.go:108", after := #[{ on := 38, ground := Ground.guard }], guard := some (38, true) } : Oper)) (v := ?vam39) rfl (by kernel_rfl) (by kernel_rfl) (by kernel_rfl) (fun _ _ _ h => h) (Or.inl ⟨by rfl, fun w hSw => ?hyam39⟩) (by assumption) ?ram39
  case hyam39 => (try dsimp only at hSw); go_simp; (try with_reducible rfl)
  (try simp only [Act.put, List.setIfInBounds_toArray, List.set_cons_zero, List.set_cons_succ])
  refine wpAnyH_take (i := 42) (oi := ({ dst := some 60, op := Op.load 34 (Operand.tmp 59), type := 34, pos := "help.go:108", after := #[{ on := 41, ground := Ground.data }, { on := 38, ground := Ground.guard }], guard := some (38, true) } : Oper)) (v := ?vam40) rfl (by kernel_rfl) (by kernel_rfl) (by kernel_rfl) (fun _ _ _ h => h) (Or.inl ⟨by rfl, fun w hSw => ?hyam40⟩) (by assumption) ?ram40
  case hyam40 => (try dsimp only at hSw); go_simp; (try with_reducible rfl)
  (try simp only [Act.put, List.setIfInBounds_toArray, List.set_cons_zero, List.set_cons_succ])
  refine wpAnyH_take (i := 43) (oi := ({ dst := some 61, op := Op.nilCheck (Operand.tmp 60), type := 0, pos := "help.go:108", after := #[{ on := 42, ground := Ground.data }, { on := 38, ground := Ground.guard }], guard := some (38, true) } : Oper)) (v := ?vam41) rfl (by kernel_rfl) (by kernel_rfl) (by kernel_rfl) (fun _ _ _ h => h) (Or.inl ⟨by rfl, fun w hSw => ?hyam41⟩) (by assumption) ?ram41
  case hyam41 => (try dsimp only at hSw); go_simp; (try with_reducible rfl)
  (try simp only [Act.put, List.setIfInBounds_toArray, List.set_cons_zero, List.set_cons_succ])
  refine wpAnyH_take (i := 44) (oi := ({ dst := some 62, op := Op.fieldAddr 95 (Operand.tmp 61) 2, type := 0, pos := "help.go:108", after := #[{ on := 43, ground := Ground.data }, { on := 38, ground := Ground.guard }], guard := some (38, true) } : Oper)) (v := ?vam42) rfl (by kernel_rfl) (by kernel_rfl) (by kernel_rfl) (fun _ _ _ h => h) (Or.inl ⟨by rfl, fun w hSw => ?hyam42⟩) (by assumption) ?ram42
  case hyam42 => (try dsimp only at hSw); go_simp; (try with_reducible rfl)
  (try simp only [Act.put, List.setIfInBounds_toArray, List.set_cons_zero, List.set_cons_succ])
  refine wpAnyH_take (i := 45) (oi := ({ dst := some 63, op := Op.load 90 (Operand.tmp 62), type := 90, pos := "help.go:108", after := #[{ on := 44, ground := Ground.data }, { on := 38, ground := Ground.guard }], guard := some (38, true) } : Oper)) (v := ?vam43) rfl (by kernel_rfl) (by kernel_rfl) (by kernel_rfl) (fun _ _ _ h => h) (Or.inl ⟨by rfl, fun w hSw => ?hyam43⟩) (by assumption) ?ram43
  case hyam43 => (try dsimp only at hSw); go_simp; (try with_reducible rfl)
  (try simp only [Act.put, List.setIfInBounds_toArray, List.set_cons_zero, List.set_cons_succ])
  refine wpAnyH_take (i := 46) (oi := ({ dst := some 64, op := Op.nilCheck (Operand.tmp 63), type := 0, pos := "help.go:108", after := #[{ on := 45, ground := Ground.data }, { on := 38, ground := Ground.guard }], guard := some (38, true) } : Oper)) (v := ?vam44) rfl (by kernel_rfl) (by kernel_rfl) (by kernel_rfl) (fun _ _ _ h => h) (Or.inl ⟨by rfl, fun w hSw => ?hyam44⟩) (by assumption) ?ram44
  case hyam44 => (try dsimp only at hSw); go_simp; (try with_reducible rfl)
  (try simp only [Act.put, List.setIfInBounds_toArray, List.set_cons_zero, List.set_cons_succ])
  refine wpAnyH_take (i := 47) (oi := ({ dst := some 65, op := Op.fieldAddr 140 (Operand.tmp 64) 3, type := 0, pos := "help.go:108", after := #[{ on := 46, ground := Ground.data }, { on := 38, ground := Ground.guard }], guard := some (38, true) } : Oper)) (v := ?vam45) rfl (by kernel_rfl) (by kernel_rfl) (by kernel_rfl) (fun _ _ _ h => h) (Or.inl ⟨by rfl, fun w hSw => ?hyam45⟩) (by assumption) ?ram45
  case hyam45 => (try dsimp only at hSw); go_simp; (try with_reducible rfl)
  (try simp only [Act.put, List.setIfInBounds_toArray, List.set_cons_zero, List.set_cons_succ])
  refine wpAnyH_take (i := 48) (oi := ({ dst := some 66, op := Op.load 3 (Operand.tmp 65), type := 3, pos := "help.go:108", after := #[{ on := 47, ground := Ground.data }, { on := 38, ground := Ground.guard }], guard := some (38, true) } : Oper)) (v := ?vam46) rfl (by kernel_rfl) (by kernel_rfl) (by kernel_rfl) (fun _ _ _ h => h) (Or.inl ⟨by rfl, fun w hSw => ?hyam46⟩) (by assumption) ?ram46
  case hyam46 => (try dsimp only at hSw); go_simp; (try with_reducible rfl)
  (try simp only [Act.put, List.setIfInBounds_toArray, List.set_cons_zero, List.set_cons_succ])
  refine wpAnyH_take (i := 49) (oi := ({ dst := some 67, op := Op.binOp BinOp.eql 3 (Operand.tmp 58) (Operand.tmp 66) 3, type := 4, pos := "help.go:108", after := #[{ on := 40, ground := Ground.data }, { on := 48, ground := Ground.data }, { on := 38, ground := Ground.guard }], guard := some (38, true) } : Oper)) (v := ?vam47) rfl (by kernel_rfl) (by kernel_rfl) (by kernel_rfl) (fun _ _ _ h => h) (Or.inl ⟨by rfl, fun w hSw => ?hyam47⟩) (by assumption) ?ram47
  case hyam47 => (try dsimp only at hSw); go_simp; (try with_reducible rfl)
  (try simp only [Act.put, List.setIfInBounds_toArray, List.set_cons_zero, List.set_cons_succ])
  refine wpAnyH_take (i := 50) (oi := ({ dst := some 68, op := Op.pick (Operand.tmp 56) (Operand.tmp 67) (Operand.const (Value.bool false)), type := 4, pos := "help.go:108", after := #[{ on := 38, ground := Ground.data }, { on := 49, ground := Ground.data }], guard := none } : Oper)) (v := ?vam48) rfl (by kernel_rfl) (by kernel_rfl) (by kernel_rfl) (fun _ _ _ h => h) (Or.inl ⟨by rfl, fun w hSw => ?hyam48⟩) (by assumption) ?ram48
  case hyam48 => (try dsimp only at hSw); go_simp; (try with_reducible rfl)
  (try simp only [Act.put, List.setIfInBounds_toArray, List.set_cons_zero, List.set_cons_succ])
  refine wpAnyH_take (i := 51) (oi := ({ dst := some 69, op := Op.move (Operand.tmp 68), type := 4, pos := "help.go:108", after := #[{ on := 50, ground := Ground.data }, { on := 38, ground := Ground.chain }], guard := none } : Oper)) (v := ?vam49) rfl (by kernel_rfl) (by kernel_rfl) (by kernel_rfl) (fun _ _ _ h => h) (Or.inl ⟨by rfl, fun w hSw => ?hyam49⟩) (by assumption) ?ram49
  case hyam49 => (try dsimp only at hSw); go_simp; (try with_reducible rfl)
  (try simp only [Act.put, List.setIfInBounds_toArray, List.set_cons_zero, List.set_cons_succ])
  refine wpAnyH_take (i := 52) (oi := ({ dst := some 70, op := Op.fieldAddr 36 (Operand.tmp 1) 0, type := 0, pos := "help.go:108", after := #[{ on := 51, ground := Ground.guard }], guard := some (51, true) } : Oper)) (v := ?vam50) rfl (by kernel_rfl) (by kernel_rfl) (by kernel_rfl) (fun _ _ _ h => h) (Or.inl ⟨by rfl, fun w hSw => ?hyam50⟩) (by assumption) ?ram50
  case hyam50 => (try dsimp only at hSw); go_simp; (try with_reducible rfl)
  (try simp only [Act.put, List.setIfInBounds_toArray, List.set_cons_zero, List.set_cons_succ])
  refine wpAnyH_take (i := 53) (oi := ({ dst := some 71, op := Op.load 33 (Operand.tmp 70), type := 33, pos := "help.go:108", after := #[{ on := 52, ground := Ground.data }, { on := 51, ground := Ground.guard }], guard := some (51, true) } : Oper)) (v := ?vam51) rfl (by kernel_rfl) (by kernel_rfl) (by kernel_rfl) (fun _ _ _ h => h) (Or.inl ⟨by rfl, fun w hSw => ?hyam51⟩) (by assumption) ?ram51
  case hyam51 => (try dsimp only at hSw); go_simp; (try with_reducible rfl)
  (try simp only [Act.put, List.setIfInBounds_toArray, List.set_cons_zero, List.set_cons_succ])
  refine wpAnyH_take (i := 54) (oi := ({ dst := some 72, op := Op.nilCheck (Operand.tmp 71), type := 0, pos := "help.go:108", after := #[{ on := 53, ground := Ground.data }, { on := 51, ground := Ground.guard }], guard := some (51, true) } : Oper)) (v := ?vam52) rfl (by kernel_rfl) (by kernel_rfl) (by kernel_rfl) (fun _ _ _ h => h) (Or.inl ⟨by rfl, fun w hSw => ?hyam52⟩) (by assumption) ?ram52
  case hyam52 => (try dsimp only at hSw); go_simp; (try with_reducible rfl)
  (try simp only [Act.put, List.setIfInBounds_toArray, List.set_cons_zero, List.set_cons_succ])
  refine wpAnyH_take (i := 55) (oi := ({ dst := some 73, op := Op.fieldAddr 74 (Operand.tmp 72) 5, type := 0, pos := "help.go:108", after := #[{ on := 54, ground := Ground.data }, { on := 51, ground := Ground.guard }], guard := some (51, true) } : Oper)) (v := ?vam53) rfl (by kernel_rfl) (by kernel_rfl) (by kernel_rfl) (fun _ _ _ h => h) (Or.inl ⟨by rfl, fun w hSw => ?hyam53⟩) (by assumption) ?ram53
  case hyam53 => (try dsimp only at hSw); go_simp; (try with_reducible rfl)
  (try simp only [Act.put, List.setIfInBounds_toArray, List.set_cons_zero, List.set_cons_succ])
  refine wpAnyH_take (i := 56) (oi := ({ dst := some 74, op := Op.load 71 (Operand.tmp 73), type := 71, pos := "help.go:108", after := #[{ on := 55, ground := Ground.data }, { on := 51, ground := Ground.guard }], guard := some (51, true) } : Oper)) (v := ?vam54) rfl (by kernel_rfl) (by kernel_rfl) (by kernel_rfl) (fun _ _ _ h => h) (Or.inl ⟨by rfl, fun w hSw => ?hyam54⟩) (by assumption) ?ram54
  case hyam54 => (try dsimp only at hSw); go_simp; (try with_reducible rfl)
  (try simp only [Act.put, List.setIfInBounds_toArray, List.set_cons_zero, List.set_cons_succ])
  refine wpAnyH_take (i := 58) (oi := ({ dst := some 76, op := Op.fieldAddr 36 (Operand.tmp 1) 1, type := 0, pos := "help.go:108", after := #[{ on := 51, ground := Ground.guard }], guard := some (51, true) } : Oper)) (v := ?vam55) rfl (by kernel_rfl) (by kernel_rfl) (by kernel_rfl) (fun _ _ _ h => h) (Or.inl ⟨by rfl, fun w hSw => ?hyam55⟩) (by assumption) ?ram55
  case hyam55 => (try dsimp only at hSw); go_simp; (try with_reducible rfl)
  (try simp only [Act.put, List.setIfInBounds_toArray, List.set_cons_zero, List.set_cons_succ])
  refine wpAnyH_take (i := 59) (oi := ({ dst := some 77, op := Op.load 34 (Operand.tmp 76), type := 34, pos := "help.go:108", after := #[{ on := 58, ground := Ground.data }, { on := 51, ground := Ground.guard }], guard := some (51, true) } : Oper)) (v := ?vam56) rfl (by kernel_rfl) (by kernel_rfl) (by kernel_rfl) (fun _ _ _ h => h) (Or.inl ⟨by rfl, fun w hSw => ?hyam56⟩) (by assumption) ?ram56
  case hyam56 => (try dsimp only at hSw); go_simp; (try with_reducible rfl)
  (try simp only [Act.put, List.setIfInBounds_toArray, List.set_cons_zero, List.set_cons_succ])
  refine wpAnyH_take (i := 60) (oi := ({ dst := some 78, op := Op.nilCheck (Operand.tmp 77), type := 0, pos := "help.go:108", after := #[{ on := 59, ground := Ground.data }, { on := 51, ground := Ground.guard }], guard := some (51, true) } : Oper)) (v := ?vam57) rfl (by kernel_rfl) (by kernel_rfl) (by kernel_rfl) (fun _ _ _ h => h) (Or.inl ⟨by rfl, fun w hSw => ?hyam57⟩) (by assumption) ?ram57
  case hyam57 => (try dsimp only at hSw); go_simp; (try with_reducible rfl)
  (try simp only [Act.put, List.setIfInBounds_toArray, List.set_cons_zero, List.set_cons_succ])
  refine wpAnyH_take (i := 61) (oi := ({ dst := some 79, op := Op.fieldAddr 95 (Operand.tmp 78) 5, type := 0, pos := "help.go:108", after := #[{ on := 60, ground := Ground.data }, { on := 51, ground := Ground.guard }], guard := some (51, true) } : Oper)) (v := ?vam58) rfl (by kernel_rfl) (by kernel_rfl) (by kernel_rfl) (fun _ _ _ h => h) (Or.inl ⟨by rfl, fun w hSw => ?hyam58⟩) (by assumption) ?ram58
  case hyam58 => (try dsimp only at hSw); go_simp; (try with_reducible rfl)
  (try simp only [Act.put, List.setIfInBounds_toArray, List.set_cons_zero, List.set_cons_succ])
  refine wpAnyH_take (i := 62) (oi := ({ dst := some 80, op := Op.load 93 (Operand.tmp 79), type := 93, pos := "help.go:108", after := #[{ on := 61, ground := Ground.data }, { on := 51, ground := Ground.guard }], guard := some (51, true) } : Oper)) (v := ?vam59) rfl (by kernel_rfl) (by kernel_rfl) (by kernel_rfl) (fun _ _ _ h => h) (Or.inl ⟨by rfl, fun w hSw => ?hyam59⟩) (by assumption) ?ram59
  case hyam59 => (try dsimp only at hSw); go_simp; (try with_reducible rfl)
  (try simp only [Act.put, List.setIfInBounds_toArray, List.set_cons_zero, List.set_cons_succ])
  refine wpAnyH_take (i := 63) (oi := ({ dst := some 81, op := Op.nilCheck (Operand.tmp 80), type := 0, pos := "help.go:108", after := #[{ on := 62, ground := Ground.data }, { on := 51, ground := Ground.guard }], guard := some (51, true) } : Oper)) (v := ?vam60) rfl (by kernel_rfl) (by kernel_rfl) (by kernel_rfl) (fun _ _ _ h => h) (Or.inl ⟨by rfl, fun w hSw => ?hyam60⟩) (by assumption) ?ram60
  case hyam60 => (try dsimp only at hSw); go_simp; (try with_reducible rfl)
  (try simp only [Act.put, List.setIfInBounds_toArray, List.set_cons_zero, List.set_cons_succ])
  refine wpAnyH_take (i := 64) (oi := ({ dst := some 82, op := Op.fieldAddr 143 (Operand.tmp 81) 0, type := 0, pos := "help.go:108", after := #[{ on := 63, ground := Ground.data }, { on := 51, ground := Ground.guard }], guard := some (51, true) } : Oper)) (v := ?vam61) rfl (by kernel_rfl) (by kernel_rfl) (by kernel_rfl) (fun _ _ _ h => h) (Or.inl ⟨by rfl, fun w hSw => ?hyam61⟩) (by assumption) ?ram61
  case hyam61 => (try dsimp only at hSw); go_simp; (try with_reducible rfl)
  (try simp only [Act.put, List.setIfInBounds_toArray, List.set_cons_zero, List.set_cons_succ])
  refine wpAnyH_take (i := 65) (oi := ({ dst := some 83, op := Op.load 141 (Operand.tmp 82), type := 141, pos := "help.go:108", after := #[{ on := 64, ground := Ground.data }, { on := 51, ground := Ground.guard }], guard := some (51, true) } : Oper)) (v := ?vam62) rfl (by kernel_rfl) (by kernel_rfl) (by kernel_rfl) (fun _ _ _ h => h) (Or.inl ⟨by rfl, fun w hSw => ?hyam62⟩) (by assumption) ?ram62
  case hyam62 => (try dsimp only at hSw); go_simp; (try with_reducible rfl)
  (try simp only [Act.put, List.setIfInBounds_toArray, List.set_cons_zero, List.set_cons_succ])
  refine wpAnyH_take (i := 66) (oi := ({ dst := some 84, op := Op.call { callee := Callee.builtin Builtin.len, args := #[Operand.tmp 83], argTypes := #[141] }, type := 3, pos := "help.go:108", after := #[{ on := 65, ground := Ground.data }, { on := 51, ground := Ground.guard }], guard := some (51, true) } : Oper)) (v := ?vam63) rfl (by kernel_rfl) (by kernel_rfl) (by kernel_rfl) (fun _ _ _ h => h) (Or.inl ⟨by rfl, fun w hSw => ?hyam63⟩) (by assumption) ?ram63
  case hyam63 => (try dsimp only at hSw); go_simp; (try with_reducible rfl)
  (try simp only [Act.put, List.setIfInBounds_toArray, List.set_cons_zero, List.set_cons_succ])
  refine wpAnyH_ready (rs := [57]) (by kernel_rfl) (by simp) ?_
  refine AllReadyH.cons (o := ({ dst := some 75, op := Op.call { callee := Callee.value (Operand.func 53), args := #[Operand.tmp 74], argTypes := #[71] }, type := 3, pos := "help.go:108", after := #[{ on := 56, ground := Ground.data }, { on := 51, ground := Ground.chain }, { on := 51, ground := Ground.guard }], guard := some (51, true) } : Oper)) rfl (fun Kq hKq => ?_) AllReadyH.nil
  go_simp
  (refine (HNC.out _ hHeld.1).mono ?_; rintro e w3 ⟨rfl, rfl⟩)
  refine hKq.out _ _ ?_ (fun hHeld => ?_)
  · exact hHeld
  clear hKq Kq
  (try simp only [Act.put, List.setIfInBounds_toArray, List.set_cons_zero, List.set_cons_succ])
  refine wpAnyH_take (i := 67) (oi := ({ dst := some 85, op := Op.binOp BinOp.eql 3 (Operand.tmp 75) (Operand.tmp 84) 3, type := 4, pos := "help.go:108", after := #[{ on := 57, ground := Ground.data }, { on := 66, ground := Ground.data }, { on := 51, ground := Ground.guard }], guard := some (51, true) } : Oper)) (v := ?vam64) rfl (by kernel_rfl) (by kernel_rfl) (by kernel_rfl) (fun _ _ _ h => h) (Or.inl ⟨by rfl, fun w hSw => ?hyam64⟩) (by assumption) ?ram64
  case hyam64 => (try dsimp only at hSw); go_simp; (try with_reducible rfl)
  (try simp only [Act.put, List.setIfInBounds_toArray, List.set_cons_zero, List.set_cons_succ])
  refine wpAnyH_take (i := 68) (oi := ({ dst := some 86, op := Op.pick (Operand.tmp 69) (Operand.tmp 85) (Operand.const (Value.bool false)), type := 4, pos := "help.go:108", after := #[{ on := 51, ground := Ground.data }, { on := 67, ground := Ground.data }], guard := none } : Oper)) (v := ?vam65) rfl (by kernel_rfl) (by kernel_rfl) (by kernel_rfl) (fun _ _ _ h => h) (Or.inl ⟨by rfl, fun w hSw => ?hyam65⟩) (by assumption) ?ram65
  case hyam65 => (try dsimp only at hSw); go_simp; (try with_reducible rfl)
  (try simp only [Act.put, List.setIfInBounds_toArray, List.set_cons_zero, List.set_cons_succ])
  refine wpAnyH_take (i := 69) (oi := ({ dst := some 87, op := Op.move (Operand.tmp 86), type := 4, pos := "help.go:108", after := #[{ on := 68, ground := Ground.data }, { on := 57, ground := Ground.chain }], guard := none } : Oper)) (v := ?vam66) rfl (by kernel_rfl) (by kernel_rfl) (by kernel_rfl) (fun _ _ _ h => h) (Or.inl ⟨by rfl, fun w hSw => ?hyam66⟩) (by assumption) ?ram66
  case hyam66 => (try dsimp only at hSw); go_simp; (try with_reducible rfl)
  (try simp only [Act.put, List.setIfInBounds_toArray, List.set_cons_zero, List.set_cons_succ])
  refine wpAnyH_take (i := 70) (oi := ({ dst := some 88, op := Op.fieldAddr 36 (Operand.tmp 1) 0, type := 0, pos := "help.go:108", after := #[{ on := 69, ground := Ground.guard }], guard := some (69, true) } : Oper)) (v := ?vam67) rfl (by kernel_rfl) (by kernel_rfl) (by kernel_rfl) (fun _ _ _ h => h) (Or.inl ⟨by rfl, fun w hSw => ?hyam67⟩) (by assumption) ?ram67
  case hyam67 => (try dsimp only at hSw); go_simp; (try with_reducible rfl)
  (try simp only [Act.put, List.setIfInBounds_toArray, List.set_cons_zero, List.set_cons_succ])
  refine wpAnyH_take (i := 71) (oi := ({ dst := some 89, op := Op.load 33 (Operand.tmp 88), type := 33, pos := "help.go:108", after := #[{ on := 70, ground := Ground.data }, { on := 69, ground := Ground.guard }], guard := some (69, true) } : Oper)) (v := ?vam68) rfl (by kernel_rfl) (by kernel_rfl) (by kernel_rfl) (fun _ _ _ h => h) (Or.inl ⟨by rfl, fun w hSw => ?hyam68⟩) (by assumption) ?ram68
  case hyam68 => (try dsimp only at hSw); go_simp; (try with_reducible rfl)
  (try simp only [Act.put, List.setIfInBounds_toArray, List.set_cons_zero, List.set_cons_succ])
  refine wpAnyH_take (i := 72) (oi := ({ dst := some 90, op := Op.nilCheck (Operand.tmp 89), type := 0, pos := "help.go:108", after := #[{ on := 71, ground := Ground.data }, { on := 69, ground := Ground.guard }], guard := some (69, true) } : Oper)) (v := ?vam69) rfl (by kernel_rfl) (by kernel_rfl) (by kernel_rfl) (fun _ _ _ h => h) (Or.inl ⟨by rfl, fun w hSw => ?hyam69⟩) (by assumption) ?ram69
  case hyam69 => (try dsimp only at hSw); go_simp; (try with_reducible rfl)
  (try simp only [Act.put, List.setIfInBounds_toArray, List.set_cons_zero, List.set_cons_succ])
  refine wpAnyH_take (i := 73) (oi := ({ dst := some 91, op := Op.fieldAddr 74 (Operand.tmp 90) 1, type := 0, pos := "help.go:108", after := #[{ on := 72, ground := Ground.data }, { on := 69, ground := Ground.guard }], guard := some (69, true) } : Oper)) (v := ?vam70) rfl (by kernel_rfl) (by kernel_rfl) (by kernel_rfl) (fun _ _ _ h => h) (Or.inl ⟨by rfl, fun w hSw => ?hyam70⟩) (by assumption) ?ram70
  case hyam70 => (try dsimp only at hSw); go_simp; (try with_reducible rfl)
  (try simp only [Act.put, List.setIfInBounds_toArray, List.set_cons_zero, List.set_cons_succ])
  refine wpAnyH_take (i := 74) (oi := ({ dst := some 92, op := Op.load 67 (Operand.tmp 91), type := 67, pos := "help.go:108", after := #[{ on := 73, ground := Ground.data }, { on := 69, ground := Ground.guard }], guard := some (69, true) } : Oper)) (v := ?vam71) rfl (by kernel_rfl) (by kernel_rfl) (by kernel_rfl) (fun _ _ _ h => h) (Or.inl ⟨by rfl, fun w hSw => ?hyam71⟩) (by assumption) ?ram71
  case hyam71 => (try dsimp only at hSw); go_simp; (try with_reducible rfl)
  (try simp only [Act.put, List.setIfInBounds_toArray, List.set_cons_zero, List.set_cons_succ])
  refine wpAnyH_take (i := 76) (oi := ({ dst := some 94, op := Op.fieldAddr 36 (Operand.tmp 1) 1, type := 0, pos := "help.go:108", after := #[{ on := 69, ground := Ground.guard }], guard := some (69, true) } : Oper)) (v := ?vam72) rfl (by kernel_rfl) (by kernel_rfl) (by kernel_rfl) (fun _ _ _ h => h) (Or.inl ⟨by rfl, fun w hSw => ?hyam72⟩) (by assumption) ?ram72
  case hyam72 => (try dsimp only at hSw); go_simp; (try with_reducible rfl)
  (try simp only [Act.put, List.setIfInBounds_toArray, List.set_cons_zero, List.set_cons_succ])
  refine wpAnyH_take (i := 77) (oi := ({ dst := some 95, op := Op.load 34 (Operand.tmp 94), type := 34, pos := "help.go:108", after := #[{ on := 76, ground := Ground.data }, { on := 69, ground := Ground.guard }], guard := some (69, true) } : Oper)) (v := ?vam73) rfl (by kernel_rfl) (by kernel_rfl) (by kernel_rfl) (fun _ _ _ h => h) (Or.inl ⟨by rfl, fun w hSw => ?hyam73⟩) (by assumption) ?ram73
  case hyam73 => (try dsimp only at hSw); go_simp; (try with_reducible rfl)
  (try simp only [Act.put, List.setIfInBounds_toArray, List.set_cons_zero, List.set_cons_succ])
  refine wpAnyH_take (i := 78) (oi := ({ dst := some 96, op := Op.nilCheck (Operand.tmp 95), type := 0, pos := "help.go:108", after := #[{ on := 77, ground := Ground.data }, { on := 69, ground := Ground.guard }], guard := some (69, true) } : Oper)) (v := ?vam74) rfl (by kernel_rfl) (by kernel_rfl) (by kernel_rfl) (fun _ _ _ h => h) (Or.inl ⟨by rfl, fun w hSw => ?hyam74⟩) (by assumption) ?ram74
  case hyam74 => (try dsimp only at hSw); go_simp; (try with_reducible rfl)
  (try simp only [Act.put, List.setIfInBounds_toArray, List.set_cons_zero, List.set_cons_succ])
  refine wpAnyH_take (i := 79) (oi := ({ dst := some 97, op := Op.fieldAddr 95 (Operand.tmp 96) 1, type := 0, pos := "help.go:108", after := #[{ on := 78, ground := Ground.data }, { on := 69, ground := Ground.guard }], guard := some (69, true) } : Oper)) (v := ?vam75) rfl (by kernel_rfl) (by kernel_rfl) (by kernel_rfl) (fun _ _ _ h => h) (Or.inl ⟨by rfl, fun w hSw => ?hyam75⟩) (by assumption) ?ram75
  case hyam75 => (try dsimp only at hSw); go_simp; (try with_reducible rfl)
  (try simp only [Act.put, List.setIfInBounds_toArray, List.set_cons_zero, List.set_cons_succ])
  refine wpAnyH_take (i := 80) (oi := ({ dst := some 98, op := Op.load 89 (Operand.tmp 97), type := 89, pos := "help.go:108", after := #[{ on := 79, ground := Ground.data }, { on := 69, ground := Ground.guard }], guard := some (69, true) } : Oper)) (v := ?vam76) rfl (by kernel_rfl) (by kernel_rfl) (by kernel_rfl) (fun _ _ _ h => h) (Or.inl ⟨by rfl, fun w hSw => ?hyam76⟩) (by assumption) ?ram76
  case hyam76 => (try dsimp only at hSw); go_simp; (try with_reducible rfl)
  (try simp only [Act.put, List.setIfInBounds_toArray, List.set_cons_zero, List.set_cons_succ])
  refine wpAnyH_take (i := 81) (oi := ({ dst := some 99, op := Op.nilCheck (Operand.tmp 98), type := 0, pos := "help.go:108", after := #[{ on := 80, ground := Ground.data }, { on := 69, ground := Ground.guard }], guard := some (69, true) } : Oper)) (v := ?vam77) rfl (by kernel_rfl) (by kernel_rfl) (by kernel_rfl) (fun _ _ _ h => h) (Or.inl ⟨by rfl, fun w hSw => ?hyam77⟩) (by assumption) ?ram77
  case hyam77 => (try dsimp only at hSw); go_simp; (try with_reducible rfl)
  (try simp only [Act.put, List.setIfInBounds_toArray, List.set_cons_zero, List.set_cons_succ])
  refine wpAnyH_take (i := 82) (oi := ({ dst := some 100, op := Op.fieldAddr 145 (Operand.tmp 99) 1, type := 0, pos := "help.go:108", after := #[{ on := 81, ground := Ground.data }, { on := 69, ground := Ground.guard }], guard := some (69, true) } : Oper)) (v := ?vam78) rfl (by kernel_rfl) (by kernel_rfl) (by kernel_rfl) (fun _ _ _ h => h) (Or.inl ⟨by rfl, fun w hSw => ?hyam78⟩) (by assumption) ?ram78
  case hyam78 => (try dsimp only at hSw); go_simp; (try with_reducible rfl)
  (try simp only [Act.put, List.setIfInBounds_toArray, List.set_cons_zero, List.set_cons_succ])
  refine wpAnyH_take (i := 83) (oi := ({ dst := some 101, op := Op.load 23 (Operand.tmp 100), type := 23, pos := "help.go:108", after := #[{ on := 82, ground := Ground.data }, { on := 69, ground := Ground.guard }], guard := some (69, true) } : Oper)) (v := ?vam79) rfl (by kernel_rfl) (by kernel_rfl) (by kernel_rfl) (fun _ _ _ h => h) (Or.inl ⟨by rfl, fun w hSw => ?hyam79⟩) (by assumption) ?ram79
  case hyam79 => (try dsimp only at hSw); go_simp; (try with_reducible rfl)
  (try simp only [Act.put, List.setIfInBounds_toArray, List.set_cons_zero, List.set_cons_succ])
  refine wpAnyH_take (i := 84) (oi := ({ dst := some 102, op := Op.call { callee := Callee.builtin Builtin.len, args := #[Operand.tmp 101], argTypes := #[23] }, type := 3, pos := "help.go:108", after := #[{ on := 83, ground := Ground.data }, { on := 69, ground := Ground.guard }], guard := some (69, true) } : Oper)) (v := ?vam80) rfl (by kernel_rfl) (by kernel_rfl) (by kernel_rfl) (fun _ _ _ h => h) (Or.inl ⟨by rfl, fun w hSw => ?hyam80⟩) (by assumption) ?ram80
  case hyam80 => (try dsimp only at hSw); go_simp; (try with_reducible rfl)
  (try simp only [Act.put, List.setIfInBounds_toArray, List.set_cons_zero, List.set_cons_succ])
  refine wpAnyH_ready (rs := [75]) (by kernel_rfl) (by simp) ?_
  refine AllReadyH.cons (o := ({ dst := some 93, op := Op.call { callee := Callee.value (Operand.func 54), args := #[Operand.tmp 92], argTypes := #[67] }, type := 3, pos := "help.go:108", after := #[{ on := 74, ground := Ground.data }, { on := 69, ground := Ground.chain }, { on := 69, ground := Ground.guard }], guard := some (69, true) } : Oper)) rfl (fun Kq hKq => ?_) AllReadyH.nil
  go_simp
  (refine (HLF.out _ hHeld.1).mono ?_; rintro e w3 ⟨rfl, rfl⟩)
  refine hKq.out _ _ ?_ (fun hHeld => ?_)
  · exact hHeld
  clear hKq Kq
  (try simp only [Act.put, List.setIfInBounds_toArray, List.set_cons_zero, List.set_cons_succ])
  refine wpAnyH_take (i := 85) (oi := ({ dst := some 103, op := Op.binOp BinOp.eql 3 (Operand.tmp 93) (Operand.tmp 102) 3, type := 4, pos := "help.go:108", after := #[{ on := 75, ground := Ground.data }, { on := 84, ground := Ground.data }, { on := 69, ground := Ground.guard }], guard := some (69, true) } : Oper)) (v := ?vam81) rfl (by kernel_rfl) (by kernel_rfl) (by kernel_rfl) (fun _ _ _ h => h) (Or.inl ⟨by rfl, fun w hSw => ?hyam81⟩) (by assumption) ?ram81
  case hyam81 => (try dsimp only at hSw); go_simp; (try with_reducible rfl)
  (try simp only [Act.put, List.setIfInBounds_toArray, List.set_cons_zero, List.set_cons_succ])
  refine wpAnyH_take (i := 86) (oi := ({ dst := some 104, op := Op.pick (Operand.tmp 87) (Operand.tmp 103) (Operand.const (Value.bool false)), type := 4, pos := "help.go:108", after := #[{ on := 69, ground := Ground.data }, { on := 85, ground := Ground.data }], guard := none } : Oper)) (v := ?vam82) rfl (by kernel_rfl) (by kernel_rfl) (by kernel_rfl) (fun _ _ _ h => h) (Or.inl ⟨by rfl, fun w hSw => ?hyam82⟩) (by assumption) ?ram82
  case hyam82 => (try dsimp only at hSw); go_simp; (try with_reducible rfl)
  (try simp only [Act.put, List.setIfInBounds_toArray, List.set_cons_zero, List.set_cons_succ])
  refine wpAnyH_take (i := 87) (oi := ({ dst := some 2, op := Op.assign (Operand.tmp 104), type := 4, pos := "help.go:108", after := ([{ on := 86, ground := Ground.data }, { on := 75, ground := Ground.chain }, { on := 0, ground := Ground.phase }, { on := 1, ground := Ground.phase }, { on := 2, ground := Ground.phase }, { on := 3, ground := Ground.phase }, { on := 4, ground := Ground.phase }, { on := 5, ground := Ground.phase }, { on := 6, ground := Ground.phase }, { on := 7, ground := Ground.phase }, { on := 8, ground := Ground.phase }, { on := 9, ground := Ground.phase }, { on := 10, ground := Ground.phase }, { on := 11, ground := Ground.phase }, { on := 12, ground := Ground.phase }, { on := 13, ground := Ground.phase }, { on := 14, ground := Ground.phase }, { on := 15, ground := Ground.phase }, { on := 16, ground := Ground.phase }, { on := 17, ground := Ground.phase }, { on := 18, ground := Ground.phase }, { on := 19, ground := Ground.phase }, { on := 20, ground := Ground.phase }, { on := 21, ground := Ground.phase }, { on := 22, ground := Ground.phase }, { on := 23, ground := Ground.phase }, { on := 24, ground := Ground.phase }, { on := 25, ground := Ground.phase }, { on := 26, ground := Ground.phase }, { on := 27, ground := Ground.phase }, { on := 28, ground := Ground.phase }, { on := 29, ground := Ground.phase }, { on := 30, ground := Ground.phase }, { on := 31, ground := Ground.phase }, { on := 32, ground := Ground.phase }, { on := 33, ground := Ground.phase }, { on := 34, ground := Ground.phase }, { on := 35, ground := Ground.phase }, { on := 36, ground := Ground.phase }, { on := 37, ground := Ground.phase }, { on := 38, ground := Ground.phase }, { on := 39, ground := Ground.phase }, { on := 40, ground := Ground.phase }, { on := 41, ground := Ground.phase }].append [{ on := 42, ground := Ground.phase }, { on := 43, ground := Ground.phase }, { on := 44, ground := Ground.phase }, { on := 45, ground := Ground.phase }, { on := 46, ground := Ground.phase }, { on := 47, ground := Ground.phase }, { on := 48, ground := Ground.phase }, { on := 49, ground := Ground.phase }, { on := 50, ground := Ground.phase }, { on := 51, ground := Ground.phase }, { on := 52, ground := Ground.phase }, { on := 53, ground := Ground.phase }, { on := 54, ground := Ground.phase }, { on := 55, ground := Ground.phase }, { on := 56, ground := Ground.phase }, { on := 57, ground := Ground.phase }, { on := 58, ground := Ground.phase }, { on := 59, ground := Ground.phase }, { on := 60, ground := Ground.phase }, { on := 61, ground := Ground.phase }, { on := 62, ground := Ground.phase }, { on := 63, ground := Ground.phase }, { on := 64, ground := Ground.phase }, { on := 65, ground := Ground.phase }, { on := 66, ground := Ground.phase }, { on := 67, ground := Ground.phase }, { on := 68, ground := Ground.phase }, { on := 69, ground := Ground.phase }, { on := 70, ground := Ground.phase }, { on := 71, ground := Ground.phase }, { on := 72, ground := Ground.phase }, { on := 73, ground := Ground.phase }, { on := 74, ground := Ground.phase }, { on := 75, ground := Ground.phase }, { on := 76, ground := Ground.phase }, { on := 77, ground := Ground.phase }, { on := 78, ground := Ground.phase }, { on := 79, ground := Ground.phase }, { on := 80, ground := Ground.phase }, { on := 81, ground := Ground.phase }, { on := 82, ground := Ground.phase }, { on := 83, ground := Ground.phase }, { on := 84, ground := Ground.phase }, { on := 85, ground := Ground.phase }, { on := 86, ground := Ground.phase }]).toArray, guard := none } : Oper)) (v := ?vam83) rfl (by kernel_rfl) (by kernel_rfl) (by kernel_rfl) (fun _ _ _ h => h) (Or.inl ⟨by rfl, fun w hSw => ?hyam83⟩) (by assumption) ?ram83
  case hyam83 => (try dsimp only at hSw); go_simp; (try with_reducible rfl)
  (try simp only [Act.put, List.setIfInBounds_toArray, List.set_cons_zero, List.set_cons_succ])
  refine wpAnyH_done (by kernel_rfl) ?_ _
  go_wp2_with fail
  go_ret
  exact ⟨rfl, HBX.out.trans (hHeld.1.mono HBX.out.size)⟩
end Go.Proofs.YtffoobepdofkkaaGreat.S12
namespace Go.Proofs.YtffoobepdofkkaaGreat.S10
open Go.Proofs.YtffoobepdofkkaaGreat
open Go.RowKit

theorem keep3 {w w' : World} {base g o : Nat} {d : Ent} (hb : Below base w w') (hg : g < base) (h : w.cell? ⟨g, o, none⟩ = some (.int .i64 d.t) ∧ w.cell? ⟨g, o + 1, none⟩ = some (.int .u32 d.k) ∧ w.cell? ⟨g, o + 2, none⟩ = some (.int .u64 d.z)) :
    w'.cell? ⟨g, o, none⟩ = some (.int .i64 d.t) ∧ w'.cell? ⟨g, o + 1, none⟩ = some (.int .u32 d.k) ∧ w'.cell? ⟨g, o + 2, none⟩ = some (.int .u64 d.z) :=
  ⟨(hb.cell (by exact hg)).trans h.1, (hb.cell (by exact hg)).trans h.2.1, (hb.cell (by exact hg)).trans h.2.2⟩
set_option maxHeartbeats 2000000 in
set_option maxRecDepth 100000 in
theorem same_any {w : World} {b1 b2 : Nat} {A B : Option Addr} {D : List Ent} (c c' : Nat) (hr1 : Rd w b1 A (flat D)) (hr2 : Rd w b2 B (flat D)) (hb1 : b1 ≤ w.heap.size) (hb2 : b2 ≤ w.heap.size) (hlen : D.length ≤ 1000000) :
    Calls Tryz.prog 112 #[.slice A D.length c, .slice B D.length c'] w fun e w' => e = .returned (.bool true) ∧ Below w.heap.size w w' := by
  have H1 := Lib.hid hr1; have H2 := Lib.hid hr2; have HS1 := Lib.hid hb1; have HS2 := Lib.hid hb2
  clear hr1 hr2 hb1 hb2
  obtain ⟨n, hn⟩ : ∃ n, n = D.length := ⟨_, rfl⟩
  rw [← hn]
  have HN := Lib.hid hn
  have hn6 : n ≤ 1000000 := by omega
  clear hn hlen
  go_enter Tryz.func112, Tryz.ntmps112
  go_wp2_with fail
  go_loopg [5] n (fun q s5 wx => ∃ k : Nat, k ≤ n ∧ q = n - k ∧ s5 = .int .i64 (k : Int) ∧ Below w.heap.size w wx)
  case atStart => exact ⟨0, by omega, rfl, rfl, Below.refl _ _⟩
  case round =>
    obtain ⟨k, hk, rfl, rfl, hb⟩ := hrel
    have HB := Lib.hid hb
    clear hb
    by_cases hkn : k < n
    · obtain ⟨g1, o1, rfl, hg1, c0, c1, c2⟩ := (H1.out.below HB.out HS1.out).ent (i := k) (by have := HN.out; omega)
      obtain ⟨g2, o2, rfl, hg2, d0, d1, d2⟩ := (H2.out.below HB.out HS2.out).ent (i := k) (by have := HN.out; omega)
      have hl1 : g1 < wr.heap.size := by have := HB.out.size; have := HS1.out; omega
      have hl2 : g2 < wr.heap.size := by have := HB.out.size; have := HS2.out; omega
      generalize hd : D[k]! = d at *
      clear hd
      have hne := fun W => neqO d d W
      simp only [decide_true, Bool.not_true] at hne
      go_upto_region 6 with (fail)
      refine wp_region_held_drew (S := fun w' => (w'.cell? ⟨g1, o1 + k * 3, none⟩ = some (.int .i64 d.t) ∧ w'.cell? ⟨g1, o1 + k * 3 + 1, none⟩ = some (.int .u32 d.k) ∧ w'.cell? ⟨g1, o1 + k * 3 + 2, none⟩ = some (.int .u64 d.z)) ∧ (w'.cell? ⟨g2, o2 + k * 3, none⟩ = some (.int .i64 d.t) ∧ w'.cell? ⟨g2, o2 + k * 3 + 1, none⟩ = some (.int .u32 d.k) ∧ w'.cell? ⟨g2, o2 + k * 3 + 2, none⟩ = some (.int .u64 d.z)) ∧ Below wr.heap.size wr w') (by kernel_rfl) ?_ (fun hHeld => ?_)
      · exact ⟨⟨c0, c1, c2⟩, ⟨d0, d1, d2⟩, (Below.refl _ wr).drew⟩
      refine wpAnyH_take (i := 0) (oi := ({ dst := some 17, op := Op.move (Operand.tmp 0), type := 99, pos := "help.go:28", after := #[], guard := none } : Oper)) (v := ?v0) rfl (by kernel_rfl) (by kernel_rfl) (by kernel_rfl) (fun _ _ _ h => h) (Or.inl ⟨by rfl, fun w hSw => ?hy0⟩) (by assumption) ?r0
      case hy0 => (try dsimp only at hSw); go_simp; (try with_reducible rfl)
      (try simp only [Act.put, List.setIfInBounds_toArray, List.set_cons_zero, List.set_cons_succ])
      refine wpAnyH_take (i := 1) (oi := ({ dst := some 18, op := Op.move (Operand.tmp 5), type := 3, pos := "help.go:28", after := #[], guard := none } : Oper)) (v := ?v1) rfl (by kernel_rfl) (by kernel_rfl) (by kernel_rfl) (fun _ _ _ h => h) (Or.inl ⟨by rfl, fun w hSw => ?hy1⟩) (by assumption) ?r1
      case hy1 => (try dsimp only at hSw); go_simp; (try with_reducible rfl)
      (try simp only [Act.put, List.setIfInBounds_toArray, List.set_cons_zero, List.set_cons_succ])
      refine wpAnyH_take (i := 2) (oi := ({ dst := some 19, op := Op.indexAddr 99 (Operand.tmp 17) (Operand.tmp 18), type := 0, pos := "help.go:28", after := #[{ on := 0, ground := Ground.data }, { on := 1, ground := Ground.data }], guard := none } : Oper)) (v := ?v2) rfl (by kernel_rfl) (by kernel_rfl) (by kernel_rfl) (fun _ _ _ h => h) (Or.inl ⟨by rfl, fun w hSw => ?hy2⟩) (by assumption) ?r2
      case hy2 => (try dsimp only at hSw); go_simp; (try with_reducible rfl)
      (try simp only [Act.put, List.setIfInBounds_toArray, List.set_cons_zero, List.set_cons_succ])
      refine wpAnyH_take (i := 3) (oi := ({ dst := some 20, op := Op.load 211 (Operand.tmp 19), type := 211, pos := "help.go:28", after := #[{ on := 2, ground := Ground.data }], guard := none } : Oper)) (v := ?v3) rfl (by kernel_rfl) (by kernel_rfl) (by kernel_rfl) (fun _ _ _ h => h) (Or.inl ⟨by rfl, fun w hSw => ?hy3⟩) (by assumption) ?r3
      case hy3 => (try dsimp only at hSw); go_simp; (try with_reducible rfl)
      (try simp only [Act.put, List.setIfInBounds_toArray, List.set_cons_zero, List.set_cons_succ])
      refine wpAnyH_take (i := 5) (oi := ({ dst := some 22, op := Op.move (Operand.tmp 1), type := 108, pos := "help.go:28", after := #[], guard := none } : Oper)) (v := ?v5) rfl (by kernel_rfl) (by kernel_rfl) (by kernel_rfl) (fun _ _ _ h => h) (Or.inl ⟨by rfl, fun w hSw => ?hy5⟩) (by assumption) ?r5
      case hy5 => (try dsimp only at hSw); go_simp; (try with_reducible rfl)
      (try simp only [Act.put, List.setIfInBounds_toArray, List.set_cons_zero, List.set_cons_succ])
      refine wpAnyH_take (i := 6) (oi := ({ dst := some 23, op := Op.move (Operand.tmp 5), type := 3, pos := "help.go:28", after := #[], guard := none } : Oper)) (v := ?v6) rfl (by kernel_rfl) (by kernel_rfl) (by kernel_rfl) (fun _ _ _ h => h) (Or.inl ⟨by rfl, fun w hSw => ?hy6⟩) (by assumption) ?r6
      case hy6 => (try dsimp only at hSw); go_simp; (try with_reducible rfl)
      (try simp only [Act.put, List.setIfInBounds_toArray, List.set_cons_zero, List.set_cons_succ])
      refine wpAnyH_take (i := 7) (oi := ({ dst := some 24, op := Op.indexAddr 108 (Operand.tmp 22) (Operand.tmp 23), type := 0, pos := "help.go:28", after := #[{ on := 5, ground := Ground.data }, { on := 6, ground := Ground.data }], guard := none } : Oper)) (v := ?v7) rfl (by kernel_rfl) (by kernel_rfl) (by kernel_rfl) (fun _ _ _ h => h) (Or.inl ⟨by rfl, fun w hSw => ?hy7⟩) (by assumption) ?r7
      case hy7 => (try dsimp only at hSw); go_simp; (try with_reducible rfl)
      (try simp only [Act.put, List.setIfInBounds_toArray, List.set_cons_zero, List.set_cons_succ])
      refine wpAnyH_take (i := 8) (oi := ({ dst := some 25, op := Op.load 209 (Operand.tmp 24), type := 209, pos := "help.go:28", after := #[{ on := 7, ground := Ground.data }], guard := none } : Oper)) (v := ?v8) rfl (by kernel_rfl) (by kernel_rfl) (by kernel_rfl) (fun _ _ _ h => h) (Or.inl ⟨by rfl, fun w hSw => ?hy8⟩) (by assumption) ?r8
      case hy8 => (try dsimp only at hSw); go_simp; (try with_reducible rfl)
      (try simp only [Act.put, List.setIfInBounds_toArray, List.set_cons_zero, List.set_cons_succ])
      refine wpAnyH_ready (rs := [4]) (by kernel_rfl) (by simp) ?_
      refine AllReadyH.cons (o := ({ dst := some 21, op := Op.call { callee := Callee.value (Operand.func 86), args := #[Operand.tmp 20], argTypes := #[211] }, type := 209, pos := "help.go:28", after := #[{ on := 3, ground := Ground.data }], guard := none } : Oper)) rfl (fun Kq hKq => ?_) AllReadyH.nil
      go_simp
      (refine (other_any d _).mono ?_; rintro e w1 ⟨rfl, hb1⟩)
      refine hKq.out _ _ ?_ (fun hHeld => ?_)
      · exact ⟨keep3 hb1 (by have := hHeld.2.2.size; omega) hHeld.1, keep3 hb1 (by have := hHeld.2.2.size; omega) hHeld.2.1, hHeld.2.2.trans (hb1.mono hHeld.2.2.size)⟩
      clear hKq Kq
      (try simp only [Act.put, List.setIfInBounds_toArray, List.set_cons_zero, List.set_cons_succ])
      refine wpAnyH_take (i := 9) (oi := ({ dst := some 26, op := Op.binOp BinOp.neq 209 (Operand.tmp 21) (Operand.tmp 25) 209, type := 4, pos := "help.go:28", after := #[{ on := 4, ground := Ground.data }, { on := 8, ground := Ground.data }], guard := none } : Oper)) (v := ?v9) rfl (by kernel_rfl) (by kernel_rfl) (by kernel_rfl) (fun _ _ _ h => h) (Or.inl ⟨by rfl, fun w hSw => ?hy9⟩) (by assumption) ?r9
      case hy9 => (try dsimp only at hSw); go_simp; (try with_reducible rfl)
      (try simp only [Act.put, List.setIfInBounds_toArray, List.set_cons_zero, List.set_cons_succ])
      refine wpAnyH_done (by kernel_rfl) ?_ _
      have HH := Lib.hid hHeld.2.2
      clear hHeld
      go_wp2_with fail
      go_roundg (n - (k + 1))
      case measure => omega
      case rel => exact ⟨k + 1, by omega, rfl, by go_num, HB.out.trans (HH.out.mono HB.out.size)⟩
    · obtain rfl : k = n := by omega
      go_wp2_with fail
      go_ret
      exact ⟨rfl, HB.out⟩
end Go.Proofs.YtffoobepdofkkaaGreat.S10
namespace Go.Proofs.YtffoobepdofkkaaGreat.S10
open Go.Proofs.YtffoobepdofkkaaGreat
open Go.RowKit

/-- Both sets, from bases of their own, and blocks Z beside them. -/
structure Se (W : World) (base baseR : Nat) (own ownR : Nat → Option Role) (s r : Value) (n : Nat) (M R : Int → List Bk) (Z : Nat → Prop) : Prop where
  st : St W base own s n M
  rt : Rt W baseR ownR r R
  dj : ∀ g, Mine own g → ¬ Mine ownR g
  cl : ∀ g, Z g → g < W.heap.size ∧ ¬ Mine own g ∧ ¬ Mine ownR g
section
variable {W w' : World} {base baseR : Nat} {own ownR own' : Nat → Option Role} {s r : Value} {n n' : Nat} {M M' R R' : Int → List Bk} {Z : Nat → Prop}
theorem Se.turn (h : Se W base baseR own ownR s r n M R Z) {S : Nat → Prop} (t : Turns S W w') (h1 : ∀ g, Mine own g → ¬ S g) (h2 : ∀ g, Mine ownR g → ¬ S g) : Se w' base baseR own ownR s r n M R Z :=
  ⟨h.st.keep t h1, h.rt.keep t h2, h.dj, fun g hz => ⟨Nat.lt_of_lt_of_le (h.cl g hz).1 t.size, (h.cl g hz).2⟩⟩
theorem Se.new (h : Se W base baseR own ownR s r n M R Z) (hb : Below W.heap.size W w') : Se w' base baseR own ownR s r n M R Z :=
  h.turn (Turns.of_below (S := fun _ => False) hb) (fun _ _ e => e) (fun _ _ e => e)
theorem Se.drew (h : Se W base baseR own ownR s r n M R Z) : Se W.drew base baseR own ownR s r n M R Z := h.turn (Turns.refl (fun _ => False) W).drew (fun _ _ e => e) (fun _ _ e => e)
/-- Blocks that are new stand beside, too. -/
theorem Se.add (h : Se W base baseR own ownR s r n M R Z) (hb : Below W.heap.size W w') {Y : Nat → Prop} (hy : ∀ g, Y g → W.heap.size ≤ g ∧ g < w'.heap.size) : Se w' base baseR own ownR s r n M R (fun g => Z g ∨ Y g) := by
  have h1 := h.new hb
  refine ⟨h1.st, h1.rt, h.dj, fun g hg => ?_⟩
  rcases hg with hz | hy'
  · exact h1.cl g hz
  · have := hy g hy'
    refine ⟨this.2, fun hm => ?_, fun hm => ?_⟩
    · have := (h.st.fp hm).2; omega
    · have := (h.rt.fp hm).2; omega
theorem Se.sub (h : Se W base baseR own ownR s r n M R Z) {Y : Nat → Prop} (hy : ∀ g, Y g → Z g) : Se W base baseR own ownR s r n M R Y := ⟨h.st, h.rt, h.dj, fun g hg => h.cl g (hy g hg)⟩
end
set_option maxHeartbeats 4000000 in
set_option maxRecDepth 100000 in
theorem same_sets {w : World} {base baseR : Nat} {own ownR : Nat → Option Role} {s r : Value} {n N : Nat} {M : Int → List Bk} {Z : Nat → Prop} (B : Se w base baseR own ownR s r n M M Z) (hg : Good M N) (hN : N ≤ 100000) :
    Calls Tryz.prog 58 #[s, r] w fun e w' => e = .returned (.bool true) ∧ Below w.heap.size w w' := by
  have HSC := Lib.hid (B.sub (Y := fun _ => False) (fun g h => h.elim)); have HG := Lib.hid hg
  clear B hg
  go_enter Tryz.func58, Tryz.ntmps58
  go_wp2_with fail
  go_loopg [5] 9 (fun q s5 wx => ∃ k : Nat, k ≤ 9 ∧ q = 9 - k ∧ s5 = .int .i64 ((k + 1 : Nat) : Int) ∧ Below w.heap.size w wx)
  case atStart => exact ⟨0, by omega, rfl, rfl, Below.refl _ _⟩
  case round =>
    obtain ⟨k, hk, rfl, rfl, hb⟩ := hrel
    have HB := Lib.hid hb
    clear hb
    obtain ⟨wo, rfl⟩ : ∃ wo : World, wo = wr := ⟨_, rfl⟩
    by_cases hk9 : k < 9
    · obtain ⟨b, hbk⟩ : ∃ b : Int, b = ((k + 1 : Nat) : Int) := ⟨_, rfl⟩
      have HBK := Lib.hid hbk
      have hb9 : b ≤ 9 := by omega
      have hb1 : 1 ≤ b := by omega
      have hbI : InI b := by unfold InI; omega
      rw [← hbk]
      have hsc1 := HSC.out.new HB.out
      have hhs : ∀ W, Below w.heap.size w W → Calls Tryz.prog 79 #[s, .int .i64 b] W fun e w' => e = .returned (.bool (decide (0 < (M b).length))) ∧ W = w' := fun W hW => by
        obtain ⟨F, hr⟩ := (HSC.out.new hW).st.rs
        obtain ⟨A, c, V, e, _⟩ := hr.rd b
        exact has_any hr.sv hbI e
      have hrhs : ∀ W, Below w.heap.size w W → Calls Tryz.prog 76 #[r, .int .i64 b] W fun e w' => e = .returned (.bool (decide (0 < (M b).length))) ∧ W = w' := fun W hW => rhas_any (HSC.out.new hW).rt b
      have htc : 0 < (M b).length → ∃ rb k A c, r = .pointer (some ⟨rb, 0, none⟩) ∧ b = (k : Nat) ∧ k < 9 ∧ ∀ W, Below w.heap.size w W → W.cell? ⟨rb, 9 + k, none⟩ = some (.slice A (M b).length c) := fun hp => by
        obtain ⟨rb, Q, T, V, hf⟩ := HSC.out.rt
        obtain ⟨k, hbk, hk2, hk9⟩ := hf.nat (b := b) (fun e => by rw [e] at hp; simp at hp)
        subst hbk
        obtain ⟨A, c, e, _⟩ := (hf.ht k hk9).shape
        refine ⟨rb, k, A, c, hf.hs, rfl, hk9, fun W hW => ?_⟩
        rw [← e]
        exact (hW.cell (p := ⟨rb, 9 + k, none⟩) (hf.fp rb _ hf.os).2).trans (hf.hT k hk9).1
      have hml := HG.out.len b
      obtain ⟨m, hm⟩ : ∃ m, m = (M b).length := ⟨_, rfl⟩
      rw [← hm] at hhs hrhs htc hml
      have HHS := Lib.hid hhs; have HRHS := Lib.hid hrhs; have HTC := Lib.hid htc; have HM := Lib.hid hm
      clear hhs hrhs htc hm hsc1 hbk
      by_cases hm0 : m = 0
      · subst hm0
        have hd : decide (0 < 0) = false := by decide
        rw [hd] at HHS HRHS
        clear hd
        have e12 : IntKind.i64.wrap (b + 1) = b + 1 := by rw [IntKind.wrap_i64]; omega
        go_wp2_with (first
          | (go_at_call 79; refine (HHS.out _ HB.out).mono ?_; rintro e w' ⟨rfl, rfl⟩)
          | (go_at_call 76; refine (HRHS.out _ HB.out).mono ?_; rintro e w' ⟨rfl, rfl⟩))
        refine wp_loop_rounds 1 ?_
        rw [rounds_succ]
        go_wp2_with (go_at_call 76; refine (HRHS.out _ HB.out).mono ?_; rintro e w' ⟨rfl, rfl⟩)
        go_roundg (9 - (k + 1))
        case measure => omega
        case rel => exact ⟨k + 1, by omega, rfl, by rw [HBK.out]; go_num, HB.out⟩
      · obtain ⟨rb, kb, Ar, cr, rfl, hbkb, hkb9, hcell⟩ := HTC.out (by omega)
        have hd : decide (0 < m) = true := by simpa using Nat.pos_of_ne_zero hm0
        rw [hd] at HHS HRHS
        subst hbkb
        have HCELL := Lib.hid hcell
        clear hd hcell HTC
        have e12 : IntKind.i64.wrap ((kb : Int) + 1) = (kb : Int) + 1 := by rw [IntKind.wrap_i64]; omega
        go_wp2_with (first
          | (go_at_call 79; refine (HHS.out _ HB.out).mono ?_; rintro e w' ⟨rfl, rfl⟩)
          | (go_at_call 76; refine (HRHS.out _ HB.out).mono ?_; rintro e w' ⟨rfl, rfl⟩))
        go_loopg [6] m (fun q s6 wx => ∃ i : Nat, i ≤ m ∧ q = m - i ∧ s6 = .int .i64 (i : Int) ∧ Below w.heap.size w wx)
        case atStart => exact ⟨0, by omega, rfl, rfl, HB.out⟩
        case round =>
          obtain ⟨i, hi, rfl, rfl, hb2⟩ := hrel
          have HB2 := Lib.hid hb2
          have hcw := HCELL.out wr hb2
          clear hb2
          by_cases him : i < m
          · obtain ⟨xa, xf, htm, hrtm⟩ := timer_all M hbI (i : Int)
            obtain ⟨D, hD, hq, hrq⟩ := queue_all HG.out hN hbI (i : Int)
            obtain ⟨nd, hnd⟩ : ∃ nd, nd = D.length := ⟨_, rfl⟩
            rw [← hnd] at hq hrq
            have HTM := Lib.hid htm; have HRTM := Lib.hid hrtm; have HQ := Lib.hid hq; have HRQ := Lib.hid hrq; have HND := Lib.hid hnd; have HD9 := Lib.hid hD
            have hne := fun W => neqT xa xf xa xf W
            simp only [and_self, decide_true, Bool.not_true] at hne
            clear htm hrtm hq hrq hnd hD
            go_upto_region 10 with (go_at_call 76; refine (HRHS.out _ HB2.out).mono ?_; rintro e w' ⟨rfl, rfl⟩)
            have hnew := heap_alloc_new wr (.cells #[.int .i64 (kb : Int), .int .i64 (i : Int)] 98)
            have hbn := below1 wr (.cells #[.int .i64 (kb : Int), .int .i64 (i : Int)] 98)
            have hsz : (wr.alloc (.cells #[.int .i64 (kb : Int), .int .i64 (i : Int)] 98)).heap.size = wr.heap.size + 1 := by simp
            generalize hw3 : wr.alloc (.cells #[.int .i64 (kb : Int), .int .i64 (i : Int)] 98) = w3 at *
            clear hw3
            obtain ⟨X7, hX7⟩ : ∃ X, X = wr.heap.size := ⟨_, rfl⟩
            have hsc3 : Se w3.drew base baseR own ownR s (.pointer (some ⟨rb, 0, none⟩)) n M M (fun g => g = X7) := (((HSC.out.new HB2.out).add hbn (Y := fun g => g = X7) (fun g hg => by omega)).drew).sub (fun g hg => .inr hg)
            rw [← hX7] at hnew ⊢
            have x0 : w3.drew.cell? ⟨X7, 0, none⟩ = some (.int .i64 (kb : Int)) := cell_row hnew 0
            have x1 : w3.drew.cell? ⟨X7, 1, none⟩ = some (.int .i64 (i : Int)) := cell_row hnew 1
            have HSC3 := Lib.hid hsc3
            have HB3 : Hid (Below w.heap.size w w3.drew) := Lib.hid ((HB2.out.trans (hbn.mono HB2.out.size)).drew)
            clear hnew hbn hsz hX7 hsc3 hcw
            refine wp_region_held_drew (S := fun w' => w'.cell? ⟨X7, 0, none⟩ = some (.int .i64 (kb : Int)) ∧ w'.cell? ⟨X7, 1, none⟩ = some (.int .i64 (i : Int))) (by kernel_rfl) ?_ (fun hHeld => ?_)
            · exact ⟨x0, x1⟩
            refine wpAnyH_take (i := 0) (oi := ({ dst := some 38, op := Op.move (Operand.tmp 0), type := 70, pos := "help.go:23", after := #[], guard := none } : Oper)) (v := ?va0) rfl (by kernel_rfl) (by kernel_rfl) (by kernel_rfl) (fun _ _ _ h => h) (Or.inl ⟨by rfl, fun w hSw => ?hya0⟩) (by assumption) ?ra0
            case hya0 => (try dsimp only at hSw); go_simp; (try with_reducible rfl)
            (try simp only [Act.put, List.setIfInBounds_toArray, List.set_cons_zero, List.set_cons_succ])
            refine wpAnyH_take (i := 1) (oi := ({ dst := some 39, op := Op.load 98 (Operand.tmp 7), type := 98, pos := "help.go:23", after := #[], guard := none } : Oper)) (v := ?va1) rfl (by kernel_rfl) (by kernel_rfl) (by kernel_rfl) (fun _ _ _ h => h) (Or.inl ⟨by rfl, fun w hSw => ?hya1⟩) (by assumption) ?ra1
            case hya1 => (try dsimp only at hSw); go_simp; (try with_reducible rfl)
            (try simp only [Act.put, List.setIfInBounds_toArray, List.set_cons_zero, List.set_cons_succ])
            refine wpAnyH_take (i := 4) (oi := ({ dst := some 42, op := Op.move (Operand.tmp 1), type := 92, pos := "help.go:23", after := #[], guard := none } : Oper)) (v := ?va4) rfl (by kernel_rfl) (by kernel_rfl) (by kernel_rfl) (fun _ _ _ h => h) (Or.inl ⟨by rfl, fun w hSw => ?hya4⟩) (by assumption) ?ra4
            case hya4 => (try dsimp only at hSw); go_simp; (try with_reducible rfl)
            (try simp only [Act.put, List.setIfInBounds_toArray, List.set_cons_zero, List.set_cons_succ])
            refine wpAnyH_take (i := 5) (oi := ({ dst := some 43, op := Op.load 98 (Operand.tmp 7), type := 98, pos := "help.go:23", after := #[], guard := none } : Oper)) (v := ?va5) rfl (by kernel_rfl) (by kernel_rfl) (by kernel_rfl) (fun _ _ _ h => h) (Or.inl ⟨by rfl, fun w hSw => ?hya5⟩) (by assumption) ?ra5
            case hya5 => (try dsimp only at hSw); go_simp; (try with_reducible rfl)
            (try simp only [Act.put, List.setIfInBounds_toArray, List.set_cons_zero, List.set_cons_succ])
            refine wpAnyH_ready (rs := [2]) (by kernel_rfl) (by simp) ?_
            refine AllReadyH.cons (o := ({ dst := some 40, op := Op.call { callee := Callee.value (Operand.func 110), args := #[Operand.tmp 38, Operand.tmp 39], argTypes := #[70, 98] }, type := 101, pos := "help.go:23", after := #[{ on := 0, ground := Ground.data }, { on := 1, ground := Ground.data }], guard := none } : Oper)) rfl (fun Kq hKq => ?_) AllReadyH.nil
            go_simp
            (have l7 := (HSC3.out.cl X7 rfl).1; refine (HTM.out _ base own s n HSC3.out.st).mono ?_; rintro e w4 ⟨rfl, hb4⟩; have HSC4 := Lib.hid (HSC3.out.new hb4); have HB4 := Lib.hid hb4)
            refine hKq.out _ _ ?_ (fun hHeld => ?_)
            · exact ⟨(hb4.cell (p := ⟨X7, 0, none⟩) l7).trans hHeld.1, (hb4.cell (p := ⟨X7, 1, none⟩) l7).trans hHeld.2⟩
            clear hKq Kq
            (try simp only [Act.put, List.setIfInBounds_toArray, List.set_cons_zero, List.set_cons_succ])
            refine wpAnyH_ready (rs := [3]) (by kernel_rfl) (by simp) ?_
            refine AllReadyH.cons (o := ({ dst := some 41, op := Op.call { callee := Callee.value (Operand.func 109), args := #[Operand.tmp 40], argTypes := #[101] }, type := 112, pos := "help.go:23", after := #[{ on := 2, ground := Ground.data }, { on := 2, ground := Ground.chain }], guard := none } : Oper)) rfl (fun Kq hKq => ?_) AllReadyH.nil
            go_simp
            (have l7 := (HSC4.out.cl X7 rfl).1; refine (otherT_any xa xf _).mono ?_; rintro e w5 ⟨rfl, hb5⟩; have HSC5 := Lib.hid (HSC4.out.new hb5); have HB5 := Lib.hid hb5)
            refine hKq.out _ _ ?_ (fun hHeld => ?_)
            · exact ⟨(hb5.cell (p := ⟨X7, 0, none⟩) l7).trans hHeld.1, (hb5.cell (p := ⟨X7, 1, none⟩) l7).trans hHeld.2⟩
            clear hKq Kq
            (try simp only [Act.put, List.setIfInBounds_toArray, List.set_cons_zero, List.set_cons_succ])
            refine wpAnyH_ready (rs := [6]) (by kernel_rfl) (by simp) ?_
            refine AllReadyH.cons (o := ({ dst := some 44, op := Op.call { callee := Callee.value (Operand.func 28), args := #[Operand.tmp 43], argTypes := #[98] }, type := 104, pos := "help.go:23", after := #[{ on := 5, ground := Ground.data }, { on := 3, ground := Ground.chain }], guard := none } : Oper)) rfl (fun Kq hKq => ?_) AllReadyH.nil
            go_simp
            (have l7 := (HSC5.out.cl X7 rfl).1; refine (otherP_any (kb : Int) (i : Int) _).mono ?_; rintro e w6 ⟨rfl, hb6⟩; have HSC6 := Lib.hid (HSC5.out.new hb6); have HB6 := Lib.hid hb6)
            refine hKq.out _ _ ?_ (fun hHeld => ?_)
            · exact ⟨(hb6.cell (p := ⟨X7, 0, none⟩) l7).trans hHeld.1, (hb6.cell (p := ⟨X7, 1, none⟩) l7).trans hHeld.2⟩
            clear hKq Kq
            (try simp only [Act.put, List.setIfInBounds_toArray, List.set_cons_zero, List.set_cons_succ])
            refine wpAnyH_ready (rs := [7]) (by kernel_rfl) (by simp) ?_
            refine AllReadyH.cons (o := ({ dst := some 45, op := Op.call { callee := Callee.value (Operand.func 111), args := #[Operand.tmp 42, Operand.tmp 44], argTypes := #[92, 104] }, type := 112, pos := "help.go:23", after := #[{ on := 4, ground := Ground.data }, { on := 6, ground := Ground.data }, { on := 6, ground := Ground.chain }], guard := none } : Oper)) rfl (fun Kq hKq => ?_) AllReadyH.nil
            go_simp
            (have l7 := (HSC6.out.cl X7 rfl).1; refine (HRTM.out _ baseR ownR _ HSC6.out.rt).mono ?_; rintro e w7 ⟨rfl, hb7⟩; have HSC7 := Lib.hid (HSC6.out.new hb7); have HB7 := Lib.hid hb7)
            refine hKq.out _ _ ?_ (fun hHeld => ?_)
            · exact ⟨(hb7.cell (p := ⟨X7, 0, none⟩) l7).trans hHeld.1, (hb7.cell (p := ⟨X7, 1, none⟩) l7).trans hHeld.2⟩
            clear hKq Kq
            (try simp only [Act.put, List.setIfInBounds_toArray, List.set_cons_zero, List.set_cons_succ])
            refine wpAnyH_take (i := 8) (oi := ({ dst := some 46, op := Op.binOp BinOp.neq 112 (Operand.tmp 41) (Operand.tmp 45) 112, type := 4, pos := "help.go:23", after := #[{ on := 3, ground := Ground.data }, { on := 7, ground := Ground.data }], guard := none } : Oper)) (v := ?va8) rfl (by kernel_rfl) (by kernel_rfl) (by kernel_rfl) (fun _ _ _ h => h) (Or.inl ⟨by rfl, fun w hSw => ?hya8⟩) (by assumption) ?ra8
            case hya8 => (try dsimp only at hSw); go_simp; (try with_reducible rfl)
            (try simp only [Act.put, List.setIfInBounds_toArray, List.set_cons_zero, List.set_cons_succ])
            refine wpAnyH_take (i := 9) (oi := ({ dst := some 47, op := Op.move (Operand.tmp 46), type := 4, pos := "help.go:23", after := #[{ on := 8, ground := Ground.data }, { on := 7, ground := Ground.chain }], guard := none } : Oper)) (v := ?va9) rfl (by kernel_rfl) (by kernel_rfl) (by kernel_rfl) (fun _ _ _ h => h) (Or.inl ⟨by rfl, fun w hSw => ?hya9⟩) (by assumption) ?ra9
            case hya9 => (try dsimp only at hSw); go_simp; (try with_reducible rfl)
            (try simp only [Act.put, List.setIfInBounds_toArray, List.set_cons_zero, List.set_cons_succ])
            refine wpAnyH_take (i := 10) (oi := ({ dst := some 48, op := Op.move (Operand.tmp 0), type := 70, pos := "help.go:23", after := #[{ on := 9, ground := Ground.guard }], guard := some (9, false) } : Oper)) (v := ?va10) rfl (by kernel_rfl) (by kernel_rfl) (by kernel_rfl) (fun _ _ _ h => h) (Or.inl ⟨by rfl, fun w hSw => ?hya10⟩) (by assumption) ?ra10
            case hya10 => (try dsimp only at hSw); go_simp; (try with_reducible rfl)
            (try simp only [Act.put, List.setIfInBounds_toArray, List.set_cons_zero, List.set_cons_succ])
            refine wpAnyH_take (i := 11) (oi := ({ dst := some 49, op := Op.load 98 (Operand.tmp 7), type := 98, pos := "help.go:23", after := #[{ on := 9, ground := Ground.guard }], guard := some (9, false) } : Oper)) (v := ?va11) rfl (by kernel_rfl) (by kernel_rfl) (by kernel_rfl) (fun _ _ _ h => h) (Or.inl ⟨by rfl, fun w hSw => ?hya11⟩) (by assumption) ?ra11
            case hya11 => (try dsimp only at hSw); go_simp; (try with_reducible rfl)
            (try simp only [Act.put, List.setIfInBounds_toArray, List.set_cons_zero, List.set_cons_succ])
            refine wpAnyH_take (i := 13) (oi := ({ dst := some 51, op := Op.move (Operand.tmp 1), type := 92, pos := "help.go:23", after := #[{ on := 9, ground := Ground.guard }], guard := some (9, false) } : Oper)) (v := ?va13) rfl (by kernel_rfl) (by kernel_rfl) (by kernel_rfl) (fun _ _ _ h => h) (Or.inl ⟨by rfl, fun w hSw => ?hya13⟩) (by assumption) ?ra13
            case hya13 => (try dsimp only at hSw); go_simp; (try with_reducible rfl)
            (try simp only [Act.put, List.setIfInBounds_toArray, List.set_cons_zero, List.set_cons_succ])
            refine wpAnyH_take (i := 14) (oi := ({ dst := some 52, op := Op.load 98 (Operand.tmp 7), type := 98, pos := "help.go:23", after := #[{ on := 9, ground := Ground.guard }], guard := some (9, false) } : Oper)) (v := ?va14) rfl (by kernel_rfl) (by kernel_rfl) (by kernel_rfl) (fun _ _ _ h => h) (Or.inl ⟨by rfl, fun w hSw => ?hya14⟩) (by assumption) ?ra14
            case hya14 => (try dsimp only at hSw); go_simp; (try with_reducible rfl)
            (try simp only [Act.put, List.setIfInBounds_toArray, List.set_cons_zero, List.set_cons_succ])
            refine wpAnyH_ready (rs := [12]) (by kernel_rfl) (by simp) ?_
            refine AllReadyH.cons (o := ({ dst := some 50, op := Op.call { callee := Callee.value (Operand.func 113), args := #[Operand.tmp 48, Operand.tmp 49], argTypes := #[70, 98] }, type := 99, pos := "help.go:23", after := #[{ on := 10, ground := Ground.data }, { on := 11, ground := Ground.data }, { on := 9, ground := Ground.chain }, { on := 9, ground := Ground.guard }], guard := some (9, false) } : Oper)) rfl (fun Kq hKq => ?_) AllReadyH.nil
            go_simp
            (have l7 := (HSC7.out.cl X7 rfl).1; refine (HQ.out _ base own s n HSC7.out.st).mono ?_; rintro e w8 ⟨A8, rfl, hr8, hb8⟩; have HR8 := Lib.hid hr8; clear hr8; have HSC8 := Lib.hid (HSC7.out.new hb8); have HB8 := Lib.hid hb8)
            refine hKq.out _ _ ?_ (fun hHeld => ?_)
            · exact ⟨(hb8.cell (p := ⟨X7, 0, none⟩) l7).trans hHeld.1, (hb8.cell (p := ⟨X7, 1, none⟩) l7).trans hHeld.2⟩
            clear hKq Kq
            (try simp only [Act.put, List.setIfInBounds_toArray, List.set_cons_zero, List.set_cons_succ])
            refine wpAnyH_ready (rs := [15]) (by kernel_rfl) (by simp) ?_
            refine AllReadyH.cons (o := ({ dst := some 53, op := Op.call { callee := Callee.value (Operand.func 28), args := #[Operand.tmp 52], argTypes := #[98] }, type := 104, pos := "help.go:23", after := #[{ on := 14, ground := Ground.data }, { on := 12, ground := Ground.chain }, { on := 9, ground := Ground.guard }], guard := some (9, false) } : Oper)) rfl (fun Kq hKq => ?_) AllReadyH.nil
            go_simp
            (have l7 := (HSC8.out.cl X7 rfl).1; refine (otherP_any (kb : Int) (i : Int) _).mono ?_; rintro e w9 ⟨rfl, hb9⟩; have HSC9 := Lib.hid (HSC8.out.new hb9); have HB9 := Lib.hid hb9)
            refine hKq.out _ _ ?_ (fun hHeld => ?_)
            · exact ⟨(hb9.cell (p := ⟨X7, 0, none⟩) l7).trans hHeld.1, (hb9.cell (p := ⟨X7, 1, none⟩) l7).trans hHeld.2⟩
            clear hKq Kq
            (try simp only [Act.put, List.setIfInBounds_toArray, List.set_cons_zero, List.set_cons_succ])
            refine wpAnyH_ready (rs := [16]) (by kernel_rfl) (by simp) ?_
            refine AllReadyH.cons (o := ({ dst := some 54, op := Op.call { callee := Callee.value (Operand.func 114), args := #[Operand.tmp 51, Operand.tmp 53], argTypes := #[92, 104] }, type := 108, pos := "help.go:23", after := #[{ on := 13, ground := Ground.data }, { on := 15, ground := Ground.data }, { on := 15, ground := Ground.chain }, { on := 9, ground := Ground.guard }], guard := some (9, false) } : Oper)) rfl (fun Kq hKq => ?_) AllReadyH.nil
            go_simp
            (have l7 := (HSC9.out.cl X7 rfl).1; refine (HRQ.out _ baseR ownR _ HSC9.out.rt).mono ?_; rintro e w10 ⟨A10, c10, rfl, hc10, hc109, hr10, hb10⟩; have HR10 := Lib.hid hr10; clear hr10; have HSC10 := Lib.hid (HSC9.out.new hb10); have HB10 := Lib.hid hb10)
            refine hKq.out _ _ ?_ (fun hHeld => ?_)
            · exact ⟨(hb10.cell (p := ⟨X7, 0, none⟩) l7).trans hHeld.1, (hb10.cell (p := ⟨X7, 1, none⟩) l7).trans hHeld.2⟩
            clear hKq Kq
            (try simp only [Act.put, List.setIfInBounds_toArray, List.set_cons_zero, List.set_cons_succ])
            refine wpAnyH_ready (rs := [17]) (by kernel_rfl) (by simp) ?_
            refine AllReadyH.cons (o := ({ dst := some 55, op := Op.call { callee := Callee.value (Operand.func 112), args := #[Operand.tmp 50, Operand.tmp 54], argTypes := #[99, 108] }, type := 4, pos := "help.go:23", after := #[{ on := 12, ground := Ground.data }, { on := 16, ground := Ground.data }, { on := 16, ground := Ground.chain }, { on := 9, ground := Ground.guard }], guard := some (9, false) } : Oper)) rfl (fun Kq hKq => ?_) AllReadyH.nil
            go_simp
            (have l7 := (HSC10.out.cl X7 rfl).1; have hq4 := (HR8.out.new HB9.out).new HB10.out; rw [HND.out] at hq4; have hsm := same_any D.length c10 hq4.rd ((HR10.out).more HB10.out.size) (Nat.le_refl _) (Nat.le_refl _) (by have := HD9.out; omega); rw [← HND.out] at hsm; refine hsm.mono ?_; rintro e w11 ⟨rfl, hb11⟩; have HSC11 := Lib.hid (HSC10.out.new hb11); have HB11 := Lib.hid hb11; clear hq4 hsm)
            refine hKq.out _ _ ?_ (fun hHeld => ?_)
            · exact ⟨(hb11.cell (p := ⟨X7, 0, none⟩) l7).trans hHeld.1, (hb11.cell (p := ⟨X7, 1, none⟩) l7).trans hHeld.2⟩
            clear hKq Kq
            (try simp only [Act.put, List.setIfInBounds_toArray, List.set_cons_zero, List.set_cons_succ])
            refine wpAnyH_take (i := 18) (oi := ({ dst := some 56, op := Op.unOp UnOp.not 4 (Operand.tmp 55), type := 4, pos := "help.go:23", after := #[{ on := 17, ground := Ground.data }, { on := 9, ground := Ground.guard }], guard := some (9, false) } : Oper)) (v := ?va18) rfl (by kernel_rfl) (by kernel_rfl) (by kernel_rfl) (fun _ _ _ h => h) (Or.inl ⟨by rfl, fun w hSw => ?hya18⟩) (by assumption) ?ra18
            case hya18 => (try dsimp only at hSw); go_simp; (try with_reducible rfl)
            (try simp only [Act.put, List.setIfInBounds_toArray, List.set_cons_zero, List.set_cons_succ])
            refine wpAnyH_take (i := 19) (oi := ({ dst := some 57, op := Op.pick (Operand.tmp 47) (Operand.const (Value.bool true)) (Operand.tmp 56), type := 4, pos := "help.go:23", after := #[{ on := 9, ground := Ground.data }, { on := 18, ground := Ground.data }], guard := none } : Oper)) (v := ?va19) rfl (by kernel_rfl) (by kernel_rfl) (by kernel_rfl) (fun _ _ _ h => h) (Or.inl ⟨by rfl, fun w hSw => ?hya19⟩) (by assumption) ?ra19
            case hya19 => (try dsimp only at hSw); go_simp; (try with_reducible rfl)
            (try simp only [Act.put, List.setIfInBounds_toArray, List.set_cons_zero, List.set_cons_succ])
            refine wpAnyH_done (by kernel_rfl) ?_ _
            have b4 := HB3.out.trans (HB4.out.mono HB3.out.size)
            have b5 := b4.trans (HB5.out.mono b4.size)
            have b6 := b5.trans (HB6.out.mono b5.size)
            have b7 := b6.trans (HB7.out.mono b6.size)
            have b8 := b7.trans (HB8.out.mono b7.size)
            have b9 := b8.trans (HB9.out.mono b8.size)
            have b10 := b9.trans (HB10.out.mono b9.size)
            have HB12 := Lib.hid (b10.trans (HB11.out.mono b10.size))
            clear b4 b5 b6 b7 b8 b9 b10 hne
            go_wp2_with fail
            go_roundg (m - (i + 1))
            case measure => omega
            case rel => exact ⟨i + 1, by omega, rfl, by go_num, HB12.out⟩
          · obtain rfl : i = m := by omega
            go_wp2_with (go_at_call 76; refine (HRHS.out _ HB2.out).mono ?_; rintro e w' ⟨rfl, rfl⟩)
            go_roundg (9 - (k + 1))
            case measure => omega
            case rel => exact ⟨k + 1, by omega, rfl, by have := HBK.out; rw [this]; go_num, HB2.out⟩
    · obtain rfl : k = 9 := by omega
      go_wp2_with fail
      go_ret
      exact ⟨rfl, HB.out⟩
end Go.Proofs.YtffoobepdofkkaaGreat.S10
