/- CellsApart. -/
import Derived.Test.YtikjlmlbbjbcmaaC6
import Derived.Deep.DeepCutAuto
import Derived.Deep.RegionHeld3
import Derived.Deep.CutBlock
import Derived.Deep.QuietTactic
import Derived.BigQuiet
import Derived.Deep.CutRange
import Derived.Laws.Rows
import Derived.Maps.AppendAt
import Derived.Deep.LoopGhost
namespace Go.Proofs.Ytikjlmlbbjbcmaa
open Go.RowKit Go.Maps Go.ChangeMaps Go.MapKept

/-- The acts that came in, cell by cell. -/
structure Acts (w : World) (lb lo n : Nat) (K A V U : Nat → Nat) (R : Nat → Bool) : Prop where
  k : ∀ i, i < n → w.cell? ⟨lb, lo + i * 5, none⟩ = some (.int .u8 (K i)) ∧ K i < 256
  a : ∀ i, i < n → w.cell? ⟨lb, lo + i * 5 + 1, none⟩ = some (.int .u32 (A i)) ∧ A i < 4294967296
  v : ∀ i, i < n → w.cell? ⟨lb, lo + i * 5 + 2, none⟩ = some (.int .u64 (V i)) ∧ V i < 18446744073709551616
  u : ∀ i, i < n → w.cell? ⟨lb, lo + i * 5 + 3, none⟩ = some (.int .u64 (U i)) ∧ U i < 18446744073709551616
  r : ∀ i, i < n → w.cell? ⟨lb, lo + i * 5 + 4, none⟩ = some (.bool (R i))
theorem Acts.below {w w' : World} {base lb lo n : Nat} {K A V U : Nat → Nat} {R : Nat → Bool} (h : Acts w lb lo n K A V U R) (b : Below base w w') (hl : lb < base) : Acts w' lb lo n K A V U R :=
  ⟨fun i hi => ⟨(b.cell (by exact hl)).trans (h.k i hi).1, (h.k i hi).2⟩, fun i hi => ⟨(b.cell (by exact hl)).trans (h.a i hi).1, (h.a i hi).2⟩, fun i hi => ⟨(b.cell (by exact hl)).trans (h.v i hi).1, (h.v i hi).2⟩,
   fun i hi => ⟨(b.cell (by exact hl)).trans (h.u i hi).1, (h.u i hi).2⟩, fun i hi => (b.cell (by exact hl)).trans (h.r i hi)⟩
/-- Behind the access: what holds of the cells, of what was told ahead of it, and of the act's box. -/
structure Mid (w0 w : World) (b z xb n k : Nat) (A : Nat → Nat) (L : LL) (v : Value) : Prop where
  st : ∃ L' kd y, St w b b L' (k + 1) kd (A k) (look L (A k)) y ∧ look L' (A k) = y ∧ (∀ a, a ≠ A k → look L' a = look L a) ∧ Byt L'
  row : w.ownsRow z 28 1 v n ((List.range n).map fun t => Value.int .u64 (look L (A t) : Nat))
  box : w.cell? ⟨xb, 1, none⟩ = some (.int .u32 (A k))
  low : Below b w0 w
  lt : xb < w.heap.size
theorem mid_of {w0 w w' : World} {b z xb n k : Nat} {A : Nat → Nat} {L : LL} {v : Value} {M : Option Nat} {k0 a0 was is kd y0 t : Nat} (h : CellsAt w b M L k k0 a0 was is) (hl : ∀ j, Fp b M j → j < t) (ht : t ≤ z) (hx : t ≤ xb) (hb : b ≤ w.heap.size) (hm : ∀ m, M = some m → b ≤ m)
    (hby : Byt L) (row : w.ownsRow z 28 1 v n ((List.range n).map fun t => Value.int .u64 (look L (A t) : Nat))) (box : w.cell? ⟨xb, 1, none⟩ = some (.int .u32 (A k))) (low : Below b w0 w)
    (l : Left w w' b M (putL L (A k) (bring (A k) y0)) (k + 1) kd (A k) (look L (A k)) (bring (A k) y0)) : Mid w0 w' b z xb n k A L v := by
  obtain ⟨M', c, m, bw⟩ := l.below hb (Nat.le_refl _) hm
  obtain ⟨_, _, _, tn⟩ := l
  have hbx : xb < w.heap.size := World.block_lt_of_cell? w _ box
  refine ⟨⟨_, kd, _, ⟨Nat.le_trans hb bw.size, Nat.le_refl _, M', c, m⟩, look_put_same _ _ _, fun a ha => look_put_other _ ha _, hby.put _ _⟩, row_turns row tn (fun j hj hf => by have := hl j hf; omega), ?_, low.trans bw, Nat.lt_of_lt_of_le hbx bw.size⟩
  exact (World.cell?_of_block (w := w) (tn.block xb hbx (fun hf => by have := hl xb hf; omega))).trans box
theorem row_open {w : World} {z n e : Nat} {v : Value} {f : Nat → Value} (h : w.ownsRow z e 1 v n ((List.range n).map f)) (hn : 0 < n) :
    ∃ g cap, v = .slice (some ⟨g, 0, none⟩) n cap ∧ z ≤ g ∧ ∀ t, t < n → w.cell? ⟨g, t, none⟩ = some (f t) := by
  obtain ⟨h1, h2⟩ := h
  rcases h2 with ⟨_, h0⟩ | ⟨g, cap, cur, hv, hg, hh, hc, _, hs, hx⟩
  · omega
  · refine ⟨g, cap, hv, hg, fun t ht => ?_⟩
    have e1 : w.cell? ⟨g, t, none⟩ = cur[t]? := by simp [World.cell?, hh]
    have e2 : (cur.toList.take (n * 1))[t]? = ((List.range n).map f)[t]? := by rw [hx]
    rw [List.getElem?_take_of_lt (by omega), List.getElem?_map, List.getElem?_range ht] at e2
    rw [e1, ← Array.getElem?_toList, e2]
    rfl
structure Hd (wc : World) (b : Nat) (L : LL) (k kd a x y : Nat) (w : World) : Prop where
  st : St w b b L (k + 1) kd a x y
  low : Below wc.heap.size wc w
theorem Hd.next {wc : World} {b k kd a x y : Nat} {L : LL} {w w' : World} (h : Hd wc b L k kd a x y w) (hb : Below w.heap.size w w') : Hd wc b L k kd a x y w' := ⟨h.st.new hb, h.low.trans (hb.mono h.low.size)⟩
theorem Hd.drewN {wc : World} {b k kd a x y : Nat} {L : LL} {w : World} (h : Hd wc b L k kd a x y w) (n : Nat) : Hd wc b L k kd a x y (w.drewN n) := h.next ⟨rfl, rfl, rfl, Nat.le_refl _, fun _ _ => rfl⟩
theorem hd0 {wc : World} {b k kd a x y xb g : Nat} {L : LL} {w : World} (h : Hd wc b L k kd a x y w) (c0 : w.cell? ⟨xb, 1, none⟩ = some (.int .u32 a)) (c1 : w.cell? ⟨g, k, none⟩ = some (.int .u64 x)) :
    w.drew.cell? ⟨xb, 1, none⟩ = some (.int .u32 a) ∧ w.drew.cell? ⟨g, k, none⟩ = some (.int .u64 x) ∧ Hd wc b L k kd a x y w.drew :=
  ⟨c0, c1, h.st.new ((Below.refl _ _).drew), h.low.drew⟩
theorem hd1 {wc : World} {b k kd a x y xb g : Nat} {L : LL} {w w' : World} (hb : Below w.heap.size w w') (h : Hd wc b L k kd a x y w) (c0 : w.cell? ⟨xb, 1, none⟩ = some (.int .u32 a)) (c1 : w.cell? ⟨g, k, none⟩ = some (.int .u64 x)) (hg : g < wc.heap.size) (hx : xb < wc.heap.size) :
    w'.cell? ⟨xb, 1, none⟩ = some (.int .u32 a) ∧ w'.cell? ⟨g, k, none⟩ = some (.int .u64 x) ∧ Hd wc b L k kd a x y w' :=
  ⟨(hb.cell (by show xb < _; exact Nat.lt_of_lt_of_le hx h.low.size)).trans c0, (hb.cell (by show g < _; exact Nat.lt_of_lt_of_le hg h.low.size)).trans c1, h.st.new hb, h.low.trans (hb.mono h.low.size)⟩
theorem field50_2 (a b c d : Value) (w : World) : (Instr.field 50 (.agg #[a, b, c, d]) 2).run Try.prog w = .ok c w := by kernel_rfl
theorem field50_3 (a b c d : Value) (w : World) : (Instr.field 50 (.agg #[a, b, c, d]) 3).run Try.prog w = .ok d w := by kernel_rfl
theorem info28 : (Try.prog.info? 28).map (fun i => (i.zero, i.size, i.bytes)) = some (some (.int .u64 0), 1, 8) := by kernel_rfl
set_option maxHeartbeats 1000000 in
set_option maxRecDepth 100000 in
theorem law_apart (lb lo n c : Nat) (K A V U : Nat → Nat) (R : Nat → Bool) (hn : n ≤ 200) (w : World) (hc : Acts w lb lo n K A V U R) (hlb : lb < w.heap.size) :
    Calls Try.prog 5 #[.slice (some ⟨lb, lo, none⟩) n c] w fun e w' => e = .returned (.bool true) ∧ Below w.heap.size w w' := by
  have q0 := st_new w
  have ql := fun W => lives_any W
  obtain ⟨b, hb⟩ : ∃ b, b = w.heap.size := ⟨_, rfl⟩
  rw [← hb] at q0 hlb
  have Q0 := Lib.hid q0
  have QL := Lib.hid ql
  have HB := Lib.hid hb
  have HC := Lib.hid hc
  clear q0 ql hb hc
  go_enter Try.func5, Try.ntmps5
  go_wp2_with fail
  refine Q0.out.mono ?_
  rintro e w1 ⟨rfl, s1, b1⟩
  have S1 := Lib.hid s1; have B1 := Lib.hid b1; clear s1 b1
  go_wp2_with fail
  go_loopg [4] n (fun g i wr => ∃ (k : Nat) (L : LL) (kd a0 was is : Nat), k ≤ n ∧ g = n - k ∧ i = .int .i64 k ∧ St wr b b L k kd a0 was is ∧ Byt L ∧ Below b w wr)
  case atStart => exact ⟨0, [], 0, 0, 0, 0, by omega, rfl, rfl, S1.out, byt_nil, B1.out.mono (by rw [HB.out]; exact Nat.le_refl _)⟩
  case round =>
    obtain ⟨wo, rfl⟩ : ∃ wo : World, wo = wr := ⟨_, rfl⟩
    obtain ⟨k, L, kd, a0, was, is, hk, rfl, rfl, s, by_, bw⟩ := hrel
    have S := Lib.hid s; have BY := Lib.hid by_; have BW := Lib.hid bw; clear s by_ bw
    by_cases hlt : k < n
    · have HC2 := Lib.hid (HC.out.below BW.out hlb)
      obtain ⟨d0, e0⟩ := HC2.out.k k hlt
      obtain ⟨d1, e1⟩ := HC2.out.a k hlt
      obtain ⟨d2, e2⟩ := HC2.out.v k hlt
      obtain ⟨d3, e3⟩ := HC2.out.u k hlt
      have d4 := HC2.out.r k hlt
      go_wp2_with fail
      obtain ⟨M, cM, mM⟩ := S.out.own
      have ltM := cM.lt
      have hz : (wo.alloc (.cells #[.int .u8 (K k), .int .u32 (A k), .int .u64 (V k), .int .u64 (U k), .bool (R k)] 39)).heap.size = wo.heap.size + 1 := by simp
      have ba : Below wo.heap.size wo (wo.alloc (.cells #[.int .u8 (K k), .int .u32 (A k), .int .u64 (V k), .int .u64 (U k), .bool (R k)] 39)) := (Below.refl _ _).alloc (Nat.le_refl _) _
      have x0 : (wo.alloc (.cells #[.int .u8 (K k), .int .u32 (A k), .int .u64 (V k), .int .u64 (U k), .bool (R k)] 39)).cell? ⟨wo.heap.size, 0, none⟩ = some (.int .u8 (K k)) := by rw [World.cell?_alloc_at _ _ _ _ rfl]; rfl
      have x1 : (wo.alloc (.cells #[.int .u8 (K k), .int .u32 (A k), .int .u64 (V k), .int .u64 (U k), .bool (R k)] 39)).cell? ⟨wo.heap.size, 1, none⟩ = some (.int .u32 (A k)) := by rw [World.cell?_alloc_at _ _ _ _ rfl]; rfl
      have x2 : (wo.alloc (.cells #[.int .u8 (K k), .int .u32 (A k), .int .u64 (V k), .int .u64 (U k), .bool (R k)] 39)).cell? ⟨wo.heap.size, 2, none⟩ = some (.int .u64 (V k)) := by rw [World.cell?_alloc_at _ _ _ _ rfl]; rfl
      have x3 : (wo.alloc (.cells #[.int .u8 (K k), .int .u32 (A k), .int .u64 (V k), .int .u64 (U k), .bool (R k)] 39)).cell? ⟨wo.heap.size, 3, none⟩ = some (.int .u64 (U k)) := by rw [World.cell?_alloc_at _ _ _ _ rfl]; rfl
      generalize wo.alloc (.cells #[.int .u8 (K k), .int .u32 (A k), .int .u64 (V k), .int .u64 (U k), .bool (R k)] 39) = wa at *
      have hs := S.out.size
      have LTM := Lib.hid ltM; have CM := Lib.hid cM; have MM := Lib.hid mM; have BA := Lib.hid ba; have X0 := Lib.hid x0; have X1 := Lib.hid x1; have X2 := Lib.hid x2; have X3 := Lib.hid x3; have HZ := Lib.hid hz
      clear ltM cM mM ba x0 x1 x2 x3 d0 d1 d2 d3 d4 hz
      go_loopg [6, 7] n (fun g s6 s7 wr => ∃ j : Nat, j ≤ n ∧ g = n - j ∧ s7 = .int .i64 j ∧ wr.ownsRow (wo.heap.size + 1) 28 1 s6 j ((List.range j).map fun t => Value.int .u64 (look L (A t) : Nat)) ∧ Below (wo.heap.size + 1) wa wr)
      case atStart => exact ⟨0, by omega, rfl, rfl, World.ownsRow_nil _ _ _ _, Below.refl _ _⟩
      case round =>
        obtain ⟨j, hj, rfl, rfl, hown, hbx⟩ := hrel
        have BX := Lib.hid hbx
        have bax := (BA.out.mono (B' := b) hs).trans (BX.out.mono (by omega))
        have BAX := Lib.hid (BW.out.trans bax)
        have HC3 := Lib.hid (HC.out.below BAX.out hlb)
        have SX := Lib.hid ((S.out.new BA.out).new (BX.out.mono (by rw [HZ.out]; exact Nat.le_refl _)))
        have hsz := Nat.le_trans (by rw [HZ.out]; exact Nat.le_refl _ : wo.heap.size + 1 ≤ wa.heap.size) BX.out.size
        clear hbx bax
        by_cases hjn : j < n
        · obtain ⟨g1, g2⟩ := HC3.out.a j hjn
          have hpk := fun W h => st_peek W b b L k kd a0 was is (A j) h g2
          have HPK := Lib.hid hpk
          clear hpk
          obtain ⟨i0, hi, hz0, hz1, hz2⟩ := info_parts info28
          go_wp2_with (first
            | (go_at_call 12; refine (HPK.out _ SX.out).mono ?_; rintro e w' ⟨rfl, rfl⟩)
            | (at_builtin; refine wpList_append_own _ rfl _ _ 58 rfl (wo.heap.size + 1) 28 i0 (.int .u64 0) 1 8 Try.underlying58 hi hz0 hz1 hz2 rfl (by decide) _ _ _ rfl (hown.alloc _) ⟨wr.heap.size, 0, none⟩ 1 1 [.int .u64 (look L (A j) : Nat)] rfl rfl ?c1 ?c2 ?c3 ?c4 ?c5 ?_))
          case c1 => exact cell_one_new _ _ _
          case c2 => intro x hx; simp at hx; subst hx; rfl
          case c3 => unfold maxLen; omega
          case c4 => omega
          case c5 => simp; omega
          · intro v' w2 hown' hgrow _
            have hb' : Below (wo.heap.size + 1) wa w2 := (BX.out.alloc hsz _).grown hgrow (by simp; omega) (fun j hj => (hown.lt j hj).1)
            have HB2 := Lib.hid hb'
            have HOWN := Lib.hid hown'
            clear hown hown' hgrow hb'
            go_wp2_with fail
            go_roundg (n - (j + 1))
            case measure => omega
            case rel => exact ⟨j + 1, by omega, rfl, by go_num, by rw [List.range_succ, List.map_append]; exact HOWN.out, HB2.out⟩
        · have hjn2 : j = n := by omega
          subst hjn2
          have y0 := (BX.out.cell (p := ⟨wo.heap.size, 0, none⟩) (by show wo.heap.size < _; omega)).trans X0.out
          have y1 := (BX.out.cell (p := ⟨wo.heap.size, 1, none⟩) (by show wo.heap.size < _; omega)).trans X1.out
          have y2 := (BX.out.cell (p := ⟨wo.heap.size, 2, none⟩) (by show wo.heap.size < _; omega)).trans X2.out
          have y3 := (BX.out.cell (p := ⟨wo.heap.size, 3, none⟩) (by show wo.heap.size < _; omega)).trans X3.out
          have cX := CM.out.kept (Turns.of_below (S := fun _ => False) (BA.out.trans (BX.out.mono (by omega)))) (fun _ _ e => e)
          have CX := Lib.hid cX
          have OWN := Lib.hid hown
          clear cX hown
          go_upto_block 4 with (fail)
          have hs2 : b ≤ wr.heap.size := by omega
          have YB := Lib.hid y1
          go_cut [8] from 15 to 162 (fun s8 wc => s8 = .int .u64 (look L (A k) : Nat) ∧ Mid w wc b (wo.heap.size + 1) wo.heap.size j k A L u6)
          case first =>
            have hq : K k % 6 = 0 ∨ K k % 6 = 1 ∨ K k % 6 = 2 ∨ K k % 6 = 3 ∨ K k % 6 = 4 ∨ K k % 6 = 5 := by omega
            rcases hq with hq | hq | hq | hq | hq | hq
            · have hq2 : ((K k : Int) % 6) = 0 := by omega
              clear hq
              have hop := load_any wr b M L k kd a0 was is (A k) CX.out e1 (by omega)
              have HOP := Lib.hid hop
              clear hop
              go_wp2_with (go_at_call 18; refine HOP.out.mono ?_; rintro e w' ⟨rfl, l⟩; (have LL1 := Lib.hid l; clear l))
              go_meet
              case rel => exact ⟨rfl, mid_of CX.out LTM.out (Nat.le_succ _) (Nat.le_refl _) hs2 MM.out BY.out OWN.out YB.out BAX.out LL1.out⟩
            · have hq2 : ((K k : Int) % 6) = 1 := by omega
              clear hq
              have hop := store_any wr b M L k kd a0 was is (A k) (V k) CX.out e1 e2 (by omega)
              have HOP := Lib.hid hop
              clear hop
              go_wp2_with (go_at_call 19; refine HOP.out.mono ?_; rintro e w' ⟨rfl, l⟩; (have LL1 := Lib.hid l; clear l))
              go_meet
              case rel => exact ⟨rfl, mid_of CX.out LTM.out (Nat.le_succ _) (Nat.le_refl _) hs2 MM.out BY.out OWN.out YB.out BAX.out LL1.out⟩
            · have hq2 : ((K k : Int) % 6) = 2 := by omega
              clear hq
              have hop := cas_any wr b M L k kd a0 was is (A k) (U k) (V k) CX.out e1 e2 (by omega)
              have HOP := Lib.hid hop
              clear hop
              go_wp2_with (go_at_call 17; refine HOP.out.mono ?_; rintro e w' ⟨rfl, l⟩; (have LL1 := Lib.hid l; clear l))
              go_meet
              case rel => exact ⟨rfl, mid_of CX.out LTM.out (Nat.le_succ _) (Nat.le_refl _) hs2 MM.out BY.out OWN.out YB.out BAX.out LL1.out⟩
            · have hq2 : ((K k : Int) % 6) = 3 := by omega
              clear hq
              have hop := add_any wr b M L k kd a0 was is (A k) (V k) CX.out e1 e2 (by omega)
              have HOP := Lib.hid hop
              clear hop
              go_wp2_with (go_at_call 21; refine HOP.out.mono ?_; rintro e w' ⟨rfl, l⟩; (have LL1 := Lib.hid l; clear l))
              go_meet
              case rel => exact ⟨rfl, mid_of CX.out LTM.out (Nat.le_succ _) (Nat.le_refl _) hs2 MM.out BY.out OWN.out YB.out BAX.out LL1.out⟩
            · have hq2 : ((K k : Int) % 6) = 4 := by omega
              clear hq
              have hop := and_any wr b M L k kd a0 was is (A k) (V k) CX.out e1 e2 (by omega)
              have HOP := Lib.hid hop
              clear hop
              go_wp2_with (go_at_call 22; refine HOP.out.mono ?_; rintro e w' ⟨rfl, l⟩; (have LL1 := Lib.hid l; clear l))
              go_meet
              case rel => exact ⟨rfl, mid_of CX.out LTM.out (Nat.le_succ _) (Nat.le_refl _) hs2 MM.out BY.out OWN.out YB.out BAX.out LL1.out⟩
            · have hq2 : ((K k : Int) % 6) = 5 := by omega
              clear hq
              have hop := or_any wr b M L k kd a0 was is (A k) (V k) CX.out e1 e2 (by omega)
              have HOP := Lib.hid hop
              clear hop
              go_wp2_with (go_at_call 23; refine HOP.out.mono ?_; rintro e w' ⟨rfl, l⟩; (have LL1 := Lib.hid l; clear l))
              go_meet
              case rel => exact ⟨rfl, mid_of CX.out LTM.out (Nat.le_succ _) (Nat.le_refl _) hs2 MM.out BY.out OWN.out YB.out BAX.out LL1.out⟩
          case rest =>
            obtain ⟨wm, rfl⟩ : ∃ wm : World, wm = wc := ⟨_, rfl⟩
            obtain ⟨rfl, hm⟩ := hcut
            have HM := Lib.hid hm
            clear hm y0 y1 y2 y3
            obtain ⟨L', kd', y, sc, hy, hoth, hbyt⟩ := HM.out.st
            obtain ⟨g, cap, hu, hgz, hcs⟩ := row_open HM.out.row (by omega)
            subst hu
            have hck := hcs k hlt
            have HCS := Lib.hid hcs
            have HOTH := Lib.hid hoth
            have HBYT := Lib.hid hbyt
            have hsm := fun h => look_small (L := L') hbyt (a := A k) h
            rw [hy] at hsm
            have hpk := fun W h => st_peek W b b L' (k + 1) kd' (A k) (look L (A k)) y (A k) h e1
            rw [hy] at hpk
            have hyl : y < 18446744073709551616 := by rw [← hy]; exact look_lt sc.good _
            have hct := fun W h => st_count W b b L' (k + 1) kd' (A k) (look L (A k)) y h
            simp only [Int.natCast_add, Int.cast_ofNat_Int] at hct
            have hla := fun W h => st_last W b b L' (k + 1) kd' (A k) (look L (A k)) y h
            have hbt := fun W => byte_any (A k) e1 W
            have hbox := HM.out.box
            have hg2 : g < wm.heap.size := World.block_lt_of_cell? wm _ hck
            have hxl := HM.out.lt
            have hd : Hd wm b L' k kd' (A k) (look L (A k)) y wm := ⟨sc, Below.refl _ _⟩
            generalize look L (A k) = x at *
            have SC := Lib.hid sc; have HPK := Lib.hid hpk; have HCT := Lib.hid hct; have HLA := Lib.hid hla; have HBT := Lib.hid hbt; have HY := Lib.hid hy
            clear hcs hoth hbyt hpk hct hla hbt sc hy
            have hw1 : IntKind.i64.wrap ((k : Int) + 1) = (k : Int) + 1 := IntWalk.i64_in _ (by omega)
            have hf2 : ∀ w, (Instr.field 50 (.agg #[.int .u8 kd', .int .u32 (A k), .int .u64 x, .int .u64 y]) 2).run Try.prog w = .ok (.int .u64 x) w := fun w => field50_2 _ _ _ _ w
            have hf3 : ∀ w, (Instr.field 50 (.agg #[.int .u8 kd', .int .u32 (A k), .int .u64 x, .int .u64 y]) 3).run Try.prog w = .ok (.int .u64 y) w := fun w => field50_3 _ _ _ _ w
            generalize byteB (A k) = bb at *
            go_upto_region 26 with (fail)
            go_cut [134] from 15 to 162 (fun s134 wx => s134 = .bool false ∧ Hd wm b L' k kd' (A k) x y wx)
            case first =>
              cases bb
              · clear hsm
                refine wp_region_held_drew (S := fun w' => w'.cell? ⟨wo.heap.size, 1, none⟩ = some (.int .u32 (A k)) ∧ w'.cell? ⟨g, k, none⟩ = some (.int .u64 x) ∧ Hd wm b L' k kd' (A k) x y w') (by kernel_rfl) ?_ (fun hHeld => ?_)
                · exact hd0 hd hbox hck
                refine wpAnyH_take (i := 0) (oi := ({ dst := some 93, op := Op.move (Operand.tmp 8), type := 28, pos := "outright.go:49", after := #[], guard := none } : Oper)) (v := ?va0) rfl (by kernel_rfl) (by kernel_rfl) (by kernel_rfl) (fun _ _ _ h => h) (Or.inl ⟨by rfl, fun w hSw => ?hya0⟩) (by assumption) ?ra0
                case hya0 => (try dsimp only at hSw); go_simp; (try with_reducible rfl)
                (try simp only [Act.put, List.setIfInBounds_toArray, List.set_cons_zero, List.set_cons_succ])
                refine wpAnyH_take (i := 1) (oi := ({ dst := some 94, op := Op.move (Operand.tmp 6), type := 58, pos := "outright.go:49", after := #[], guard := none } : Oper)) (v := ?va1) rfl (by kernel_rfl) (by kernel_rfl) (by kernel_rfl) (fun _ _ _ h => h) (Or.inl ⟨by rfl, fun w hSw => ?hya1⟩) (by assumption) ?ra1
                case hya1 => (try dsimp only at hSw); go_simp; (try with_reducible rfl)
                (try simp only [Act.put, List.setIfInBounds_toArray, List.set_cons_zero, List.set_cons_succ])
                refine wpAnyH_take (i := 2) (oi := ({ dst := some 95, op := Op.move (Operand.tmp 4), type := 3, pos := "outright.go:49", after := #[], guard := none } : Oper)) (v := ?va2) rfl (by kernel_rfl) (by kernel_rfl) (by kernel_rfl) (fun _ _ _ h => h) (Or.inl ⟨by rfl, fun w hSw => ?hya2⟩) (by assumption) ?ra2
                case hya2 => (try dsimp only at hSw); go_simp; (try with_reducible rfl)
                (try simp only [Act.put, List.setIfInBounds_toArray, List.set_cons_zero, List.set_cons_succ])
                refine wpAnyH_take (i := 3) (oi := ({ dst := some 96, op := Op.indexAddr 58 (Operand.tmp 94) (Operand.tmp 95), type := 0, pos := "outright.go:49", after := #[{ on := 1, ground := Ground.data }, { on := 2, ground := Ground.data }], guard := none } : Oper)) (v := ?va3) rfl (by kernel_rfl) (by kernel_rfl) (by kernel_rfl) (fun _ _ _ h => h) (Or.inl ⟨by rfl, fun w hSw => ?hya3⟩) (by assumption) ?ra3
                case hya3 => (try dsimp only at hSw); go_simp; (try with_reducible rfl)
                (try simp only [Act.put, List.setIfInBounds_toArray, List.set_cons_zero, List.set_cons_succ])
                refine wpAnyH_take (i := 4) (oi := ({ dst := some 97, op := Op.load 28 (Operand.tmp 96), type := 28, pos := "outright.go:49", after := #[{ on := 3, ground := Ground.data }], guard := none } : Oper)) (v := ?va4) rfl (by kernel_rfl) (by kernel_rfl) (by kernel_rfl) (fun _ _ _ h => h) (Or.inl ⟨by rfl, fun w hSw => ?hya4⟩) (by assumption) ?ra4
                case hya4 => (try dsimp only at hSw); go_simp; (try with_reducible rfl)
                (try simp only [Act.put, List.setIfInBounds_toArray, List.set_cons_zero, List.set_cons_succ])
                refine wpAnyH_take (i := 5) (oi := ({ dst := some 98, op := Op.binOp BinOp.neq 28 (Operand.tmp 93) (Operand.tmp 97) 28, type := 4, pos := "outright.go:49", after := #[{ on := 0, ground := Ground.data }, { on := 4, ground := Ground.data }], guard := none } : Oper)) (v := ?va5) rfl (by kernel_rfl) (by kernel_rfl) (by kernel_rfl) (fun _ _ _ h => h) (Or.inl ⟨by rfl, fun w hSw => ?hya5⟩) (by assumption) ?ra5
                case hya5 => (try dsimp only at hSw); go_simp; (try with_reducible rfl)
                (try simp only [Act.put, List.setIfInBounds_toArray, List.set_cons_zero, List.set_cons_succ])
                refine wpAnyH_take (i := 6) (oi := ({ dst := some 99, op := Op.move (Operand.tmp 98), type := 4, pos := "outright.go:49", after := #[{ on := 5, ground := Ground.data }], guard := none } : Oper)) (v := ?va6) rfl (by kernel_rfl) (by kernel_rfl) (by kernel_rfl) (fun _ _ _ h => h) (Or.inl ⟨by rfl, fun w hSw => ?hya6⟩) (by assumption) ?ra6
                case hya6 => (try dsimp only at hSw); go_simp; (try with_reducible rfl)
                (try simp only [Act.put, List.setIfInBounds_toArray, List.set_cons_zero, List.set_cons_succ])
                refine wpAnyH_take (i := 7) (oi := ({ dst := some 100, op := Op.move (Operand.tmp 3), type := 32, pos := "outright.go:49", after := #[{ on := 6, ground := Ground.guard }], guard := some (6, false) } : Oper)) (v := ?va7) rfl (by kernel_rfl) (by kernel_rfl) (by kernel_rfl) (fun _ _ _ h => h) (Or.inl ⟨by rfl, fun w hSw => ?hya7⟩) (by assumption) ?ra7
                case hya7 => (try dsimp only at hSw); go_simp; (try with_reducible rfl)
                (try simp only [Act.put, List.setIfInBounds_toArray, List.set_cons_zero, List.set_cons_succ])
                refine wpAnyH_take (i := 10) (oi := ({ dst := some 103, op := Op.move (Operand.tmp 8), type := 28, pos := "outright.go:49", after := #[{ on := 6, ground := Ground.guard }], guard := some (6, false) } : Oper)) (v := ?va10) rfl (by kernel_rfl) (by kernel_rfl) (by kernel_rfl) (fun _ _ _ h => h) (Or.inl ⟨by rfl, fun w hSw => ?hya10⟩) (by assumption) ?ra10
                case hya10 => (try dsimp only at hSw); go_simp; (try with_reducible rfl)
                (try simp only [Act.put, List.setIfInBounds_toArray, List.set_cons_zero, List.set_cons_succ])
                refine wpAnyH_ready (rs := [8]) (by kernel_rfl) (by simp) ?_
                refine AllReadyH.cons (o := ({ dst := some 101, op := Op.call { callee := Callee.value (Operand.func 25), args := #[Operand.tmp 100], argTypes := #[32] }, type := 50, pos := "outright.go:49", after := #[{ on := 7, ground := Ground.data }, { on := 6, ground := Ground.chain }, { on := 6, ground := Ground.guard }], guard := some (6, false) } : Oper)) rfl (fun K hK => ?_) AllReadyH.nil
                go_simp
                (refine (HLA.out _ hHeld.2.2.st).mono ?_; rintro e w1 ⟨rfl, hb⟩)
                refine hK.out _ _ ?_ (fun hHeld => ?_)
                · exact hd1 hb hHeld.2.2 hHeld.1 hHeld.2.1 hg2 hxl
                clear hK K
                (try simp only [Act.put, List.setIfInBounds_toArray, List.set_cons_zero, List.set_cons_succ])
                refine wpAnyH_take (i := 9) (oi := ({ dst := some 102, op := Op.field 50 (Operand.tmp 101) 2, type := 28, pos := "outright.go:49", after := #[{ on := 8, ground := Ground.data }, { on := 6, ground := Ground.guard }], guard := some (6, false) } : Oper)) (v := ?va9) rfl (by kernel_rfl) (by kernel_rfl) (by kernel_rfl) (fun _ _ _ h => h) (Or.inl ⟨by rfl, fun w hSw => ?hya9⟩) (by assumption) ?ra9
                case hya9 => (try dsimp only at hSw); go_simp; (try with_reducible rfl)
                (try simp only [Act.put, List.setIfInBounds_toArray, List.set_cons_zero, List.set_cons_succ])
                refine wpAnyH_take (i := 11) (oi := ({ dst := some 104, op := Op.binOp BinOp.neq 28 (Operand.tmp 102) (Operand.tmp 103) 28, type := 4, pos := "outright.go:49", after := #[{ on := 9, ground := Ground.data }, { on := 10, ground := Ground.data }, { on := 6, ground := Ground.guard }], guard := some (6, false) } : Oper)) (v := ?va11) rfl (by kernel_rfl) (by kernel_rfl) (by kernel_rfl) (fun _ _ _ h => h) (Or.inl ⟨by rfl, fun w hSw => ?hya11⟩) (by assumption) ?ra11
                case hya11 => (try dsimp only at hSw); go_simp; (try with_reducible rfl)
                (try simp only [Act.put, List.setIfInBounds_toArray, List.set_cons_zero, List.set_cons_succ])
                refine wpAnyH_take (i := 12) (oi := ({ dst := some 105, op := Op.pick (Operand.tmp 99) (Operand.const (Value.bool true)) (Operand.tmp 104), type := 4, pos := "outright.go:49", after := #[{ on := 6, ground := Ground.data }, { on := 11, ground := Ground.data }], guard := none } : Oper)) (v := ?va12) rfl (by kernel_rfl) (by kernel_rfl) (by kernel_rfl) (fun _ _ _ h => h) (Or.inl ⟨by rfl, fun w hSw => ?hya12⟩) (by assumption) ?ra12
                case hya12 => (try dsimp only at hSw); go_simp; (try with_reducible rfl)
                (try simp only [Act.put, List.setIfInBounds_toArray, List.set_cons_zero, List.set_cons_succ])
                refine wpAnyH_take (i := 13) (oi := ({ dst := some 106, op := Op.move (Operand.tmp 105), type := 4, pos := "outright.go:49", after := #[{ on := 12, ground := Ground.data }, { on := 8, ground := Ground.chain }], guard := none } : Oper)) (v := ?va13) rfl (by kernel_rfl) (by kernel_rfl) (by kernel_rfl) (fun _ _ _ h => h) (Or.inl ⟨by rfl, fun w hSw => ?hya13⟩) (by assumption) ?ra13
                case hya13 => (try dsimp only at hSw); go_simp; (try with_reducible rfl)
                (try simp only [Act.put, List.setIfInBounds_toArray, List.set_cons_zero, List.set_cons_succ])
                refine wpAnyH_take (i := 14) (oi := ({ dst := some 107, op := Op.move (Operand.tmp 3), type := 32, pos := "outright.go:49", after := #[{ on := 13, ground := Ground.guard }], guard := some (13, false) } : Oper)) (v := ?va14) rfl (by kernel_rfl) (by kernel_rfl) (by kernel_rfl) (fun _ _ _ h => h) (Or.inl ⟨by rfl, fun w hSw => ?hya14⟩) (by assumption) ?ra14
                case hya14 => (try dsimp only at hSw); go_simp; (try with_reducible rfl)
                (try simp only [Act.put, List.setIfInBounds_toArray, List.set_cons_zero, List.set_cons_succ])
                refine wpAnyH_take (i := 17) (oi := ({ dst := some 110, op := Op.move (Operand.tmp 3), type := 32, pos := "outright.go:49", after := #[{ on := 13, ground := Ground.guard }], guard := some (13, false) } : Oper)) (v := ?va17) rfl (by kernel_rfl) (by kernel_rfl) (by kernel_rfl) (fun _ _ _ h => h) (Or.inl ⟨by rfl, fun w hSw => ?hya17⟩) (by assumption) ?ra17
                case hya17 => (try dsimp only at hSw); go_simp; (try with_reducible rfl)
                (try simp only [Act.put, List.setIfInBounds_toArray, List.set_cons_zero, List.set_cons_succ])
                refine wpAnyH_take (i := 18) (oi := ({ dst := some 111, op := Op.fieldAddr 39 (Operand.tmp 5) 1, type := 0, pos := "outright.go:49", after := #[{ on := 13, ground := Ground.guard }], guard := some (13, false) } : Oper)) (v := ?va18) rfl (by kernel_rfl) (by kernel_rfl) (by kernel_rfl) (fun _ _ _ h => h) (Or.inl ⟨by rfl, fun w hSw => ?hya18⟩) (by assumption) ?ra18
                case hya18 => (try dsimp only at hSw); go_simp; (try with_reducible rfl)
                (try simp only [Act.put, List.setIfInBounds_toArray, List.set_cons_zero, List.set_cons_succ])
                refine wpAnyH_take (i := 19) (oi := ({ dst := some 112, op := Op.load 27 (Operand.tmp 111), type := 27, pos := "outright.go:49", after := #[{ on := 18, ground := Ground.data }, { on := 13, ground := Ground.guard }], guard := some (13, false) } : Oper)) (v := ?va19) rfl (by kernel_rfl) (by kernel_rfl) (by kernel_rfl) (fun _ _ _ h => h) (Or.inl ⟨by rfl, fun w hSw => ?hya19⟩) (by assumption) ?ra19
                case hya19 => (try dsimp only at hSw); go_simp; (try with_reducible rfl)
                (try simp only [Act.put, List.setIfInBounds_toArray, List.set_cons_zero, List.set_cons_succ])
                refine wpAnyH_ready (rs := [15]) (by kernel_rfl) (by simp) ?_
                refine AllReadyH.cons (o := ({ dst := some 108, op := Op.call { callee := Callee.value (Operand.func 25), args := #[Operand.tmp 107], argTypes := #[32] }, type := 50, pos := "outright.go:49", after := #[{ on := 14, ground := Ground.data }, { on := 13, ground := Ground.chain }, { on := 13, ground := Ground.guard }], guard := some (13, false) } : Oper)) rfl (fun K hK => ?_) AllReadyH.nil
                go_simp
                (refine (HLA.out _ hHeld.2.2.st).mono ?_; rintro e w1 ⟨rfl, hb⟩)
                refine hK.out _ _ ?_ (fun hHeld => ?_)
                · exact hd1 hb hHeld.2.2 hHeld.1 hHeld.2.1 hg2 hxl
                clear hK K
                (try simp only [Act.put, List.setIfInBounds_toArray, List.set_cons_zero, List.set_cons_succ])
                refine wpAnyH_take (i := 16) (oi := ({ dst := some 109, op := Op.field 50 (Operand.tmp 108) 3, type := 28, pos := "outright.go:49", after := #[{ on := 15, ground := Ground.data }, { on := 13, ground := Ground.guard }], guard := some (13, false) } : Oper)) (v := ?va16) rfl (by kernel_rfl) (by kernel_rfl) (by kernel_rfl) (fun _ _ _ h => h) (Or.inl ⟨by rfl, fun w hSw => ?hya16⟩) (by assumption) ?ra16
                case hya16 => (try dsimp only at hSw); go_simp; (try with_reducible rfl)
                (try simp only [Act.put, List.setIfInBounds_toArray, List.set_cons_zero, List.set_cons_succ])
                refine wpAnyH_ready (rs := [20]) (by kernel_rfl) (by simp) ?_
                refine AllReadyH.cons (o := ({ dst := some 113, op := Op.call { callee := Callee.value (Operand.func 12), args := #[Operand.tmp 110, Operand.tmp 112], argTypes := #[32, 27] }, type := 28, pos := "outright.go:49", after := #[{ on := 17, ground := Ground.data }, { on := 19, ground := Ground.data }, { on := 15, ground := Ground.chain }, { on := 13, ground := Ground.guard }], guard := some (13, false) } : Oper)) rfl (fun K hK => ?_) AllReadyH.nil
                go_simp
                (refine (HPK.out _ hHeld.2.2.st).mono ?_; rintro e w1 ⟨rfl, rfl⟩)
                refine hK.out _ _ ?_ (fun hHeld => ?_)
                · exact hHeld
                clear hK K
                (try simp only [Act.put, List.setIfInBounds_toArray, List.set_cons_zero, List.set_cons_succ])
                refine wpAnyH_take (i := 21) (oi := ({ dst := some 114, op := Op.binOp BinOp.neq 28 (Operand.tmp 109) (Operand.tmp 113) 28, type := 4, pos := "outright.go:49", after := #[{ on := 16, ground := Ground.data }, { on := 20, ground := Ground.data }, { on := 13, ground := Ground.guard }], guard := some (13, false) } : Oper)) (v := ?va21) rfl (by kernel_rfl) (by kernel_rfl) (by kernel_rfl) (fun _ _ _ h => h) (Or.inl ⟨by rfl, fun w hSw => ?hya21⟩) (by assumption) ?ra21
                case hya21 => (try dsimp only at hSw); go_simp; (try with_reducible rfl)
                (try simp only [Act.put, List.setIfInBounds_toArray, List.set_cons_zero, List.set_cons_succ])
                refine wpAnyH_take (i := 22) (oi := ({ dst := some 115, op := Op.pick (Operand.tmp 106) (Operand.const (Value.bool true)) (Operand.tmp 114), type := 4, pos := "outright.go:49", after := #[{ on := 13, ground := Ground.data }, { on := 21, ground := Ground.data }], guard := none } : Oper)) (v := ?va22) rfl (by kernel_rfl) (by kernel_rfl) (by kernel_rfl) (fun _ _ _ h => h) (Or.inl ⟨by rfl, fun w hSw => ?hya22⟩) (by assumption) ?ra22
                case hya22 => (try dsimp only at hSw); go_simp; (try with_reducible rfl)
                (try simp only [Act.put, List.setIfInBounds_toArray, List.set_cons_zero, List.set_cons_succ])
                refine wpAnyH_take (i := 23) (oi := ({ dst := some 116, op := Op.move (Operand.tmp 115), type := 4, pos := "outright.go:49", after := #[{ on := 22, ground := Ground.data }, { on := 20, ground := Ground.chain }], guard := none } : Oper)) (v := ?va23) rfl (by kernel_rfl) (by kernel_rfl) (by kernel_rfl) (fun _ _ _ h => h) (Or.inl ⟨by rfl, fun w hSw => ?hya23⟩) (by assumption) ?ra23
                case hya23 => (try dsimp only at hSw); go_simp; (try with_reducible rfl)
                (try simp only [Act.put, List.setIfInBounds_toArray, List.set_cons_zero, List.set_cons_succ])
                refine wpAnyH_take (i := 24) (oi := ({ dst := some 117, op := Op.move (Operand.tmp 3), type := 32, pos := "outright.go:49", after := #[{ on := 23, ground := Ground.guard }], guard := some (23, false) } : Oper)) (v := ?va24) rfl (by kernel_rfl) (by kernel_rfl) (by kernel_rfl) (fun _ _ _ h => h) (Or.inl ⟨by rfl, fun w hSw => ?hya24⟩) (by assumption) ?ra24
                case hya24 => (try dsimp only at hSw); go_simp; (try with_reducible rfl)
                (try simp only [Act.put, List.setIfInBounds_toArray, List.set_cons_zero, List.set_cons_succ])
                refine wpAnyH_take (i := 26) (oi := ({ dst := some 119, op := Op.move (Operand.tmp 4), type := 3, pos := "outright.go:49", after := #[{ on := 23, ground := Ground.guard }], guard := some (23, false) } : Oper)) (v := ?va26) rfl (by kernel_rfl) (by kernel_rfl) (by kernel_rfl) (fun _ _ _ h => h) (Or.inl ⟨by rfl, fun w hSw => ?hya26⟩) (by assumption) ?ra26
                case hya26 => (try dsimp only at hSw); go_simp; (try with_reducible rfl)
                (try simp only [Act.put, List.setIfInBounds_toArray, List.set_cons_zero, List.set_cons_succ])
                refine wpAnyH_take (i := 27) (oi := ({ dst := some 120, op := Op.binOp BinOp.add 3 (Operand.tmp 119) (Operand.const (Value.int IntKind.i64 1)) 3, type := 3, pos := "outright.go:49", after := #[{ on := 26, ground := Ground.data }, { on := 23, ground := Ground.guard }], guard := some (23, false) } : Oper)) (v := ?va27) rfl (by kernel_rfl) (by kernel_rfl) (by kernel_rfl) (fun _ _ _ h => h) (Or.inl ⟨by rfl, fun w hSw => ?hya27⟩) (by assumption) ?ra27
                case hya27 => (try dsimp only at hSw); go_simp; (try with_reducible rfl)
                (try simp only [Act.put, List.setIfInBounds_toArray, List.set_cons_zero, List.set_cons_succ])
                refine wpAnyH_ready (rs := [25]) (by kernel_rfl) (by simp) ?_
                refine AllReadyH.cons (o := ({ dst := some 118, op := Op.call { callee := Callee.value (Operand.func 24), args := #[Operand.tmp 117], argTypes := #[32] }, type := 3, pos := "outright.go:49", after := #[{ on := 24, ground := Ground.data }, { on := 23, ground := Ground.chain }, { on := 23, ground := Ground.guard }], guard := some (23, false) } : Oper)) rfl (fun K hK => ?_) AllReadyH.nil
                go_simp
                (refine (HCT.out _ hHeld.2.2.st).mono ?_; rintro e w1 ⟨rfl, rfl⟩)
                refine hK.out _ _ ?_ (fun hHeld => ?_)
                · exact hHeld
                clear hK K
                (try simp only [Act.put, List.setIfInBounds_toArray, List.set_cons_zero, List.set_cons_succ])
                refine wpAnyH_take (i := 28) (oi := ({ dst := some 121, op := Op.binOp BinOp.neq 3 (Operand.tmp 118) (Operand.tmp 120) 3, type := 4, pos := "outright.go:49", after := #[{ on := 25, ground := Ground.data }, { on := 27, ground := Ground.data }, { on := 23, ground := Ground.guard }], guard := some (23, false) } : Oper)) (v := ?va28) rfl (by kernel_rfl) (by kernel_rfl) (by kernel_rfl) (fun _ _ _ h => h) (Or.inl ⟨by rfl, fun w hSw => ?hya28⟩) (by assumption) ?ra28
                case hya28 => (try dsimp only at hSw); go_simp; (try with_reducible rfl)
                (try simp only [Act.put, List.setIfInBounds_toArray, List.set_cons_zero, List.set_cons_succ])
                refine wpAnyH_take (i := 29) (oi := ({ dst := some 122, op := Op.pick (Operand.tmp 116) (Operand.const (Value.bool true)) (Operand.tmp 121), type := 4, pos := "outright.go:49", after := #[{ on := 23, ground := Ground.data }, { on := 28, ground := Ground.data }], guard := none } : Oper)) (v := ?va29) rfl (by kernel_rfl) (by kernel_rfl) (by kernel_rfl) (fun _ _ _ h => h) (Or.inl ⟨by rfl, fun w hSw => ?hya29⟩) (by assumption) ?ra29
                case hya29 => (try dsimp only at hSw); go_simp; (try with_reducible rfl)
                (try simp only [Act.put, List.setIfInBounds_toArray, List.set_cons_zero, List.set_cons_succ])
                refine wpAnyH_take (i := 30) (oi := ({ dst := some 123, op := Op.move (Operand.tmp 122), type := 4, pos := "outright.go:49", after := #[{ on := 29, ground := Ground.data }, { on := 25, ground := Ground.chain }], guard := none } : Oper)) (v := ?va30) rfl (by kernel_rfl) (by kernel_rfl) (by kernel_rfl) (fun _ _ _ h => h) (Or.inl ⟨by rfl, fun w hSw => ?hya30⟩) (by assumption) ?ra30
                case hya30 => (try dsimp only at hSw); go_simp; (try with_reducible rfl)
                (try simp only [Act.put, List.setIfInBounds_toArray, List.set_cons_zero, List.set_cons_succ])
                refine wpAnyH_take (i := 31) (oi := ({ dst := some 124, op := Op.fieldAddr 39 (Operand.tmp 5) 1, type := 0, pos := "outright.go:49", after := #[{ on := 30, ground := Ground.guard }], guard := some (30, false) } : Oper)) (v := ?va31) rfl (by kernel_rfl) (by kernel_rfl) (by kernel_rfl) (fun _ _ _ h => h) (Or.inl ⟨by rfl, fun w hSw => ?hya31⟩) (by assumption) ?ra31
                case hya31 => (try dsimp only at hSw); go_simp; (try with_reducible rfl)
                (try simp only [Act.put, List.setIfInBounds_toArray, List.set_cons_zero, List.set_cons_succ])
                refine wpAnyH_take (i := 32) (oi := ({ dst := some 125, op := Op.load 27 (Operand.tmp 124), type := 27, pos := "outright.go:49", after := #[{ on := 31, ground := Ground.data }, { on := 30, ground := Ground.guard }], guard := some (30, false) } : Oper)) (v := ?va32) rfl (by kernel_rfl) (by kernel_rfl) (by kernel_rfl) (fun _ _ _ h => h) (Or.inl ⟨by rfl, fun w hSw => ?hya32⟩) (by assumption) ?ra32
                case hya32 => (try dsimp only at hSw); go_simp; (try with_reducible rfl)
                (try simp only [Act.put, List.setIfInBounds_toArray, List.set_cons_zero, List.set_cons_succ])
                refine wpAnyH_ready (rs := [33]) (by kernel_rfl) (by simp) ?_
                refine AllReadyH.cons (o := ({ dst := some 126, op := Op.call { callee := Callee.value (Operand.func 14), args := #[Operand.tmp 125], argTypes := #[27] }, type := 4, pos := "outright.go:49", after := #[{ on := 32, ground := Ground.data }, { on := 30, ground := Ground.chain }, { on := 30, ground := Ground.guard }], guard := some (30, false) } : Oper)) rfl (fun K hK => ?_) AllReadyH.nil
                go_simp
                (refine (HBT.out _).mono ?_; rintro e w1 ⟨rfl, rfl⟩)
                refine hK.out _ _ ?_ (fun hHeld => ?_)
                · exact hHeld
                clear hK K
                (try simp only [Act.put, List.setIfInBounds_toArray, List.set_cons_zero, List.set_cons_succ])
                refine wpAnyH_take (i := 34) (oi := ({ dst := some 127, op := Op.move (Operand.tmp 126), type := 4, pos := "outright.go:49", after := #[{ on := 33, ground := Ground.data }, { on := 33, ground := Ground.chain }, { on := 30, ground := Ground.guard }], guard := some (30, false) } : Oper)) (v := ?va34) rfl (by kernel_rfl) (by kernel_rfl) (by kernel_rfl) (fun _ _ _ h => h) (Or.inl ⟨by rfl, fun w hSw => ?hya34⟩) (by assumption) ?ra34
                case hya34 => (try dsimp only at hSw); go_simp; (try with_reducible rfl)
                (try simp only [Act.put, List.setIfInBounds_toArray, List.set_cons_zero, List.set_cons_succ])
                refine wpAnyH_take (i := 35) (oi := ({ dst := some 128, op := Op.move (Operand.tmp 3), type := 32, pos := "outright.go:49", after := #[{ on := 34, ground := Ground.guard }], guard := some (34, true) } : Oper)) (v := undef) rfl (by kernel_rfl) (by kernel_rfl) (by kernel_rfl) (fun _ _ _ h => h) (Or.inr ⟨by rfl, rfl⟩) (by assumption) ?_
                (try simp only [Act.put, List.setIfInBounds_toArray, List.set_cons_zero, List.set_cons_succ])
                refine wpAnyH_take (i := 36) (oi := ({ dst := some 129, op := Op.fieldAddr 39 (Operand.tmp 5) 1, type := 0, pos := "outright.go:49", after := #[{ on := 34, ground := Ground.guard }], guard := some (34, true) } : Oper)) (v := undef) rfl (by kernel_rfl) (by kernel_rfl) (by kernel_rfl) (fun _ _ _ h => h) (Or.inr ⟨by rfl, rfl⟩) (by assumption) ?_
                (try simp only [Act.put, List.setIfInBounds_toArray, List.set_cons_zero, List.set_cons_succ])
                refine wpAnyH_take (i := 37) (oi := ({ dst := some 130, op := Op.load 27 (Operand.tmp 129), type := 27, pos := "outright.go:49", after := #[{ on := 36, ground := Ground.data }, { on := 34, ground := Ground.guard }], guard := some (34, true) } : Oper)) (v := undef) rfl (by kernel_rfl) (by kernel_rfl) (by kernel_rfl) (fun _ _ _ h => h) (Or.inr ⟨by rfl, rfl⟩) (by assumption) ?_
                (try simp only [Act.put, List.setIfInBounds_toArray, List.set_cons_zero, List.set_cons_succ])
                refine wpAnyH_take (i := 38) (oi := ({ dst := some 131, op := Op.call { callee := Callee.value (Operand.func 12), args := #[Operand.tmp 128, Operand.tmp 130], argTypes := #[32, 27] }, type := 28, pos := "outright.go:49", after := #[{ on := 35, ground := Ground.data }, { on := 37, ground := Ground.data }, { on := 34, ground := Ground.chain }, { on := 34, ground := Ground.guard }], guard := some (34, true) } : Oper)) (v := undef) rfl (by kernel_rfl) (by kernel_rfl) (by kernel_rfl) (fun _ _ _ h => h) (Or.inr ⟨by rfl, rfl⟩) (by assumption) ?_
                (try simp only [Act.put, List.setIfInBounds_toArray, List.set_cons_zero, List.set_cons_succ])
                refine wpAnyH_take (i := 39) (oi := ({ dst := some 132, op := Op.binOp BinOp.gtr 28 (Operand.tmp 131) (Operand.const (Value.int IntKind.u64 255)) 28, type := 4, pos := "outright.go:49", after := #[{ on := 38, ground := Ground.data }, { on := 34, ground := Ground.guard }], guard := some (34, true) } : Oper)) (v := undef) rfl (by kernel_rfl) (by kernel_rfl) (by kernel_rfl) (fun _ _ _ h => h) (Or.inr ⟨by rfl, rfl⟩) (by assumption) ?_
                (try simp only [Act.put, List.setIfInBounds_toArray, List.set_cons_zero, List.set_cons_succ])
                refine wpAnyH_take (i := 40) (oi := ({ dst := some 133, op := Op.pick (Operand.tmp 127) (Operand.tmp 132) (Operand.const (Value.bool false)), type := 4, pos := "outright.go:49", after := #[{ on := 34, ground := Ground.data }, { on := 39, ground := Ground.data }, { on := 30, ground := Ground.guard }], guard := some (30, false) } : Oper)) (v := ?va40) rfl (by kernel_rfl) (by kernel_rfl) (by kernel_rfl) (fun _ _ _ h => h) (Or.inl ⟨by rfl, fun w hSw => ?hya40⟩) (by assumption) ?ra40
                case hya40 => (try dsimp only at hSw); go_simp; (try with_reducible rfl)
                (try simp only [Act.put, List.setIfInBounds_toArray, List.set_cons_zero, List.set_cons_succ])
                refine wpAnyH_take (i := 41) (oi := ({ dst := some 134, op := Op.pick (Operand.tmp 123) (Operand.const (Value.bool true)) (Operand.tmp 133), type := 4, pos := "outright.go:49", after := #[{ on := 30, ground := Ground.data }, { on := 40, ground := Ground.data }], guard := none } : Oper)) (v := ?va41) rfl (by kernel_rfl) (by kernel_rfl) (by kernel_rfl) (fun _ _ _ h => h) (Or.inl ⟨by rfl, fun w hSw => ?hya41⟩) (by assumption) ?ra41
                case hya41 => (try dsimp only at hSw); go_simp; (try with_reducible rfl)
                (try simp only [Act.put, List.setIfInBounds_toArray, List.set_cons_zero, List.set_cons_succ])
                refine wpAnyH_done (by kernel_rfl) ?_ _

                go_wp2_with fail
                go_meet
                case rel => exact ⟨rfl, hHeld.2.2⟩
              · have hsm2 := hsm rfl
                have ht : decide ((255 : Int) < (y : Int)) = false := by rw [decide_eq_false_iff_not]; omega
                clear hsm hsm2
                refine wp_region_held_drew (S := fun w' => w'.cell? ⟨wo.heap.size, 1, none⟩ = some (.int .u32 (A k)) ∧ w'.cell? ⟨g, k, none⟩ = some (.int .u64 x) ∧ Hd wm b L' k kd' (A k) x y w') (by kernel_rfl) ?_ (fun hHeld => ?_)
                · exact hd0 hd hbox hck
                refine wpAnyH_take (i := 0) (oi := ({ dst := some 93, op := Op.move (Operand.tmp 8), type := 28, pos := "outright.go:49", after := #[], guard := none } : Oper)) (v := ?vb0) rfl (by kernel_rfl) (by kernel_rfl) (by kernel_rfl) (fun _ _ _ h => h) (Or.inl ⟨by rfl, fun w hSw => ?hyb0⟩) (by assumption) ?rb0
                case hyb0 => (try dsimp only at hSw); go_simp; (try with_reducible rfl)
                (try simp only [Act.put, List.setIfInBounds_toArray, List.set_cons_zero, List.set_cons_succ])
                refine wpAnyH_take (i := 1) (oi := ({ dst := some 94, op := Op.move (Operand.tmp 6), type := 58, pos := "outright.go:49", after := #[], guard := none } : Oper)) (v := ?vb1) rfl (by kernel_rfl) (by kernel_rfl) (by kernel_rfl) (fun _ _ _ h => h) (Or.inl ⟨by rfl, fun w hSw => ?hyb1⟩) (by assumption) ?rb1
                case hyb1 => (try dsimp only at hSw); go_simp; (try with_reducible rfl)
                (try simp only [Act.put, List.setIfInBounds_toArray, List.set_cons_zero, List.set_cons_succ])
                refine wpAnyH_take (i := 2) (oi := ({ dst := some 95, op := Op.move (Operand.tmp 4), type := 3, pos := "outright.go:49", after := #[], guard := none } : Oper)) (v := ?vb2) rfl (by kernel_rfl) (by kernel_rfl) (by kernel_rfl) (fun _ _ _ h => h) (Or.inl ⟨by rfl, fun w hSw => ?hyb2⟩) (by assumption) ?rb2
                case hyb2 => (try dsimp only at hSw); go_simp; (try with_reducible rfl)
                (try simp only [Act.put, List.setIfInBounds_toArray, List.set_cons_zero, List.set_cons_succ])
                refine wpAnyH_take (i := 3) (oi := ({ dst := some 96, op := Op.indexAddr 58 (Operand.tmp 94) (Operand.tmp 95), type := 0, pos := "outright.go:49", after := #[{ on := 1, ground := Ground.data }, { on := 2, ground := Ground.data }], guard := none } : Oper)) (v := ?vb3) rfl (by kernel_rfl) (by kernel_rfl) (by kernel_rfl) (fun _ _ _ h => h) (Or.inl ⟨by rfl, fun w hSw => ?hyb3⟩) (by assumption) ?rb3
                case hyb3 => (try dsimp only at hSw); go_simp; (try with_reducible rfl)
                (try simp only [Act.put, List.setIfInBounds_toArray, List.set_cons_zero, List.set_cons_succ])
                refine wpAnyH_take (i := 4) (oi := ({ dst := some 97, op := Op.load 28 (Operand.tmp 96), type := 28, pos := "outright.go:49", after := #[{ on := 3, ground := Ground.data }], guard := none } : Oper)) (v := ?vb4) rfl (by kernel_rfl) (by kernel_rfl) (by kernel_rfl) (fun _ _ _ h => h) (Or.inl ⟨by rfl, fun w hSw => ?hyb4⟩) (by assumption) ?rb4
                case hyb4 => (try dsimp only at hSw); go_simp; (try with_reducible rfl)
                (try simp only [Act.put, List.setIfInBounds_toArray, List.set_cons_zero, List.set_cons_succ])
                refine wpAnyH_take (i := 5) (oi := ({ dst := some 98, op := Op.binOp BinOp.neq 28 (Operand.tmp 93) (Operand.tmp 97) 28, type := 4, pos := "outright.go:49", after := #[{ on := 0, ground := Ground.data }, { on := 4, ground := Ground.data }], guard := none } : Oper)) (v := ?vb5) rfl (by kernel_rfl) (by kernel_rfl) (by kernel_rfl) (fun _ _ _ h => h) (Or.inl ⟨by rfl, fun w hSw => ?hyb5⟩) (by assumption) ?rb5
                case hyb5 => (try dsimp only at hSw); go_simp; (try with_reducible rfl)
                (try simp only [Act.put, List.setIfInBounds_toArray, List.set_cons_zero, List.set_cons_succ])
                refine wpAnyH_take (i := 6) (oi := ({ dst := some 99, op := Op.move (Operand.tmp 98), type := 4, pos := "outright.go:49", after := #[{ on := 5, ground := Ground.data }], guard := none } : Oper)) (v := ?vb6) rfl (by kernel_rfl) (by kernel_rfl) (by kernel_rfl) (fun _ _ _ h => h) (Or.inl ⟨by rfl, fun w hSw => ?hyb6⟩) (by assumption) ?rb6
                case hyb6 => (try dsimp only at hSw); go_simp; (try with_reducible rfl)
                (try simp only [Act.put, List.setIfInBounds_toArray, List.set_cons_zero, List.set_cons_succ])
                refine wpAnyH_take (i := 7) (oi := ({ dst := some 100, op := Op.move (Operand.tmp 3), type := 32, pos := "outright.go:49", after := #[{ on := 6, ground := Ground.guard }], guard := some (6, false) } : Oper)) (v := ?vb7) rfl (by kernel_rfl) (by kernel_rfl) (by kernel_rfl) (fun _ _ _ h => h) (Or.inl ⟨by rfl, fun w hSw => ?hyb7⟩) (by assumption) ?rb7
                case hyb7 => (try dsimp only at hSw); go_simp; (try with_reducible rfl)
                (try simp only [Act.put, List.setIfInBounds_toArray, List.set_cons_zero, List.set_cons_succ])
                refine wpAnyH_take (i := 10) (oi := ({ dst := some 103, op := Op.move (Operand.tmp 8), type := 28, pos := "outright.go:49", after := #[{ on := 6, ground := Ground.guard }], guard := some (6, false) } : Oper)) (v := ?vb10) rfl (by kernel_rfl) (by kernel_rfl) (by kernel_rfl) (fun _ _ _ h => h) (Or.inl ⟨by rfl, fun w hSw => ?hyb10⟩) (by assumption) ?rb10
                case hyb10 => (try dsimp only at hSw); go_simp; (try with_reducible rfl)
                (try simp only [Act.put, List.setIfInBounds_toArray, List.set_cons_zero, List.set_cons_succ])
                refine wpAnyH_ready (rs := [8]) (by kernel_rfl) (by simp) ?_
                refine AllReadyH.cons (o := ({ dst := some 101, op := Op.call { callee := Callee.value (Operand.func 25), args := #[Operand.tmp 100], argTypes := #[32] }, type := 50, pos := "outright.go:49", after := #[{ on := 7, ground := Ground.data }, { on := 6, ground := Ground.chain }, { on := 6, ground := Ground.guard }], guard := some (6, false) } : Oper)) rfl (fun K hK => ?_) AllReadyH.nil
                go_simp
                (refine (HLA.out _ hHeld.2.2.st).mono ?_; rintro e w1 ⟨rfl, hb⟩)
                refine hK.out _ _ ?_ (fun hHeld => ?_)
                · exact hd1 hb hHeld.2.2 hHeld.1 hHeld.2.1 hg2 hxl
                clear hK K
                (try simp only [Act.put, List.setIfInBounds_toArray, List.set_cons_zero, List.set_cons_succ])
                refine wpAnyH_take (i := 9) (oi := ({ dst := some 102, op := Op.field 50 (Operand.tmp 101) 2, type := 28, pos := "outright.go:49", after := #[{ on := 8, ground := Ground.data }, { on := 6, ground := Ground.guard }], guard := some (6, false) } : Oper)) (v := ?vb9) rfl (by kernel_rfl) (by kernel_rfl) (by kernel_rfl) (fun _ _ _ h => h) (Or.inl ⟨by rfl, fun w hSw => ?hyb9⟩) (by assumption) ?rb9
                case hyb9 => (try dsimp only at hSw); go_simp; (try with_reducible rfl)
                (try simp only [Act.put, List.setIfInBounds_toArray, List.set_cons_zero, List.set_cons_succ])
                refine wpAnyH_take (i := 11) (oi := ({ dst := some 104, op := Op.binOp BinOp.neq 28 (Operand.tmp 102) (Operand.tmp 103) 28, type := 4, pos := "outright.go:49", after := #[{ on := 9, ground := Ground.data }, { on := 10, ground := Ground.data }, { on := 6, ground := Ground.guard }], guard := some (6, false) } : Oper)) (v := ?vb11) rfl (by kernel_rfl) (by kernel_rfl) (by kernel_rfl) (fun _ _ _ h => h) (Or.inl ⟨by rfl, fun w hSw => ?hyb11⟩) (by assumption) ?rb11
                case hyb11 => (try dsimp only at hSw); go_simp; (try with_reducible rfl)
                (try simp only [Act.put, List.setIfInBounds_toArray, List.set_cons_zero, List.set_cons_succ])
                refine wpAnyH_take (i := 12) (oi := ({ dst := some 105, op := Op.pick (Operand.tmp 99) (Operand.const (Value.bool true)) (Operand.tmp 104), type := 4, pos := "outright.go:49", after := #[{ on := 6, ground := Ground.data }, { on := 11, ground := Ground.data }], guard := none } : Oper)) (v := ?vb12) rfl (by kernel_rfl) (by kernel_rfl) (by kernel_rfl) (fun _ _ _ h => h) (Or.inl ⟨by rfl, fun w hSw => ?hyb12⟩) (by assumption) ?rb12
                case hyb12 => (try dsimp only at hSw); go_simp; (try with_reducible rfl)
                (try simp only [Act.put, List.setIfInBounds_toArray, List.set_cons_zero, List.set_cons_succ])
                refine wpAnyH_take (i := 13) (oi := ({ dst := some 106, op := Op.move (Operand.tmp 105), type := 4, pos := "outright.go:49", after := #[{ on := 12, ground := Ground.data }, { on := 8, ground := Ground.chain }], guard := none } : Oper)) (v := ?vb13) rfl (by kernel_rfl) (by kernel_rfl) (by kernel_rfl) (fun _ _ _ h => h) (Or.inl ⟨by rfl, fun w hSw => ?hyb13⟩) (by assumption) ?rb13
                case hyb13 => (try dsimp only at hSw); go_simp; (try with_reducible rfl)
                (try simp only [Act.put, List.setIfInBounds_toArray, List.set_cons_zero, List.set_cons_succ])
                refine wpAnyH_take (i := 14) (oi := ({ dst := some 107, op := Op.move (Operand.tmp 3), type := 32, pos := "outright.go:49", after := #[{ on := 13, ground := Ground.guard }], guard := some (13, false) } : Oper)) (v := ?vb14) rfl (by kernel_rfl) (by kernel_rfl) (by kernel_rfl) (fun _ _ _ h => h) (Or.inl ⟨by rfl, fun w hSw => ?hyb14⟩) (by assumption) ?rb14
                case hyb14 => (try dsimp only at hSw); go_simp; (try with_reducible rfl)
                (try simp only [Act.put, List.setIfInBounds_toArray, List.set_cons_zero, List.set_cons_succ])
                refine wpAnyH_take (i := 17) (oi := ({ dst := some 110, op := Op.move (Operand.tmp 3), type := 32, pos := "outright.go:49", after := #[{ on := 13, ground := Ground.guard }], guard := some (13, false) } : Oper)) (v := ?vb17) rfl (by kernel_rfl) (by kernel_rfl) (by kernel_rfl) (fun _ _ _ h => h) (Or.inl ⟨by rfl, fun w hSw => ?hyb17⟩) (by assumption) ?rb17
                case hyb17 => (try dsimp only at hSw); go_simp; (try with_reducible rfl)
                (try simp only [Act.put, List.setIfInBounds_toArray, List.set_cons_zero, List.set_cons_succ])
                refine wpAnyH_take (i := 18) (oi := ({ dst := some 111, op := Op.fieldAddr 39 (Operand.tmp 5) 1, type := 0, pos := "outright.go:49", after := #[{ on := 13, ground := Ground.guard }], guard := some (13, false) } : Oper)) (v := ?vb18) rfl (by kernel_rfl) (by kernel_rfl) (by kernel_rfl) (fun _ _ _ h => h) (Or.inl ⟨by rfl, fun w hSw => ?hyb18⟩) (by assumption) ?rb18
                case hyb18 => (try dsimp only at hSw); go_simp; (try with_reducible rfl)
                (try simp only [Act.put, List.setIfInBounds_toArray, List.set_cons_zero, List.set_cons_succ])
                refine wpAnyH_take (i := 19) (oi := ({ dst := some 112, op := Op.load 27 (Operand.tmp 111), type := 27, pos := "outright.go:49", after := #[{ on := 18, ground := Ground.data }, { on := 13, ground := Ground.guard }], guard := some (13, false) } : Oper)) (v := ?vb19) rfl (by kernel_rfl) (by kernel_rfl) (by kernel_rfl) (fun _ _ _ h => h) (Or.inl ⟨by rfl, fun w hSw => ?hyb19⟩) (by assumption) ?rb19
                case hyb19 => (try dsimp only at hSw); go_simp; (try with_reducible rfl)
                (try simp only [Act.put, List.setIfInBounds_toArray, List.set_cons_zero, List.set_cons_succ])
                refine wpAnyH_ready (rs := [15]) (by kernel_rfl) (by simp) ?_
                refine AllReadyH.cons (o := ({ dst := some 108, op := Op.call { callee := Callee.value (Operand.func 25), args := #[Operand.tmp 107], argTypes := #[32] }, type := 50, pos := "outright.go:49", after := #[{ on := 14, ground := Ground.data }, { on := 13, ground := Ground.chain }, { on := 13, ground := Ground.guard }], guard := some (13, false) } : Oper)) rfl (fun K hK => ?_) AllReadyH.nil
                go_simp
                (refine (HLA.out _ hHeld.2.2.st).mono ?_; rintro e w1 ⟨rfl, hb⟩)
                refine hK.out _ _ ?_ (fun hHeld => ?_)
                · exact hd1 hb hHeld.2.2 hHeld.1 hHeld.2.1 hg2 hxl
                clear hK K
                (try simp only [Act.put, List.setIfInBounds_toArray, List.set_cons_zero, List.set_cons_succ])
                refine wpAnyH_take (i := 16) (oi := ({ dst := some 109, op := Op.field 50 (Operand.tmp 108) 3, type := 28, pos := "outright.go:49", after := #[{ on := 15, ground := Ground.data }, { on := 13, ground := Ground.guard }], guard := some (13, false) } : Oper)) (v := ?vb16) rfl (by kernel_rfl) (by kernel_rfl) (by kernel_rfl) (fun _ _ _ h => h) (Or.inl ⟨by rfl, fun w hSw => ?hyb16⟩) (by assumption) ?rb16
                case hyb16 => (try dsimp only at hSw); go_simp; (try with_reducible rfl)
                (try simp only [Act.put, List.setIfInBounds_toArray, List.set_cons_zero, List.set_cons_succ])
                refine wpAnyH_ready (rs := [20]) (by kernel_rfl) (by simp) ?_
                refine AllReadyH.cons (o := ({ dst := some 113, op := Op.call { callee := Callee.value (Operand.func 12), args := #[Operand.tmp 110, Operand.tmp 112], argTypes := #[32, 27] }, type := 28, pos := "outright.go:49", after := #[{ on := 17, ground := Ground.data }, { on := 19, ground := Ground.data }, { on := 15, ground := Ground.chain }, { on := 13, ground := Ground.guard }], guard := some (13, false) } : Oper)) rfl (fun K hK => ?_) AllReadyH.nil
                go_simp
                (refine (HPK.out _ hHeld.2.2.st).mono ?_; rintro e w1 ⟨rfl, rfl⟩)
                refine hK.out _ _ ?_ (fun hHeld => ?_)
                · exact hHeld
                clear hK K
                (try simp only [Act.put, List.setIfInBounds_toArray, List.set_cons_zero, List.set_cons_succ])
                refine wpAnyH_take (i := 21) (oi := ({ dst := some 114, op := Op.binOp BinOp.neq 28 (Operand.tmp 109) (Operand.tmp 113) 28, type := 4, pos := "outright.go:49", after := #[{ on := 16, ground := Ground.data }, { on := 20, ground := Ground.data }, { on := 13, ground := Ground.guard }], guard := some (13, false) } : Oper)) (v := ?vb21) rfl (by kernel_rfl) (by kernel_rfl) (by kernel_rfl) (fun _ _ _ h => h) (Or.inl ⟨by rfl, fun w hSw => ?hyb21⟩) (by assumption) ?rb21
                case hyb21 => (try dsimp only at hSw); go_simp; (try with_reducible rfl)
                (try simp only [Act.put, List.setIfInBounds_toArray, List.set_cons_zero, List.set_cons_succ])
                refine wpAnyH_take (i := 22) (oi := ({ dst := some 115, op := Op.pick (Operand.tmp 106) (Operand.const (Value.bool true)) (Operand.tmp 114), type := 4, pos := "outright.go:49", after := #[{ on := 13, ground := Ground.data }, { on := 21, ground := Ground.data }], guard := none } : Oper)) (v := ?vb22) rfl (by kernel_rfl) (by kernel_rfl) (by kernel_rfl) (fun _ _ _ h => h) (Or.inl ⟨by rfl, fun w hSw => ?hyb22⟩) (by assumption) ?rb22
                case hyb22 => (try dsimp only at hSw); go_simp; (try with_reducible rfl)
                (try simp only [Act.put, List.setIfInBounds_toArray, List.set_cons_zero, List.set_cons_succ])
                refine wpAnyH_take (i := 23) (oi := ({ dst := some 116, op := Op.move (Operand.tmp 115), type := 4, pos := "outright.go:49", after := #[{ on := 22, ground := Ground.data }, { on := 20, ground := Ground.chain }], guard := none } : Oper)) (v := ?vb23) rfl (by kernel_rfl) (by kernel_rfl) (by kernel_rfl) (fun _ _ _ h => h) (Or.inl ⟨by rfl, fun w hSw => ?hyb23⟩) (by assumption) ?rb23
                case hyb23 => (try dsimp only at hSw); go_simp; (try with_reducible rfl)
                (try simp only [Act.put, List.setIfInBounds_toArray, List.set_cons_zero, List.set_cons_succ])
                refine wpAnyH_take (i := 24) (oi := ({ dst := some 117, op := Op.move (Operand.tmp 3), type := 32, pos := "outright.go:49", after := #[{ on := 23, ground := Ground.guard }], guard := some (23, false) } : Oper)) (v := ?vb24) rfl (by kernel_rfl) (by kernel_rfl) (by kernel_rfl) (fun _ _ _ h => h) (Or.inl ⟨by rfl, fun w hSw => ?hyb24⟩) (by assumption) ?rb24
                case hyb24 => (try dsimp only at hSw); go_simp; (try with_reducible rfl)
                (try simp only [Act.put, List.setIfInBounds_toArray, List.set_cons_zero, List.set_cons_succ])
                refine wpAnyH_take (i := 26) (oi := ({ dst := some 119, op := Op.move (Operand.tmp 4), type := 3, pos := "outright.go:49", after := #[{ on := 23, ground := Ground.guard }], guard := some (23, false) } : Oper)) (v := ?vb26) rfl (by kernel_rfl) (by kernel_rfl) (by kernel_rfl) (fun _ _ _ h => h) (Or.inl ⟨by rfl, fun w hSw => ?hyb26⟩) (by assumption) ?rb26
                case hyb26 => (try dsimp only at hSw); go_simp; (try with_reducible rfl)
                (try simp only [Act.put, List.setIfInBounds_toArray, List.set_cons_zero, List.set_cons_succ])
                refine wpAnyH_take (i := 27) (oi := ({ dst := some 120, op := Op.binOp BinOp.add 3 (Operand.tmp 119) (Operand.const (Value.int IntKind.i64 1)) 3, type := 3, pos := "outright.go:49", after := #[{ on := 26, ground := Ground.data }, { on := 23, ground := Ground.guard }], guard := some (23, false) } : Oper)) (v := ?vb27) rfl (by kernel_rfl) (by kernel_rfl) (by kernel_rfl) (fun _ _ _ h => h) (Or.inl ⟨by rfl, fun w hSw => ?hyb27⟩) (by assumption) ?rb27
                case hyb27 => (try dsimp only at hSw); go_simp; (try with_reducible rfl)
                (try simp only [Act.put, List.setIfInBounds_toArray, List.set_cons_zero, List.set_cons_succ])
                refine wpAnyH_ready (rs := [25]) (by kernel_rfl) (by simp) ?_
                refine AllReadyH.cons (o := ({ dst := some 118, op := Op.call { callee := Callee.value (Operand.func 24), args := #[Operand.tmp 117], argTypes := #[32] }, type := 3, pos := "outright.go:49", after := #[{ on := 24, ground := Ground.data }, { on := 23, ground := Ground.chain }, { on := 23, ground := Ground.guard }], guard := some (23, false) } : Oper)) rfl (fun K hK => ?_) AllReadyH.nil
                go_simp
                (refine (HCT.out _ hHeld.2.2.st).mono ?_; rintro e w1 ⟨rfl, rfl⟩)
                refine hK.out _ _ ?_ (fun hHeld => ?_)
                · exact hHeld
                clear hK K
                (try simp only [Act.put, List.setIfInBounds_toArray, List.set_cons_zero, List.set_cons_succ])
                refine wpAnyH_take (i := 28) (oi := ({ dst := some 121, op := Op.binOp BinOp.neq 3 (Operand.tmp 118) (Operand.tmp 120) 3, type := 4, pos := "outright.go:49", after := #[{ on := 25, ground := Ground.data }, { on := 27, ground := Ground.data }, { on := 23, ground := Ground.guard }], guard := some (23, false) } : Oper)) (v := ?vb28) rfl (by kernel_rfl) (by kernel_rfl) (by kernel_rfl) (fun _ _ _ h => h) (Or.inl ⟨by rfl, fun w hSw => ?hyb28⟩) (by assumption) ?rb28
                case hyb28 => (try dsimp only at hSw); go_simp; (try with_reducible rfl)
                (try simp only [Act.put, List.setIfInBounds_toArray, List.set_cons_zero, List.set_cons_succ])
                refine wpAnyH_take (i := 29) (oi := ({ dst := some 122, op := Op.pick (Operand.tmp 116) (Operand.const (Value.bool true)) (Operand.tmp 121), type := 4, pos := "outright.go:49", after := #[{ on := 23, ground := Ground.data }, { on := 28, ground := Ground.data }], guard := none } : Oper)) (v := ?vb29) rfl (by kernel_rfl) (by kernel_rfl) (by kernel_rfl) (fun _ _ _ h => h) (Or.inl ⟨by rfl, fun w hSw => ?hyb29⟩) (by assumption) ?rb29
                case hyb29 => (try dsimp only at hSw); go_simp; (try with_reducible rfl)
                (try simp only [Act.put, List.setIfInBounds_toArray, List.set_cons_zero, List.set_cons_succ])
                refine wpAnyH_take (i := 30) (oi := ({ dst := some 123, op := Op.move (Operand.tmp 122), type := 4, pos := "outright.go:49", after := #[{ on := 29, ground := Ground.data }, { on := 25, ground := Ground.chain }], guard := none } : Oper)) (v := ?vb30) rfl (by kernel_rfl) (by kernel_rfl) (by kernel_rfl) (fun _ _ _ h => h) (Or.inl ⟨by rfl, fun w hSw => ?hyb30⟩) (by assumption) ?rb30
                case hyb30 => (try dsimp only at hSw); go_simp; (try with_reducible rfl)
                (try simp only [Act.put, List.setIfInBounds_toArray, List.set_cons_zero, List.set_cons_succ])
                refine wpAnyH_take (i := 31) (oi := ({ dst := some 124, op := Op.fieldAddr 39 (Operand.tmp 5) 1, type := 0, pos := "outright.go:49", after := #[{ on := 30, ground := Ground.guard }], guard := some (30, false) } : Oper)) (v := ?vb31) rfl (by kernel_rfl) (by kernel_rfl) (by kernel_rfl) (fun _ _ _ h => h) (Or.inl ⟨by rfl, fun w hSw => ?hyb31⟩) (by assumption) ?rb31
                case hyb31 => (try dsimp only at hSw); go_simp; (try with_reducible rfl)
                (try simp only [Act.put, List.setIfInBounds_toArray, List.set_cons_zero, List.set_cons_succ])
                refine wpAnyH_take (i := 32) (oi := ({ dst := some 125, op := Op.load 27 (Operand.tmp 124), type := 27, pos := "outright.go:49", after := #[{ on := 31, ground := Ground.data }, { on := 30, ground := Ground.guard }], guard := some (30, false) } : Oper)) (v := ?vb32) rfl (by kernel_rfl) (by kernel_rfl) (by kernel_rfl) (fun _ _ _ h => h) (Or.inl ⟨by rfl, fun w hSw => ?hyb32⟩) (by assumption) ?rb32
                case hyb32 => (try dsimp only at hSw); go_simp; (try with_reducible rfl)
                (try simp only [Act.put, List.setIfInBounds_toArray, List.set_cons_zero, List.set_cons_succ])
                refine wpAnyH_ready (rs := [33]) (by kernel_rfl) (by simp) ?_
                refine AllReadyH.cons (o := ({ dst := some 126, op := Op.call { callee := Callee.value (Operand.func 14), args := #[Operand.tmp 125], argTypes := #[27] }, type := 4, pos := "outright.go:49", after := #[{ on := 32, ground := Ground.data }, { on := 30, ground := Ground.chain }, { on := 30, ground := Ground.guard }], guard := some (30, false) } : Oper)) rfl (fun K hK => ?_) AllReadyH.nil
                go_simp
                (refine (HBT.out _).mono ?_; rintro e w1 ⟨rfl, rfl⟩)
                refine hK.out _ _ ?_ (fun hHeld => ?_)
                · exact hHeld
                clear hK K
                (try simp only [Act.put, List.setIfInBounds_toArray, List.set_cons_zero, List.set_cons_succ])
                refine wpAnyH_take (i := 34) (oi := ({ dst := some 127, op := Op.move (Operand.tmp 126), type := 4, pos := "outright.go:49", after := #[{ on := 33, ground := Ground.data }, { on := 33, ground := Ground.chain }, { on := 30, ground := Ground.guard }], guard := some (30, false) } : Oper)) (v := ?vb34) rfl (by kernel_rfl) (by kernel_rfl) (by kernel_rfl) (fun _ _ _ h => h) (Or.inl ⟨by rfl, fun w hSw => ?hyb34⟩) (by assumption) ?rb34
                case hyb34 => (try dsimp only at hSw); go_simp; (try with_reducible rfl)
                (try simp only [Act.put, List.setIfInBounds_toArray, List.set_cons_zero, List.set_cons_succ])
                refine wpAnyH_take (i := 35) (oi := ({ dst := some 128, op := Op.move (Operand.tmp 3), type := 32, pos := "outright.go:49", after := #[{ on := 34, ground := Ground.guard }], guard := some (34, true) } : Oper)) (v := ?vb35) rfl (by kernel_rfl) (by kernel_rfl) (by kernel_rfl) (fun _ _ _ h => h) (Or.inl ⟨by rfl, fun w hSw => ?hyb35⟩) (by assumption) ?rb35
                case hyb35 => (try dsimp only at hSw); go_simp; (try with_reducible rfl)
                (try simp only [Act.put, List.setIfInBounds_toArray, List.set_cons_zero, List.set_cons_succ])
                refine wpAnyH_take (i := 36) (oi := ({ dst := some 129, op := Op.fieldAddr 39 (Operand.tmp 5) 1, type := 0, pos := "outright.go:49", after := #[{ on := 34, ground := Ground.guard }], guard := some (34, true) } : Oper)) (v := ?vb36) rfl (by kernel_rfl) (by kernel_rfl) (by kernel_rfl) (fun _ _ _ h => h) (Or.inl ⟨by rfl, fun w hSw => ?hyb36⟩) (by assumption) ?rb36
                case hyb36 => (try dsimp only at hSw); go_simp; (try with_reducible rfl)
                (try simp only [Act.put, List.setIfInBounds_toArray, List.set_cons_zero, List.set_cons_succ])
                refine wpAnyH_take (i := 37) (oi := ({ dst := some 130, op := Op.load 27 (Operand.tmp 129), type := 27, pos := "outright.go:49", after := #[{ on := 36, ground := Ground.data }, { on := 34, ground := Ground.guard }], guard := some (34, true) } : Oper)) (v := ?vb37) rfl (by kernel_rfl) (by kernel_rfl) (by kernel_rfl) (fun _ _ _ h => h) (Or.inl ⟨by rfl, fun w hSw => ?hyb37⟩) (by assumption) ?rb37
                case hyb37 => (try dsimp only at hSw); go_simp; (try with_reducible rfl)
                (try simp only [Act.put, List.setIfInBounds_toArray, List.set_cons_zero, List.set_cons_succ])
                refine wpAnyH_ready (rs := [38]) (by kernel_rfl) (by simp) ?_
                refine AllReadyH.cons (o := ({ dst := some 131, op := Op.call { callee := Callee.value (Operand.func 12), args := #[Operand.tmp 128, Operand.tmp 130], argTypes := #[32, 27] }, type := 28, pos := "outright.go:49", after := #[{ on := 35, ground := Ground.data }, { on := 37, ground := Ground.data }, { on := 34, ground := Ground.chain }, { on := 34, ground := Ground.guard }], guard := some (34, true) } : Oper)) rfl (fun K hK => ?_) AllReadyH.nil
                go_simp
                (refine (HPK.out _ hHeld.2.2.st).mono ?_; rintro e w1 ⟨rfl, rfl⟩)
                refine hK.out _ _ ?_ (fun hHeld => ?_)
                · exact hHeld
                clear hK K
                (try simp only [Act.put, List.setIfInBounds_toArray, List.set_cons_zero, List.set_cons_succ])
                refine wpAnyH_take (i := 39) (oi := ({ dst := some 132, op := Op.binOp BinOp.gtr 28 (Operand.tmp 131) (Operand.const (Value.int IntKind.u64 255)) 28, type := 4, pos := "outright.go:49", after := #[{ on := 38, ground := Ground.data }, { on := 34, ground := Ground.guard }], guard := some (34, true) } : Oper)) (v := ?vb39) rfl (by kernel_rfl) (by kernel_rfl) (by kernel_rfl) (fun _ _ _ h => h) (Or.inl ⟨by rfl, fun w hSw => ?hyb39⟩) (by assumption) ?rb39
                case hyb39 => (try dsimp only at hSw); go_simp; (try with_reducible rfl)
                (try simp only [Act.put, List.setIfInBounds_toArray, List.set_cons_zero, List.set_cons_succ])
                refine wpAnyH_take (i := 40) (oi := ({ dst := some 133, op := Op.pick (Operand.tmp 127) (Operand.tmp 132) (Operand.const (Value.bool false)), type := 4, pos := "outright.go:49", after := #[{ on := 34, ground := Ground.data }, { on := 39, ground := Ground.data }, { on := 30, ground := Ground.guard }], guard := some (30, false) } : Oper)) (v := ?vb40) rfl (by kernel_rfl) (by kernel_rfl) (by kernel_rfl) (fun _ _ _ h => h) (Or.inl ⟨by rfl, fun w hSw => ?hyb40⟩) (by assumption) ?rb40
                case hyb40 => (try dsimp only at hSw); go_simp; (try with_reducible rfl)
                (try simp only [Act.put, List.setIfInBounds_toArray, List.set_cons_zero, List.set_cons_succ])
                refine wpAnyH_take (i := 41) (oi := ({ dst := some 134, op := Op.pick (Operand.tmp 123) (Operand.const (Value.bool true)) (Operand.tmp 133), type := 4, pos := "outright.go:49", after := #[{ on := 30, ground := Ground.data }, { on := 40, ground := Ground.data }], guard := none } : Oper)) (v := ?vb41) rfl (by kernel_rfl) (by kernel_rfl) (by kernel_rfl) (fun _ _ _ h => h) (Or.inl ⟨by rfl, fun w hSw => ?hyb41⟩) (by assumption) ?rb41
                case hyb41 => (try dsimp only at hSw); go_simp; (try with_reducible rfl)
                (try simp only [Act.put, List.setIfInBounds_toArray, List.set_cons_zero, List.set_cons_succ])
                refine wpAnyH_done (by kernel_rfl) ?_ _

                go_wp2_with fail
                go_meet
                case rel => exact ⟨rfl, hHeld.2.2⟩
            case rest =>
              obtain ⟨rfl, hdx⟩ := hcut
              have HDX := Lib.hid hdx
              have HM2 := Lib.hid HM.out.low
              have HBX := Lib.hid hbox
              clear hdx hd hbox hck hsm hf2 hf3 hw1
              go_wp2_with fail
              go_loopg [9] j (fun q s9 wy => ∃ t : Nat, t ≤ j ∧ q = j - t ∧ s9 = .int .i64 t ∧ Hd wm b L' k kd' (A k) x y wy)
              case atStart => exact ⟨0, by omega, rfl, rfl, HDX.out⟩
              case round =>
                obtain ⟨t, ht, rfl, rfl, hdy⟩ := hrel
                have HDY := Lib.hid hdy
                have bz := hdy.st.size
                have HC4 := Lib.hid (HC.out.below ((HM2.out).trans (hdy.low.mono (B' := b) (by have := HM.out.lt; omega))) hlb)
                have z0 := (hdy.low.cell (p := ⟨wo.heap.size, 1, none⟩) (by exact hxl)).trans HBX.out
                clear hdy
                by_cases htj : t < j
                · obtain ⟨z1, z1l⟩ := HC4.out.a t htj
                  have z2 := (HDY.out.low.cell (p := ⟨g, t, none⟩) (by exact hg2)).trans (HCS.out t htj)
                  by_cases hat : A t = A k
                  · rw [hat] at z1 z2
                    clear hat
                    have zb : ((A k : Int) != (A k : Int)) = false := by simp
                    go_upto_region 31 with (fail)
                    go_quiet (fail)
                    go_wp2_with fail
                    go_roundg (j - (t + 1))
                    case measure => omega
                    case rel => exact ⟨t + 1, by omega, rfl, by go_num, HDY.out.drewN _⟩
                  · have hpk := fun W h => st_peek W b b L' (k + 1) kd' (A k) x y (A t) h z1l
                    rw [HOTH.out _ hat] at hpk
                    have HPK2 := Lib.hid hpk
                    have zb : ((A t : Int) != (A k : Int)) = true := by rw [bne_iff_ne]; omega
                    clear hpk hat
                    generalize look L (A t) = q at *
                    have HZ2 := Lib.hid z2
                    go_upto_region 31 with (fail)
                    go_quiet ((go_at_call 12; refine Calls.quiet_of_same ((HPK2.out _ (HDY.out.drewN _).st).mono fun _ _ h => ⟨h.1, h.2.symm⟩)))
                    go_wp2_with fail
                    go_roundg (j - (t + 1))
                    case measure => omega
                    case rel => exact ⟨t + 1, by omega, rfl, by go_num, HDY.out.drewN _⟩
                · go_wp2_with fail
                  go_roundg (j - (k + 1))
                  case measure => omega
                  case rel => exact ⟨k + 1, L', kd', A k, x, y, by omega, rfl, by go_num, HDY.out.st, HBYT.out, HM2.out.trans (HDY.out.low.mono (by have := HM.out.lt; omega))⟩
    · go_wp2_with fail
      refine (QL.out _).mono ?_
      rintro e w2 ⟨rfl, b2⟩
      have B2 := Lib.hid b2; clear b2
      go_wp2_with fail
      go_ret
      refine ⟨rfl, ?_⟩
      rw [← HB.out]
      exact BW.out.trans (B2.out.mono S.out.size)
end Go.Proofs.Ytikjlmlbbjbcmaa
