/- LinksQueue's walk. -/
import Derived.Test.YtlmgboggnljefaaQ1
import Derived.Test.YtlmgboggnljefaaQ2
import Derived.Test.YtlmgboggnljefaaD1
namespace Go.Proofs.Ytlmgboggnljefaa
open Go.RowKit

/-- Bytes that lie below a base. -/
def BytesIn (w : World) (base : Nat) (p : Option Addr) (n : Nat) (b : Nat → Nat) : Prop := 0 < n → ∃ lb lo, p = some ⟨lb, lo, none⟩ ∧ lb < base ∧ ∀ i, i < n →
  w.cell? ⟨lb, lo + i, none⟩ = some (.int .u8 (b i : Nat)) ∧ b i < 256
theorem BytesIn.below {w w' : World} {base c : Nat} {p : Option Addr} {n : Nat} {b : Nat → Nat} (h : BytesIn w base p n b) (hb : Below c w w') (hbb : base ≤ c) : BytesIn w' base p n b := fun hp => by
  obtain ⟨lb, lo, e, hl, hc⟩ := h hp
  have q : ∀ o, w'.cell? ⟨lb, o, none⟩ = w.cell? ⟨lb, o, none⟩ := fun o => hb.cell (p := ⟨lb, o, none⟩) (by show lb < c; omega)
  exact ⟨lb, lo, e, hl, fun i hi => ⟨(q _).trans (hc i hi).1, (hc i hi).2⟩⟩
/-- The i-th. -/
def el (q : List Nat) (i : Nat) : Nat := q[i]!
section
variable {S : Lk} {q : List Nat} {k : Nat}
theorem Queue.seek' (h : Queue S q k) : (seekO S (some (el q (q.length - 1)))).2 = el q 0 + 1 ∧ Queue (seekO S (some (el q (q.length - 1)))).1 q (q.length - 1) := h.seek
theorem Queue.cut' (h : Queue S q (q.length - 1)) : (cutO S (some (el q (q.length - 1))) (some (el q 0))).2 = Ytlmgboggnljefaa.nx q ∧ Good (cutO S (some (el q (q.length - 1))) (some (el q 0))).1 q.tail := h.cut
theorem Queue.push' (h : Queue S q k) {t : Nat} (ht : t < 64) (hn : ∀ i, i < q.length → el q i ≠ t) : Queue (pushS S (some t) (some (el q (q.length - 1)))) (q ++ [t]) k := h.push ht hn
theorem Queue.nx' (h : Queue S q (q.length - 1)) : S (el q 0 * 3 + 1) = Ytlmgboggnljefaa.nx q := h.nx
theorem Queue.tail' (h : Queue S q (q.length - 1)) : S (el q (q.length - 1) * 3 + 2) = el q 0 + 1 := h.tail
theorem Queue.lt' (h : Queue S q k) {i : Nat} (hi : i < q.length) : el q i < 64 := h.lt i hi
end
/-- Is a thread among the first j? -/
def seen (q : List Nat) (t : Nat) : Nat → Bool
  | 0 => false
  | j + 1 => seen q t j || ((el q j) == t)
theorem seen_not {q : List Nat} {t : Nat} : ∀ {n : Nat}, seen q t n = false → ∀ i, i < n → (el q i) ≠ t
  | n + 1, h, i, hi, e => by
    rw [seen, Bool.or_eq_false_iff] at h
    by_cases hin : i < n
    · exact seen_not h.1 i hin e
    · obtain rfl : i = n := by omega
      simp [e] at h
theorem seen_true {q : List Nat} {t j : Nat} (h : seen q t j = true) : seen q t (j + 1) = true := by rw [seen, h]; rfl
theorem seen_step {q : List Nat} {t j : Nat} (h : seen q t j = false) : seen q t (j + 1) = ((el q j) == t) := by rw [seen, h]; rfl
theorem num_byte (c : Nat) : Num ((c : Int) / 4 % 64) (some (c / 4 % 64)) := by unfold Num; omega
theorem Rd.one (w : World) (t : Nat) : Rd (w.alloc (.cells #[.int .i64 (t : Int)] 3)) (w.alloc (.cells #[.int .i64 (t : Int)] 3)).heap.size (some ⟨w.heap.size, 0, none⟩) [t] := fun _ => by
  refine ⟨w.heap.size, 0, rfl, by simp, fun i hi => ?_⟩
  obtain rfl : i = 0 := by simpa using hi
  rw [World.cell?_alloc_at _ _ _ _ rfl]
  rfl
/-- What holds at a round's head. -/
structure Head (w0 w : World) (B : Nat) (S : Lk) (q : List Nat) (s : Value) : Prop where
  own : Own w0 w B S
  row : Row w w0.heap.size s q
  ne : s.ownBlock ≠ some B
  good : Good S q
section
variable {w0 w w' : World} {B : Nat} {S S' : Lk} {q q' : List Nat} {s s' : Value}
theorem Row.new {base : Nat} (h : Row w base s q) (b : Below w.heap.size w w') : Row w' base s q := h.keep (turns_new (fun _ => False) b) (fun _ _ e => e)
/-- Behind a push and an append. -/
theorem Head.more (ho : Own w0 w B S') (hne : s.ownBlock ≠ some B) (hg : Good S' q') (hr : Row w' w0.heap.size s' q') (ht : Turns (fun k => s.ownBlock = some k) w w') (hs : s'.ownBlock = s.ownBlock ∨ s'.ownBlock = some w.heap.size) (hb : ∀ g, s.ownBlock = some g → w0.heap.size ≤ g) : Head w0 w' B S' q' s' := by
  refine ⟨⟨ho.has.kept ht (fun e => hne e), ho.ge, ho.below.trans (ht.below ho.below.size (fun k hk e => by have := hb k e; omega))⟩, hr, fun e => ?_, hg⟩
  rcases hs with e' | e'
  · exact hne (e'.symm.trans e)
  · rw [e'] at e
    injection e with e
    have := ho.has.lt
    omega
theorem Row.open {base : Nat} {A : Option Addr} {cap : Nat} (h : Row w base (.slice A q.length cap) q) (hp : 0 < q.length) : ∃ g o, A = some ⟨g, o, none⟩ ∧ base ≤ g ∧ g < w.heap.size ∧ q.length ≤ cap ∧ cap ≤ maxLen ∧ ∀ i, i < q.length → w.cell? ⟨g, o + i, none⟩ = some (.int .i64 ((el q i) : Nat)) := by
  obtain ⟨A', cap', e, h1, h2, h3, h4⟩ := h
  cases e
  cases A with
  | none => have := h3 rfl; omega
  | some ad =>
    obtain ⟨g, o, rfl, hb, hlt, hl, hc⟩ := h4 ad rfl
    exact ⟨g, o, rfl, hb, hlt, h1, h2, hl⟩
theorem Row.rest {base g o cap : Nat} (h : Row w base (.slice (some ⟨g, o, none⟩) q.length cap) q) (hp : 0 < q.length) : Row w base (.slice (some ⟨g, if cap = 1 then o else o + 1, none⟩) (q.length - 1) (cap - 1)) q.tail := by
  cases q with
  | nil => simp at hp
  | cons d D =>
    obtain ⟨g', o', cap', e, _, _, _, hr⟩ := h.tail
    cases e
    exact hr
theorem nx_more (h : 1 < q.length) : ((nx q : Nat) : Int) - 1 = ((el q 1) : Nat) := by unfold nx el; rw [if_pos h]; omega
theorem nx_one (h : ¬ 1 < q.length) : ((nx q : Nat) : Int) - 1 = -1 := by unfold nx; rw [if_neg h]; rfl
theorem field38_1 (a b c : Int) (w : World) : (Instr.field 38 (.agg #[.int .i64 a, .int .i64 b, .int .i64 c]) 1).run Try.prog w = .ok (.int .i64 b) w := by kernel_rfl
theorem field38_2 (a b c : Int) (w : World) : (Instr.field 38 (.agg #[.int .i64 a, .int .i64 b, .int .i64 c]) 2).run Try.prog w = .ok (.int .i64 c) w := by kernel_rfl
end

set_option maxHeartbeats 4000000 in
set_option maxRecDepth 100000 in
theorem law_queue (p : Option Addr) (n c : Nat) (b : Nat → Nat) (hn2 : n ≤ 9223372036854775807) (w : World) (hin : BytesIn w w.heap.size p n b) :
    Calls Try.prog 5 #[.slice p n c] w fun e w' => e = .returned (.bool true) ∧ Below w.heap.size w w' := by
  have hl := lives_any
  have HL := Lib.hid hl; have HIN := Lib.hid hin
  clear hl hin
  by_cases hn : n ≤ 300
  · have hnew := new_any w
    have HN := Lib.hid hnew
    clear hnew
    go_enter Try.func5, Try.ntmps5
    go_wp2_with fail
    refine HN.out.mono ?_
    rintro e w1 ⟨rfl, h1, b1⟩
    obtain ⟨B, hB⟩ : ∃ B, B = w.heap.size := ⟨_, rfl⟩
    rw [← hB] at h1
    have O1 := Lib.hid (Own.mk (w0 := w) h1 (by omega) b1)
    rw [← hB]
    have HB := Lib.hid hB
    clear h1 b1 hB
    go_wp2_with fail
    go_loopg [4, 5] n (fun r s4 s5 wx => ∃ (k : Nat) (S : Lk) (q : List Nat), k ≤ n ∧ r = n - k ∧ s5 = .int .i64 (k : Int) ∧ Head w wx B S q s4)
    case atStart => exact ⟨0, S0, [], by omega, rfl, rfl, O1.out, row_nil _ _, (by intro e; cases e), .inl rfl⟩
    case round =>
      obtain ⟨k, S, q, hk, rfl, rfl, ho, hrow, hne, hgood⟩ := hrel
      have hlt := hrow.lt
      have O2 := Lib.hid ho; have RW := Lib.hid hrow; have NE := Lib.hid hne; have GD := Lib.hid hgood; have LT := Lib.hid hlt
      obtain ⟨A, cap, hs⟩ := hrow.shape
      subst hs
      have hql : q.length ≤ 64 := by
        rcases hgood with rfl | ⟨_, hq⟩
        · simp
        · exact short q hq.nodup hq.lt
      clear ho hrow hne hgood hlt
      by_cases hkn : k < n
      · obtain ⟨lb, lo, rfl, hlb, hcs⟩ := (HIN.out.below O2.out.below (Nat.le_refl _)) (by omega)
        obtain ⟨m0, m1⟩ := hcs k hkn
        have HNB := Lib.hid (num_byte (b k))
        clear hcs
        go_upto_region 9 with (fail)
        obtain ⟨t, ht⟩ : ∃ t, b k / 4 % 64 = t := ⟨_, rfl⟩
        rw [ht] at HNB
        have ht64 : t < 64 := HNB.out.2
        clear ht
        generalize ((b k : Nat) : Int) / 4 % 64 = x at *
        obtain ⟨rfl, _⟩ := HNB.out
        clear HNB
        by_cases hq0 : q = []
        · subst hq0
          rw [List.length_nil]
          go_wp2_with fail
          go_loop [8, 9] (fun s8 s9 => s8 = .bool false ∧ s9 = .int .i64 0) (fun _ _ => 0)
          case atStart => exact ⟨rfl, rfl⟩
          case round =>
            obtain ⟨rfl, rfl⟩ := hrel
            by_cases hc2 : b k % 4 < 2
            · have e2 : decide (((b k : Nat) : Int) % 4 < 2) = true := by simp; omega
              have hpu := push_lit O2.out.has (nm t ht64) nm1 rfl
              have HPU := Lib.hid hpu
              clear hpu hc2
              obtain ⟨wo, rfl⟩ : ∃ wo : World, wo = wr := ⟨_, rfl⟩
              go_wp2_with fail
              refine HPU.out.mono ?_
              rintro e w3 ⟨rfl, s3⟩
              have O3 := Lib.hid (O2.out.next s3)
              have R3 := Lib.hid (RW.out.keep s3.2 (fun g hg e => NE.out (by rw [hg, e])))
              have GD3 := Lib.hid (show Good _ ([] ++ [t]) from .inr ⟨0, queue_one (S := S) ht64⟩)
              clear s3
              have hrf : 1 = [t].length := rfl
              have hlen1 : ([] : List Nat).length + [t].length ≤ 1000000 := by (try simp) <;> omega
              have HRF := Lib.hid hrf; have HL1 := Lib.hid hlen1
              clear hrf hlen1
              have hr0 := R3.out.new (below1 w3 (.cells #[.int .i64 (t : Int)] 3))
              have rd := Rd.one w3 t
              have HR0 := Lib.hid hr0; have RD := Lib.hid rd
              have hsz : w.heap.size ≤ (w3.alloc (.cells #[.int .i64 (t : Int)] 3)).heap.size := by have := O3.out.below.size; simp; omega
              have HSZ := Lib.hid hsz
              have O5 := Lib.hid (O3.out.new (below1 w3 (.cells #[.int .i64 (t : Int)] 3)))
              clear hr0 rd hsz
              go_wp2_with (first
                | (at_builtin; refine wpList_append_row (base := w.heap.size) (v := .slice A ([] : List Nat).length cap) (D := ([] : List Nat)) rfl _ _ rfl (by rfl) HR0.out HSZ.out _ (by rfl) HRF.out RD.out HL1.out ?_; intro v6 w6 hr6 ht6 ho6))
              have hh := Head.more O5.out NE.out GD3.out hr6 ht6 ho6 (fun g hg => (LT.out g hg).1)
              clear ht6 ho6
              have HH := Lib.hid hh
              clear hh
              go_roundg (n - (k + 1))
              case measure => omega
              case rel => exact ⟨k + 1, _, _, by omega, rfl, by go_num, HH.out⟩
            · have e2 : decide (((b k : Nat) : Int) % 4 < 2) = false := by simp; omega
              clear hc2
              go_wp2_with fail
              go_roundg (n - (k + 1))
              case measure => omega
              case rel => exact ⟨k + 1, S, [], by omega, rfl, by go_num, O2.out, RW.out, NE.out, GD.out⟩
        · have hp : 0 < q.length := List.length_pos_iff.2 hq0
          obtain ⟨kk, hqu⟩ := GD.out.resolve_left hq0
          have H00 := Lib.hid (hqu.lt' hp)
          have HHD := Lib.hid (hqu.lt' (i := q.length - 1) (by omega))
          have QU := Lib.hid hqu
          obtain ⟨g, o, rfl, hgb, hgl, hcap1, hcap2, hcc⟩ := RW.out.open hp
          unfold maxLen at hcap2
          have hgB : g ≠ B := fun e => NE.out (by rw [e]; rfl)
          have HCC := Lib.hid hcc
          have head_cell := hcc (q.length - 1) (by omega)
          clear hqu hcc hq0
          go_wp2_with fail
          go_loop [8, 9] (fun s8 s9 => ∃ j : Nat, j ≤ q.length ∧ s9 = .int .i64 (j : Int) ∧ s8 = .bool (seen q t j)) (fun _ s9 => q.length - (intOf s9).toNat)
          case atStart => exact ⟨0, by omega, rfl, rfl⟩
          case round =>
            obtain ⟨j, hj, rfl, rfl⟩ := hrel
            obtain ⟨bb, hbb⟩ : ∃ bb, seen q t j = bb := ⟨_, rfl⟩
            rw [hbb]
            have HBB := Lib.hid hbb
            clear hbb
            by_cases hjn : j < q.length
            · cases bb with
              | true =>
                go_wp2_with fail
                go_round
                case rel => exact ⟨j + 1, by omega, by go_num, by rw [seen_true HBB.out]⟩
                case measure => simp [intOf]; omega
              | false =>
                have cj := HCC.out j hjn
                by_cases hjt : (el q j) = t
                · have tj : ((((el q j) : Nat) : Int) == (t : Int)) = true := by rw [beq_iff_eq]; omega
                  have HJT := Lib.hid hjt
                  clear hjt
                  go_wp2_with fail
                  go_round
                  case rel => exact ⟨j + 1, by omega, by go_num, by rw [seen_step HBB.out, HJT.out]; simp⟩
                  case measure => simp [intOf]; omega
                · have tj : ((((el q j) : Nat) : Int) == (t : Int)) = false := by rw [beq_eq_false_iff_ne]; omega
                  have HJT := Lib.hid hjt
                  clear hjt
                  go_wp2_with fail
                  go_round
                  case rel => exact ⟨j + 1, by omega, by go_num, by rw [seen_step HBB.out]; simp [HJT.out]⟩
                  case measure => simp [intOf]; omega
            · obtain rfl : j = q.length := by omega
              by_cases hc2 : b k % 4 < 2
              · have e2 : decide (((b k : Nat) : Int) % 4 < 2) = true := by simp; omega
                obtain ⟨wo, rfl⟩ : ∃ wo : World, wo = wr := ⟨_, rfl⟩
                cases bb with
                | false =>
                  have hpu := push_lit O2.out.has (nm t ht64) (nm ((el q (q.length - 1))) HHD.out) rfl
                  have HPU := Lib.hid hpu
                  clear hpu hc2 head_cell
                  go_wp2_with fail
                  refine HPU.out.mono ?_
                  rintro e w3 ⟨rfl, s3⟩
                  have O3 := Lib.hid (O2.out.next s3)
                  have R3 := Lib.hid (RW.out.keep s3.2 (fun g hg e => NE.out (by rw [hg, e])))
                  have GD3 := Lib.hid (show Good _ (q ++ [t]) from .inr ⟨kk, QU.out.push' ht64 (seen_not HBB.out)⟩)
                  clear s3
                  have hrf : 1 = [t].length := rfl
                  have hlen1 : q.length + [t].length ≤ 1000000 := by (try simp) <;> omega
                  have HRF := Lib.hid hrf; have HL1 := Lib.hid hlen1
                  clear hrf hlen1
                  have hr0 := R3.out.new (below1 w3 (.cells #[.int .i64 (t : Int)] 3))
                  have rd := Rd.one w3 t
                  have HR0 := Lib.hid hr0; have RD := Lib.hid rd
                  have hsz : w.heap.size ≤ (w3.alloc (.cells #[.int .i64 (t : Int)] 3)).heap.size := by have := O3.out.below.size; simp; omega
                  have HSZ := Lib.hid hsz
                  have O5 := Lib.hid (O3.out.new (below1 w3 (.cells #[.int .i64 (t : Int)] 3)))
                  clear hr0 rd hsz
                  go_wp2_with (first
                    | (at_builtin; refine wpList_append_row (base := w.heap.size) (v := .slice (some ⟨g, o, none⟩) q.length cap) (D := q) rfl _ _ rfl (by rfl) HR0.out HSZ.out _ (by rfl) HRF.out RD.out HL1.out ?_; intro v6 w6 hr6 ht6 ho6))
                  have hh := Head.more O5.out NE.out GD3.out hr6 ht6 ho6 (fun g hg => (LT.out g hg).1)
                  clear ht6 ho6
                  have HH := Lib.hid hh
                  clear hh
                  go_roundg (n - (k + 1))
                  case measure => omega
                  case rel => exact ⟨k + 1, _, _, by omega, rfl, by go_num, HH.out⟩
                | true =>
                  have hsk := QU.out.seek'
                  have hs := seek_lit (v := (((el q 0) : Nat) : Int)) O2.out.has (nm ((el q (q.length - 1))) HHD.out) rfl hsk.1 (by omega)
                  obtain ⟨S1, hS1⟩ : ∃ S1, S1 = (seekO S (some (el q (q.length - 1)))).1 := ⟨_, rfl⟩
                  rw [← hS1] at hs hsk
                  have HS := Lib.hid hs; have Q1 := Lib.hid hsk.2
                  clear hs hsk hS1
                  go_wp2_with fail
                  refine HS.out.mono ?_
                  rintro e w3 ⟨rfl, s3⟩
                  have hr3 := RW.out.keep s3.2 (fun j hg e => NE.out (by rw [hg, e]))
                  obtain ⟨_, _, hAe, _, hg3, _, _, hc3⟩ := hr3.open hp
                  cases hAe
                  have O3 := Lib.hid (O2.out.next s3); have R3 := Lib.hid hr3
                  have r0 := hc3 0 hp
                  rw [Nat.add_zero] at r0
                  have HC3 := Lib.hid hc3
                  clear s3 hr3 hc3 head_cell
                  by_cases hone : 1 < q.length
                  · have r1 := HC3.out 1 hone
                    have hnx : ((nx q : Nat) : Int) - 1 = (((el q 1) : Nat) : Int) := nx_more hone
                    have ha := at_val (v := (((el q 1) : Nat) : Int)) O3.out.has (nm ((el q 0)) H00.out) rfl (by rw [Q1.out.nx']; exact hnx) rfl
                    obtain ⟨u, hu⟩ : ∃ u, (S1 ((el q 0) * 3) : Int) - 1 = u := ⟨_, rfl⟩
                    obtain ⟨z, hz⟩ : ∃ z, (S1 ((el q 0) * 3 + 2) : Int) - 1 = z := ⟨_, rfl⟩
                    rw [hu, hz] at ha
                    have HA := Lib.hid ha
                    have f1 := field38_1 u (((el q 1) : Nat) : Int) z
                    have HNX := Lib.hid hnx
                    clear hu hz ha hnx
                    go_wp2_with fail
                    refine HA.out.mono ?_
                    rintro e w4 ⟨rfl, hb4⟩
                    have O4 := Lib.hid (O3.out.new hb4); have R4 := Lib.hid (R3.out.new hb4)
                    clear hb4 r0 r1
                    have ha := at_val (z := (((el q 0) : Nat) : Int)) O4.out.has (nm ((el q (q.length - 1))) HHD.out) rfl rfl (by rw [Q1.out.tail']; omega)
                    obtain ⟨u', hu⟩ : ∃ u, (S1 ((el q (q.length - 1)) * 3) : Int) - 1 = u := ⟨_, rfl⟩
                    obtain ⟨z', hz⟩ : ∃ z, (S1 ((el q (q.length - 1)) * 3 + 1) : Int) - 1 = z := ⟨_, rfl⟩
                    rw [hu, hz] at ha
                    have HA2 := Lib.hid ha
                    have f2 := field38_2 u' z' (((el q 0) : Nat) : Int)
                    clear hu hz ha
                    go_wp2_with fail
                    refine HA2.out.mono ?_
                    rintro e w5 ⟨rfl, hb5⟩
                    have O5 := Lib.hid (O4.out.new hb5); have R5 := Lib.hid (R4.out.new hb5)
                    obtain ⟨_, _, hAe, _, hcs⟩ := (HIN.out.below O5.out.below (Nat.le_refl _)) (by omega)
                    cases hAe
                    have m5 := (hcs k hkn).1
                    clear hb5 hcs
                    have e3 : ((((b k : Nat) : Int) % 4) == 3) = false := by rw [beq_eq_false_iff_ne]; omega
                    go_wp2_with fail
                    go_roundg (n - (k + 1))
                    case measure => omega
                    case rel => exact ⟨k + 1, S1, q, by omega, rfl, by go_num, O5.out, R5.out, NE.out, .inr ⟨_, Q1.out⟩⟩
                  · have t1n : decide ((1 : Int) < (q.length : Int)) = false := by simp; omega
                    have hnx : ((nx q : Nat) : Int) - 1 = (-1) := nx_one hone
                    have ha := at_val (v := (-1)) O3.out.has (nm ((el q 0)) H00.out) rfl (by rw [Q1.out.nx']; exact hnx) rfl
                    obtain ⟨u, hu⟩ : ∃ u, (S1 ((el q 0) * 3) : Int) - 1 = u := ⟨_, rfl⟩
                    obtain ⟨z, hz⟩ : ∃ z, (S1 ((el q 0) * 3 + 2) : Int) - 1 = z := ⟨_, rfl⟩
                    rw [hu, hz] at ha
                    have HA := Lib.hid ha
                    have f1 := field38_1 u (-1) z
                    have HNX := Lib.hid hnx
                    clear hu hz ha hnx hone
                    go_wp2_with fail
                    refine HA.out.mono ?_
                    rintro e w4 ⟨rfl, hb4⟩
                    have O4 := Lib.hid (O3.out.new hb4); have R4 := Lib.hid (R3.out.new hb4)
                    clear hb4 r0
                    have ha := at_val (z := (((el q 0) : Nat) : Int)) O4.out.has (nm ((el q (q.length - 1))) HHD.out) rfl rfl (by rw [Q1.out.tail']; omega)
                    obtain ⟨u', hu⟩ : ∃ u, (S1 ((el q (q.length - 1)) * 3) : Int) - 1 = u := ⟨_, rfl⟩
                    obtain ⟨z', hz⟩ : ∃ z, (S1 ((el q (q.length - 1)) * 3 + 1) : Int) - 1 = z := ⟨_, rfl⟩
                    rw [hu, hz] at ha
                    have HA2 := Lib.hid ha
                    have f2 := field38_2 u' z' (((el q 0) : Nat) : Int)
                    clear hu hz ha
                    go_wp2_with fail
                    refine HA2.out.mono ?_
                    rintro e w5 ⟨rfl, hb5⟩
                    have O5 := Lib.hid (O4.out.new hb5); have R5 := Lib.hid (R4.out.new hb5)
                    obtain ⟨_, _, hAe, _, hcs⟩ := (HIN.out.below O5.out.below (Nat.le_refl _)) (by omega)
                    cases hAe
                    have m5 := (hcs k hkn).1
                    clear hb5 hcs
                    have e3 : ((((b k : Nat) : Int) % 4) == 3) = false := by rw [beq_eq_false_iff_ne]; omega
                    go_wp2_with fail
                    go_roundg (n - (k + 1))
                    case measure => omega
                    case rel => exact ⟨k + 1, S1, q, by omega, rfl, by go_num, O5.out, R5.out, NE.out, .inr ⟨_, Q1.out⟩⟩
              · have e2 : decide (((b k : Nat) : Int) % 4 < 2) = false := by simp; omega
                obtain ⟨wo, rfl⟩ : ∃ wo : World, wo = wr := ⟨_, rfl⟩
                have hsk := QU.out.seek'
                have hs := seek_lit (v := (((el q 0) : Nat) : Int)) O2.out.has (nm ((el q (q.length - 1))) HHD.out) rfl hsk.1 (by omega)
                obtain ⟨S1, hS1⟩ : ∃ S1, S1 = (seekO S (some (el q (q.length - 1)))).1 := ⟨_, rfl⟩
                rw [← hS1] at hs hsk
                have HS := Lib.hid hs; have Q1 := Lib.hid hsk.2
                clear hs hsk hS1
                go_wp2_with fail
                refine HS.out.mono ?_
                rintro e w3 ⟨rfl, s3⟩
                have hr3 := RW.out.keep s3.2 (fun j hg e => NE.out (by rw [hg, e]))
                obtain ⟨_, _, hAe, _, hg3, _, _, hc3⟩ := hr3.open hp
                cases hAe
                have O3 := Lib.hid (O2.out.next s3); have R3 := Lib.hid hr3
                have r0 := hc3 0 hp
                rw [Nat.add_zero] at r0
                have HC3 := Lib.hid hc3
                clear s3 hr3 hc3 head_cell
                by_cases hone : 1 < q.length
                · have r1 := HC3.out 1 hone
                  have hnx : ((nx q : Nat) : Int) - 1 = (((el q 1) : Nat) : Int) := nx_more hone
                  have ha := at_val (v := (((el q 1) : Nat) : Int)) O3.out.has (nm ((el q 0)) H00.out) rfl (by rw [Q1.out.nx']; exact hnx) rfl
                  obtain ⟨u, hu⟩ : ∃ u, (S1 ((el q 0) * 3) : Int) - 1 = u := ⟨_, rfl⟩
                  obtain ⟨z, hz⟩ : ∃ z, (S1 ((el q 0) * 3 + 2) : Int) - 1 = z := ⟨_, rfl⟩
                  rw [hu, hz] at ha
                  have HA := Lib.hid ha
                  have f1 := field38_1 u (((el q 1) : Nat) : Int) z
                  have HNX := Lib.hid hnx
                  clear hu hz ha hnx
                  go_wp2_with fail
                  refine HA.out.mono ?_
                  rintro e w4 ⟨rfl, hb4⟩
                  have O4 := Lib.hid (O3.out.new hb4); have R4 := Lib.hid (R3.out.new hb4)
                  clear hb4 r0 r1
                  have ha := at_val (z := (((el q 0) : Nat) : Int)) O4.out.has (nm ((el q (q.length - 1))) HHD.out) rfl rfl (by rw [Q1.out.tail']; omega)
                  obtain ⟨u', hu⟩ : ∃ u, (S1 ((el q (q.length - 1)) * 3) : Int) - 1 = u := ⟨_, rfl⟩
                  obtain ⟨z', hz⟩ : ∃ z, (S1 ((el q (q.length - 1)) * 3 + 1) : Int) - 1 = z := ⟨_, rfl⟩
                  rw [hu, hz] at ha
                  have HA2 := Lib.hid ha
                  have f2 := field38_2 u' z' (((el q 0) : Nat) : Int)
                  clear hu hz ha
                  go_wp2_with fail
                  refine HA2.out.mono ?_
                  rintro e w5 ⟨rfl, hb5⟩
                  have O5 := Lib.hid (O4.out.new hb5); have R5 := Lib.hid (R4.out.new hb5)
                  obtain ⟨_, _, hAe, _, hcs⟩ := (HIN.out.below O5.out.below (Nat.le_refl _)) (by omega)
                  cases hAe
                  have m5 := (hcs k hkn).1
                  clear hb5 hcs
                  by_cases hc3 : b k % 4 = 3
                  · have e3 : ((((b k : Nat) : Int) % 4) == 3) = true := by rw [beq_iff_eq]; omega
                    have hcu := Q1.out.cut'
                    have hc := cut_lit (v := (((el q 1) : Nat) : Int)) O5.out.has (nm ((el q (q.length - 1))) HHD.out) (nm ((el q 0)) H00.out) rfl hcu.1 HNX.out
                    obtain ⟨S2, hS2⟩ : ∃ S2, S2 = (cutO S1 (some (el q (q.length - 1))) (some (el q 0))).1 := ⟨_, rfl⟩
                    rw [← hS2] at hc hcu
                    have HC := Lib.hid hc; have G2 := Lib.hid hcu.2
                    clear hc hcu hS2
                    go_wp2_with fail
                    refine HC.out.mono ?_
                    rintro e w6 ⟨rfl, s6⟩
                    have O6 := Lib.hid (O5.out.next s6); have R6 := Lib.hid (R5.out.keep s6.2 (fun j hg e => NE.out (by rw [hg, e])))
                    clear s6
                    by_cases hcap : cap = 1
                    · have hr7 := R6.out.rest hp
                      rw [if_pos hcap] at hr7
                      rw [show q.length - 1 = 0 by omega, show cap - 1 = 0 by omega] at hr7
                      have R7 := Lib.hid hr7
                      clear hr7
                      subst hcap
                      go_wp2_with fail
                      go_roundg (n - (k + 1))
                      case measure => omega
                      case rel => exact ⟨k + 1, S2, q.tail, by omega, rfl, by go_num, O6.out, R7.out, NE.out, G2.out⟩
                    · have hr7 := R6.out.rest hp
                      rw [if_neg hcap] at hr7
                      have hcap3 := hcap
                      have R7 := Lib.hid hr7
                      clear hr7
                      have hcap2 : 1 < cap := by omega
                      go_wp2_with fail
                      go_roundg (n - (k + 1))
                      case measure => omega
                      case rel => exact ⟨k + 1, S2, q.tail, by omega, rfl, by go_num, O6.out, R7.out, NE.out, G2.out⟩
                  · have e3 : ((((b k : Nat) : Int) % 4) == 3) = false := by rw [beq_eq_false_iff_ne]; omega
                    go_wp2_with fail
                    go_roundg (n - (k + 1))
                    case measure => omega
                    case rel => exact ⟨k + 1, S1, q, by omega, rfl, by go_num, O5.out, R5.out, NE.out, .inr ⟨_, Q1.out⟩⟩
                · have t1n : decide ((1 : Int) < (q.length : Int)) = false := by simp; omega
                  have hnx : ((nx q : Nat) : Int) - 1 = (-1) := nx_one hone
                  have ha := at_val (v := (-1)) O3.out.has (nm ((el q 0)) H00.out) rfl (by rw [Q1.out.nx']; exact hnx) rfl
                  obtain ⟨u, hu⟩ : ∃ u, (S1 ((el q 0) * 3) : Int) - 1 = u := ⟨_, rfl⟩
                  obtain ⟨z, hz⟩ : ∃ z, (S1 ((el q 0) * 3 + 2) : Int) - 1 = z := ⟨_, rfl⟩
                  rw [hu, hz] at ha
                  have HA := Lib.hid ha
                  have f1 := field38_1 u (-1) z
                  have HNX := Lib.hid hnx
                  clear hu hz ha hnx hone
                  go_wp2_with fail
                  refine HA.out.mono ?_
                  rintro e w4 ⟨rfl, hb4⟩
                  have O4 := Lib.hid (O3.out.new hb4); have R4 := Lib.hid (R3.out.new hb4)
                  clear hb4 r0
                  have ha := at_val (z := (((el q 0) : Nat) : Int)) O4.out.has (nm ((el q (q.length - 1))) HHD.out) rfl rfl (by rw [Q1.out.tail']; omega)
                  obtain ⟨u', hu⟩ : ∃ u, (S1 ((el q (q.length - 1)) * 3) : Int) - 1 = u := ⟨_, rfl⟩
                  obtain ⟨z', hz⟩ : ∃ z, (S1 ((el q (q.length - 1)) * 3 + 1) : Int) - 1 = z := ⟨_, rfl⟩
                  rw [hu, hz] at ha
                  have HA2 := Lib.hid ha
                  have f2 := field38_2 u' z' (((el q 0) : Nat) : Int)
                  clear hu hz ha
                  go_wp2_with fail
                  refine HA2.out.mono ?_
                  rintro e w5 ⟨rfl, hb5⟩
                  have O5 := Lib.hid (O4.out.new hb5); have R5 := Lib.hid (R4.out.new hb5)
                  obtain ⟨_, _, hAe, _, hcs⟩ := (HIN.out.below O5.out.below (Nat.le_refl _)) (by omega)
                  cases hAe
                  have m5 := (hcs k hkn).1
                  clear hb5 hcs
                  by_cases hc3 : b k % 4 = 3
                  · have e3 : ((((b k : Nat) : Int) % 4) == 3) = true := by rw [beq_iff_eq]; omega
                    have hcu := Q1.out.cut'
                    have hc := cut_lit (v := (-1)) O5.out.has (nm ((el q (q.length - 1))) HHD.out) (nm ((el q 0)) H00.out) rfl hcu.1 HNX.out
                    obtain ⟨S2, hS2⟩ : ∃ S2, S2 = (cutO S1 (some (el q (q.length - 1))) (some (el q 0))).1 := ⟨_, rfl⟩
                    rw [← hS2] at hc hcu
                    have HC := Lib.hid hc; have G2 := Lib.hid hcu.2
                    clear hc hcu hS2
                    go_wp2_with fail
                    refine HC.out.mono ?_
                    rintro e w6 ⟨rfl, s6⟩
                    have O6 := Lib.hid (O5.out.next s6); have R6 := Lib.hid (R5.out.keep s6.2 (fun j hg e => NE.out (by rw [hg, e])))
                    clear s6
                    by_cases hcap : cap = 1
                    · have hr7 := R6.out.rest hp
                      rw [if_pos hcap] at hr7
                      rw [show q.length - 1 = 0 by omega, show cap - 1 = 0 by omega] at hr7
                      have R7 := Lib.hid hr7
                      clear hr7
                      subst hcap
                      go_wp2_with fail
                      go_roundg (n - (k + 1))
                      case measure => omega
                      case rel => exact ⟨k + 1, S2, q.tail, by omega, rfl, by go_num, O6.out, R7.out, NE.out, G2.out⟩
                    · have hr7 := R6.out.rest hp
                      rw [if_neg hcap] at hr7
                      have hcap3 := hcap
                      have R7 := Lib.hid hr7
                      clear hr7
                      have hcap2 : 1 < cap := by omega
                      go_wp2_with fail
                      go_roundg (n - (k + 1))
                      case measure => omega
                      case rel => exact ⟨k + 1, S2, q.tail, by omega, rfl, by go_num, O6.out, R7.out, NE.out, G2.out⟩
                  · have e3 : ((((b k : Nat) : Int) % 4) == 3) = false := by rw [beq_eq_false_iff_ne]; omega
                    go_wp2_with fail
                    go_roundg (n - (k + 1))
                    case measure => omega
                    case rel => exact ⟨k + 1, S1, q, by omega, rfl, by go_num, O5.out, R5.out, NE.out, .inr ⟨_, Q1.out⟩⟩

      · go_wp2_with fail
        refine (HL.out _).mono ?_
        rintro e w5 ⟨rfl, hb⟩
        have HB3 := Lib.hid (O2.out.below.trans (hb.mono O2.out.below.size))
        clear hb
        go_wp2_with fail
        go_ret
        exact ⟨rfl, HB3.out⟩
  · go_enter Try.func5, Try.ntmps5
    go_wp2_with fail
    refine (HL.out _).mono ?_
    rintro e w5 ⟨rfl, hb⟩
    have HB3 := Lib.hid hb
    clear hb
    go_wp2_with fail
    go_ret
    exact ⟨rfl, HB3.out⟩
end Go.Proofs.Ytlmgboggnljefaa
