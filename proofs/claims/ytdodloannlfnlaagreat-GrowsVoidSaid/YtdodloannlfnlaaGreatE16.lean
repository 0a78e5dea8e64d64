/- Texts of this seat, one behind the other. -/
import Derived.Test.YtdodloannlfnlaaGreatE15
import Derived.Deep.RegionHeld3
set_option linter.unusedVariables false
set_option linter.unusedSimpArgs false
namespace Go.Proofs.YtdodloannlfnlaaGreat.S10
open Go.Proofs.YtdodloannlfnlaaGreat
open Go.RowKit

theorem turns_grown {w w' : World} {row : Option Nat} (hg : w.grownBy w' row) : Turns (fun k => row = some k) w w' :=
  ⟨hg.os, hg.tape, hg.output, hg.size, fun k hk hn => hg.block k hk (fun e => hn e.symm)⟩
theorem CB.no {w : World} {v : Value} (h : CB w v) {row : Option Nat} (hr : ∀ r, row = some r → ∃ o : Obj, w.heap[r]? = some o ∧ o.isCells = false) : ∀ g, v.ownBlock = some g → ¬ row = some g := fun g e e' => by
  obtain ⟨cs, t, m, h1⟩ := h g e
  obtain ⟨o, h2, h3⟩ := hr g e'
  rw [h1] at h2
  cases h2
  cases h3
theorem Tab.cb {w : World} {base : Nat} {s : Value} {ss : List Value} {Ls : List (List Ent)} (h : Tab w base s ss Ls) {i : Nat} {v : Value} (hv : ss[i]? = some v) : CB w v := by
  have hi : i < Ls.length := by rw [← h.len]; exact (List.getElem?_eq_some_iff.1 hv).1
  obtain ⟨u, hu, _, hc⟩ := h.qs i hi
  rw [hv] at hu
  cases hu
  exact hc
theorem Tab.rowE {w : World} {base : Nat} {s : Value} {ss : List Value} {Ls : List (List Ent)} (h : Tab w base s ss Ls) {i : Nat} {v : Value} (hv : ss[i]? = some v) : RowE w base v Ls[i]! := by
  have hi : i < Ls.length := by rw [← h.len]; exact (List.getElem?_eq_some_iff.1 hv).1
  obtain ⟨u, hu, hr, hc⟩ := h.qs i hi
  rw [hv] at hu
  cases hu
  exact hr
theorem Tab.grown {w w' : World} {base : Nat} {s : Value} {ss : List Value} {Ls : List (List Ent)} {row : Option Nat} (h : Tab w base s ss Ls) (hg : w.grownBy w' row) (hr : ∀ r, row = some r → ∃ o : Obj, w.heap[r]? = some o ∧ o.isCells = false) : Tab w' base s ss Ls :=
  h.keep (turns_grown hg) (h.out.no hr) (fun i v g hv e => (h.cb hv).no hr g e)
theorem Tab.cell {w : World} {base g o m c : Nat} {ss : List Value} {Ls : List (List Ent)} (h : Tab w base (.slice (some ⟨g, o, none⟩) m c) ss Ls) {i : Nat} {v : Value} (hv : ss[i]? = some v) : w.cell? ⟨g, o + i, none⟩ = some v ∧ w.frozen? ⟨g, o + i, none⟩ = false := by
  obtain ⟨A, cap, e, h0, h1, h2, h3, h4⟩ := h.row
  cases e
  obtain ⟨g', o', e, hb, hlt, hl, hc⟩ := h4 _ rfl
  cases e
  have := (List.getElem?_eq_some_iff.1 hv).1
  exact ⟨hl i v hv, (hc i (by omega)).2⟩
theorem Tab.cell0 {w : World} {base g m c : Nat} {ss : List Value} {Ls : List (List Ent)} (h : Tab w base (.slice (some ⟨g, 0, none⟩) m c) ss Ls) {i : Nat} {v : Value} (hv : ss[i]? = some v) : w.cell? ⟨g, i, none⟩ = some v ∧ w.frozen? ⟨g, i, none⟩ = false := by
  have := h.cell hv
  rwa [Nat.zero_add] at this
theorem info32 : ∃ i, Tryz.prog.info? 77 = some i ∧ i.zero = some (.slice none 0 0) ∧ i.size = 1 ∧ i.bytes = 24 := info_of (by kernel_rfl)
theorem made_nil (n : Nat) : madeCells #[Value.slice none 0 0] n = (List.replicate n (Value.slice none 0 0)).toArray := by
  apply Array.ext
  · simp [madeCells]
  · intro j h1 h2
    simp [madeCells, Nat.mod_one]
theorem make_any (n : Nat) (hn : n ≤ 65536) (w : World) : (Instr.makeSlice 149 (.int .i64 (n : Int)) (.int .i64 (n : Int))).run Tryz.prog w = .ok (.slice (some ⟨w.heap.size, 0, none⟩) n n) (w.alloc (.cells (List.replicate n (Value.slice none 0 0)).toArray 77)) := by
  obtain ⟨i, hi, hz, hsz, hby⟩ := info32
  have hr := run_make (P := Tryz.prog) w 149 77 i (.slice none 0 0) Tryz.underlying149 hi hz .i64 .i64 n n (by omega) (Int.le_refl _) (by rw [hby]; omega) (by omega)
  simp only [Int.toNat_natCast, hsz, Nat.mul_one] at hr
  rw [hr]
  have hm : madeCells (Value.slice none 0 0).cells n = (List.replicate n (Value.slice none 0 0)).toArray := made_nil n
  rw [hm]
theorem tab_made (w : World) (base g n : Nat) (h : w.heap[g]? = some (.cells (List.replicate n (Value.slice none 0 0)).toArray 77 (0, 0))) (hb : base ≤ g) (hn : n ≤ 65536) : Tab w base (.slice (some ⟨g, 0, none⟩) n n) (List.replicate n (.slice none 0 0)) (List.replicate n []) := by
  have hlt := (Array.getElem?_eq_some_iff.1 h).1
  refine ⟨?_, fun i hi => ?_, fun g' e => ?_, fun i v g hv e => ?_, fun i j v u g hv hu e _ => ?_⟩
  · rw [List.length_replicate]
    refine ⟨_, n, rfl, by simp, Nat.le_refl _, by unfold maxLen; omega, (fun e => by cases e), fun ad e => ?_⟩
    cases e
    refine ⟨g, 0, rfl, hb, hlt, fun j u e => ?_, fun j hj => ⟨?_, froz_row h _⟩⟩
    · rw [cell_row h, Nat.zero_add, List.getElem?_toArray]
      exact e
    · rw [cell_row h, Nat.zero_add]
      simp; omega
  · rw [List.length_replicate] at hi
    refine ⟨.slice none 0 0, by simp [hi], ?_, cb_none w⟩
    have : (List.replicate n ([] : List Ent))[i]! = [] := by rw [List.getElem!_eq_getElem?_getD]; simp [List.getElem?_replicate, hi]
    rw [this]
    exact row_nil _ _ _
  · obtain rfl : g = g' := by simpa [Value.ownBlock] using e
    exact ⟨_, _, _, h⟩
  · rw [List.getElem?_replicate] at hv
    split at hv
    · cases hv; simp [Value.ownBlock] at e
    · cases hv
  · rw [List.getElem?_replicate] at hv
    split at hv
    · cases hv; simp [Value.ownBlock] at e
    · cases hv
theorem reh_nil (h : Nat → Nat) (n : Nat) : reh h n [] = List.replicate n [] := by
  refine List.ext_getElem? fun i => ?_
  by_cases hi : i < n
  · simp [reh, bk, hi]
  · rw [List.getElem?_eq_none (by rw [reh_len]; omega), List.getElem?_eq_none (by simp; omega)]
def Hi (ss : List Value) (X : Nat) : Prop := ∀ (i : Nat) (v : Value) (g : Nat), ss[i]? = some v → v.ownBlock = some g → X ≤ g
theorem hi_nil (n X : Nat) : Hi (List.replicate n (.slice none 0 0)) X := fun i v g hv e => by
  rw [List.getElem?_replicate] at hv
  split at hv
  · cases hv; simp [Value.ownBlock] at e
  · cases hv
theorem Hi.set {ss : List Value} {X i : Nat} {v' : Value} (h : Hi ss X) (hv : ∀ g, v'.ownBlock = some g → X ≤ g) : Hi (ss.set i v') X := fun j v g hj e => by
  rw [List.getElem?_set] at hj
  split at hj
  · split at hj
    · cases hj; exact hv g e
    · cases hj
  · exact h j v g hj e
end Go.Proofs.YtdodloannlfnlaaGreat.S10
namespace Go.Proofs.YtdodloannlfnlaaGreat.S10
open Go.Proofs.YtdodloannlfnlaaGreat
open Go.RowKit

attribute [local go_sem] Oper.semAt_some

def el (E : List Ent) (i : Nat) : Ent := E[i]!
theorem Boxed.turn {S : Nat → Prop} {W W' : World} {B : Nat} {t : TypeId} {v : Value} (h : Boxed W B t v) (g : Turns S W W') (hn : ¬ S B) : Boxed W' B t v := (g.block B h.lt hn).trans h
theorem others_turn {S : Nat → Prop} {w w' : World} (t : Turns S w w') (hS : ∀ g, S g → ∃ cs t m, w.heap[g]? = some (.cells cs t m)) : KeepsOthers w w' :=
  ⟨t.size, fun k o hk ho => by
    refine (t.block k (Array.getElem?_eq_some_iff.1 hk).1 (fun e => ?_)).trans hk
    obtain ⟨cs, ty, m, h1⟩ := hS k e
    rw [hk] at h1
    cases h1
    cases ho⟩
def onlyN (Q : Exit → Act → World → Prop) : Exit → Act → World → Prop
  | .normal, a, w => Q .normal a w
  | _, _, _ => False
theorem onlyN_in {Q : Exit → Act → World → Prop} {a : Act} {w : World} (h : Q .normal a w) : onlyN Q .normal a w := h
theorem onlyN_out {Q : Exit → Act → World → Prop} {e : Exit} {a : Act} {w : World} (h : onlyN Q e a w) : Q e a w := by
  cases e <;> first | exact h | exact h.elim
def began (w : World) (b : Int) (n N c : Nat) (A : Option Addr) : World := (((w.alloc (.cells #[.int .i64 b] 3)).alloc (.cells (Array.replicate n (.slice none 0 0)) 77)).alloc (.cells #[.slice (some ⟨w.heap.size + 1, 0, none⟩) n n] 149)).alloc (.cells #[.slice A N c] 149)
theorem began_facts (w : World) (b : Int) (n N c : Nat) (A : Option Addr) : (began w b n N c A).heap.size = w.heap.size + 4 ∧ (began w b n N c A).heap[w.heap.size]? = some (.cells #[.int .i64 b] 3 (0, 0)) ∧ (began w b n N c A).heap[w.heap.size + 1]? = some (.cells (List.replicate n (Value.slice none 0 0)).toArray 77 (0, 0)) ∧
    (began w b n N c A).heap[w.heap.size + 2]? = some (.cells #[.slice (some ⟨w.heap.size + 1, 0, none⟩) n n] 149 (0, 0)) ∧ (began w b n N c A).heap[w.heap.size + 3]? = some (.cells #[.slice A N c] 149 (0, 0)) ∧ Below w.heap.size w (began w b n N c A) := by
  unfold began
  have hb : ∀ (W : World) (o : Obj) (k : Nat), k < W.heap.size → (W.alloc o).heap[k]? = W.heap[k]? := fun W o k h => Below.heap_alloc W o k h
  have s1 : (w.alloc (.cells #[Value.int .i64 b] 3)).heap.size = w.heap.size + 1 := by simp
  generalize hw1 : w.alloc (.cells #[Value.int .i64 b] 3) = w1 at *
  have k1 := heap_alloc_new w (.cells #[Value.int .i64 b] 3)
  rw [hw1] at k1
  have s2 : (w1.alloc (.cells (Array.replicate n (Value.slice none 0 0)) 77)).heap.size = w.heap.size + 2 := by simp; omega
  have k2 := heap_alloc_new w1 (.cells (Array.replicate n (Value.slice none 0 0)) 77)
  have j2 := hb w1 (.cells (Array.replicate n (Value.slice none 0 0)) 77)
  have l2 := below1 w1 (.cells (Array.replicate n (Value.slice none 0 0)) 77)
  generalize w1.alloc (.cells (Array.replicate n (Value.slice none 0 0)) 77) = w2 at *
  have s3 : (w2.alloc (.cells #[Value.slice (some ⟨w.heap.size + 1, 0, none⟩) n n] 149)).heap.size = w.heap.size + 3 := by simp; omega
  have k3 := heap_alloc_new w2 (.cells #[Value.slice (some ⟨w.heap.size + 1, 0, none⟩) n n] 149)
  have j3 := hb w2 (.cells #[Value.slice (some ⟨w.heap.size + 1, 0, none⟩) n n] 149)
  have l3 := below1 w2 (.cells #[Value.slice (some ⟨w.heap.size + 1, 0, none⟩) n n] 149)
  generalize w2.alloc (.cells #[Value.slice (some ⟨w.heap.size + 1, 0, none⟩) n n] 149) = w3 at *
  have s4 : (w3.alloc (.cells #[Value.slice A N c] 149)).heap.size = w.heap.size + 4 := by simp; omega
  have k4 := heap_alloc_new w3 (.cells #[Value.slice A N c] 149)
  have j4 := hb w3 (.cells #[Value.slice A N c] 149)
  have l4 := below1 w3 (.cells #[Value.slice A N c] 149)
  generalize w3.alloc (.cells #[Value.slice A N c] 149) = w4 at *
  rw [s1] at k2; rw [s2] at k3; rw [s3] at k4
  refine ⟨s4, ?_, ?_, ?_, k4, ?_⟩
  · rw [j4 _ (by omega), j3 _ (by omega), j2 _ (by omega)]; exact k1
  · rw [j4 _ (by omega), j3 _ (by omega), k2, List.toArray_replicate]
  · rw [j4 _ (by omega)]; exact k3
  · have l1 := below1 w (.cells #[Value.int .i64 b] 3)
    rw [hw1] at l1
    exact l1.trans ((l2.mono (by omega)).trans ((l3.mono (by omega)).trans (l4.mono (by omega))))

set_option maxHeartbeats 4000000 in
set_option maxRecDepth 100000 in
theorem rehash_any {w : World} {base n c : Nat} {b : Int} {A : Option Addr} {Ls : List (List Ent)} (h : Nat → Nat)
    (hs : ∀ w, Calls Tryz.prog 88 #[.int .i64 b] w fun e w' => e = .returned (.int .i64 (n : Nat)) ∧ w = w')
    (hh : ∀ (k : Nat) w, k < 4294967296 → Calls Tryz.prog 95 #[.int .u32 k, .int .i64 b] w fun e w' => e = .returned (.int .i64 (h k : Nat)) ∧ w = w')
    (hlt : ∀ k, k < 4294967296 → h k < n) (hn0 : 0 < n) (hn : n ≤ 256) (hq : Qs w base A Ls) (hbase : base ≤ w.heap.size) (hc : Ls.length ≤ c) (hc9 : c ≤ 9223372036854775807) (hkeys : Keys Ls.flatten) (hlen : Ls.length ≤ 1000000) (hlen2 : Ls.flatten.length ≤ 100000) :
    Calls Tryz.prog 52 #[.slice A Ls.length c, .int .i64 b] w fun e w' => ∃ s ss, e = .returned s ∧ Tab w' w.heap.size s ss (reh h n Ls.flatten) ∧ (∀ i, i < n → ∃ A' m, ss[i]? = some (.slice A' m m)) ∧ Below w.heap.size w w' := by
  obtain ⟨N, hN⟩ : ∃ N, N = Ls.length := ⟨_, rfl⟩
  rw [← hN] at hc hlen
  have hmk := make_any n (by omega)
  have HMK := Lib.hid hmk
  have HS := Lib.hid hs; have HH := Lib.hid hh; have HLT := Lib.hid hlt; have HQ := Lib.hid hq; have HK := Lib.hid hkeys; have HN := Lib.hid hN; have HL2 := Lib.hid hlen2; have HBS := Lib.hid hbase
  rw [← hN]
  clear hmk hs hh hlt hq hkeys hN hlen2 hbase
  refine (callsIn_wide (n := 6)).1 (callsIn_of_wp_marks Tryz.func52 rfl trivial ?_ rfl)
  simp only [Tryz.ntmps52, List.size_toArray, List.length_cons, List.length_nil, Nat.reduceAdd, Nat.reduceSub, Array.replicate_succ, Array.replicate_zero, List.push_toArray, List.append_toArray, List.nil_append, List.cons_append]
  refine wpIn_wide.2 ?_
  have hn00 : ((n : Int) == 0) = false := by rw [beq_eq_false_iff_ne]; omega
  have hmk1 := fun w => HMK.out w
  go_wp2_with (first | (go_at_call 88; refine (HS.out _).mono ?_; rintro e w' ⟨rfl, rfl⟩) | (go_at_call 94; refine (entries_any _ _ _ _).mono ?_; rintro e w' ⟨rfl, rfl⟩))
  clear hmk1 HMK
  obtain ⟨hsz, hk1, hk2, hk3, hk4, hbel⟩ := began_facts w b n N c A
  have hfold : (((w.alloc (.cells #[Value.int .i64 b] 3)).alloc (.cells (Array.replicate n (Value.slice none 0 0)) 77)).alloc (.cells #[Value.slice (some ⟨w.heap.size + 1, 0, none⟩) n n] 149)).alloc (.cells #[Value.slice A N c] 149) = began w b n N c A := rfl
  rw [hfold]
  clear hfold
  generalize began w b n N c A = W0 at *
  obtain ⟨base0, hb0⟩ : ∃ x, x = w.heap.size := ⟨_, rfl⟩
  rw [← hb0] at hsz hk1 hk2 hk3 hk4 hbel
  rw [← hb0] at HBS ⊢
  rw [show base0 + 1 + 1 + 1 = base0 + 3 from rfl, show base0 + 1 + 1 = base0 + 2 from rfl]
  have hcq : W0.cell? ⟨base0 + 3, 0, none⟩ = some (.slice A N c) := cell_row hk4 0
  have htab0 := tab_made W0 base0 (base0 + 1) n hk2 (by omega) (by omega)
  rw [← reh_nil h] at htab0
  obtain ⟨E, hE⟩ : ∃ E, E = Ls.flatten := ⟨_, rfl⟩
  have hst := ent_stops (w := W0) 5 (base0 + 3) base0 (A := A) (Ls := Ls) (c := c) (by rw [← HN.out]; exact hc) hc9 (by rw [← HN.out]; exact hcq) (by omega) ((HQ.out.below hbel (by have := HBS.out; omega)).more HBS.out) (by omega) (by rw [← HN.out]; exact hlen)
  rw [← hE] at HK HL2 hst
  have hst' : SeqStopsK Fence.wide 5 Tryz.prog 108 #[.pointer (some ⟨base0 + 3, 0, none⟩)] (fun i : Nat => #[ag (el E i)]) (Turns (fun k => base0 ≤ k ∧ k ≠ base0 + 3)) (fun xs => xs = List.range E.length) (fun _ => True) E.length W0 := hst
  have HST := Lib.hid hst'; have HT0 := Lib.hid htab0; have HBEL := Lib.hid hbel; have HEE := Lib.hid hE; have HB0 := Lib.hid hb0
  have HK1 := Lib.hid hk1; have HK3 := Lib.hid hk3
  clear hst hst' hb0 htab0 hbel hE hk1 hk2 hk3 hk4 hcq HQ
  refine (wpIn_wide (n := 6)).1 (wpIn_rangeFunc_ownH (F := Fence.wide) rfl (by omega) (gf := 108) (lb := #[.pointer (some ⟨base0 + 3, 0, none⟩)]) rfl trivial (enters_of Tryz.func108 (by kernel_rfl) rfl) HST.out
    (fun h k => h.trans k (fun _ _ e => e)) (fun W l o o' hl h _ _ => (turns_grown (grownBy_putObj' W l o')).mono (fun k hk e => by cases e; omega)) (Below.refl _ _) (fun _ => rfl)
    (fun pre W => ∃ ss, Tab W base0 (.slice (some ⟨base0 + 1, 0, none⟩) n n) ss (reh h n (pre.map (el E))) ∧ Hi ss W0.heap.size ∧ Boxed W base0 3 (.int .i64 b) ∧ Boxed W (base0 + 2) 149 (.slice (some ⟨base0 + 1, 0, none⟩) n n) ∧ Turns (fun k => base0 ≤ k ∧ k ≠ base0 + 3) W0 W)
    (fun _ _ _ => False) ?hI (fun _ _ _ _ _ hs _ _ => hs) ⟨_, HT0.out, hi_nil _ _, HK1.out, HK3.out, Turns.refl _ _⟩
    (fun x a' W => ∃ Bx, W0.heap.size ≤ Bx ∧ Bx < W.heap.size ∧ base0 + 1 < W.heap.size ∧ W.heap[Bx]? = some (.cells #[.int .i64 (el E x).t, .int .u32 (el E x).k, .int .u64 (el E x).z] 165 (0, 0)) ∧ (∀ (i : Nat) (v : Value), i < n → W.cell? ⟨base0 + 1, i, none⟩ = some v → v.ownBlock ≠ some Bx) ∧
      a' = { tmps := #[Value.slice A N c, Value.int IntKind.i64 b, undef, Value.pointer (some ⟨base0, 0, none⟩),
          Value.slice none 0 0, Value.int IntKind.i64 ↑n, Value.pointer (some ⟨base0 + 2, 0, none⟩), Value.pointer (some ⟨Bx, 0, none⟩), undef, undef, undef,
          Value.int IntKind.i64 b, Value.int IntKind.i64 ↑n, Value.int IntKind.i64 ↑n, Value.bool false,
          Value.int IntKind.i64 ↑n, Value.slice (some ⟨base0 + 1, 0, none⟩) n n, Value.slice A N c,
          Value.func (Fn.func 108) #[] #[Value.pointer (some ⟨base0 + 3, 0, none⟩)], ag (el E x),
          undef, undef, undef, undef, undef, undef, undef, undef, undef, undef, undef, undef, undef, undef, undef,
          undef, undef, undef, undef, undef, undef, undef, undef, undef, undef, undef, undef, undef], defers := [] })
    ?hAx ?assign ?body ?done ?stop)
  case hI =>
    rintro pre X Y row ⟨ss, ht, hh, h1, h3, hT⟩ hg hr
    have hrr := fun r e => (hr r e).2
    have hnr : ∀ k, k < W0.heap.size → ¬ row = some k := fun k hk e => by have := (hr k e).1; omega
    exact ⟨ss, ht.grown hg hrr, hh, Boxed.turn h1 (turns_grown hg) (hnr _ (by omega)), Boxed.turn h3 (turns_grown hg) (hnr _ (by omega)),
      hT.trans (turns_grown hg) (fun k hk e => (hnr k hk e).elim)⟩
  case hAx =>
    rintro x a' _ X Y row ⟨Bx, h0, h1, h2, h3, h4, h5⟩ hg hr
    have hrr := fun r e => (hr r e).2
    have hnr : ∀ k, k < W0.heap.size → ¬ row = some k := fun k hk e => by have := (hr k e).1; omega
    have hX : Y.heap[base0 + 1]? = X.heap[base0 + 1]? := hg.block _ h2 (fun e => hnr _ (by omega) e.symm)
    refine ⟨Bx, h0, Nat.lt_of_lt_of_le h1 hg.size, Nat.lt_of_lt_of_le h2 hg.size, ?_, fun i v hi hv => h4 i v hi ?_, h5⟩
    · refine (hg.block Bx h1 (fun e => ?_)).trans h3
      obtain ⟨o, h6, h7⟩ := hrr Bx e.symm
      rw [h3] at h6; cases h6; cases h7
    · rw [← hv]; exact (World.cell?_of_block (a := ⟨base0 + 1, i, none⟩) hX).symm
  case assign =>
    rintro l pre x W K ⟨ss, ht, hhi, h1, h3, hT⟩ hK
    gi_wp2
    have hWs := hT.size
    have hnew := heap_alloc_new W (.cells #[Value.int .i64 (el E x).t, .int .u32 (el E x).k, .int .u64 (el E x).z] 165)
    have hbl := below1 W (.cells #[Value.int .i64 (el E x).t, .int .u32 (el E x).k, .int .u64 (el E x).z] 165)
    have htu : Turns (fun _ => False) W (W.alloc (.cells #[Value.int .i64 (el E x).t, .int .u32 (el E x).k, .int .u64 (el E x).z] 165)) := (Turns.refl _ W).alloc _
    refine hK _ _ ((KeepsOthers.alloc W _).from _) (htu.mono (fun _ _ e => e.elim)) ⟨ss, ht.new hbl, hhi, h1.alloc _, h3.alloc _, hT.trans htu (fun _ _ e => e.elim)⟩ ⟨W.heap.size, hWs, by simp, by simp; omega, hnew, ?_, rfl⟩
    intro i v hi hv e
    have hi' : i < ss.length := by rw [ht.len, reh_len]; exact hi
    have hv' := List.getElem?_eq_getElem hi'
    rw [World.cell?_alloc_lt _ _ _ (by show base0 + 1 < _; omega), (ht.cell0 hv').1] at hv
    have := (ht.lt (hv'.trans hv) e).2
    omega
  case body =>
    rintro l pre x a' W hl ⟨r, hr⟩ ⟨ss, ht, hhi, h1, h3, hT⟩ ⟨Bx, hx0, hx1, hx2, hx3, hx4, rfl⟩ hlen
    obtain ⟨kk, hkk, hk2⟩ := HK.out.get x
    rw [show E[x]! = el E x from rfl] at hkk
    obtain ⟨d, hd⟩ : ∃ d, d = el E x := ⟨_, rfl⟩
    rw [← hd] at hx3 hkk ⊢
    have HD := Lib.hid hd
    clear hd
    have x0 := cell_row hx3 0; have x1 := cell_row hx3 1; have x2 := cell_row hx3 2
    have x1' : W.cell? ⟨Bx, 1, none⟩ = some (.int .u32 (kk : Int)) := by rw [x1, ← hkk]; rfl
    have y1 : W.cell? ⟨base0, 0, none⟩ = some (.int .i64 b) := h1.cell
    have HX0 := Lib.hid x0; have HX1 := Lib.hid x1; have HX2 := Lib.hid x2; have HT := Lib.hid ht; have HHI := Lib.hid hhi; have HB1 := Lib.hid h1; have HB3 := Lib.hid h3; have HTT := Lib.hid hT; have HX4 := Lib.hid hx4
    clear x0 x1 x2 ht hhi h1 h3 hT hx4 hx3 hr
    gi_wp2_with (refine ⟨trivial, ?_⟩; gi_at_call 95; refine (CallsIn.inRound l (callsIn_wide.2 (HH.out kk _ hk2))).mono ?_; rintro e w' ⟨rfl, rfl⟩)
    have hih := HLT.out kk hk2
    obtain ⟨i, hi⟩ : ∃ i, i = h kk := ⟨_, rfl⟩
    rw [← hi] at hih ⊢
    have htab := HT.out
    have hssl : ss.length = n := by rw [htab.len, reh_len]
    have hv := List.getElem?_eq_getElem (l := ss) (i := i) (by omega)
    generalize ss[i]'(by omega) = v at hv
    have hrow := htab.rowE hv
    rw [reh_at h _ hih] at hrow
    obtain ⟨P, hP⟩ : ∃ P, P = pre.map (el E) := ⟨_, rfl⟩
    rw [← hP] at hrow htab
    have hDle := bk_le h i P
    have hPl : P.length = pre.length := by rw [hP]; simp
    obtain ⟨D, hD⟩ : ∃ D, D = bk h i P := ⟨_, rfl⟩
    rw [← hD] at hrow hDle
    have hml : D.length + 1 ≤ 1000000 := by have := HL2.out; omega
    obtain ⟨A1, cap1, rfl, hm1, hm9⟩ := hrow.shape
    obtain ⟨m1, hm⟩ : ∃ m1, m1 = D.length := ⟨_, rfl⟩
    have hrow' : Row W base0 3 (.slice A1 m1 cap1) m1 (flat D) := by rw [hm]; exact hrow
    rw [← hm] at hv hm1 hml
    have hcg := htab.cell0 hv
    have hcbv := htab.cb hv
    have hne1 : ¬ (Value.slice A1 m1 cap1).ownBlock = some (base0 + 2) := fun e => by have := HHI.out i _ _ hv e; omega
    have hne2 : ¬ (Value.slice A1 m1 cap1).ownBlock = some Bx := HX4.out i _ hih hcg.1
    have hne3 : ¬ (Value.slice A1 m1 cap1).ownBlock = some (base0 + 1) := fun e => by have := HHI.out i _ _ hv e; omega
    have hWs := HTT.out.size
    have hbla : Below W.heap.size W ((W.alloc (.cells #[.int .i64 d.t, .int .u32 d.k, .int .u64 d.z] 165)).drew) := ((Below.refl _ W).alloc (Nat.le_refl _) _).drew
    have hend : ∀ (v2 : Value) (w2 : World), Row w2 base0 3 v2 (m1 + 1) (flat D ++ flat [d]) → Turns (fun k => (Value.slice A1 m1 cap1).ownBlock = some k) ((W.alloc (.cells #[.int .i64 d.t, .int .u32 d.k, .int .u64 d.z] 165)).drew) w2 → (v2.ownBlock = (Value.slice A1 m1 cap1).ownBlock ∨ v2.ownBlock = some ((W.alloc (.cells #[.int .i64 d.t, .int .u32 d.k, .int .u64 d.z] 165)).drew).heap.size) →
        KeepsFrom W0.heap.size W (w2.setCell ⟨base0 + 1, i, none⟩ v2) ∧ Turns (fun k => base0 ≤ k ∧ k ≠ base0 + 3) W (w2.setCell ⟨base0 + 1, i, none⟩ v2) ∧
        ∃ ss, Tab (w2.setCell ⟨base0 + 1, i, none⟩ v2) base0 (.slice (some ⟨base0 + 1, 0, none⟩) n n) ss (reh h n ((pre ++ [x]).map (el E))) ∧ Hi ss W0.heap.size ∧ Boxed (w2.setCell ⟨base0 + 1, i, none⟩ v2) base0 3 (.int .i64 b) ∧ Boxed (w2.setCell ⟨base0 + 1, i, none⟩ v2) (base0 + 2) 149 (.slice (some ⟨base0 + 1, 0, none⟩) n n) ∧ Turns (fun k => base0 ≤ k ∧ k ≠ base0 + 3) W0 (w2.setCell ⟨base0 + 1, i, none⟩ v2) := by
      intro v2 w2 hr2 ht2 ho2
      have hcb2 : CB w2 v2 := hr2.cb (by omega) (by omega)
      have hvlo : ∀ k, (Value.slice A1 m1 cap1).ownBlock = some k → W0.heap.size ≤ k := fun k e => HHI.out i _ _ hv e
      have hKW : KeepsOthers W w2 := ((KeepsOthers.alloc W _).trans (KeepsOthers.drew _)).trans (others_turn ht2 (fun g e => (hcbv.turn (Turns.of_below (S := fun _ => False) hbla) (fun _ _ e => e)) g e))
      have hTW : Turns (fun k => base0 ≤ k ∧ k ≠ base0 + 3) W (w2.setCell ⟨base0 + 1, i, none⟩ v2) := (((Turns.of_below (S := fun k => base0 ≤ k ∧ k ≠ base0 + 3) hbla).trans ht2 (fun k _ e => by have := hvlo k e; omega))).setCell _ _ (by show base0 ≤ base0 + 1 ∧ base0 + 1 ≠ base0 + 3; omega)
      have hts : Turns (fun k => k = base0 + 1 ∨ W0.heap.size ≤ k) W (w2.setCell ⟨base0 + 1, i, none⟩ v2) := (((Turns.of_below (S := fun k => k = base0 + 1 ∨ W0.heap.size ≤ k) hbla).trans ht2 (fun k _ e => Or.inr (hvlo k e)))).setCell _ _ (Or.inl rfl)
      refine ⟨(hKW.trans (KeepsOthers.setCell _ _ _)).from _, hTW, ss.set i v2, ?_, HHI.out.set (fun g e => ?_), Boxed.turn HB1.out hts (by omega), Boxed.turn HB3.out hts (by omega), HTT.out.trans hTW (fun _ _ e => e)⟩
      · rw [map_snoc, ← hP, ← HD.out, reh_snoc h P d (by rw [hkk, Int.toNat_natCast, ← hi]; exact hih), hkk, Int.toNat_natCast, ← hi, ← hD]
        have hr2' : RowE w2 base0 v2 (D ++ [d]) := by
          show Row w2 base0 3 v2 (D ++ [d]).length (flat (D ++ [d]))
          rw [flat_app, List.length_append, List.length_singleton, ← hm]
          exact hr2
        have := htab.app hbla (by rw [reh_len]; exact hih) hv hr2' hcb2 ht2 ho2
        rwa [Nat.zero_add] at this
      · rcases ho2 with ho2 | ho2
        · exact hvlo g (by rw [← ho2]; exact e)
        · rw [ho2] at e
          have hs := hbla.size
          injection e with e
          omega
    have HEND := Lib.hid hend
    have CB3 : Hid (W.drew.cell? ⟨base0 + 2, 0, none⟩ = some (.slice (some ⟨base0 + 1, 0, none⟩) n n)) := Lib.hid HB3.out.cell
    have CX0 : Hid (W.drew.cell? ⟨Bx, 0, none⟩ = some (.int .i64 d.t)) := Lib.hid HX0.out
    have CX1 : Hid (W.drew.cell? ⟨Bx, 1, none⟩ = some (.int .u32 d.k)) := Lib.hid HX1.out
    have CX2 : Hid (W.drew.cell? ⟨Bx, 2, none⟩ = some (.int .u64 d.z)) := Lib.hid HX2.out
    have CG : Hid (W.drew.cell? ⟨base0 + 1, i, none⟩ = some (.slice A1 m1 cap1) ∧ W.drew.frozen? ⟨base0 + 1, i, none⟩ = false) := Lib.hid hcg
    have hkeep : ∀ g o, g < W.heap.size → ((W.alloc (.cells #[.int .i64 d.t, .int .u32 d.k, .int .u64 d.z] 165)).drew).cell? ⟨g, o, none⟩ = W.cell? ⟨g, o, none⟩ := fun g o hg => hbla.cell (p := ⟨g, o, none⟩) hg
    have CGa : Hid (((W.alloc (.cells #[.int .i64 d.t, .int .u32 d.k, .int .u64 d.z] 165)).drew).cell? ⟨base0 + 1, i, none⟩ = some (.slice A1 m1 cap1) ∧ ((W.alloc (.cells #[.int .i64 d.t, .int .u32 d.k, .int .u64 d.z] 165)).drew).frozen? ⟨base0 + 1, i, none⟩ = false) :=
      Lib.hid ⟨(hkeep _ _ (by omega)).trans hcg.1, ((Turns.of_below (S := fun _ => False) hbla).frozen (by omega) (fun e => e)).trans hcg.2⟩
    have CA3 := Lib.hid ((hkeep (base0 + 2) 0 (by omega)).trans HB3.out.cell)
    have CAX := Lib.hid (And.intro ((hkeep Bx 0 hx1).trans HX0.out) (And.intro ((hkeep Bx 1 hx1).trans HX1.out) ((hkeep Bx 2 hx1).trans HX2.out)))
    have HROWa := Lib.hid (hrow'.new hbla)
    have HBa : Hid (base0 ≤ ((W.alloc (.cells #[.int .i64 d.t, .int .u32 d.k, .int .u64 d.z] 165)).drew).heap.size) := Lib.hid (by have := hbla.size; omega)
    have HRDa := Lib.hid (rd_one W d 165).drew
    have HLa := Lib.hid hml
    have HSZ : Hid (base0 + 2 < ((W.alloc (.cells #[.int .i64 d.t, .int .u32 d.k, .int .u64 d.z] 165)).drew).heap.size ∧ Bx < ((W.alloc (.cells #[.int .i64 d.t, .int .u32 d.k, .int .u64 d.z] 165)).drew).heap.size) := Lib.hid (by have := hbla.size; omega)
    have HGa : Hid (base0 + 1 < ((W.alloc (.cells #[.int .i64 d.t, .int .u32 d.k, .int .u64 d.z] 165)).drew).heap.size) := Lib.hid (by have := hbla.size; omega)
    have HNE := Lib.hid (And.intro hne1 (And.intro hne2 hne3))
    have HG3 : Hid (base0 + 1 ≠ base0 + 2) := Lib.hid (by omega)
    have HGx : Hid (base0 + 1 ≠ Bx) := Lib.hid (by omega)
    have hii : (i : Int) < (n : Int) := by omega
    clear hend hne1 hne2 hne3 hcg hcbv hkeep hbla hrow hrow' htab hv hDle hP hPl hD hm hi hssl HT HHI HTT HX4 HX0 HX1 HX2 HB1 HB3 hWs hml x1' y1 hkk
    refine region_round (S := fun w' => w'.cell? ⟨base0 + 2, 0, none⟩ = some (.slice (some ⟨base0 + 1, 0, none⟩) n n) ∧ w'.cell? ⟨Bx, 0, none⟩ = some (.int .i64 d.t) ∧ w'.cell? ⟨Bx, 1, none⟩ = some (.int .u32 d.k) ∧ w'.cell? ⟨Bx, 2, none⟩ = some (.int .u64 d.z)) (by kernel_rfl) (by kernel_rfl) (by rintro ⟨a, w, hq⟩; exact hq) ⟨CB3.out, CX0.out, CX1.out, CX2.out⟩ (fun hHeld => ?_)
    refine wpAnyH_take (i := 0) (oi := ({ dst := some 24, op := Op.load 149 (Operand.tmp 6), type := 149, pos := "rehashes.go:21", after := #[], guard := none } : Oper)) (v := ?va0) rfl (by kernel_rfl) (by kernel_rfl) (by kernel_rfl) (fun _ _ _ h => h) (Or.inl ⟨by rfl, fun w hSw => ?hya0⟩) (by assumption) ?ra0
    case hya0 => (try dsimp only at hSw); go_simp; (try with_reducible rfl)
    (try simp only [Act.put, List.setIfInBounds_toArray, List.set_cons_zero, List.set_cons_succ])
    refine wpAnyH_take (i := 1) (oi := ({ dst := some 25, op := Op.move (Operand.tmp 8), type := 3, pos := "rehashes.go:21", after := #[], guard := none } : Oper)) (v := ?va1) rfl (by kernel_rfl) (by kernel_rfl) (by kernel_rfl) (fun _ _ _ h => h) (Or.inl ⟨by rfl, fun w hSw => ?hya1⟩) (by assumption) ?ra1
    case hya1 => (try dsimp only at hSw); go_simp; (try with_reducible rfl)
    (try simp only [Act.put, List.setIfInBounds_toArray, List.set_cons_zero, List.set_cons_succ])
    refine wpAnyH_take (i := 2) (oi := ({ dst := some 26, op := Op.load 149 (Operand.tmp 6), type := 149, pos := "rehashes.go:21", after := #[], guard := none } : Oper)) (v := ?va2) rfl (by kernel_rfl) (by kernel_rfl) (by kernel_rfl) (fun _ _ _ h => h) (Or.inl ⟨by rfl, fun w hSw => ?hya2⟩) (by assumption) ?ra2
    case hya2 => (try dsimp only at hSw); go_simp; (try with_reducible rfl)
    (try simp only [Act.put, List.setIfInBounds_toArray, List.set_cons_zero, List.set_cons_succ])
    refine wpAnyH_take (i := 3) (oi := ({ dst := some 27, op := Op.move (Operand.tmp 8), type := 3, pos := "rehashes.go:21", after := #[], guard := none } : Oper)) (v := ?va3) rfl (by kernel_rfl) (by kernel_rfl) (by kernel_rfl) (fun _ _ _ h => h) (Or.inl ⟨by rfl, fun w hSw => ?hya3⟩) (by assumption) ?ra3
    case hya3 => (try dsimp only at hSw); go_simp; (try with_reducible rfl)
    (try simp only [Act.put, List.setIfInBounds_toArray, List.set_cons_zero, List.set_cons_succ])
    refine wpAnyH_take (i := 4) (oi := ({ dst := some 28, op := Op.indexAddr 149 (Operand.tmp 26) (Operand.tmp 27), type := 0, pos := "rehashes.go:21", after := #[{ on := 2, ground := Ground.data }, { on := 3, ground := Ground.data }], guard := none } : Oper)) (v := ?va4) rfl (by kernel_rfl) (by kernel_rfl) (by kernel_rfl) (fun _ _ _ h => h) (Or.inl ⟨by rfl, fun w hSw => ?hya4⟩) (by assumption) ?ra4
    case hya4 => (try dsimp only at hSw); go_simp; (try with_reducible rfl)
    (try simp only [Act.put, List.setIfInBounds_toArray, List.set_cons_zero, List.set_cons_succ])
    refine wpAnyH_take (i := 6) (oi := ({ dst := some 30, op := Op.load 165 (Operand.tmp 7), type := 165, pos := "rehashes.go:21", after := #[], guard := none } : Oper)) (v := ?va6) rfl (by kernel_rfl) (by kernel_rfl) (by kernel_rfl) (fun _ _ _ h => h) (Or.inl ⟨by rfl, fun w hSw => ?hya6⟩) (by assumption) ?ra6
    case hya6 => (try dsimp only at hSw); go_simp; (try with_reducible rfl)
    (try simp only [Act.put, List.setIfInBounds_toArray, List.set_cons_zero, List.set_cons_succ])
    refine wpAnyH_ready (rs := [5, 7]) (by kernel_rfl) (by simp) ?_
    refine AllReadyH.cons (o := ({ dst := some 29, op := Op.load 77 (Operand.tmp 28), type := 77, pos := "rehashes.go:21", after := #[{ on := 4, ground := Ground.data }], guard := none } : Oper)) rfl (fun Kq hKq => ?_) (AllReadyH.cons (o := ({ dst := some 31, op := Op.buildSlice 77 1 #[(0, Operand.tmp 30)], type := 77, pos := "rehashes.go:21", after := #[{ on := 6, ground := Ground.data }], guard := none } : Oper)) rfl (fun Kq hKq => ?_) AllReadyH.nil)
    · have c5 := CG.out.1
      go_simp
      refine hKq.out _ _ ?_ (fun hHeld => ?_)
      · exact hHeld
      clear hKq Kq
      (try simp only [Act.put, List.setIfInBounds_toArray, List.set_cons_zero, List.set_cons_succ])
      refine wpAnyH_ready (rs := [7]) (by kernel_rfl) (by simp) ?_
      refine AllReadyH.cons (o := ({ dst := some 31, op := Op.buildSlice 77 1 #[(0, Operand.tmp 30)], type := 77, pos := "rehashes.go:21", after := #[{ on := 6, ground := Ground.data }], guard := none } : Oper)) rfl (fun Kq hKq => ?_) AllReadyH.nil
      go_simp
      refine hKq.out _ _ ?_ (fun hHeld => ?_)
      · exact ⟨CA3.out, CAX.out.1, CAX.out.2.1, CAX.out.2.2⟩
      clear hKq Kq
      (try simp only [Act.put, List.setIfInBounds_toArray, List.set_cons_zero, List.set_cons_succ])
      refine wpAnyH_ready (rs := [8]) (by kernel_rfl) (by simp) ?_
      refine AllReadyH.cons (o := ({ dst := some 32, op := Op.call { callee := Callee.builtin Builtin.append, args := #[Operand.tmp 29, Operand.tmp 31], argTypes := #[77, 77] }, type := 77, pos := "rehashes.go:21", after := #[{ on := 5, ground := Ground.data }, { on := 7, ground := Ground.data }], guard := none } : Oper)) rfl (fun Kq hKq => ?_) AllReadyH.nil
      (refine step_append_row layE rfl _ _ rfl rfl HROWa.out (flat_one' _) HBa.out 1 rfl HRDa.out rfl (flat_one' _) HLa.out ?_; intro v2 w2 hr2 ht2 ho2; obtain ⟨A2, cap2, hv2, hn2, hm2⟩ := hr2.shape; subst hv2)
      refine hKq.out _ _ ?_ (fun hHeld => ?_)
      · exact ⟨(ht2.cell HSZ.out.1 HNE.out.1).trans hHeld.1, (ht2.cell HSZ.out.2 HNE.out.2.1).trans hHeld.2.1, (ht2.cell HSZ.out.2 HNE.out.2.1).trans hHeld.2.2.1, (ht2.cell HSZ.out.2 HNE.out.2.1).trans hHeld.2.2.2⟩
      clear hKq Kq
      (try simp only [Act.put, List.setIfInBounds_toArray, List.set_cons_zero, List.set_cons_succ])
      refine wpAnyH_take (i := 9) (oi := ({ dst := some 33, op := Op.indexAddr 149 (Operand.tmp 24) (Operand.tmp 25), type := 0, pos := "rehashes.go:21", after := #[{ on := 0, ground := Ground.data }, { on := 1, ground := Ground.data }, { on := 0, ground := Ground.phase }, { on := 1, ground := Ground.phase }, { on := 2, ground := Ground.phase }, { on := 3, ground := Ground.phase }, { on := 4, ground := Ground.phase }, { on := 5, ground := Ground.phase }, { on := 6, ground := Ground.phase }, { on := 7, ground := Ground.phase }, { on := 8, ground := Ground.phase }], guard := none } : Oper)) (v := ?vb9) rfl (by kernel_rfl) (by kernel_rfl) (by kernel_rfl) (fun _ _ _ h => h) (Or.inl ⟨by rfl, fun w hSw => ?hyb9⟩) (by assumption) ?rb9
      case hyb9 => (try dsimp only at hSw); go_simp; (try with_reducible rfl)
      (try simp only [Act.put, List.setIfInBounds_toArray, List.set_cons_zero, List.set_cons_succ])
      have c9 : w2.cell? ⟨base0 + 1, i, none⟩ = some (.slice A1 m1 cap1) := (ht2.cell HGa.out HNE.out.2.2).trans CGa.out.1
      have f9 : w2.frozen? ⟨base0 + 1, i, none⟩ = false := (ht2.frozen HGa.out HNE.out.2.2).trans CGa.out.2
      refine wpAnyH_ready (rs := [10]) (by kernel_rfl) (by simp) ?_
      refine AllReadyH.cons (o := ({ dst := none, op := Op.store 77 (Operand.tmp 33) (Operand.tmp 32), type := 0, pos := "rehashes.go:21", after := #[{ on := 9, ground := Ground.data }, { on := 8, ground := Ground.data }, { on := 8, ground := Ground.chain }, { on := 0, ground := Ground.phase }, { on := 1, ground := Ground.phase }, { on := 2, ground := Ground.phase }, { on := 3, ground := Ground.phase }, { on := 4, ground := Ground.phase }, { on := 5, ground := Ground.phase }, { on := 6, ground := Ground.phase }, { on := 7, ground := Ground.phase }, { on := 8, ground := Ground.phase }], guard := none } : Oper)) rfl (fun Kq hKq => ?_) AllReadyH.nil
      go_simp
      refine hKq.out _ _ ?_ (fun hHeld => ?_)
      · exact ⟨(World.cell?_setCell_other _ _ _ _ (by intro e; injection e with e1; exact HG3.out e1)).trans hHeld.1, (World.cell?_setCell_other _ _ _ _ (by intro e; injection e with e1; exact HGx.out e1)).trans hHeld.2.1, (World.cell?_setCell_other _ _ _ _ (by intro e; injection e with e1; exact HGx.out e1)).trans hHeld.2.2.1, (World.cell?_setCell_other _ _ _ _ (by intro e; injection e with e1; exact HGx.out e1)).trans hHeld.2.2.2⟩
      clear hKq Kq
      (try simp only [Act.put, List.setIfInBounds_toArray, List.set_cons_zero, List.set_cons_succ])
      refine wpAnyH_done (by kernel_rfl) ?_ _
      exact HEND.out _ _ hr2 ht2 ho2
    · go_simp
      refine hKq.out _ _ ?_ (fun hHeld => ?_)
      · exact ⟨CA3.out, CAX.out.1, CAX.out.2.1, CAX.out.2.2⟩
      clear hKq Kq
      (try simp only [Act.put, List.setIfInBounds_toArray, List.set_cons_zero, List.set_cons_succ])
      have c5 := CGa.out.1
      refine wpAnyH_ready (rs := [5]) (by kernel_rfl) (by simp) ?_
      refine AllReadyH.cons (o := ({ dst := some 29, op := Op.load 77 (Operand.tmp 28), type := 77, pos := "rehashes.go:21", after := #[{ on := 4, ground := Ground.data }], guard := none } : Oper)) rfl (fun Kq hKq => ?_) AllReadyH.nil
      go_simp
      refine hKq.out _ _ ?_ (fun hHeld => ?_)
      · exact hHeld
      clear hKq Kq
      (try simp only [Act.put, List.setIfInBounds_toArray, List.set_cons_zero, List.set_cons_succ])
      refine wpAnyH_ready (rs := [8]) (by kernel_rfl) (by simp) ?_
      refine AllReadyH.cons (o := ({ dst := some 32, op := Op.call { callee := Callee.builtin Builtin.append, args := #[Operand.tmp 29, Operand.tmp 31], argTypes := #[77, 77] }, type := 77, pos := "rehashes.go:21", after := #[{ on := 5, ground := Ground.data }, { on := 7, ground := Ground.data }], guard := none } : Oper)) rfl (fun Kq hKq => ?_) AllReadyH.nil
      (refine step_append_row layE rfl _ _ rfl rfl HROWa.out (flat_one' _) HBa.out 1 rfl HRDa.out rfl (flat_one' _) HLa.out ?_; intro v2 w2 hr2 ht2 ho2; obtain ⟨A2, cap2, hv2, hn2, hm2⟩ := hr2.shape; subst hv2)
      refine hKq.out _ _ ?_ (fun hHeld => ?_)
      · exact ⟨(ht2.cell HSZ.out.1 HNE.out.1).trans hHeld.1, (ht2.cell HSZ.out.2 HNE.out.2.1).trans hHeld.2.1, (ht2.cell HSZ.out.2 HNE.out.2.1).trans hHeld.2.2.1, (ht2.cell HSZ.out.2 HNE.out.2.1).trans hHeld.2.2.2⟩
      clear hKq Kq
      (try simp only [Act.put, List.setIfInBounds_toArray, List.set_cons_zero, List.set_cons_succ])
      refine wpAnyH_take (i := 9) (oi := ({ dst := some 33, op := Op.indexAddr 149 (Operand.tmp 24) (Operand.tmp 25), type := 0, pos := "rehashes.go:21", after := #[{ on := 0, ground := Ground.data }, { on := 1, ground := Ground.data }, { on := 0, ground := Ground.phase }, { on := 1, ground := Ground.phase }, { on := 2, ground := Ground.phase }, { on := 3, ground := Ground.phase }, { on := 4, ground := Ground.phase }, { on := 5, ground := Ground.phase }, { on := 6, ground := Ground.phase }, { on := 7, ground := Ground.phase }, { on := 8, ground := Ground.phase }], guard := none } : Oper)) (v := ?vc9) rfl (by kernel_rfl) (by kernel_rfl) (by kernel_rfl) (fun _ _ _ h => h) (Or.inl ⟨by rfl, fun w hSw => ?hyc9⟩) (by assumption) ?rc9
      case hyc9 => (try dsimp only at hSw); go_simp; (try with_reducible rfl)
      (try simp only [Act.put, List.setIfInBounds_toArray, List.set_cons_zero, List.set_cons_succ])
      have c9 : w2.cell? ⟨base0 + 1, i, none⟩ = some (.slice A1 m1 cap1) := (ht2.cell HGa.out HNE.out.2.2).trans CGa.out.1
      have f9 : w2.frozen? ⟨base0 + 1, i, none⟩ = false := (ht2.frozen HGa.out HNE.out.2.2).trans CGa.out.2
      refine wpAnyH_ready (rs := [10]) (by kernel_rfl) (by simp) ?_
      refine AllReadyH.cons (o := ({ dst := none, op := Op.store 77 (Operand.tmp 33) (Operand.tmp 32), type := 0, pos := "rehashes.go:21", after := #[{ on := 9, ground := Ground.data }, { on := 8, ground := Ground.data }, { on := 8, ground := Ground.chain }, { on := 0, ground := Ground.phase }, { on := 1, ground := Ground.phase }, { on := 2, ground := Ground.phase }, { on := 3, ground := Ground.phase }, { on := 4, ground := Ground.phase }, { on := 5, ground := Ground.phase }, { on := 6, ground := Ground.phase }, { on := 7, ground := Ground.phase }, { on := 8, ground := Ground.phase }], guard := none } : Oper)) rfl (fun Kq hKq => ?_) AllReadyH.nil
      go_simp
      refine hKq.out _ _ ?_ (fun hHeld => ?_)
      · exact ⟨(World.cell?_setCell_other _ _ _ _ (by intro e; injection e with e1; exact HG3.out e1)).trans hHeld.1, (World.cell?_setCell_other _ _ _ _ (by intro e; injection e with e1; exact HGx.out e1)).trans hHeld.2.1, (World.cell?_setCell_other _ _ _ _ (by intro e; injection e with e1; exact HGx.out e1)).trans hHeld.2.2.1, (World.cell?_setCell_other _ _ _ _ (by intro e; injection e with e1; exact HGx.out e1)).trans hHeld.2.2.2⟩
      clear hKq Kq
      (try simp only [Act.put, List.setIfInBounds_toArray, List.set_cons_zero, List.set_cons_succ])
      refine wpAnyH_done (by kernel_rfl) ?_ _
      exact HEND.out _ _ hr2 ht2 ho2
  case done =>
    rintro D xs W hDl rfl ⟨ss, ht, _, _, h3, hT⟩ hDK
    have hme : (List.range E.length).map (el E) = E := map_range_get E
    rw [hme] at ht
    have hbW : Below base0 W0 W := hT.below (by omega) (fun k hk e => by omega)
    have hWs := hT.size
    have hcl : ∀ k, k < 0 → ∃ A' m, ss[k]? = some (.slice A' m m) := fun k hk => by omega
    have HTA := Lib.hid ht; have HB3 := Lib.hid h3; have HDK := Lib.hid hDK; have HBW := Lib.hid (HBEL.out.trans hbW); have HCL0 := Lib.hid hcl
    have c3 : W.cell? ⟨base0 + 2, 0, none⟩ = some (.slice (some ⟨base0 + 1, 0, none⟩) n n) := h3.cell
    clear ht h3 hT hDK hbW hcl HK HT0 HST hme
    go_wp2_with fail
    clear c3
    go_loopg [36] n (fun q s36 wx => ∃ (k : Nat) (ss : List Value), k ≤ n ∧ q = n - k ∧ s36 = .int .i64 (k : Int) ∧ Tab wx base0 (.slice (some ⟨base0 + 1, 0, none⟩) n n) ss (reh h n E) ∧ (∀ j, j < k → ∃ A' m, ss[j]? = some (.slice A' m m)) ∧ Boxed wx (base0 + 2) 149 (.slice (some ⟨base0 + 1, 0, none⟩) n n) ∧ wx.heap[D]? = some (.deferred (some [])) ∧ Below base0 w wx)
    case atStart => exact ⟨0, ss, by omega, rfl, rfl, HTA.out, HCL0.out, HB3.out, HDK.out, HBW.out⟩
    case round =>
      obtain ⟨k, ss, hk, rfl, rfl, ht, hcl, hb3, hdk, hbw⟩ := hrel
      have HT := Lib.hid ht; have HCL := Lib.hid hcl; have HB3 := Lib.hid hb3; have HDK := Lib.hid hdk; have HBW := Lib.hid hbw
      clear ht hcl hb3 hdk hbw
      have hb3c := HB3.out.cell
      by_cases hkn : k < n
      · have htab := HT.out
        have hssl : ss.length = n := by rw [htab.len, reh_len]
        have hv := List.getElem?_eq_getElem (l := ss) (i := k) (by omega)
        generalize ss[k]'(by omega) = v at hv
        have hrow := htab.rowE hv
        obtain ⟨A1, cap1, rfl, hm1, hm9⟩ := hrow.shape
        obtain ⟨m1, hm⟩ : ∃ m1, m1 = (reh h n E)[k]!.length := ⟨_, rfl⟩
        rw [← hm] at hv hm1
        obtain ⟨ck, fk⟩ := htab.cell0 hv
        have hrow' : RowE wr base0 (.slice A1 m1 m1) (reh h n E)[k]! := by
          have h0 : Row wr base0 3 (.slice A1 (reh h n E)[k]!.length cap1) (reh h n E)[k]!.length (flat (reh h n E)[k]!) := hrow
          rw [hm]
          exact h0.clip
        have hob : (Value.slice A1 m1 m1).ownBlock = (Value.slice A1 m1 cap1).ownBlock := by cases A1 <;> rfl
        have hend : Tab (wr.drew.setCell ⟨base0 + 1, k, none⟩ (.slice A1 m1 m1)) base0 (.slice (some ⟨base0 + 1, 0, none⟩) n n) (ss.set k (.slice A1 m1 m1)) (reh h n E) := by
          have hset : (reh h n E).set k (reh h n E)[k]! = reh h n E := by
            rw [getElem!_pos _ k (by rw [reh_len]; exact hkn), List.set_getElem_self]
          have hbd : Below wr.heap.size wr wr.drew := (Below.refl _ wr).drew
          have := htab.app hbd (w2 := wr.drew) (by rw [reh_len]; exact hkn) hv (v' := .slice A1 m1 m1) (D := (reh h n E)[k]!) hrow'.drew (fun g e => htab.cb hv g (by rw [← hob]; exact e)) (Turns.refl _ _) (Or.inl hob)
          rwa [Nat.zero_add, hset] at this
        have hcl2 : ∀ j, j < k + 1 → ∃ A' m, (ss.set k (.slice A1 m1 m1))[j]? = some (.slice A' m m) := fun j hj => by
          by_cases ej : j = k
          · subst ej
            exact ⟨A1, m1, List.getElem?_set_self (by omega)⟩
          · rw [List.getElem?_set_ne (fun e => ej e.symm)]
            exact HCL.out j (by omega)
        have hlt3 := HB3.out.lt
        have hlts : base0 + 1 < wr.heap.size := by omega
        have hts : Turns (fun g => g = base0 + 1) wr (wr.drew.setCell ⟨base0 + 1, k, none⟩ (.slice A1 m1 m1)) := ((Turns.refl _ wr).drew).setCell _ _ rfl
        have HEND := Lib.hid (And.intro hend (And.intro hcl2 (And.intro (Boxed.turn HB3.out hts (by omega)) (And.intro ((hts.block D (Array.getElem?_eq_some_iff.1 HDK.out).1 (by omega)).trans HDK.out) (HBW.out.trans (hts.below (B := base0) (by omega) (fun k hk e => by omega)))))))
        have HCP := Lib.hid (And.intro hm1 hm9)
        have HG3 : Hid (base0 + 1 ≠ base0 + 2) := Lib.hid (by omega)
        clear htab hv hrow hrow' hend hcl2 hts hm1 hm hssl
        have ck' : wr.drew.cell? ⟨base0 + 1, k, none⟩ = some (.slice A1 (m1) cap1) := ck
        have fk' : wr.drew.frozen? ⟨base0 + 1, k, none⟩ = false := fk
        go_upto_region 12 with (fail)
        refine wp_mono (Q := onlyN _) ?_ (fun _ _ _ => onlyN_out)
        refine wp_region_held_drew (S := fun w' => w'.cell? ⟨base0 + 2, 0, none⟩ = some (.slice (some ⟨base0 + 1, 0, none⟩) n n)) (by kernel_rfl) hb3c (fun hHeld => ?_)
        refine wpAnyH_take (i := 0) (oi := ({ dst := some 41, op := Op.load 149 (Operand.tmp 6), type := 149, pos := "rehashes.go:25", after := #[], guard := none } : Oper)) (v := ?ve0) rfl (by kernel_rfl) (by kernel_rfl) (by kernel_rfl) (fun _ _ _ h => h) (Or.inl ⟨by rfl, fun w hSw => ?hye0⟩) (by assumption) ?re0
        case hye0 => (try dsimp only at hSw); go_simp; (try with_reducible rfl)
        (try simp only [Act.put, List.setIfInBounds_toArray, List.set_cons_zero, List.set_cons_succ])
        refine wpAnyH_take (i := 1) (oi := ({ dst := some 42, op := Op.move (Operand.tmp 9), type := 3, pos := "rehashes.go:25", after := #[], guard := none } : Oper)) (v := ?ve1) rfl (by kernel_rfl) (by kernel_rfl) (by kernel_rfl) (fun _ _ _ h => h) (Or.inl ⟨by rfl, fun w hSw => ?hye1⟩) (by assumption) ?re1
        case hye1 => (try dsimp only at hSw); go_simp; (try with_reducible rfl)
        (try simp only [Act.put, List.setIfInBounds_toArray, List.set_cons_zero, List.set_cons_succ])
        refine wpAnyH_take (i := 2) (oi := ({ dst := some 43, op := Op.move (Operand.tmp 10), type := 77, pos := "rehashes.go:25", after := #[], guard := none } : Oper)) (v := ?ve2) rfl (by kernel_rfl) (by kernel_rfl) (by kernel_rfl) (fun _ _ _ h => h) (Or.inl ⟨by rfl, fun w hSw => ?hye2⟩) (by assumption) ?re2
        case hye2 => (try dsimp only at hSw); go_simp; (try with_reducible rfl)
        (try simp only [Act.put, List.setIfInBounds_toArray, List.set_cons_zero, List.set_cons_succ])
        refine wpAnyH_ready (rs := [3]) (by kernel_rfl) (by simp) ?_
        refine AllReadyH.cons (o := ({ dst := some 44, op := Op.call { callee := Callee.value (Operand.func 96), args := #[Operand.tmp 43], argTypes := #[77] }, type := 77, pos := "rehashes.go:25", after := #[{ on := 2, ground := Ground.data }], guard := none } : Oper)) rfl (fun Kq hKq => ?_) AllReadyH.nil
        go_simp
        (refine (clip_any _ _ _ _ HCP.out.1 HCP.out.2).mono ?_; rintro e w1 ⟨rfl, rfl⟩)
        refine hKq.out _ _ ?_ (fun hHeld => ?_)
        · exact hHeld
        clear hKq Kq
        (try simp only [Act.put, List.setIfInBounds_toArray, List.set_cons_zero, List.set_cons_succ])
        refine wpAnyH_take (i := 4) (oi := ({ dst := some 45, op := Op.indexAddr 149 (Operand.tmp 41) (Operand.tmp 42), type := 0, pos := "rehashes.go:25", after := #[{ on := 0, ground := Ground.data }, { on := 1, ground := Ground.data }, { on := 0, ground := Ground.phase }, { on := 1, ground := Ground.phase }, { on := 2, ground := Ground.phase }, { on := 3, ground := Ground.phase }], guard := none } : Oper)) (v := ?ve4) rfl (by kernel_rfl) (by kernel_rfl) (by kernel_rfl) (fun _ _ _ h => h) (Or.inl ⟨by rfl, fun w hSw => ?hye4⟩) (by assumption) ?re4
        case hye4 => (try dsimp only at hSw); go_simp; (try with_reducible rfl)
        (try simp only [Act.put, List.setIfInBounds_toArray, List.set_cons_zero, List.set_cons_succ])
        refine wpAnyH_ready (rs := [5]) (by kernel_rfl) (by simp) ?_
        refine AllReadyH.cons (o := ({ dst := none, op := Op.store 77 (Operand.tmp 45) (Operand.tmp 44), type := 0, pos := "rehashes.go:25", after := #[{ on := 4, ground := Ground.data }, { on := 3, ground := Ground.data }, { on := 3, ground := Ground.chain }, { on := 0, ground := Ground.phase }, { on := 1, ground := Ground.phase }, { on := 2, ground := Ground.phase }, { on := 3, ground := Ground.phase }], guard := none } : Oper)) rfl (fun Kq hKq => ?_) AllReadyH.nil
        go_simp
        refine hKq.out _ _ ?_ (fun hHeld => ?_)
        · exact (World.cell?_setCell_other _ _ _ _ (by intro e; injection e with e1; exact HG3.out e1)).trans hHeld
        clear hKq Kq
        (try simp only [Act.put, List.setIfInBounds_toArray, List.set_cons_zero, List.set_cons_succ])
        refine wpAnyH_done (by kernel_rfl) (onlyN_in ?_) _
        go_wp2_with fail
        go_roundg (n - (k + 1))
        case measure => omega
        case rel => exact ⟨k + 1, _, by omega, rfl, by go_num, HEND.out.1, HEND.out.2.1, HEND.out.2.2.1, HEND.out.2.2.2.1, HEND.out.2.2.2.2⟩
      · obtain rfl : k = n := by omega
        go_wp2_with fail
        refine ⟨by simp, .inl ⟨_, _, rfl, run_takeDeferred HDK.out, ?_⟩⟩
        have hg := grownBy_putObj' wr D (.deferred none)
        have hr : ∀ r, some D = some r → ∃ o : Obj, wr.heap[r]? = some o ∧ o.isCells = false := fun r e => by cases e; exact ⟨_, HDK.out, rfl⟩
        refine ⟨_, results_tmp rfl _ _ _, _, _, rfl, ?_, HCL.out, ?_⟩
        · rw [← HEE.out, ← HB0.out]
          exact HT.out.grown hg hr
        · rw [← HB0.out]
          exact HBW.out.trans ((turns_grown hg).below (by have := HBW.out.size; have := HB0.out; omega) (fun k hk e => by injection e with e; omega))
  case stop =>
    rintro D c' pre W _ _ hf _
    exact hf.elim
end Go.Proofs.YtdodloannlfnlaaGreat.S10
namespace Go.Proofs.YtdodloannlfnlaaGreat.S10
open Go.Proofs.YtdodloannlfnlaaGreat
open Go.RowKit

def tabB (b : Int) : Bool := decide (2 ≤ b) && decide (b ≤ 8)
theorem tab_no {b : Int} (h : b < 2 ∨ 8 < b) : tabB b = false := by
  unfold tabB
  rcases h with h | h
  · rw [decide_eq_false (by omega), Bool.false_and]
  · rw [decide_eq_false (p := b ≤ 8) (by omega), Bool.and_false]
theorem tab_yes {b : Int} (h : 2 ≤ b) (g : b ≤ 8) : tabB b = true := by
  unfold tabB
  rw [decide_eq_true h, decide_eq_true g]; rfl
theorem is_any (b : Int) (w : World) : Calls Tryz.prog 107 #[.int .i64 b] w fun e w' => e = .returned (.bool (tabB b)) ∧ w = w' := by
  unfold tabB
  by_cases h : 2 ≤ b
  · rw [decide_eq_true h, Bool.true_and]
    go_enter Tryz.func107, Tryz.ntmps107
    go_wp2
    go_ret
    exact ⟨rfl, rfl⟩
  · rw [decide_eq_false h, Bool.false_and]
    have h' : b < 2 := by omega
    go_enter Tryz.func107, Tryz.ntmps107
    go_wp2
    go_ret
    exact ⟨rfl, rfl⟩
def sizeN (b : Int) : Nat := if 2 ≤ b ∧ b ≤ 8 then 2 ^ b.toNat else 0
theorem seven {b : Int} (h : 2 ≤ b) (g : b ≤ 8) : b = 2 ∨ b = 3 ∨ b = 4 ∨ b = 5 ∨ b = 6 ∨ b = 7 ∨ b = 8 := by omega
theorem size_no (b : Int) (h : b < 2 ∨ 8 < b) (w : World) : Calls Tryz.prog 88 #[.int .i64 b] w fun e w' => e = .returned (.int .i64 0) ∧ w = w' := by
  have q := is_any b w
  rw [tab_no h] at q
  have Q := Lib.hid q
  clear q h
  go_enter Tryz.func88, Tryz.ntmps88
  go_wp2_with fail
  refine Q.out.mono ?_
  rintro e w' ⟨rfl, rfl⟩
  go_wp2_with fail
  go_ret
  exact ⟨rfl, rfl⟩
theorem size_at (b : Int) (n : Int) (h : 2 ≤ b) (g : b ≤ 8) (hn : n = ((2 ^ b.toNat : Nat) : Int)) (w : World) : Calls Tryz.prog 88 #[.int .i64 b] w fun e w' => e = .returned (.int .i64 n) ∧ w = w' := by
  have q := is_any b w
  rw [tab_yes h g] at q
  have Q := Lib.hid q
  clear q
  rcases seven h g with rfl | rfl | rfl | rfl | rfl | rfl | rfl
  all_goals
    subst hn
    clear h g
    go_enter Tryz.func88, Tryz.ntmps88
    go_wp2_with fail
    refine Q.out.mono ?_
    rintro e w' ⟨rfl, rfl⟩
    go_wp2_with fail
    go_ret
    exact ⟨rfl, rfl⟩
theorem size_any (b : Int) (w : World) : Calls Tryz.prog 88 #[.int .i64 b] w fun e w' => e = .returned (.int .i64 (sizeN b : Nat)) ∧ w = w' := by
  by_cases h : 2 ≤ b ∧ b ≤ 8
  · refine size_at b _ h.1 h.2 ?_ w
    unfold sizeN
    rw [if_pos h]
  · have := size_no b (by omega) w
    unfold sizeN
    rw [if_neg h]
    exact this
end Go.Proofs.YtdodloannlfnlaaGreat.S10
namespace Go.Proofs.YtdodloannlfnlaaGreat.S10
open Go.Proofs.YtdodloannlfnlaaGreat
open Go.RowKit

def hsh (a b : Nat) : Nat := a * 11400714819323198485 % 18446744073709551616 / 2 ^ (64 - b)
theorem hsh_lt (a b : Nat) (h : b ≤ 64) : hsh a b < 2 ^ b := by
  unfold hsh
  have e : 2 ^ 64 = 2 ^ (64 - b) * 2 ^ b := by rw [← Nat.pow_add]; congr 1; omega
  apply Nat.div_lt_of_lt_mul
  rw [← e]
  exact Nat.mod_lt _ (by omega)
theorem hsh_half (a b : Nat) (h : b < 64) : hsh a (b + 1) / 2 = hsh a b := by
  unfold hsh
  rw [Nat.div_div_eq_div_mul, ← Nat.pow_succ]
  congr 2
  omega
theorem wrap_hash (a P : Nat) (hp : 2 ≤ P) : wrap64 (IntKind.u64.wrap ((a : Int) * 11400714819323198485) / (P : Int)) = ((a * 11400714819323198485 % 18446744073709551616 / P : Nat) : Int) := by
  have e : IntKind.u64.wrap ((a : Int) * 11400714819323198485) = ((a * 11400714819323198485 % 18446744073709551616 : Nat) : Int) := by
    rw [IntKind.wrap_u64]; omega
  rw [e]
  have hm := Nat.mod_lt (a * 11400714819323198485) (by omega : 0 < 18446744073709551616)
  generalize a * 11400714819323198485 % 18446744073709551616 = m at *
  have hq : m / P < 9223372036854775808 := by
    apply Nat.div_lt_of_lt_mul
    calc m < 18446744073709551616 := hm
      _ = 2 * 9223372036854775808 := by omega
      _ ≤ P * 9223372036854775808 := Nat.mul_le_mul_right _ hp
  rw [← Int.natCast_ediv]
  generalize m / P = x at *
  unfold wrap64
  omega
theorem hash_yes (a b : Nat) (ha : a < 4294967296) (h : 2 ≤ b) (g : b ≤ 8) (w : World) : Calls Tryz.prog 95 #[.int .u32 a, .int .i64 b] w fun e w' => e = .returned (.int .i64 (hsh a b : Nat)) ∧ w = w' := by
  have q := is_any b w
  rw [tab_yes (by omega) (by omega)] at q
  have Q := Lib.hid q
  clear q
  have hb : b = 2 ∨ b = 3 ∨ b = 4 ∨ b = 5 ∨ b = 6 ∨ b = 7 ∨ b = 8 := by omega
  unfold hsh
  rcases hb with rfl | rfl | rfl | rfl | rfl | rfl | rfl
  · have f : wrap64 (IntKind.u64.wrap ((a : Int) * 11400714819323198485) / 4611686018427387904) = ((a * 11400714819323198485 % 18446744073709551616 / 2 ^ (64 - 2) : Nat) : Int) := wrap_hash a 4611686018427387904 (by omega)
    generalize a * 11400714819323198485 % 18446744073709551616 / 2 ^ (64 - 2) = r at *
    clear h g
    go_enter Tryz.func95, Tryz.ntmps95
    go_wp2_with fail
    refine Q.out.mono ?_
    rintro e w' ⟨rfl, rfl⟩
    go_wp2_with fail
    rw [f]
    go_ret
    exact ⟨rfl, rfl⟩
  · have f : wrap64 (IntKind.u64.wrap ((a : Int) * 11400714819323198485) / 2305843009213693952) = ((a * 11400714819323198485 % 18446744073709551616 / 2 ^ (64 - 3) : Nat) : Int) := wrap_hash a 2305843009213693952 (by omega)
    generalize a * 11400714819323198485 % 18446744073709551616 / 2 ^ (64 - 3) = r at *
    clear h g
    go_enter Tryz.func95, Tryz.ntmps95
    go_wp2_with fail
    refine Q.out.mono ?_
    rintro e w' ⟨rfl, rfl⟩
    go_wp2_with fail
    rw [f]
    go_ret
    exact ⟨rfl, rfl⟩
  · have f : wrap64 (IntKind.u64.wrap ((a : Int) * 11400714819323198485) / 1152921504606846976) = ((a * 11400714819323198485 % 18446744073709551616 / 2 ^ (64 - 4) : Nat) : Int) := wrap_hash a 1152921504606846976 (by omega)
    generalize a * 11400714819323198485 % 18446744073709551616 / 2 ^ (64 - 4) = r at *
    clear h g
    go_enter Tryz.func95, Tryz.ntmps95
    go_wp2_with fail
    refine Q.out.mono ?_
    rintro e w' ⟨rfl, rfl⟩
    go_wp2_with fail
    rw [f]
    go_ret
    exact ⟨rfl, rfl⟩
  · have f : wrap64 (IntKind.u64.wrap ((a : Int) * 11400714819323198485) / 576460752303423488) = ((a * 11400714819323198485 % 18446744073709551616 / 2 ^ (64 - 5) : Nat) : Int) := wrap_hash a 576460752303423488 (by omega)
    generalize a * 11400714819323198485 % 18446744073709551616 / 2 ^ (64 - 5) = r at *
    clear h g
    go_enter Tryz.func95, Tryz.ntmps95
    go_wp2_with fail
    refine Q.out.mono ?_
    rintro e w' ⟨rfl, rfl⟩
    go_wp2_with fail
    rw [f]
    go_ret
    exact ⟨rfl, rfl⟩
  · have f : wrap64 (IntKind.u64.wrap ((a : Int) * 11400714819323198485) / 288230376151711744) = ((a * 11400714819323198485 % 18446744073709551616 / 2 ^ (64 - 6) : Nat) : Int) := wrap_hash a 288230376151711744 (by omega)
    generalize a * 11400714819323198485 % 18446744073709551616 / 2 ^ (64 - 6) = r at *
    clear h g
    go_enter Tryz.func95, Tryz.ntmps95
    go_wp2_with fail
    refine Q.out.mono ?_
    rintro e w' ⟨rfl, rfl⟩
    go_wp2_with fail
    rw [f]
    go_ret
    exact ⟨rfl, rfl⟩
  · have f : wrap64 (IntKind.u64.wrap ((a : Int) * 11400714819323198485) / 144115188075855872) = ((a * 11400714819323198485 % 18446744073709551616 / 2 ^ (64 - 7) : Nat) : Int) := wrap_hash a 144115188075855872 (by omega)
    generalize a * 11400714819323198485 % 18446744073709551616 / 2 ^ (64 - 7) = r at *
    clear h g
    go_enter Tryz.func95, Tryz.ntmps95
    go_wp2_with fail
    refine Q.out.mono ?_
    rintro e w' ⟨rfl, rfl⟩
    go_wp2_with fail
    rw [f]
    go_ret
    exact ⟨rfl, rfl⟩
  · have f : wrap64 (IntKind.u64.wrap ((a : Int) * 11400714819323198485) / 72057594037927936) = ((a * 11400714819323198485 % 18446744073709551616 / 2 ^ (64 - 8) : Nat) : Int) := wrap_hash a 72057594037927936 (by omega)
    generalize a * 11400714819323198485 % 18446744073709551616 / 2 ^ (64 - 8) = r at *
    clear h g
    go_enter Tryz.func95, Tryz.ntmps95
    go_wp2_with fail
    refine Q.out.mono ?_
    rintro e w' ⟨rfl, rfl⟩
    go_wp2_with fail
    rw [f]
    go_ret
    exact ⟨rfl, rfl⟩
end Go.Proofs.YtdodloannlfnlaaGreat.S10
namespace Go.Proofs.YtdodloannlfnlaaGreat.S10
open Go.Proofs.YtdodloannlfnlaaGreat
open Go.RowKit

theorem rsize_no (b : Int) (h : b < 2 ∨ 8 < b) (w : World) : Calls Tryz.prog 89 #[.int .i64 b] w fun e w' => e = .returned (.int .i64 0) ∧ w = w' := by
  by_cases h2 : b < 2
  · clear h
    go_enter Tryz.func89, Tryz.ntmps89
    go_wp2_with fail
    go_ret
    exact ⟨rfl, rfl⟩
  · have h8 : 8 < b := by omega
    have h2' : 2 ≤ b := by omega
    clear h h2
    go_enter Tryz.func89, Tryz.ntmps89
    go_wp2_with fail
    go_ret
    exact ⟨rfl, rfl⟩
theorem rsize_yes (b : Nat) (h : 2 ≤ b) (g : b ≤ 8) (w : World) : Calls Tryz.prog 89 #[.int .i64 b] w fun e w' => e = .returned (.int .i64 (2 ^ b : Nat)) ∧ w = w' := by
  have h' : 2 ≤ (b : Int) := by omega
  have g' : (b : Int) ≤ 8 := by omega
  go_enter Tryz.func89, Tryz.ntmps89
  go_wp2_with fail
  go_loopg [3, 4] b (fun q s3 s4 wx => ∃ k : Nat, k ≤ b ∧ q = b - k ∧ s3 = .int .i64 (2 ^ k : Nat) ∧ s4 = .int .i64 (k : Int) ∧ w = wx)
  case atStart => exact ⟨0, by omega, rfl, rfl, rfl, rfl⟩
  case round =>
    obtain ⟨k, hk, rfl, rfl, rfl, rfl⟩ := hrel
    by_cases hkb : k < b
    · have hz : 2 ^ k ≤ 128 := by
        calc 2 ^ k ≤ 2 ^ 7 := Nat.pow_le_pow_right (by omega) (by omega)
          _ = 128 := rfl
      have hs : 2 ^ (k + 1) = 2 * 2 ^ k := by rw [Nat.pow_succ]; omega
      have HS := Lib.hid hs
      obtain ⟨z, hzz⟩ : ∃ z, z = 2 ^ k := ⟨_, rfl⟩
      rw [← hzz] at hz ⊢
      have HZ := Lib.hid hzz
      clear hzz hs
      go_wp2_with fail
      go_roundg (b - (k + 1))
      case measure => omega
      case rel =>
        refine ⟨k + 1, by omega, rfl, ?_, by go_num, rfl⟩
        rw [HS.out, ← HZ.out]
        go_num
    · obtain rfl : k = b := by omega
      obtain ⟨z, hzz⟩ : ∃ z, z = 2 ^ k := ⟨_, rfl⟩
      rw [← hzz]
      have HZ := Lib.hid hzz
      clear hzz
      go_wp2_with fail
      go_ret
      exact ⟨by rw [← HZ.out]; rfl, rfl⟩
theorem rsize_any (b : Int) (w : World) : Calls Tryz.prog 89 #[.int .i64 b] w fun e w' => e = .returned (.int .i64 (sizeN b : Nat)) ∧ w = w' := by
  unfold sizeN
  by_cases h : 2 ≤ b ∧ b ≤ 8
  · obtain ⟨n, rfl⟩ := Int.eq_ofNat_of_zero_le (show 0 ≤ b by omega)
    rw [if_pos h]
    exact rsize_yes n (by omega) (by omega) w
  · rw [if_neg h]
    exact rsize_no b (by omega) w
theorem u64_hash (a m : Nat) (hm : m = a * 11400714819323198485 % 18446744073709551616) : IntKind.u64.wrap ((a : Int) * 11400714819323198485) = (m : Int) := by
  rw [IntKind.wrap_u64]; omega
set_option maxHeartbeats 1000000 in
theorem rhash_yes (a b : Nat) (ha : a < 4294967296) (h : 2 ≤ b) (g : b ≤ 8) (w : World) : Calls Tryz.prog 90 #[.int .u32 a, .int .i64 b] w fun e w' => e = .returned (.int .i64 (hsh a b : Nat)) ∧ w = w' := by
  have h' : 2 ≤ (b : Int) := by omega
  have g' : (b : Int) ≤ 8 := by omega
  have hl := hsh_lt a b (by omega)
  have hl2 : 2 ^ b ≤ 256 := by
    calc 2 ^ b ≤ 2 ^ 8 := Nat.pow_le_pow_right (by omega) (by omega)
      _ = 256 := rfl
  unfold hsh at hl ⊢
  obtain ⟨m, hm⟩ : ∃ m, m = a * 11400714819323198485 % 18446744073709551616 := ⟨_, rfl⟩
  have f := u64_hash a m hm
  have hmm : m < 18446744073709551616 := by rw [hm]; exact Nat.mod_lt _ (by omega)
  rw [← hm] at hl ⊢
  have HM := Lib.hid hm; have HL := Lib.hid hl
  clear hm hl
  go_enter Tryz.func90, Tryz.ntmps90
  go_wp2_with fail
  go_loopg [5, 6] (64 - b) (fun q s5 s6 wx => ∃ i : Nat, b ≤ i ∧ i ≤ 64 ∧ q = 64 - i ∧ s5 = .int .u64 (m / 2 ^ (i - b) : Nat) ∧ s6 = .int .i64 (i : Int) ∧ w = wx)
  case atStart =>
    refine ⟨b, by omega, by omega, rfl, ?_, rfl, rfl⟩
    rw [Nat.sub_self, Nat.pow_zero, Nat.div_one]
  case round =>
    obtain ⟨i, hi, hi2, rfl, rfl, rfl, rfl⟩ := hrel
    by_cases h64 : i < 64
    · have hx : m / 2 ^ (i - b) ≤ m := Nat.div_le_self _ _
      have hs : m / 2 ^ (i + 1 - b) = m / 2 ^ (i - b) / 2 := by
        rw [Nat.div_div_eq_div_mul, ← Nat.pow_succ, show i + 1 - b = (i - b) + 1 by omega]
      have HSS := Lib.hid hs
      obtain ⟨x, hxx⟩ : ∃ x, x = m / 2 ^ (i - b) := ⟨_, rfl⟩
      rw [← hxx] at hx ⊢
      have HX := Lib.hid hxx
      clear hxx hs
      go_wp2_with fail
      go_roundg (64 - (i + 1))
      case measure => omega
      case rel =>
        refine ⟨i + 1, by omega, by omega, rfl, ?_, by go_num, rfl⟩
        rw [HSS.out, ← HX.out]
        go_num
    · obtain rfl : i = 64 := by omega
      have hx := HL.out
      obtain ⟨x, hxx⟩ : ∃ x, x = m / 2 ^ (64 - b) := ⟨_, rfl⟩
      rw [← hxx] at hx ⊢
      have HX := Lib.hid hxx
      have hx3 : x < 256 := by omega
      clear hxx hx
      go_wp2_with fail
      go_ret
      exact ⟨by rw [← HX.out]; rfl, rfl⟩
theorem pow_bits (b : Nat) (g : b ≤ 8) : 2 ^ b ≤ 256 := by
  calc 2 ^ b ≤ 2 ^ 8 := Nat.pow_le_pow_right (by omega) (by omega)
    _ = 256 := rfl
theorem hash_kit : ∃ h : Nat → Nat → Nat, (∀ b : Nat, 2 ≤ b → b ≤ 8 → ∀ (k : Nat) (w : World), k < 4294967296 → Calls Tryz.prog 95 #[.int .u32 k, .int .i64 b] w fun e w' => e = .returned (.int .i64 (h b k : Nat)) ∧ w = w') ∧
    (∀ b : Nat, 2 ≤ b → b ≤ 8 → ∀ (k : Nat) (w : World), k < 4294967296 → Calls Tryz.prog 90 #[.int .u32 k, .int .i64 b] w fun e w' => e = .returned (.int .i64 (h b k : Nat)) ∧ w = w') ∧
    (∀ b : Nat, b ≤ 8 → ∀ k, h b k < 2 ^ b) ∧ (∀ b : Nat, b < 64 → ∀ k, h (b + 1) k / 2 = h b k) ∧ h 2 0 = 0 ∧ h 2 1 = 2 :=
  ⟨fun b k => hsh k b, fun b h g k w hk => hash_yes k b hk h g w, fun b h g k w hk => rhash_yes k b hk h g w, fun b g k => hsh_lt k b (by omega), fun b g k => hsh_half k b g, by decide, by decide⟩
end Go.Proofs.YtdodloannlfnlaaGreat.S10
namespace Go.Proofs.YtdodloannlfnlaaGreat.S10
open Go.Proofs.YtdodloannlfnlaaGreat
open Go.RowKit

theorem cb_of {w : World} {base : Nat} {s : Value} {D : List Ent} (h : RowE w base s D) (hd : s = .slice none 0 0 ∨ 0 < D.length) : CB w s := by
  rcases hd with rfl | hd
  · exact cb_none w
  · exact h.cb hd (by omega)
theorem Tab.one {w : World} {base : Nat} {s : Value} {ss : List Value} {Ls : List (List Ent)} (h : Tab w base s ss Ls) : ∀ u ∈ ss, u.oneCell' = true := fun u hu => by
  obtain ⟨i, hi, rfl⟩ := List.getElem_of_mem hu
  obtain ⟨A, c, e, _⟩ := (h.rowE (List.getElem?_eq_getElem hi)).shape
  rw [e]; rfl
theorem keys_in {Ls : List (List Ent)} (hk : Keys Ls.flatten) {i : Nat} (hi : i < Ls.length) {j : Nat} (hj : j < Ls[i]!.length) : ∃ k : Nat, (el Ls[i]! j).k = (k : Int) ∧ k < 4294967296 := by
  have := hk.get (cum Ls i + j)
  rwa [cum_at hi hj] at this
theorem Rd.key {w : World} {base : Nat} {A : Option Addr} {D : List Ent} (h : Rd w base A (flat D)) {i : Nat} (hi : i < D.length) {k : Nat} (hk : (el D i).k = (k : Int)) : ∃ g o, A = some ⟨g, o, none⟩ ∧ g < base ∧
    w.cell? ⟨g, o + i * 3, none⟩ = some (.int .i64 (el D i).t) ∧ w.cell? ⟨g, o + i * 3 + 1, none⟩ = some (.int .u32 (k : Int)) ∧ w.cell? ⟨g, o + i * 3 + 2, none⟩ = some (.int .u64 (el D i).z) := by
  obtain ⟨g, o, e, hg, h0, h1, h2⟩ := h.ent hi
  exact ⟨g, o, e, hg, h0, by rw [← hk]; exact h1, h2⟩
end Go.Proofs.YtdodloannlfnlaaGreat.S10
namespace Go.Proofs.YtdodloannlfnlaaGreat.S10
open Go.Proofs.YtdodloannlfnlaaGreat
open Go.RowKit

theorem reh_step (h : Nat → Nat) (k : Nat) (E : List Ent) : reh h (k + 1) E = reh h k E ++ [bk h k E] := by
  unfold reh
  rw [List.range_succ, List.map_append]; rfl
theorem take_el {E : List Ent} {m : Nat} (h : m < E.length) : E.take (m + 1) = E.take m ++ [el E m] := take_snoc h
set_option maxHeartbeats 4000000 in
set_option maxRecDepth 20000 in
theorem rrehash_any {w : World} {base n c : Nat} {b : Int} {A : Option Addr} {Ls : List (List Ent)} (h : Nat → Nat)
    (hs : ∀ w, Calls Tryz.prog 89 #[.int .i64 b] w fun e w' => e = .returned (.int .i64 (n : Nat)) ∧ w = w')
    (hh : 0 < n → ∀ (k : Nat) w, k < 4294967296 → Calls Tryz.prog 90 #[.int .u32 k, .int .i64 b] w fun e w' => e = .returned (.int .i64 (h k : Nat)) ∧ w = w')
    (hn : n ≤ 256) (hq : Qs w base A Ls) (hbase : base ≤ w.heap.size) (hc : Ls.length ≤ c) (hc9 : c ≤ 9223372036854775807) (hkeys : Keys Ls.flatten) (hlen : Ls.length ≤ 1000000) (hlen2 : Ls.flatten.length ≤ 100000) :
    Calls Tryz.prog 48 #[.slice A Ls.length c, .int .i64 b] w fun e w' => ∃ s ss, e = .returned s ∧ Tab w' w.heap.size s ss (reh h n Ls.flatten) ∧ Below w.heap.size w w' := by
  have HS := Lib.hid hs; have HH := Lib.hid hh; have HQ := Lib.hid hq; have HK := Lib.hid hkeys; have HBS := Lib.hid hbase; have HL2 := Lib.hid hlen2
  clear hs hh hq hkeys hbase hlen2
  obtain ⟨N, hN⟩ : ∃ N, N = Ls.length := ⟨_, rfl⟩
  rw [← hN] at hc hlen ⊢
  have HN := Lib.hid hN
  clear hN
  obtain ⟨E, hE⟩ : ∃ E, E = Ls.flatten := ⟨_, rfl⟩
  have HE := Lib.hid hE
  rw [← hE] at HL2 ⊢
  clear hE
  go_enter Tryz.func48, Tryz.ntmps48
  go_wp2_with fail
  go_loopg [5, 6] n (fun q s5 s6 wx => ∃ (k : Nat) (ss : List Value), k ≤ n ∧ q = n - k ∧ s6 = .int .i64 (k : Int) ∧ Tab wx w.heap.size s5 ss (reh h k E) ∧ Below w.heap.size w wx)
  case atStart => exact ⟨0, [], by omega, rfl, rfl, tab_nil _ _, Below.refl _ _⟩
  case round =>
    obtain ⟨k, ss, hk, rfl, rfl, ht, hb⟩ := hrel
    have HT := Lib.hid ht; have HB := Lib.hid hb
    clear ht hb
    obtain ⟨wo, rfl⟩ : ∃ wo : World, wo = wr := ⟨_, rfl⟩
    by_cases hkn : k < n
    · have HHH := Lib.hid (HH.out (by omega))
      go_wp2_with (go_at_call 89; refine (HS.out _).mono ?_; rintro e w' ⟨rfl, rfl⟩)
      go_loopg [7, 8] N (fun q s7 s8 wx => ∃ i : Nat, i ≤ N ∧ q = N - i ∧ s8 = .int .i64 (i : Int) ∧ RowE wx wo.heap.size s7 (bk h k (E.take (cum Ls i))) ∧ (s7 = .slice none 0 0 ∨ 0 < (bk h k (E.take (cum Ls i))).length) ∧ Below wo.heap.size wo wx)
      case atStart => exact ⟨0, by omega, rfl, rfl, row_nil _ _ _, Or.inl rfl, Below.refl _ _⟩
      case round =>
        obtain ⟨i, hi, rfl, rfl, hrow, hnn, hbo⟩ := hrel
        have HR := Lib.hid hrow; have HNN := Lib.hid hnn; have HBO := Lib.hid hbo
        clear hrow hnn hbo
        obtain ⟨wm, rfl⟩ : ∃ wm : World, wm = wr := ⟨_, rfl⟩
        by_cases hiN : i < N
        · have hil : i < Ls.length := by have := HN.out; omega
          have hbw : Below w.heap.size w wm := HB.out.trans (HBO.out.mono HB.out.size)
          have HBW := Lib.hid hbw
          obtain ⟨g, o, A', c', rfl, hg, cq0, hc', hc9', hrd⟩ := HQ.out.at hil
          have HRD := Lib.hid hrd
          have HKI := Lib.hid (fun j => keys_in HK.out hil (j := j))
          have HCS := Lib.hid (cum_succ hil)
          have hca : ∀ j, j < Ls[i]!.length → el Ls.flatten (cum Ls i + j) = el Ls[i]! j := fun j hj => cum_at hil hj
          have hcl : ∀ j, j < Ls[i]!.length → cum Ls i + j < Ls.flatten.length := fun j hj => cum_mono hil hj
          rw [← HE.out] at hca hcl
          have HCA := Lib.hid hca; have HCL := Lib.hid hcl
          obtain ⟨D, hD⟩ : ∃ D, D = Ls[i]! := ⟨_, rfl⟩
          rw [← hD] at cq0 hc' HRD HKI HCS HCA HCL
          obtain ⟨M, hM⟩ : ∃ M, M = D.length := ⟨_, rfl⟩
          rw [← hM] at cq0 hc' HKI HCS HCA HCL
          have HM := Lib.hid hM
          clear hM hD hrd hbw hca hcl
          have hgw : g < w.heap.size := by have := HBS.out; omega
          have cq : wm.cell? ⟨g, o + i, none⟩ = some (.slice A' M c') := (HBW.out.cell (p := ⟨g, o + i, none⟩) hgw).trans cq0
          have CQ0 := Lib.hid cq0
          clear cq0
          go_wp2_with fail
          go_loopg [7, 9] M (fun q s7 s9 wx => ∃ j : Nat, j ≤ M ∧ q = M - j ∧ s9 = .int .i64 (j : Int) ∧ RowE wx wo.heap.size s7 (bk h k (E.take (cum Ls i + j))) ∧ (s7 = .slice none 0 0 ∨ 0 < (bk h k (E.take (cum Ls i + j))).length) ∧ Below wo.heap.size wo wx ∧ Below w.heap.size w wx)
          case atStart => exact ⟨0, by omega, rfl, rfl, HR.out, HNN.out, HBO.out, HBW.out⟩
          case round =>
            obtain ⟨j, hj, rfl, rfl, hrow, hnn, hbo, hbx⟩ := hrel
            have HR3 := Lib.hid hrow; have HNN3 := Lib.hid hnn; have HBO3 := Lib.hid hbo; have HBX := Lib.hid hbx
            clear hrow hnn hbo hbx
            have cq3 : wr.cell? ⟨g, o + i, none⟩ = some (.slice A' M c') := (HBX.out.cell (p := ⟨g, o + i, none⟩) hgw).trans CQ0.out
            by_cases hjm : j < M
            · obtain ⟨kk, hkk, hk2⟩ := HKI.out j hjm
              obtain ⟨g1, o1, rfl, hg1, c0, c1, c2⟩ := (HRD.out.below HBX.out HBS.out).key (i := j) (by have := HM.out; omega) hkk
              have hca := HCA.out j hjm
              have hcl := HCL.out j hjm
              have hte := take_el (E := E) (m := cum Ls i + j) hcl
              rw [hca] at hte
              have hle := bk_le h k (E.take (cum Ls i + j))
              rw [List.length_take] at hle
              have hL2 := HL2.out
              have hbs := bk_snoc h k (E.take (cum Ls i + j)) (el D j)
              rw [← hte] at hbs
              obtain ⟨F, hF⟩ : ∃ F, F = bk h k (E.take (cum Ls i + j)) := ⟨_, rfl⟩
              rw [← hF] at hle hbs
              have HRF : Hid (RowE wr wo.heap.size u7 F) := Lib.hid (by rw [hF]; exact HR3.out)
              have HNF : Hid (u7 = .slice none 0 0 ∨ 0 < F.length) := Lib.hid (by rw [hF]; exact HNN3.out)
              obtain ⟨d, hd⟩ : ∃ d, d = el D j := ⟨_, rfl⟩
              rw [← hd] at c0 c2 hkk hbs
              rw [hkk, Int.toNat_natCast] at hbs
              have HFL := Lib.hid (show F.length + 1 ≤ 1000000 by omega)
              have HBK := Lib.hid hbs
              have HKK := Lib.hid hkk
              have hgr : g < wr.heap.size := by have := HBX.out.size; omega
              clear hca hcl hte hle hL2 hbs hF hd hkk
              by_cases heq : h kk = k
              · have he : ((h kk : Nat) : Int) = (k : Int) := by omega
                go_wp2_with (first
                  | (go_at_call 90; refine (HHH.out kk _ hk2).mono ?_; rintro e w' ⟨rfl, rfl⟩)
                  | (at_builtin; refine wpList_append_row layO rfl _ _ rfl rfl (HRF.out.alloc _) (flat_one' _) (by have := HBO3.out.size; simp; omega) 1 rfl (rd_one wr ⟨d.t, (kk : Int), d.z⟩ 163) rfl (flat_one' _) HFL.out ?_; intro v2 w2 hr2 ht2 ho2; (have HR2 := Lib.hid hr2); (have HT2 := Lib.hid ht2); (clear hr2 ht2 ho2)))
                go_roundg (M - (j + 1))
                case measure => omega
                case rel =>
                  have hdd : (⟨d.t, (kk : Int), d.z⟩ : Ent) = d := by rw [← HKK.out]
                  have hba := HBO3.out.alloc HBO3.out.size (.cells #[.int .i64 d.t, .int .u32 (kk : Int), .int .u64 d.z] 163)
                  have hb2 := HT2.out.below (B := wo.heap.size) (by have := hba.size; exact this) (fun j hj e => by have := (HRF.out.lt j e).1; omega)
                  have hb3 := hba.trans hb2
                  have hbk := HBK.out
                  rw [if_pos heq] at hbk
                  refine ⟨j + 1, by omega, rfl, by go_num, ?_, ?_, hb3, HB.out.trans (hb3.mono HB.out.size)⟩
                  · rw [show cum Ls i + (j + 1) = cum Ls i + j + 1 by omega, hbk]
                    have h2 := HR2.out
                    rw [hdd] at h2
                    show Row _ _ 3 _ (F ++ [d]).length (flat (F ++ [d]))
                    rw [flat_app, List.length_append, List.length_singleton]
                    exact h2
                  · rw [show cum Ls i + (j + 1) = cum Ls i + j + 1 by omega, hbk]
                    exact Or.inr (by simp)
              · have he : (((h kk : Nat) : Int) == (k : Int)) = false := by rw [beq_eq_false_iff_ne]; omega
                go_wp2_with (go_at_call 90; refine (HHH.out kk _ hk2).mono ?_; rintro e w' ⟨rfl, rfl⟩)
                go_roundg (M - (j + 1))
                case measure => omega
                case rel =>
                  have hbk := HBK.out
                  rw [if_neg heq] at hbk
                  refine ⟨j + 1, by omega, rfl, by go_num, ?_, ?_, HBO3.out, HBX.out⟩
                  · rw [show cum Ls i + (j + 1) = cum Ls i + j + 1 by omega, hbk]
                    exact HRF.out
                  · rw [show cum Ls i + (j + 1) = cum Ls i + j + 1 by omega, hbk]
                    exact HNF.out
            · obtain rfl : j = M := by omega
              go_wp2_with fail
              go_roundg (N - (i + 1))
              case measure => omega
              case rel =>
                refine ⟨i + 1, by omega, rfl, by go_num, ?_, ?_, HBO3.out⟩
                · rw [HCS.out]; exact HR3.out
                · rw [HCS.out]; exact HNN3.out
        · obtain rfl : i = N := by omega
          have hall : E.take (cum Ls i) = E := by
            rw [HN.out, cum_all, ← HE.out, List.take_length]
          have HRF : Hid (RowE wm wo.heap.size u7 (bk h k E)) := Lib.hid (by have := HR.out; rwa [hall] at this)
          have HNF : Hid (u7 = .slice none 0 0 ∨ 0 < (bk h k E).length) := Lib.hid (by have := HNN.out; rwa [hall] at this)
          obtain ⟨A1, c1, rfl, _, _⟩ := HRF.out.shape
          obtain ⟨m1, hm1⟩ : ∃ m1, m1 = (bk h k E).length := ⟨_, rfl⟩
          rw [← hm1]
          have HM1 := Lib.hid hm1
          have htl : (reh h k E).length = k := reh_len h k E
          have HTL := Lib.hid htl
          have hL2 := HL2.out
          have HTB : Hid (Tab wm w.heap.size u5 ss (reh h k E)) := Lib.hid (HT.out.new HBO.out)
          clear hm1 hall htl
          go_wp2_with (at_builtin; refine wpList_append_row layR rfl _ _ rfl rfl (HTB.out.row.alloc _) HT.out.one (by have := HB.out.size; have := HBO.out.size; simp; omega) 1 rfl (rd_one1 wm (.slice A1 m1 c1) 86) rfl (fun u hu => by simp at hu; rw [hu]; rfl) (by have := HTL.out; omega) ?_; intro v2 w2 hr2 ht2 ho2; (have HR2 := Lib.hid hr2); (have HT2 := Lib.hid ht2); (have HO2 := Lib.hid ho2); (clear hr2 ht2 ho2))
          go_roundg (n - (k + 1))
          case measure => omega
          case rel =>
            have hba := HBO.out.alloc HBO.out.size (.cells #[.slice A1 m1 c1] 86)
            have hrow : RowE wm wo.heap.size (.slice A1 m1 c1) (bk h k E) := by rw [HM1.out]; exact HRF.out
            refine ⟨k + 1, ss ++ [.slice A1 m1 c1], by omega, rfl, by go_num, ?_, ?_⟩
            · rw [reh_step]
              exact HT.out.push HB.out.size hba (hrow.alloc _) ((cb_of hrow (by rw [HM1.out]; exact HNF.out)).turn ((Turns.refl (fun _ => False) _).alloc _) (fun _ _ e => e)) (by have := HR2.out; exact this) HT2.out HO2.out
            · exact HB.out.trans ((hba.mono HB.out.size).trans (HT2.out.below (by have := HB.out.size; have := hba.size; omega) (fun j hj e => by have := (HT.out.row.lt j e).1; omega)))
    · obtain rfl : k = n := by omega
      go_wp2_with (go_at_call 89; refine (HS.out _).mono ?_; rintro e w' ⟨rfl, rfl⟩)
      go_ret
      exact ⟨_, ss, rfl, HT.out, HB.out⟩
end Go.Proofs.YtdodloannlfnlaaGreat.S10
namespace Go.Proofs.YtdodloannlfnlaaGreat.S10
open Go.Proofs.YtdodloannlfnlaaGreat
open Go.RowKit

structure Kit (b : Int) (n : Nat) (h : Nat → Nat) : Prop where
  size : ∀ w, Calls Tryz.prog 88 #[.int .i64 b] w fun e w' => e = .returned (.int .i64 (n : Nat)) ∧ w = w'
  rsize : ∀ w, Calls Tryz.prog 89 #[.int .i64 b] w fun e w' => e = .returned (.int .i64 (n : Nat)) ∧ w = w'
  hash : 0 < n → ∀ (k : Nat) w, k < 4294967296 → Calls Tryz.prog 95 #[.int .u32 k, .int .i64 b] w fun e w' => e = .returned (.int .i64 (h k : Nat)) ∧ w = w'
  rhash : 0 < n → ∀ (k : Nat) w, k < 4294967296 → Calls Tryz.prog 90 #[.int .u32 k, .int .i64 b] w fun e w' => e = .returned (.int .i64 (h k : Nat)) ∧ w = w'
  lt : 0 < n → ∀ k, k < 4294967296 → h k < n
  few : n ≤ 256
theorem rehash_none {w : World} {b : Int} {A : Option Addr} {m c : Nat} (hs : ∀ w, Calls Tryz.prog 88 #[.int .i64 b] w fun e w' => e = .returned (.int .i64 (0 : Nat)) ∧ w = w') :
    Calls Tryz.prog 52 #[.slice A m c, .int .i64 b] w fun e w' => e = .returned (.slice none 0 0) ∧ Below w.heap.size w w' := by
  have HS := Lib.hid hs
  clear hs
  go_enter Tryz.func52, Tryz.ntmps52
  go_wp2_with (go_at_call 88; refine (HS.out _).mono ?_; rintro e w' ⟨rfl, rfl⟩)
  go_ret
  exact ⟨rfl, (Below.refl _ w).alloc (Nat.le_refl _) _⟩
theorem rehash_all {w : World} {base n c : Nat} {b : Int} {A : Option Addr} {Ls : List (List Ent)} {h : Nat → Nat} (K : Kit b n h) (hq : Qs w base A Ls) (hbase : base ≤ w.heap.size) (hc : Ls.length ≤ c) (hc9 : c ≤ 9223372036854775807) (hkeys : Keys Ls.flatten) (hlen : Ls.length ≤ 1000000) (hlen2 : Ls.flatten.length ≤ 100000) :
    Calls Tryz.prog 52 #[.slice A Ls.length c, .int .i64 b] w fun e w' => ∃ s ss, e = .returned s ∧ Tab w' w.heap.size s ss (reh h n Ls.flatten) ∧ (∀ i, i < n → ∃ A' m, ss[i]? = some (.slice A' m m)) ∧ Below w.heap.size w w' := by
  by_cases h0 : 0 < n
  · exact rehash_any h K.size (K.hash h0) (K.lt h0) h0 K.few hq hbase hc hc9 hkeys hlen hlen2
  · obtain rfl : n = 0 := by omega
    refine (rehash_none K.size).mono ?_
    rintro e w' ⟨rfl, hb⟩
    exact ⟨_, [], rfl, tab_nil _ _, fun i hi => by omega, hb⟩
theorem kits : ∃ h : Nat → Nat → Nat, (∀ k : Nat, 2 ≤ k → k ≤ 8 → Kit (k : Int) (2 ^ k) (h k)) ∧ ∀ b : Nat, b < 64 → ∀ k, h (b + 1) k / 2 = h b k := by
  obtain ⟨h, h1, h2, h3, h4, -⟩ := hash_kit
  refine ⟨h, fun k hk hk8 => ?_, h4⟩
  have hz : sizeN (k : Int) = 2 ^ k := by unfold sizeN; rw [if_pos (by omega)]; rfl
  refine ⟨fun w => ?_, fun w => ?_, fun _ => h1 k (by omega) (by omega), fun _ => h2 k (by omega) (by omega), fun _ x _ => h3 k (by omega) x, pow_bits k (by omega)⟩
  · rw [← hz]; exact size_any k w
  · rw [← hz]; exact rsize_any k w
end Go.Proofs.YtdodloannlfnlaaGreat.S10
namespace Go.Proofs.YtdodloannlfnlaaGreat.S10
open Go.Proofs.YtdodloannlfnlaaGreat
open Go.RowKit

structure Bk where
  a : Int
  f : Int
  q : List Ent
instance : Inhabited Bk := ⟨⟨0, 0, []⟩⟩
abbrev nilS : Value := .slice none 0 0
def bcell (L : List Bk) (V : Nat → Value) (j : Nat) : Value :=
  if j % 3 = 0 then .int .u64 L[j / 3]!.a else if j % 3 = 1 then .int .u64 L[j / 3]!.f else V (j / 3)
def bflat (L : List Bk) (V : Nat → Value) : List Value := (List.range (L.length * 3)).map (bcell L V)
theorem bflat_len (L : List Bk) (V : Nat → Value) : (bflat L V).length = L.length * 3 := by simp [bflat]
theorem bflat_at (L : List Bk) (V : Nat → Value) {j : Nat} (h : j < L.length * 3) : (bflat L V)[j]? = some (bcell L V j) := by simp [bflat, h]
theorem bflat_get (L : List Bk) (V : Nat → Value) {i : Nat} (h : i < L.length) : (bflat L V)[i * 3]? = some (.int .u64 L[i]!.a) ∧ (bflat L V)[i * 3 + 1]? = some (.int .u64 L[i]!.f) ∧ (bflat L V)[i * 3 + 2]? = some (V i) := by
  refine ⟨?_, ?_, ?_⟩
  · rw [bflat_at L V (by omega)]
    simp [bcell]
  · rw [bflat_at L V (by omega)]
    simp [bcell, Nat.add_mod, show (i * 3 + 1) / 3 = i by omega]
  · rw [bflat_at L V (by omega)]
    simp [bcell, Nat.add_mod, show (i * 3 + 2) / 3 = i by omega]
def upd {α β : Type} [DecidableEq α] (f : α → β) (x : α) (y : β) : α → β := fun z => if z = x then y else f z
theorem upd_same {α β : Type} [DecidableEq α] (f : α → β) (x : α) (y : β) : upd f x y x = y := by simp [upd]
theorem upd_ne {α β : Type} [DecidableEq α] (f : α → β) {x z : α} (y : β) (h : z ≠ x) : upd f x y z = f z := by simp [upd, h]
theorem bflat_ext {L L' : List Bk} {V V' : Nat → Value} {cs : List Value} (hl : cs.length = L'.length * 3) (h : ∀ j, j < L'.length * 3 → cs[j]? = some (bcell L' V' j)) : cs = bflat L' V' := by
  refine List.ext_getElem? fun j => ?_
  by_cases hj : j < L'.length * 3
  · rw [h j hj, bflat_at L' V' hj]
  · rw [List.getElem?_eq_none (by omega), List.getElem?_eq_none (by rw [bflat_len]; omega)]
theorem bflat_q (L : List Bk) (V : Nat → Value) {i : Nat} (h : i < L.length) (v : Value) (q : List Ent) : (bflat L V).set (i * 3 + 2) v = bflat (L.set i { L[i]! with q := q }) (upd V i v) := by
  refine bflat_ext (L := L) (V := V) (by rw [List.length_set, List.length_set, bflat_len]) fun j hj => ?_
  rw [List.length_set] at hj
  unfold bcell
  rw [get_set h]
  by_cases e : j = i * 3 + 2
  · subst e
    rw [List.getElem?_set_self (by rw [bflat_len]; omega)]
    simp [Nat.add_mod, show (i * 3 + 2) / 3 = i by omega, upd_same]
  · rw [List.getElem?_set_ne (fun e' => e e'.symm), bflat_at L V hj]
    unfold bcell
    by_cases e2 : j / 3 = i
    · subst e2
      have : j % 3 ≠ 2 := fun e3 => e (by omega)
      by_cases e4 : j % 3 = 0
      · simp [e4]
      · simp [show j % 3 = 1 by omega]
    · rw [if_neg e2, upd_ne V v e2]
theorem bflat_a (L : List Bk) (V : Nat → Value) {i : Nat} (h : i < L.length) (a : Int) : (bflat L V).set (i * 3) (.int .u64 a) = bflat (L.set i { L[i]! with a := a }) V := by
  refine bflat_ext (L := L) (V := V) (by rw [List.length_set, List.length_set, bflat_len]) fun j hj => ?_
  rw [List.length_set] at hj
  unfold bcell
  rw [get_set h]
  by_cases e : j = i * 3
  · subst e
    rw [List.getElem?_set_self (by rw [bflat_len]; omega)]
    simp
  · rw [List.getElem?_set_ne (fun e' => e e'.symm), bflat_at L V hj]
    unfold bcell
    by_cases e2 : j / 3 = i
    · subst e2
      have : j % 3 ≠ 0 := fun e3 => e (by omega)
      by_cases e4 : j % 3 = 1
      · simp [e4]
      · simp [show j % 3 = 2 by omega]
    · rw [if_neg e2]
theorem bflat_f (L : List Bk) (V : Nat → Value) {i : Nat} (h : i < L.length) (f : Int) : (bflat L V).set (i * 3 + 1) (.int .u64 f) = bflat (L.set i { L[i]! with f := f }) V := by
  refine bflat_ext (L := L) (V := V) (by rw [List.length_set, List.length_set, bflat_len]) fun j hj => ?_
  rw [List.length_set] at hj
  unfold bcell
  rw [get_set h]
  by_cases e : j = i * 3 + 1
  · subst e
    rw [List.getElem?_set_self (by rw [bflat_len]; omega)]
    simp [Nat.add_mod, show (i * 3 + 1) / 3 = i by omega]
  · rw [List.getElem?_set_ne (fun e' => e e'.symm), bflat_at L V hj]
    unfold bcell
    by_cases e2 : j / 3 = i
    · subst e2
      have : j % 3 ≠ 1 := fun e3 => e (by omega)
      by_cases e4 : j % 3 = 0
      · simp [e4]
      · simp [show j % 3 = 2 by omega]
    · rw [if_neg e2]
theorem Row.setAt {w : World} {base g o n sz cap m : Nat} {cs : List Value} (h : Row w base sz (.slice (some ⟨g, o, none⟩) m cap) n cs) {i : Nat} (hi : i < n * sz) (v : Value) : Row (w.setCell ⟨g, o + i, none⟩ v) base sz (.slice (some ⟨g, o, none⟩) m cap) n (cs.set i v) := by
  obtain ⟨A, cap', e, h0, h1, h2, h3, h4⟩ := h
  cases e
  refine ⟨_, cap, rfl, by rw [List.length_set]; exact h0, h1, h2, h3, fun ad e => ?_⟩
  cases e
  obtain ⟨g', o', e, hb, hlt, hl, hc⟩ := h4 _ rfl
  cases e
  have hcap : n * sz ≤ cap * sz := Nat.mul_le_mul_right _ h1
  refine ⟨g, o, rfl, hb, by simpa [World.setCell] using hlt, fun j u e => ?_, fun j hj => ⟨?_, ?_⟩⟩
  · by_cases ej : j = i
    · subst ej
      rw [List.getElem?_set_self (by omega)] at e
      cases e
      obtain ⟨x, hx⟩ := Option.isSome_iff_exists.1 (hc j (by omega)).1
      exact World.cell?_setCell_same _ _ _ hx
    · rw [List.getElem?_set_ne (fun e => ej e.symm)] at e
      rw [World.cell?_setCell_other _ _ _ _ (by simp <;> omega)]
      exact hl j u e
  · by_cases ej : j = i
    · subst ej
      obtain ⟨x, hx⟩ := Option.isSome_iff_exists.1 (hc j (by omega)).1
      rw [World.cell?_setCell_same _ _ _ hx]; rfl
    · rw [World.cell?_setCell_other _ _ _ _ (by simp <;> omega)]
      exact (hc j hj).1
  · rw [World.frozen?_setCell]
    exact (hc j hj).2

/-! ### the map -/
def secR (v : Value) : Option (DataW Value × List MemPlace) := some (.held v, [])
theorem key3 : Go.Maps.Keyed Tryz.prog 3 := Go.Maps.int_keyed Tryz.underlying3
def InI (b : Int) : Prop := -9223372036854775808 ≤ b ∧ b ≤ 9223372036854775807
theorem wfB {b : Int} (h : InI b) : (Lit.int .i64 b).wf = true := by
  unfold InI at h
  simp [Lit.wf, IntKind.min, IntKind.max, IntKind.bits, IntKind.signed]; omega
theorem keyB {b : Int} (h : InI b) : keyOf Tryz.prog 3 (.int .i64 b) = some (.int .i64 b) := Go.Maps.keyOf_int_mk Tryz.underlying3 (wfB h)
theorem isKeyB (b : Int) : WideAt.IsKeyLit (.int .i64 b) := trivial
def MapAt (w : World) (mb n : Nat) (F : Int → Value) : Prop :=
  ∃ D, w.ownsMap Tryz.prog 3 secR mb n D ∧ Go.Maps.IsMap D ∧ ∀ b, D.atKey (.int .i64 b) (.held nilS) = .held (F b)
theorem MapAt.lt {w : World} {mb n : Nat} {F : Int → Value} (h : MapAt w mb n F) : mb < w.heap.size := by
  obtain ⟨D, h, _⟩ := h
  exact h.lt
theorem MapAt.keep {S : Nat → Prop} {w w' : World} {mb n : Nat} {F : Int → Value} (h : MapAt w mb n F) (t : Turns S w w') (hs : ¬ S mb) : MapAt w' mb n F := by
  have hlt := h.lt
  obtain ⟨D, ⟨es, clock, hb, hF, hsz, hD⟩, h2, h3⟩ := h
  exact ⟨D, ⟨es, clock, (t.block mb hlt hs).trans hb, hF, hsz, hD⟩, h2, h3⟩
theorem MapAt.made (w : World) : MapAt (w.alloc (.map #[] 0)) w.heap.size 0 (fun _ => nilS) :=
  ⟨.map [], World.ownsMap_made w _ _ _, Go.Maps.isMap_empty, fun b => rfl⟩
theorem zero69 (w : World) : (zeroValue 147).run Tryz.prog w = .ok nilS w := by
  simp [zeroValue, go_sem, Tryz.underlying147]; rfl
theorem MapAt.look {w : World} {mb n : Nat} {F : Int → Value} (h : MapAt w mb n F) {b : Int} (hb : InI b) : (Instr.lookup 152 (.map (some mb)) (.int .i64 b) false).run Tryz.prog w = .ok (F b) w := by
  obtain ⟨D, h1, h2, h3⟩ := h
  obtain ⟨v, ps, hrun, hv⟩ := h1.lookup key3 Tryz.underlying152 (zero69 w) (z := nilS) (zd := .held nilS) (zp := []) rfl (keyB hb)
  rw [h3 b] at hv
  simp only [secR, Option.some.injEq, Prod.mk.injEq, DataW.held.injEq] at hv
  rw [hrun, hv.1]
theorem MapAt.put {w : World} {mb n : Nat} {F : Int → Value} (h : MapAt w mb n F) (hn : n < 1000000) {b : Int} (hb : InI b) (v : Value) : ∃ w', (Instr.mapUpdate 152 (.map (some mb)) (.int .i64 b) v).run Tryz.prog w = .ok () w' ∧ MapAt w' mb (n + 1) (upd F b v) ∧ w.grownBy w' (some mb) := by
  obtain ⟨D, h1, h2, h3⟩ := h
  obtain ⟨w', hrun, h4, h5⟩ := h1.update key3 Tryz.underlying152 (by unfold maxLen; omega) (key := .int .i64 b) (val := v) (keyB hb) (d := .held v) (ps := []) rfl
  refine ⟨w', hrun, ⟨_, h4, h2.put _ _, fun x => ?_⟩, h5⟩
  by_cases e : x = b
  · subst e
    rw [Go.Maps.atKey_put_same h2 (isKeyB x), upd_same]
  · rw [Go.Maps.atKey_put_other (fun e' => e (by simpa using e')), upd_ne F v e, h3]
end Go.Proofs.YtdodloannlfnlaaGreat.S10
namespace Go.Proofs.YtdodloannlfnlaaGreat.S10
open Go.Proofs.YtdodloannlfnlaaGreat
open Go.RowKit

def Sv (w : World) (s : Value) (F : Int → Value) : Prop :=
  (s = .pointer none ∧ ∀ b, F b = nilS) ∨ ∃ sb, s = .pointer (some ⟨sb, 0, none⟩) ∧
    ((w.cell? ⟨sb, 0, none⟩ = some (.map none) ∧ ∀ b, F b = nilS) ∨ ∃ mb n, w.cell? ⟨sb, 0, none⟩ = some (.map (some mb)) ∧ MapAt w mb n F)
theorem Sv.below {w w' : World} {s : Value} {F : Int → Value} (h : Sv w s F) (hb : Below w.heap.size w w') : Sv w' s F := by
  rcases h with h | ⟨sb, rfl, ⟨hc, hF⟩ | ⟨mb, n, hc, hm⟩⟩
  · exact .inl h
  · refine .inr ⟨sb, rfl, .inl ⟨?_, hF⟩⟩
    have : sb < w.heap.size := (Array.getElem?_eq_some_iff.1 (cells_at (g := sb) (o := 0) (by rw [hc]; rfl)).choose_spec.choose_spec.choose_spec).1
    rw [hb.cell (p := ⟨sb, 0, none⟩) this]
    exact hc
  · refine .inr ⟨sb, rfl, .inr ⟨mb, n, ?_, hm.keep (Turns.of_below (S := fun _ => False) hb) (fun h => h)⟩⟩
    have : sb < w.heap.size := (Array.getElem?_eq_some_iff.1 (cells_at (g := sb) (o := 0) (by rw [hc]; rfl)).choose_spec.choose_spec.choose_spec).1
    rw [hb.cell (p := ⟨sb, 0, none⟩) this]
    exact hc
theorem table_any {w : World} {s : Value} {F : Int → Value} (h : Sv w s F) {b : Int} (hb : InI b) : Calls Tryz.prog 92 #[s, .int .i64 b] w fun e w' => e = .returned (F b) ∧ w = w' := by
  rcases h with ⟨rfl, hF⟩ | ⟨sb, rfl, ⟨hc, hF⟩ | ⟨mb, n, hc, hm⟩⟩
  · rw [hF b]
    clear hF
    go_enter Tryz.func92, Tryz.ntmps92
    go_wp2_with fail
    go_ret
    exact ⟨rfl, rfl⟩
  · rw [hF b]
    clear hF
    have hl : (Instr.lookup 152 (.map none) (.int .i64 b) false).run Tryz.prog w = .ok nilS w := Go.Maps.look_nil false key3 Tryz.underlying152 (zero69 w) (keyB hb)
    go_enter Tryz.func92, Tryz.ntmps92
    go_wp2_with fail
    go_ret
    exact ⟨rfl, rfl⟩
  · have hl := hm.look hb
    generalize F b = v at hl
    clear hm
    go_enter Tryz.func92, Tryz.ntmps92
    go_wp2_with fail
    go_ret
    exact ⟨rfl, rfl⟩
theorem has_any {w : World} {s : Value} {F : Int → Value} (h : Sv w s F) {b : Int} (hb : InI b) {A : Option Addr} {m c : Nat} (hF : F b = .slice A m c) : Calls Tryz.prog 50 #[s, .int .i64 b] w fun e w' => e = .returned (.bool (decide (0 < m))) ∧ w = w' := by
  have HT := Lib.hid (table_any h hb)
  rw [hF] at HT
  clear h hF
  go_enter Tryz.func50, Tryz.ntmps50
  go_wp2_with (go_at_call 92; refine HT.out.mono ?_; rintro e w' ⟨rfl, rfl⟩)
  go_ret
  exact ⟨by simp, rfl⟩
theorem at_no {w : World} {s : Value} {F : Int → Value} (h : Sv w s F) {b i : Int} (hb : InI b) {A : Option Addr} {m c : Nat} (hF : F b = .slice A m c) (hi : i < 0 ∨ (m : Int) ≤ i) :
    Calls Tryz.prog 56 #[s, .agg #[.int .i64 b, .int .i64 i]] w fun e w' => e = .returned (.pointer none) ∧ Below w.heap.size w w' := by
  have HT := Lib.hid (fun o => table_any (h.below (below1 w o)) hb)
  rw [hF] at HT
  clear h hF
  by_cases h0 : i < 0
  · have e0 : decide (i < 0) = true := by simpa using h0
    go_enter Tryz.func56, Tryz.ntmps56
    go_wp2_with (go_at_call 92; refine (HT.out _).mono ?_; rintro e w' ⟨rfl, rfl⟩)
    go_ret
    exact ⟨rfl, below1 w _⟩
  · have e0 : decide (i < 0) = false := by simpa using h0
    have e1 : decide ((m : Int) ≤ i) = true := by simp; omega
    go_enter Tryz.func56, Tryz.ntmps56
    go_wp2_with (go_at_call 92; refine (HT.out _).mono ?_; rintro e w' ⟨rfl, rfl⟩)
    go_ret
    exact ⟨rfl, below1 w _⟩
theorem at_yes {w : World} {s : Value} {F : Int → Value} (h : Sv w s F) {b : Int} {i : Nat} (hb : InI b) {g o m c : Nat} (hF : F b = .slice (some ⟨g, o, none⟩) m c) (hi : i < m) :
    Calls Tryz.prog 56 #[s, .agg #[.int .i64 b, .int .i64 (i : Int)]] w fun e w' => e = .returned (.pointer (some ⟨g, o + i * 3, none⟩)) ∧ Below w.heap.size w w' := by
  have HT := Lib.hid (fun o => table_any (h.below (below1 w o)) hb)
  rw [hF] at HT
  clear h hF
  have e0 : decide ((i : Int) < 0) = false := by simp
  have e1 : decide ((m : Int) ≤ (i : Int)) = false := by simp; omega
  have e2 : ¬ m ≤ i := by omega
  go_enter Tryz.func56, Tryz.ntmps56
  go_wp2_with (go_at_call 92; refine (HT.out _).mono ?_; rintro e w' ⟨rfl, rfl⟩)
  go_ret
  exact ⟨rfl, below1 w _⟩
theorem copied_any {w : World} {base : Nat} {A : Option Addr} {D : List Ent} (c : Nat) (hr : Rd w base A (flat D)) (hbase : base ≤ w.heap.size) (hlen : D.length ≤ 1000000) :
    Calls Tryz.prog 57 #[.slice A D.length c] w fun e w' => ∃ A', e = .returned (.slice A' D.length D.length) ∧ RowE w' w.heap.size (.slice A' D.length D.length) D ∧ Below w.heap.size w w' := by
  have HR := Lib.hid hr
  clear hr
  go_enter Tryz.func57, Tryz.ntmps57
  go_wp2_with (first
    | (at_builtin; refine wpList_append_row layE rfl _ _ rfl rfl (row_nil w w.heap.size 3) (fun u hu => by cases hu) (Nat.le_refl _) c rfl HR.out (flat_len D) (flat_one' D) (by omega) ?_; intro v' w2 hr2 ht2 ho2; (obtain ⟨A2, c2, rfl, hc2, hc29⟩ := hr2.shape); (have HR2 := Lib.hid hr2); (have HT2 := Lib.hid ht2); (clear hr2 ht2 ho2))
    | (go_at_call 96; refine (clip_any _ _ _ _ (by omega) (by omega)).mono ?_; rintro e w' ⟨rfl, rfl⟩))
  go_ret
  have hr := HR2.out
  simp only [Nat.zero_add, List.nil_append] at hr ⊢
  exact ⟨_, rfl, hr.clip, HT2.out.below (Nat.le_refl _) (fun k hk e => by change (none : Option Nat) = some k at e; cases e)⟩
end Go.Proofs.YtdodloannlfnlaaGreat.S10
namespace Go.Proofs.YtdodloannlfnlaaGreat.S10
open Go.Proofs.YtdodloannlfnlaaGreat
open Go.RowKit

structure Rs (w : World) (s : Value) (F : Int → Value) (M : Int → List Bk) : Prop where
  sv : Sv w s F
  rd : ∀ b, ∃ A c V, F b = .slice A (M b).length c ∧ (M b).length ≤ c ∧ c ≤ 9223372036854775807 ∧ Rd w w.heap.size A (bflat (M b) V) ∧
    ∀ i, i < (M b).length → ∃ A' c', V i = .slice A' (M b)[i]!.q.length c' ∧ (M b)[i]!.q.length ≤ c' ∧ c' ≤ 9223372036854775807 ∧ Rd w w.heap.size A' (flat (M b)[i]!.q)
theorem Rs.below {w w' : World} {s : Value} {F : Int → Value} {M : Int → List Bk} (h : Rs w s F M) (hb : Below w.heap.size w w') : Rs w' s F M :=
  ⟨h.sv.below hb, fun b => by
    obtain ⟨A, c, V, h1, h2, h3, h4, h5⟩ := h.rd b
    refine ⟨A, c, V, h1, h2, h3, (h4.below hb (Nat.le_refl _)).more hb.size, fun i hi => ?_⟩
    obtain ⟨A', c', h6, h7, h8, h9⟩ := h5 i hi
    exact ⟨A', c', h6, h7, h8, (h9.below hb (Nat.le_refl _)).more hb.size⟩⟩
theorem Rs.bk {w : World} {s : Value} {F : Int → Value} {M : Int → List Bk} (h : Rs w s F M) {b : Int} {i : Nat} (hi : i < (M b).length) :
    ∃ g o c A' c', F b = .slice (some ⟨g, o, none⟩) (M b).length c ∧ w.cell? ⟨g, o + i * 3, none⟩ = some (.int .u64 (M b)[i]!.a) ∧ w.cell? ⟨g, o + i * 3 + 1, none⟩ = some (.int .u64 (M b)[i]!.f) ∧ w.cell? ⟨g, o + i * 3 + 2, none⟩ = some (.slice A' (M b)[i]!.q.length c') ∧
      g < w.heap.size ∧ (M b)[i]!.q.length ≤ c' ∧ c' ≤ 9223372036854775807 ∧ Rd w w.heap.size A' (flat (M b)[i]!.q) := by
  obtain ⟨A, c, V, h1, h2, h3, h4, h5⟩ := h.rd b
  obtain ⟨A', c', h6, h7, h8, h9⟩ := h5 i hi
  obtain ⟨g, o, rfl, hg, hl⟩ := h4 (by rw [bflat_len]; omega)
  obtain ⟨k0, k1, k2⟩ := bflat_get (M b) V hi
  refine ⟨g, o, c, A', c', h1, hl _ _ k0, ?_, ?_, hg, h7, h8, h9⟩
  · rw [Nat.add_assoc]; exact hl _ _ k1
  · rw [Nat.add_assoc, ← h6]; exact hl _ _ k2

section
variable {w : World} {s : Value} {F : Int → Value} {M : Int → List Bk} {b : Int}
theorem queue_no (h : Rs w s F M) (hb : InI b) {i : Int} (hi : i < 0 ∨ ((M b).length : Int) ≤ i) :
    Calls Tryz.prog 76 #[s, .agg #[.int .i64 b, .int .i64 i]] w fun e w' => e = .returned nilS ∧ Below w.heap.size w w' := by
  obtain ⟨A, c, V, h1, h2, h3, h4, h5⟩ := h.rd b
  have HT := Lib.hid (fun o => at_no (h.sv.below (below1 w o)) hb h1 hi)
  clear h h1 h2 h3 h4 h5
  go_enter Tryz.func76, Tryz.ntmps76
  go_wp2_with (go_at_call 56; refine (HT.out _).mono ?_; rintro e w' ⟨rfl, hb1⟩; (have HB1 := Lib.hid hb1); (clear hb1))
  go_ret
  exact ⟨rfl, (below1 w _).trans (HB1.out.mono (by simp))⟩
theorem queue_yes (h : Rs w s F M) (hb : InI b) {i : Nat} (hi : i < (M b).length) (hlen : (M b)[i]!.q.length ≤ 1000000) :
    Calls Tryz.prog 76 #[s, .agg #[.int .i64 b, .int .i64 (i : Int)]] w fun e w' => ∃ A', e = .returned (.slice A' (M b)[i]!.q.length (M b)[i]!.q.length) ∧ RowE w' w.heap.size (.slice A' (M b)[i]!.q.length (M b)[i]!.q.length) (M b)[i]!.q ∧ Below w.heap.size w w' := by
  obtain ⟨g, o, c, A', c', h1, k0, k1, k2, hg, h7, h8, h9⟩ := h.bk hi
  have HT := Lib.hid (fun o => at_yes (h.sv.below (below1 w o)) hb h1 hi)
  clear h h1 k0 k1 hi
  generalize (M b)[i]!.q = D at *
  obtain ⟨m, hm⟩ : ∃ m, m = D.length := ⟨_, rfl⟩
  rw [← hm] at k2
  have HM := Lib.hid hm
  have HR := Lib.hid h9
  have hk2 : ∀ W, Below w.heap.size w W → W.cell? ⟨g, o + i * 3 + 2, none⟩ = some (.slice A' m c') := fun W hb => (hb.cell (p := ⟨g, o + i * 3 + 2, none⟩) hg).trans k2
  have HK := Lib.hid hk2
  clear hk2 k2 h9 hm
  go_enter Tryz.func76, Tryz.ntmps76
  go_wp2_with fail
  refine (HT.out _).mono ?_
  rintro e w1 ⟨rfl, hb1⟩
  have HB1 := Lib.hid ((below1 w _).trans (hb1.mono (by simp)))
  have hc := HK.out w1 HB1.out
  clear hb1
  go_wp2_with (go_at_call 57; rw [HM.out]; refine (copied_any c' ((HR.out.below HB1.out (Nat.le_refl _)).more HB1.out.size) (Nat.le_refl _) hlen).mono ?_; rintro e w2 ⟨A2, rfl, hr2, hb2⟩; (have HR2 := Lib.hid hr2); (have HB2 := Lib.hid hb2); (clear hr2 hb2))
  go_ret
  exact ⟨_, rfl, HR2.out.base HB1.out.size, HB1.out.trans (HB2.out.mono HB1.out.size)⟩
theorem pair_set {w : World} {X : Nat} {x y : Value} {T : TypeId} (h : w.heap[X]? = some (.cells #[x, y] T (0, 0))) (u v : Value) :
    ((w.setCell ⟨X, 0, none⟩ u).setCell ⟨X, 1, none⟩ v).heap[X]? = some (.cells #[u, v] T (0, 0)) := by
  have h1 := row_set h 0 u
  have h2 := row_set h1 1 v
  rw [h2]; rfl
theorem turns2 (w : World) (X : Nat) (u v : Value) : Turns (fun k => k = X) w ((w.setCell ⟨X, 0, none⟩ u).setCell ⟨X, 1, none⟩ v) :=
  ((Turns.refl (fun k => k = X) w).setCell ⟨X, 0, none⟩ u rfl).setCell ⟨X, 1, none⟩ v rfl
theorem pair_facts {W w1 : World} {T : TypeId} {x y : Value} (hb : Below (W.alloc (.cells #[x, y] T)).heap.size (W.alloc (.cells #[x, y] T)) w1) : w1.heap[W.heap.size]? = some (.cells #[x, y] T (0, 0)) :=
  (hb.block _ (by simp)).trans (heap_alloc_new W _)
theorem timer_no (h : Rs w s F M) (hb : InI b) {i : Int} (hi : i < 0 ∨ ((M b).length : Int) ≤ i) :
    Calls Tryz.prog 73 #[s, .agg #[.int .i64 b, .int .i64 i]] w fun e w' => e = .returned (.agg #[.int .u64 0, .int .u64 0]) ∧ Below w.heap.size w w' := by
  obtain ⟨A, c, V, h1, h2, h3, h4, h5⟩ := h.rd b
  have HT := Lib.hid (fun W hW => at_no (h.sv.below (w' := W) hW) hb h1 hi)
  clear h h1 h2 h3 h4 h5
  go_enter Tryz.func73, Tryz.ntmps73
  go_wp2_with fail
  have hbb : Below w.heap.size w ((w.alloc (.cells #[.int .i64 b, .int .i64 i] 76)).alloc (.cells #[.int .u64 0, .int .u64 0] 79)) := (below1 w _).alloc (by simp) _
  refine (HT.out _ hbb).mono ?_
  rintro e w1 ⟨rfl, hb1⟩
  have hx := pair_facts hb1
  rw [show (w.alloc (.cells #[Value.int .i64 b, .int .i64 i] 76)).heap.size = w.heap.size + 1 by simp] at hx
  have HB := Lib.hid (hbb.trans (hb1.mono hbb.size))
  clear hb1 hbb
  obtain ⟨X, hX⟩ : ∃ X, X = w.heap.size + 1 := ⟨_, rfl⟩
  have HX := Lib.hid hX
  rw [← hX] at hx ⊢
  have x0 : w1.cell? ⟨X, 0, none⟩ = some (.int .u64 0) := cell_row hx 0
  have x1 : w1.cell? ⟨X, 1, none⟩ = some (.int .u64 0) := cell_row hx 1
  have f0 : w1.frozen? ⟨X, 0, none⟩ = false := froz_row hx 0
  have f1 : w1.frozen? ⟨X, 1, none⟩ = false := froz_row hx 1
  have hp := pair_set hx (.int .u64 0) (.int .u64 0)
  have S0 := Lib.hid (show _ = some (Value.int .u64 0) from cell_row hp 0); have S1 := Lib.hid (show _ = some (Value.int .u64 0) from cell_row hp 1)
  clear hx hX hp
  go_wp2_with fail
  refine bodyPost_ret (v := .agg #[.int .u64 0, .int .u64 0]) (by simp [results, Tryz.results73, go_sem, S0.out, S1.out]) rfl ⟨rfl, ?_⟩
  first | exact HB.out.trans ((turns2 w1 X _ _).below HB.out.size (fun k hk e => by have := HX.out; omega)) | exact (HB.out.trans ((turns2 w1 X _ _).below HB.out.size (fun k hk e => by have := HX.out; omega))).drew
theorem timer_yes (h : Rs w s F M) (hb : InI b) {i : Nat} (hi : i < (M b).length) :
    Calls Tryz.prog 73 #[s, .agg #[.int .i64 b, .int .i64 (i : Int)]] w fun e w' => e = .returned (.agg #[.int .u64 (M b)[i]!.a, .int .u64 (M b)[i]!.f]) ∧ Below w.heap.size w w' := by
  obtain ⟨g, o, c, A', c', h1, k0, k1, k2, hg, h7, h8, h9⟩ := h.bk hi
  have HT := Lib.hid (fun W hW => at_yes (h.sv.below (w' := W) hW) hb h1 hi)
  clear h h1 k2 h7 h8 h9 hi
  generalize (M b)[i]!.a = ta at *
  generalize (M b)[i]!.f = tf at *
  have HK0 := Lib.hid (fun W (hb : Below w.heap.size w W) => (hb.cell (p := ⟨g, o + i * 3, none⟩) hg).trans k0)
  have HK1 := Lib.hid (fun W (hb : Below w.heap.size w W) => (hb.cell (p := ⟨g, o + i * 3 + 1, none⟩) hg).trans k1)
  clear k0 k1
  go_enter Tryz.func73, Tryz.ntmps73
  go_wp2_with fail
  have hbb : Below w.heap.size w ((w.alloc (.cells #[.int .i64 b, .int .i64 (i : Int)] 76)).alloc (.cells #[.int .u64 0, .int .u64 0] 79)) := (below1 w _).alloc (by simp) _
  refine (HT.out _ hbb).mono ?_
  rintro e w1 ⟨rfl, hb1⟩
  have hx := pair_facts hb1
  rw [show (w.alloc (.cells #[Value.int .i64 b, .int .i64 (i : Int)] 76)).heap.size = w.heap.size + 1 by simp] at hx
  have hbw := hbb.trans (hb1.mono hbb.size)
  have k0 := HK0.out w1 hbw
  have k1 := HK1.out w1 hbw
  have HB := Lib.hid hbw
  clear hb1 hbb hbw
  obtain ⟨X, hX⟩ : ∃ X, X = w.heap.size + 1 := ⟨_, rfl⟩
  have HX := Lib.hid hX
  rw [← hX] at hx ⊢
  have x0 : w1.cell? ⟨X, 0, none⟩ = some (.int .u64 0) := cell_row hx 0
  have x1 : w1.cell? ⟨X, 1, none⟩ = some (.int .u64 0) := cell_row hx 1
  have f0 : w1.frozen? ⟨X, 0, none⟩ = false := froz_row hx 0
  have f1 : w1.frozen? ⟨X, 1, none⟩ = false := froz_row hx 1
  have hp := pair_set hx (.int .u64 ta) (.int .u64 tf)
  have S0 := Lib.hid (show _ = some (Value.int .u64 ta) from cell_row hp 0); have S1 := Lib.hid (show _ = some (Value.int .u64 tf) from cell_row hp 1)
  clear hx hX hp
  go_upto_region 4 with (fail)
  go_region
  go_wp2_with fail
  refine bodyPost_ret (v := .agg #[.int .u64 ta, .int .u64 tf]) (by simp [results, Tryz.results73, go_sem, S0.out, S1.out]) rfl ⟨rfl, ?_⟩
  first | exact HB.out.trans ((turns2 w1 X _ _).below HB.out.size (fun k hk e => by have := HX.out; omega)) | exact (HB.out.trans ((turns2 w1 X _ _).below HB.out.size (fun k hk e => by have := HX.out; omega))).drew
end
end Go.Proofs.YtdodloannlfnlaaGreat.S10
namespace Go.Proofs.YtdodloannlfnlaaGreat.S10
open Go.Proofs.YtdodloannlfnlaaGreat
open Go.RowKit

inductive Role where
  | set
  | map
  | tab (b : Int)
  | tim (b : Int)
  | q (b : Int) (i : Nat)
deriving DecidableEq
def Fresh (own own' : Nat → Option Role) (w : World) : Prop := ∀ g r, own' g = some r → (∃ r', own g = some r') ∨ w.heap.size ≤ g
theorem Fresh.refl (own : Nat → Option Role) (w : World) : Fresh own own w := fun _ r h => .inl ⟨r, h⟩
theorem Fresh.trans {a b c : Nat → Option Role} {w w1 : World} (h : Fresh a b w) (k : Fresh b c w1) (hs : w.heap.size ≤ w1.heap.size) : Fresh a c w := fun g r e => by
  rcases k g r e with ⟨r', e'⟩ | h'
  · exact h g r' e'
  · exact .inr (by omega)
def Mine (own : Nat → Option Role) (g : Nat) : Prop := ∃ r, own g = some r
structure StF (w : World) (base : Nat) (own : Nat → Option Role) (s : Value) (n : Nat) (M : Int → List Bk) (sb mb : Nat) (F : Int → Value) (V : Int → Nat → Value) : Prop where
  fp : ∀ g r, own g = some r → base ≤ g ∧ g < w.heap.size
  hs : s = .pointer (some ⟨sb, 0, none⟩)
  hc : w.heap[sb]? = some (.cells #[.map (some mb)] 154 (0, 0))
  os : own sb = some .set
  hm : MapAt w mb n F
  om : own mb = some .map
  ht : ∀ b, Row w 0 3 (F b) (M b).length (bflat (M b) (V b))
  ot : ∀ b g, (F b).ownBlock = some g → own g = some (.tab b)
  hq : ∀ b i, i < (M b).length → RowE w 0 (V b i) (M b)[i]!.q
  oq : ∀ b i g, i < (M b).length → (V b i).ownBlock = some g → own g = some (.q b i)
def St (w : World) (base : Nat) (own : Nat → Option Role) (s : Value) (n : Nat) (M : Int → List Bk) : Prop := ∃ sb mb F V, StF w base own s n M sb mb F V
section
variable {w : World} {base : Nat} {own : Nat → Option Role} {s : Value} {n : Nat} {M : Int → List Bk} {sb mb : Nat} {F : Int → Value} {V : Int → Nat → Value}
theorem StF.keep (h : StF w base own s n M sb mb F V) {S : Nat → Prop} {w' : World} (t : Turns S w w') (hn : ∀ g, Mine own g → ¬ S g) : StF w' base own s n M sb mb F V :=
  ⟨fun g r e => ⟨(h.fp g r e).1, Nat.lt_of_lt_of_le (h.fp g r e).2 t.size⟩, h.hs, (t.block sb (h.fp sb _ h.os).2 (hn sb ⟨_, h.os⟩)).trans h.hc, h.os, h.hm.keep t (hn mb ⟨_, h.om⟩), h.om,
    fun b => (h.ht b).keep t (fun g e => hn g ⟨_, h.ot b g e⟩), h.ot, fun b i hi => (h.hq b i hi).keep t (fun g e => hn g ⟨_, h.oq b i g hi e⟩), h.oq⟩
theorem St.keep (h : St w base own s n M) {S : Nat → Prop} {w' : World} (t : Turns S w w') (hn : ∀ g, Mine own g → ¬ S g) : St w' base own s n M := by
  obtain ⟨sb, mb, F, V, h⟩ := h
  exact ⟨sb, mb, F, V, h.keep t hn⟩
theorem St.new (h : St w base own s n M) {w' : World} (hb : Below w.heap.size w w') : St w' base own s n M := h.keep (Turns.of_below (S := fun _ => False) hb) (fun _ _ e => e)
theorem St.fp (h : St w base own s n M) {g : Nat} (e : Mine own g) : base ≤ g ∧ g < w.heap.size := by
  obtain ⟨sb, mb, F, V, h⟩ := h
  obtain ⟨r, e⟩ := e
  exact h.fp g r e
theorem St.le (h : St w base own s n M) : base ≤ w.heap.size := by
  obtain ⟨sb, mb, F, V, h⟩ := h
  have := h.fp sb _ h.os
  omega
theorem StF.rs (h : StF w base own s n M sb mb F V) : Rs w s F M :=
  ⟨.inr ⟨sb, h.hs, .inr ⟨mb, n, cell_row h.hc 0, h.hm⟩⟩, fun b => by
    obtain ⟨A, c, e, h1, h2⟩ := (h.ht b).shape
    have hr := h.ht b
    rw [e] at hr
    refine ⟨A, c, V b, e, h1, h2, hr.rd, fun i hi => ?_⟩
    have hq := h.hq b i hi
    obtain ⟨A', c', e', h1', h2'⟩ := hq.shape
    rw [e'] at hq
    exact ⟨A', c', e', h1', h2', hq.rd⟩⟩
theorem St.rs (h : St w base own s n M) : ∃ F, Rs w s F M := by
  obtain ⟨sb, mb, F, V, h⟩ := h
  exact ⟨F, h.rs⟩
theorem StF.ne (h : StF w base own s n M sb mb F V) {g g' : Nat} {r r' : Role} (e : own g = some r) (e' : own g' = some r') (hr : r ≠ r') : g ≠ g' := fun h' => by
  subst h'
  rw [e] at e'
  exact hr (by simpa using e')
theorem StF.bk (h : StF w base own s n M sb mb F V) {b : Int} {i : Nat} (hi : i < (M b).length) : ∃ g o c, F b = .slice (some ⟨g, o, none⟩) (M b).length c ∧ own g = some (.tab b) ∧
    (∀ j, j < 3 → ∃ v, w.cell? ⟨g, o + i * 3 + j, none⟩ = some v ∧ w.frozen? ⟨g, o + i * 3 + j, none⟩ = false) := by
  have hr := h.ht b
  obtain ⟨A, c, e, h0, h1, h2, h3, h4⟩ := hr
  cases A with
  | none => have := h3 rfl; omega
  | some ad =>
    obtain ⟨g, o, rfl, hb, hlt, hl, hc⟩ := h4 ad rfl
    refine ⟨g, o, c, e, h.ot b g (by rw [e]; rfl), fun j hj => ?_⟩
    obtain ⟨k1, k2⟩ := hc (i * 3 + j) (by omega)
    obtain ⟨v, hv⟩ := Option.isSome_iff_exists.1 k1
    rw [← Nat.add_assoc] at hv k2
    exact ⟨v, hv, k2⟩
def ownQ (own : Nat → Option Role) (b : Int) (i : Nat) (v : Value) : Nat → Option Role := fun x => if v.ownBlock = some x then some (.q b i) else if own x = some (.q b i) then none else own x
theorem ownQ_keep {v : Value} {X : Nat} (hv : ∀ g, v.ownBlock = some g → X ≤ g) {b : Int} {i x : Nat} {r : Role} (e : own x = some r) (hx : x < X) (hr : r ≠ .q b i) : ownQ own b i v x = some r := by
  unfold ownQ
  rw [if_neg (fun e' => by have := hv x e'; omega), if_neg (fun e' => hr (by rw [e] at e'; simpa using e')), e]
theorem StF.putQ (h : StF w base own s n M sb mb F V) {b : Int} {i g o c : Nat} (hi : i < (M b).length) (hF : F b = .slice (some ⟨g, o, none⟩) (M b).length c) {w1 : World} (hb : Below w.heap.size w w1) {v : Value} {D : List Ent} (hv : RowE w1 w.heap.size v D) :
    StF (w1.setCell ⟨g, o + i * 3 + 2, none⟩ v) base (ownQ own b i v) s n (upd M b ((M b).set i { (M b)[i]! with q := D })) sb mb F (upd V b (upd (V b) i v)) := by
  have h1 := h.keep (Turns.of_below (S := fun _ => False) hb) (fun _ _ e => e)
  have hog : own g = some (.tab b) := h.ot b g (by rw [hF]; rfl)
  have hglt := (h.fp g _ hog).2
  have hvg : ∀ x, v.ownBlock = some x → w.heap.size ≤ x ∧ x < w1.heap.size := fun x e => hv.lt x e
  have hvx : ∀ x, v.ownBlock = some x → w.heap.size ≤ x := fun x e => (hvg x e).1
  have tset : Turns (fun k => k = g) w1 (w1.setCell ⟨g, o + i * 3 + 2, none⟩ v) := (Turns.refl _ w1).setCell _ _ rfl
  have hbase : base ≤ w.heap.size := by have := h.fp sb _ h.os; omega
  have hlen : ∀ b', (upd M b ((M b).set i { (M b)[i]! with q := D }) b').length = (M b').length := fun b' => by
    by_cases e : b' = b
    · subst e; rw [upd_same, List.length_set]
    · rw [upd_ne _ _ e]
  refine ⟨fun x r e => ?_, h.hs, ?_, ownQ_keep hvx h.os (h.fp sb _ h.os).2 (by simp), h1.hm.keep tset (h.ne h.om hog (by simp)), ownQ_keep hvx h.om (h.fp mb _ h.om).2 (by simp), fun b' => ?_, fun b' x e => ?_, fun b' j hj => ?_, fun b' j x hj e => ?_⟩
  · unfold ownQ at e
    have hsz : (w1.setCell ⟨g, o + i * 3 + 2, none⟩ v).heap.size = w1.heap.size := by simp [World.setCell]
    rw [hsz]
    by_cases e1 : v.ownBlock = some x
    · have := hvg x e1; omega
    · rw [if_neg e1] at e
      by_cases e2 : own x = some (.q b i)
      · rw [if_pos e2] at e; cases e
      · rw [if_neg e2] at e
        have := h.fp x r e
        have := hb.size
        omega
  · exact (tset.block sb (by have := (h1.fp sb _ h.os).2; exact this) (h.ne h.os hog (by simp))).trans h1.hc
  · rw [hlen]
    by_cases e : b' = b
    · subst e
      rw [upd_same, upd_same, ← bflat_q _ _ hi]
      have := h1.ht b'
      rw [hF] at this ⊢
      exact this.setAt (i := i * 3 + 2) (by omega) v
    · rw [upd_ne _ _ e, upd_ne _ _ e]
      exact (h1.ht b').keep tset (fun x ex => h.ne (h.ot b' x ex) hog (by simp; exact e))
  · exact ownQ_keep hvx (h.ot b' x e) (h.fp x _ (h.ot b' x e)).2 (by simp)
  · rw [hlen] at hj
    by_cases e : b' = b
    · subst e
      rw [upd_same, upd_same, get_set hi]
      by_cases e2 : j = i
      · subst e2
        rw [if_pos rfl, upd_same]
        exact (hv.keep tset (fun x ex e3 => by have := hvx x ex; omega)).base (Nat.zero_le _)
      · rw [if_neg e2, upd_ne _ _ e2]
        exact (h1.hq b' j hj).keep tset (fun x ex => h.ne (h.oq b' j x hj ex) hog (by simp))
    · rw [upd_ne _ _ e, upd_ne _ _ e]
      exact (h1.hq b' j hj).keep tset (fun x ex => h.ne (h.oq b' j x hj ex) hog (by simp))
  · rw [hlen] at hj
    by_cases e1 : b' = b ∧ j = i
    · obtain ⟨rfl, rfl⟩ := e1
      rw [upd_same, upd_same] at e
      unfold ownQ
      rw [if_pos e]
    · have e' : (V b' j).ownBlock = some x := by
        by_cases e2 : b' = b
        · subst e2
          rw [upd_same, upd_ne _ _ (fun e3 => e1 ⟨rfl, e3⟩)] at e
          exact e
        · rw [upd_ne _ _ e2] at e
          exact e
      exact ownQ_keep hvx (h.oq b' j x hj e') (h.fp x _ (h.oq b' j x hj e')).2 (by simp; exact fun e2 e3 => e1 ⟨e2, e3⟩)
theorem fresh_ownQ (own : Nat → Option Role) (b : Int) (i : Nat) {v : Value} {w : World} (hv : ∀ g, v.ownBlock = some g → w.heap.size ≤ g) : Fresh own (ownQ own b i v) w := fun g r e => by
  unfold ownQ at e
  by_cases e1 : v.ownBlock = some g
  · exact .inr (hv g e1)
  · rw [if_neg e1] at e
    by_cases e2 : own g = some (.q b i)
    · exact .inl ⟨_, e2⟩
    · rw [if_neg e2] at e
      exact .inl ⟨r, e⟩
theorem StF.putT (h : StF w base own s n M sb mb F V) {b : Int} {i g o c : Nat} (hi : i < (M b).length) (hF : F b = .slice (some ⟨g, o, none⟩) (M b).length c) (ta tf : Int) :
    StF ((w.setCell ⟨g, o + i * 3, none⟩ (.int .u64 ta)).setCell ⟨g, o + i * 3 + 1, none⟩ (.int .u64 tf)) base own s n (upd M b ((M b).set i { (M b)[i]! with a := ta, f := tf })) sb mb F V := by
  have hog : own g = some (.tab b) := h.ot b g (by rw [hF]; rfl)
  have tset : Turns (fun k => k = g) w ((w.setCell ⟨g, o + i * 3, none⟩ (.int .u64 ta)).setCell ⟨g, o + i * 3 + 1, none⟩ (.int .u64 tf)) := ((Turns.refl (fun k => k = g) w).setCell ⟨g, o + i * 3, none⟩ _ rfl).setCell ⟨g, o + i * 3 + 1, none⟩ _ rfl
  have hlen : ∀ b', (upd M b ((M b).set i { (M b)[i]! with a := ta, f := tf }) b').length = (M b').length := fun b' => by
    by_cases e : b' = b
    · subst e; rw [upd_same, List.length_set]
    · rw [upd_ne _ _ e]
  refine ⟨fun x r e => ?_, h.hs, (tset.block sb (h.fp sb _ h.os).2 (h.ne h.os hog (by simp))).trans h.hc, h.os, h.hm.keep tset (h.ne h.om hog (by simp)), h.om, fun b' => ?_, h.ot, fun b' j hj => ?_, fun b' j x hj e => ?_⟩
  · have := h.fp x r e
    have := tset.size
    omega
  · rw [hlen]
    by_cases e : b' = b
    · subst e
      rw [upd_same]
      have := h.ht b'
      rw [hF] at this ⊢
      have h2 := (this.setAt (i := i * 3) (by omega) (.int .u64 ta)).setAt (i := i * 3 + 1) (by omega) (.int .u64 tf)
      rw [bflat_a _ _ hi, bflat_f _ _ (by rw [List.length_set]; exact hi), get_set hi, if_pos rfl, List.set_set] at h2
      rw [Nat.add_assoc]
      exact h2
    · rw [upd_ne _ _ e]
      exact (h.ht b').keep tset (fun x ex => h.ne (h.ot b' x ex) hog (by simp; exact e))
  · rw [hlen] at hj
    have : (upd M b ((M b).set i { (M b)[i]! with a := ta, f := tf }) b')[j]!.q = (M b')[j]!.q := by
      by_cases e : b' = b
      · subst e
        rw [upd_same, get_set hi]
        by_cases e2 : j = i
        · subst e2; rw [if_pos rfl]
        · rw [if_neg e2]
      · rw [upd_ne _ _ e]
    rw [this]
    exact (h.hq b' j hj).keep tset (fun x ex => h.ne (h.oq b' j x hj ex) hog (by simp))
  · rw [hlen] at hj
    exact h.oq b' j x hj e
end
end Go.Proofs.YtdodloannlfnlaaGreat.S10
namespace Go.Proofs.YtdodloannlfnlaaGreat.S10
open Go.Proofs.YtdodloannlfnlaaGreat
open Go.RowKit

section
variable {w : World} {s : Value} {F : Int → Value} {M : Int → List Bk} {b : Int}
theorem put_no (h : Rs w s F M) (hb : InI b) {i : Int} (hi : i < 0 ∨ ((M b).length : Int) ≤ i) (A0 : Option Addr) (m0 c0 : Nat) :
    Calls Tryz.prog 17 #[s, .agg #[.int .i64 b, .int .i64 i], .slice A0 m0 c0] w fun e w' => e = .returned (.bool false) ∧ Below w.heap.size w w' := by
  obtain ⟨A, c, V, h1, h2, h3, h4, h5⟩ := h.rd b
  have HT := Lib.hid (fun o => at_no (h.sv.below (below1 w o)) hb h1 hi)
  clear h h1 h2 h3 h4 h5
  go_enter Tryz.func17, Tryz.ntmps17
  go_wp2_with (go_at_call 56; refine (HT.out _).mono ?_; rintro e w' ⟨rfl, hb1⟩; (have HB1 := Lib.hid hb1); (clear hb1))
  go_ret
  exact ⟨rfl, (below1 w _).trans (HB1.out.mono (by simp))⟩
theorem putT_no (h : Rs w s F M) (hb : InI b) {i : Int} (hi : i < 0 ∨ ((M b).length : Int) ≤ i) (ta tf : Int) :
    Calls Tryz.prog 20 #[s, .agg #[.int .i64 b, .int .i64 i], .agg #[.int .u64 ta, .int .u64 tf]] w fun e w' => e = .returned (.bool false) ∧ Below w.heap.size w w' := by
  obtain ⟨A, c, V, h1, h2, h3, h4, h5⟩ := h.rd b
  have HT := Lib.hid (fun W hW => at_no (h.sv.below (w' := W) hW) hb h1 hi)
  clear h h1 h2 h3 h4 h5
  have hbb : Below w.heap.size w ((w.alloc (.cells #[.int .i64 b, .int .i64 i] 76)).alloc (.cells #[.int .u64 ta, .int .u64 tf] 79)) := (below1 w _).alloc (by simp) _
  have HBB := Lib.hid hbb
  clear hbb
  go_enter Tryz.func20, Tryz.ntmps20
  go_wp2_with (go_at_call 56; refine (HT.out _ HBB.out).mono ?_; rintro e w' ⟨rfl, hb1⟩; (have HB1 := Lib.hid hb1); (clear hb1))
  go_ret
  exact ⟨rfl, HBB.out.trans (HB1.out.mono HBB.out.size)⟩
end
section
variable {w : World} {base : Nat} {own : Nat → Option Role} {s : Value} {n : Nat} {M : Int → List Bk} {b : Int}
theorem put_yes (h : St w base own s n M) (hb : InI b) {i : Nat} (hi : i < (M b).length) {b0 c0 : Nat} {A0 : Option Addr} {D : List Ent} (hr : Rd w b0 A0 (flat D)) (hb0 : b0 ≤ w.heap.size) (hlen : D.length ≤ 1000000) :
    Calls Tryz.prog 17 #[s, .agg #[.int .i64 b, .int .i64 (i : Int)], .slice A0 D.length c0] w fun e w' => e = .returned (.bool true) ∧ ∃ own', St w' base own' s n (upd M b ((M b).set i { (M b)[i]! with q := D })) ∧ Turns (Mine own) w w' ∧ Fresh own own' w := by
  obtain ⟨sb, mb, F, V, hf⟩ := h
  obtain ⟨g, o, c, hF, hog, hcs⟩ := hf.bk hi
  have HT := Lib.hid (fun o => at_yes (hf.rs.sv.below (below1 w o)) hb hF hi)
  obtain ⟨v2, k2, f2⟩ := hcs 2 (by omega)
  have hgl := (hf.fp g _ hog).2
  have HK := Lib.hid (fun W (hb : Below w.heap.size w W) => (hb.cell (p := ⟨g, o + i * 3 + 2, none⟩) hgl).trans k2)
  have HFZ := Lib.hid (fun W (hb : Below w.heap.size w W) => (hb.frozen (p := ⟨g, o + i * 3 + 2, none⟩) hgl).trans f2)
  have HF := Lib.hid hF; have HST := Lib.hid hf; have HR := Lib.hid hr; have HB0 := Lib.hid hb0; have HI := Lib.hid hi; have HOG := Lib.hid hog
  clear hf hF hcs k2 f2 hr hb0 hi hog
  obtain ⟨m, hm⟩ : ∃ m, m = D.length := ⟨_, rfl⟩
  rw [← hm]
  have HM := Lib.hid hm
  clear hm
  go_enter Tryz.func17, Tryz.ntmps17
  go_wp2_with fail
  refine (HT.out _).mono ?_
  rintro e w1 ⟨rfl, hb1⟩
  have HB1 := Lib.hid ((below1 w _).trans (hb1.mono (by simp)))
  clear hb1
  go_wp2_with fail
  rw [HM.out]
  refine (copied_any c0 (HR.out.below HB1.out HB0.out) (Nat.le_trans HB0.out HB1.out.size) hlen).mono ?_
  rintro e w2 ⟨A2, rfl, hr2, hb2⟩
  have HB2 := Lib.hid (HB1.out.trans (hb2.mono HB1.out.size))
  have HR2 := Lib.hid (hr2.base HB1.out.size)
  clear hr2 hb2
  have k2 := HK.out w2 HB2.out
  have f2 := HFZ.out w2 HB2.out
  go_wp2_with fail
  go_ret
  refine ⟨rfl, _, ⟨sb, mb, F, _, HST.out.putQ HI.out HF.out HB2.out HR2.out⟩, ?_, fresh_ownQ _ _ _ (fun g e => (HR2.out.lt g e).1)⟩
  exact (Turns.of_below HB2.out).setCell _ _ ⟨_, HOG.out⟩
theorem putT_yes (h : St w base own s n M) (hb : InI b) {i : Nat} (hi : i < (M b).length) (ta tf : Int) :
    Calls Tryz.prog 20 #[s, .agg #[.int .i64 b, .int .i64 (i : Int)], .agg #[.int .u64 ta, .int .u64 tf]] w fun e w' => e = .returned (.bool true) ∧ St w' base own s n (upd M b ((M b).set i { (M b)[i]! with a := ta, f := tf })) ∧ Turns (Mine own) w w' := by
  obtain ⟨sb, mb, F, V, hf⟩ := h
  obtain ⟨g, o, c, hF, hog, hcs⟩ := hf.bk hi
  have HT := Lib.hid (fun W hW => at_yes (hf.rs.sv.below (w' := W) hW) hb hF hi)
  obtain ⟨v0, k0, f0⟩ := hcs 0 (by omega)
  obtain ⟨v1, k1, f1⟩ := hcs 1 (by omega)
  rw [Nat.add_zero] at k0 f0
  have hgl := (hf.fp g _ hog).2
  have HK := Lib.hid (fun W (hb : Below w.heap.size w W) => (⟨(hb.cell (p := ⟨g, o + i * 3, none⟩) hgl).trans k0, (hb.cell (p := ⟨g, o + i * 3 + 1, none⟩) hgl).trans k1, (hb.frozen (p := ⟨g, o + i * 3, none⟩) hgl).trans f0, (hb.frozen (p := ⟨g, o + i * 3 + 1, none⟩) hgl).trans f1⟩ : _ ∧ _ ∧ _ ∧ _))
  have HF := Lib.hid hF; have HST := Lib.hid hf; have HI := Lib.hid hi; have HOG := Lib.hid hog; have HGL := Lib.hid hgl
  clear hf hF hcs k0 f0 k1 f1 hi hog
  have hbb : Below w.heap.size w ((w.alloc (.cells #[.int .i64 b, .int .i64 (i : Int)] 76)).alloc (.cells #[.int .u64 ta, .int .u64 tf] 79)) := (below1 w _).alloc (by simp) _
  have HBB := Lib.hid hbb
  clear hbb
  go_enter Tryz.func20, Tryz.ntmps20
  go_wp2_with fail
  refine (HT.out _ HBB.out).mono ?_
  rintro e w1 ⟨rfl, hb1⟩
  have hx := pair_facts hb1
  rw [show (w.alloc (.cells #[Value.int .i64 b, .int .i64 (i : Int)] 76)).heap.size = w.heap.size + 1 by simp] at hx
  have HB1 := Lib.hid (HBB.out.trans (hb1.mono HBB.out.size))
  clear hb1
  have x0 : w1.cell? ⟨w.heap.size + 1, 0, none⟩ = some (.int .u64 ta) := cell_row hx 0
  have x1 : w1.cell? ⟨w.heap.size + 1, 1, none⟩ = some (.int .u64 tf) := cell_row hx 1
  clear hx
  have hgX : g ≠ w.heap.size + 1 := by have := HGL.out; omega
  obtain ⟨k0, k1, f0, f1⟩ := HK.out w1 HB1.out
  obtain ⟨X, hX⟩ : ∃ X, X = w.heap.size + 1 := ⟨_, rfl⟩
  rw [← hX] at x0 x1 hgX ⊢
  clear hX
  go_upto_region 4 with (fail)
  go_region
  all_goals
    go_wp2_with fail
    go_ret
    have hS := (HST.out.keep (Turns.of_below (S := fun _ => False) HB1.out) (fun _ _ e => e)).putT HI.out HF.out ta tf
    refine ⟨rfl, ⟨sb, mb, F, V, hS.keep (Turns.refl (fun _ => False) _).drew (fun _ _ e => e)⟩, ?_⟩
    exact (((Turns.of_below HB1.out).setCell _ _ ⟨_, HOG.out⟩).setCell _ _ ⟨_, HOG.out⟩).drew
end
end Go.Proofs.YtdodloannlfnlaaGreat.S10
namespace Go.Proofs.YtdodloannlfnlaaGreat.S10
open Go.Proofs.YtdodloannlfnlaaGreat
open Go.RowKit

theorem info93 : ∃ i, Tryz.prog.info? 160 = some i ∧ i.zero = some (.agg #[.int .u64 0, .int .u64 0, nilS]) ∧ i.size = 3 ∧ i.bytes = 40 := info_of (by kernel_rfl)
theorem makeB (n : Nat) (hn : n ≤ 65536) (w : World) : (Instr.makeSlice 147 (.int .i64 (n : Int)) (.int .i64 (n : Int))).run Tryz.prog w = .ok (.slice (some ⟨w.heap.size, 0, none⟩) n n) (w.alloc (.cells (bflat (List.replicate n ⟨0, 0, []⟩) (fun _ => nilS)).toArray 160)) := by
  obtain ⟨i, hi, hz, hsz, hby⟩ := info93
  have hr := run_make (P := Tryz.prog) w 147 160 i (.agg #[.int .u64 0, .int .u64 0, nilS]) Tryz.underlying147 hi hz .i64 .i64 n n (by omega) (Int.le_refl _) (by rw [hby]; omega) (by omega)
  simp only [Int.toNat_natCast, hsz] at hr
  rw [hr]
  have hm : madeCells (Value.agg #[.int .u64 0, .int .u64 0, nilS]).cells (n * 3) = (bflat (List.replicate n ⟨0, 0, []⟩) (fun _ => nilS)).toArray := by
    apply Array.ext
    · simp [madeCells, bflat_len]
    · intro j h1 h2
      have hj : j < n * 3 := by simpa [madeCells] using h1
      have h3 := bflat_at (List.replicate n (⟨0, 0, []⟩ : Bk)) (fun _ => nilS) (j := j) (by rw [List.length_replicate]; exact hj)
      have h4 : (bflat (List.replicate n (⟨0, 0, []⟩ : Bk)) (fun _ => nilS)).toArray[j] = bcell (List.replicate n (⟨0, 0, []⟩ : Bk)) (fun _ => nilS) j := by
        have := (List.getElem?_eq_some_iff.1 h3).2
        simpa using this
      rw [h4]
      have h5 : (List.replicate n (⟨0, 0, []⟩ : Bk))[j / 3]! = ⟨0, 0, []⟩ := by
        rw [List.getElem!_eq_getElem?_getD, List.getElem?_replicate, if_pos (by omega)]; rfl
      unfold bcell
      rw [h5]
      have h6 : j % 3 = 0 ∨ j % 3 = 1 ∨ j % 3 = 2 := by omega
      rcases h6 with h6 | h6 | h6 <;> simp [madeCells, Value.cells, h6]
  rw [hm]
theorem row_made (w : World) (base g n sz : Nat) (T : TypeId) (cs : List Value) (h : w.heap[g]? = some (.cells cs.toArray T (0, 0))) (hl : cs.length = n * sz) (hb : base ≤ g) (hn : n ≤ 65536) : Row w base sz (.slice (some ⟨g, 0, none⟩) n n) n cs := by
  have hlt := (Array.getElem?_eq_some_iff.1 h).1
  refine ⟨_, n, rfl, hl, Nat.le_refl _, by unfold maxLen; omega, (fun e => by cases e), fun ad e => ?_⟩
  cases e
  refine ⟨g, 0, rfl, hb, hlt, fun j u e => ?_, fun j hj => ⟨?_, froz_row h _⟩⟩
  · rw [cell_row h, Nat.zero_add, List.getElem?_toArray]
    exact e
  · rw [cell_row h, Nat.zero_add]
    simp; omega
theorem begin_any (x : Int) (w : World) : Calls Tryz.prog 93 #[.int .u64 x] w fun e w' => e = .returned (.agg #[.int .u64 x, .int .u64 x]) ∧ Below w.heap.size w w' := by
  go_enter Tryz.func93, Tryz.ntmps93
  go_wp2
  exact bodyPost_ret (v := .agg #[.int .u64 x, .int .u64 x]) (by simp [results, Tryz.results93, go_sem]) rfl ⟨rfl, below1 w _⟩
def fresh (now : Int) (Ls : List (List Ent)) : List Bk := Ls.map fun q => ⟨now, now, q⟩
theorem Row.three {w : World} {base g n cap : Nat} {cs : List Value} (h : Row w base 3 (.slice (some ⟨g, 0, none⟩) n cap) n cs) {k : Nat} (hk : k < n) :
    (∃ u, w.cell? ⟨g, k * 3, none⟩ = some u ∧ w.frozen? ⟨g, k * 3, none⟩ = false) ∧ (∃ u, w.cell? ⟨g, k * 3 + 1, none⟩ = some u ∧ w.frozen? ⟨g, k * 3 + 1, none⟩ = false) ∧ (∃ u, w.cell? ⟨g, k * 3 + 2, none⟩ = some u ∧ w.frozen? ⟨g, k * 3 + 2, none⟩ = false) := by
  obtain ⟨A, cap', e, h0, h1, h2, h3, h4⟩ := h
  cases e
  obtain ⟨g', o, e, hb, hlt, hl, hc⟩ := h4 _ rfl
  cases e
  have hx : ∀ j, j < cap * 3 → ∃ u, w.cell? ⟨g, j, none⟩ = some u ∧ w.frozen? ⟨g, j, none⟩ = false := fun j hj => by
    obtain ⟨k1, k2⟩ := hc j hj
    rw [Nat.zero_add] at k1 k2
    obtain ⟨u, hu⟩ := Option.isSome_iff_exists.1 k1
    exact ⟨u, hu, k2⟩
  exact ⟨hx _ (by omega), hx _ (by omega), hx _ (by omega)⟩
set_option maxHeartbeats 1000000 in
theorem begun_any {w : World} {b0 c N : Nat} {A : Option Addr} {ss : List Value} (Ls : List (List Ent)) (now : Int) (hr : Rd w b0 A ss) (hb0 : b0 ≤ w.heap.size) (hss : ss.length = N) (hN : Ls.length = N) (hsl : ∀ i, i < N → ∃ A' m c', ss[i]? = some (.slice A' m c')) (hn : N ≤ 65536) :
    Calls Tryz.prog 51 #[.slice A N c, .int .u64 now] w fun e w' => ∃ g, e = .returned (.slice (some ⟨g, 0, none⟩) N N) ∧ w.heap.size ≤ g ∧ Row w' w.heap.size 3 (.slice (some ⟨g, 0, none⟩) N N) N (bflat (fresh now Ls) (fun i => (ss[i]?).getD nilS)) ∧ Below w.heap.size w w' := by
  have HR := Lib.hid hr; have HB0 := Lib.hid hb0; have HSS := Lib.hid hss; have HLN := Lib.hid hN; have HSL := Lib.hid hsl
  clear hr hb0 hss hN hsl
  have hmk := makeB N hn
  go_enter Tryz.func51, Tryz.ntmps51
  go_wp2_with fail
  have hnew := heap_alloc_new w (.cells (bflat (List.replicate N ⟨0, 0, []⟩) (fun _ => nilS)).toArray 160)
  have hbl := below1 w (.cells (bflat (List.replicate N ⟨0, 0, []⟩) (fun _ => nilS)).toArray 160)
  have hr0 := row_made _ w.heap.size _ N 3 160 _ hnew (by rw [bflat_len, List.length_replicate]) (Nat.le_refl _) hn
  obtain ⟨g, hg⟩ : ∃ g, g = w.heap.size := ⟨_, rfl⟩
  rw [← hg] at hr0 ⊢
  generalize w.alloc (.cells (bflat (List.replicate N ⟨0, 0, []⟩) (fun _ => nilS)).toArray 160) = w0 at *
  have HBL := Lib.hid hbl; have HR0 := Lib.hid hr0; have HG := Lib.hid hg
  clear hmk hnew hbl hr0 hg
  go_loopg [6, 7, 13] N (fun q s6 s7 s13 wx => ∃ (k : Nat) (L : List Bk) (V : Nat → Value), k ≤ N ∧ q = N - k ∧ s13 = .int .i64 (k : Int) ∧ L.length = N ∧ (∀ j, j < k → L[j]! = ⟨now, now, Ls[j]!⟩ ∧ V j = (ss[j]?).getD nilS) ∧ Row wx g 3 (.slice (some ⟨g, 0, none⟩) N N) N (bflat L V) ∧ Below w.heap.size w wx)
  case atStart => exact ⟨0, _, _, by omega, rfl, rfl, by simp, fun j hj => by omega, HR0.out, HBL.out⟩
  case round =>
    obtain ⟨k, L, V, hk, rfl, rfl, hL, hdone, hrow, hb⟩ := hrel
    have HL := Lib.hid hL; have HD := Lib.hid hdone; have HROW := Lib.hid hrow; have HB := Lib.hid hb
    clear hL hdone hrow hb
    by_cases hkn : k < N
    · obtain ⟨A', m, c', hv⟩ := HSL.out k hkn
      obtain ⟨gs, os, rfl, hgs, hls⟩ := HR.out (by rw [HSS.out]; omega)
      have hc0 : wr.cell? ⟨gs, os + k, none⟩ = some (.slice A' m c') := (HB.out.cell (p := ⟨gs, os + k, none⟩) (by have := HB0.out; show gs < w.heap.size; omega)).trans (hls k _ hv)
      have HV := Lib.hid hv
      clear hv hls
      have hw1 : Below wr.heap.size wr wr := Below.refl _ _
      obtain ⟨⟨u0, c0, f0⟩, ⟨u1, c1, f1⟩, ⟨u2, c2, f2⟩⟩ := HROW.out.three hkn
      have hglt := (HROW.out.lt g rfl).2
      have HK := Lib.hid (fun W (hb : Below wr.heap.size wr W) => (⟨(hb.cell (p := ⟨g, k * 3, none⟩) hglt).trans c0, (hb.cell (p := ⟨g, k * 3 + 1, none⟩) hglt).trans c1, (hb.cell (p := ⟨g, k * 3 + 2, none⟩) hglt).trans c2, (hb.frozen (p := ⟨g, k * 3, none⟩) hglt).trans f0, (hb.frozen (p := ⟨g, k * 3 + 1, none⟩) hglt).trans f1, (hb.frozen (p := ⟨g, k * 3 + 2, none⟩) hglt).trans f2⟩ : _ ∧ _ ∧ _ ∧ _ ∧ _ ∧ _))
      clear c0 c1 c2 f0 f1 f2
      go_wp2_with fail
      refine (begin_any now _).mono ?_
      rintro e w1 ⟨rfl, hb1⟩
      obtain ⟨c0, c1, c2, f0, f1, f2⟩ := HK.out w1 hb1
      have HB1 := Lib.hid hb1
      clear hb1
      go_wp2_with fail
      go_roundg (N - (k + 1))
      case measure => omega
      case rel =>
        have h1 := HROW.out.new HB1.out
        have h2 := ((h1.setAt (i := k * 3) (by omega) (.int .u64 now)).setAt (i := k * 3 + 1) (by omega) (.int .u64 now)).setAt (i := k * 3 + 2) (by omega) (.slice A' m c')
        have hL := HL.out
        rw [bflat_a _ _ (by omega), bflat_f _ _ (by rw [List.length_set]; omega), bflat_q _ _ (by rw [List.length_set, List.length_set]; omega) _ Ls[k]!] at h2
        simp only [Nat.zero_add] at h2
        refine ⟨k + 1, _, _, by omega, rfl, by go_num, ?_, fun j hj => ?_, h2, ?_⟩
        · simp only [List.length_set]; exact hL
        · rw [get_set (by simp only [List.length_set]; omega), get_set (by simp only [List.length_set]; omega), get_set (by omega)]
          by_cases e : j = k
          · subst e
            rw [if_pos rfl, if_pos rfl, if_pos rfl, upd_same, HV.out]
            exact ⟨rfl, rfl⟩
          · rw [if_neg e, upd_ne _ _ e]
            have := HD.out j (by omega)
            refine ⟨?_, this.2⟩
            rw [get_set (by rw [List.length_set]; omega), if_neg e, get_set (by omega), if_neg e]
            exact this.1
        · have t3 : Turns (fun x => x = g) w1 (((w1.setCell ⟨g, k * 3, none⟩ (.int .u64 now)).setCell ⟨g, k * 3 + 1, none⟩ (.int .u64 now)).setCell ⟨g, k * 3 + 2, none⟩ (.slice A' m c')) := (((Turns.refl (fun x => x = g) w1).setCell ⟨g, k * 3, none⟩ _ rfl).setCell ⟨g, k * 3 + 1, none⟩ _ rfl).setCell ⟨g, k * 3 + 2, none⟩ _ rfl
          have hb1 : Below w.heap.size w w1 := HB.out.trans (HB1.out.mono HB.out.size)
          exact hb1.trans (t3.below hb1.size (fun x hx e => by have := HG.out; omega))
    · obtain rfl : k = N := by omega
      go_wp2_with fail
      go_ret
      refine ⟨g, rfl, by have := HG.out; omega, ?_, HB.out⟩
      have hL := HL.out
      have hx : bflat L V = bflat (fresh now Ls) (fun i => (ss[i]?).getD nilS) := by
        refine bflat_ext (L := L) (V := V) (by rw [bflat_len]; simp [fresh, hL, HLN.out]) fun j hj => ?_
        have hj3 : j < k * 3 := by simpa [fresh, HLN.out] using hj
        rw [bflat_at _ _ (by omega)]
        unfold bcell
        obtain ⟨h1, h2⟩ := HD.out (j / 3) (by omega)
        have h3 : (fresh now Ls)[j / 3]! = ⟨now, now, Ls[j / 3]!⟩ := by
          have hl := HLN.out
          rw [getElem!_pos (fresh now Ls) (j / 3) (by simp [fresh]; omega), getElem!_pos Ls (j / 3) (by omega)]
          simp [fresh]
        rw [h1, h2, h3]
      rw [← hx]
      have := HROW.out.base (b := w.heap.size) (by have := HG.out; omega)
      exact this
theorem Row.ok {w : World} {base g o n m sz cap : Nat} {cs : List Value} (h : Row w base sz (.slice (some ⟨g, o, none⟩) m cap) n cs) {j : Nat} (hj : j < n * sz) : ∃ u, cs[j]? = some u ∧ w.cell? ⟨g, o + j, none⟩ = some u ∧ w.frozen? ⟨g, o + j, none⟩ = false := by
  obtain ⟨A, cap', e, h0, h1, h2, h3, h4⟩ := h
  cases e
  obtain ⟨g', o', e, hb, hlt, hl, hc⟩ := h4 _ rfl
  cases e
  have hcap : n * sz ≤ cap * sz := Nat.mul_le_mul_right _ h1
  have hu := List.getElem?_eq_getElem (l := cs) (i := j) (by omega)
  exact ⟨_, hu, hl j _ hu, (hc j (by omega)).2⟩
def hollow (L : List Bk) : List Bk := L.map fun x => { x with q := [] }
set_option maxHeartbeats 1000000 in
theorem emptied_any {w : World} {g o c N : Nat} {L : List Bk} {V : Nat → Value} (hr : Row w 0 3 (.slice (some ⟨g, o, none⟩) N c) N (bflat L V)) (hL : L.length = N) (hV : ∀ i, i < N → ∃ A' m c', V i = .slice A' m c') (hn : N ≤ 65536) :
    Calls Tryz.prog 53 #[.slice (some ⟨g, o, none⟩) N c] w fun e w' => ∃ g2, e = .returned (.slice (some ⟨g2, 0, none⟩) N N) ∧ w.heap.size ≤ g2 ∧ g2 < w'.heap.size ∧ Lies w' g2 0 ((List.range N).map V) ∧ Row w' 0 3 (.slice (some ⟨g, o, none⟩) N c) N (bflat (hollow L) (fun _ => nilS)) ∧ Turns (fun x => x = g) w w' := by
  have HR := Lib.hid hr; have HLL := Lib.hid hL; have HV := Lib.hid hV
  have hc := hr.shape
  obtain ⟨_, _, e, hNc, hc9⟩ := hc
  cases e
  clear hr hL hV
  have hmk := make_any N hn
  go_enter Tryz.func53, Tryz.ntmps53
  go_wp2_with fail
  have hnew := heap_alloc_new w (.cells (List.replicate N nilS).toArray 77)
  have hbl := below1 w (.cells (List.replicate N nilS).toArray 77)
  have hr0 := row_made _ w.heap.size _ N 1 77 _ hnew (by rw [List.length_replicate]; omega) (Nat.le_refl _) hn
  have hglt := (HR.out.lt g rfl).2
  have hrt := HR.out.new hbl
  obtain ⟨g2, hg⟩ : ∃ g2, g2 = w.heap.size := ⟨_, rfl⟩
  rw [← hg] at hr0 ⊢
  have hgg : g ≠ g2 := by omega
  have hgg' : g2 ≠ g := by omega
  have hee : (List.replicate N nilS).toArray = Array.replicate N nilS := by simp
  rw [hee] at hbl hrt hr0
  clear hnew hee
  generalize w.alloc (.cells (Array.replicate N (Value.slice none 0 0)) 77) = w0 at *
  have HBL := Lib.hid hbl; have HR0 := Lib.hid hr0; have HG := Lib.hid hg; have HRT := Lib.hid hrt
  clear hmk hbl hr0 hg hrt hglt
  go_loopg [4, 10] N (fun q s4 s10 wx => ∃ (k : Nat) (L' : List Bk) (V' : Nat → Value) (cs : List Value), k ≤ N ∧ q = N - k ∧ s10 = .int .i64 (k : Int) ∧ L'.length = N ∧ (∀ j, j < N → L'[j]! = (if j < k then { L[j]! with q := [] } else L[j]!) ∧ V' j = if j < k then nilS else V j) ∧
    Row wx 0 3 (.slice (some ⟨g, o, none⟩) N c) N (bflat L' V') ∧ Row wx g2 1 (.slice (some ⟨g2, 0, none⟩) N N) N cs ∧ (∀ j, j < k → cs[j]? = some (V j)) ∧ Turns (fun x => x = g) w wx)
  case atStart => exact ⟨0, L, V, _, by omega, rfl, rfl, HLL.out, fun j hj => ⟨by rw [if_neg (by omega)], by rw [if_neg (by omega)]⟩, HRT.out, HR0.out, fun j hj => by omega, Turns.of_below HBL.out⟩
  case round =>
    obtain ⟨k, L', V', cs, hk, rfl, rfl, hL, hdone, hrow, hrow2, hcs, ht⟩ := hrel
    have HL := Lib.hid hL; have HD := Lib.hid hdone; have HROW := Lib.hid hrow; have HROW2 := Lib.hid hrow2; have HCS := Lib.hid hcs; have HT := Lib.hid ht
    clear hL hdone hrow hrow2 hcs ht
    by_cases hkn : k < N
    · obtain ⟨A', m, c', hv⟩ := HV.out k hkn
      obtain ⟨u, hu, c2, f2⟩ := HROW.out.ok (j := k * 3 + 2) (by omega)
      have hg2 := (bflat_get L' V' (i := k) (by have := HL.out; omega)).2.2
      rw [hu] at hg2
      have hvk := (HD.out k hkn).2
      rw [if_neg (by omega), hv] at hvk
      rw [hvk] at hg2
      cases hg2
      obtain ⟨u', hu', d2, e2⟩ := HROW2.out.ok (j := k) (by omega)
      rw [Nat.zero_add] at d2 e2
      rw [← Nat.add_assoc] at c2 f2
      have HVV := Lib.hid hv
      clear hu hvk hu' hv
      go_wp2_with fail
      go_roundg (N - (k + 1))
      case measure => omega
      case rel =>
        have t1 : Turns (fun x => x = g2) wr (wr.setCell ⟨g2, k, none⟩ (.slice A' m c')) := (Turns.refl (fun x => x = g2) wr).setCell ⟨g2, k, none⟩ _ rfl
        have t2 : Turns (fun x => x = g) (wr.setCell ⟨g2, k, none⟩ (.slice A' m c')) ((wr.setCell ⟨g2, k, none⟩ (.slice A' m c')).setCell ⟨g, o + k * 3 + 2, none⟩ nilS) := (Turns.refl (fun x => x = g) _).setCell ⟨g, o + k * 3 + 2, none⟩ _ rfl
        have r1 := (HROW.out.keep t1 (fun x e e2 => hgg (by simp [Value.ownBlock] at e; omega))).setAt (i := k * 3 + 2) (by omega) nilS
        have r2 := (HROW2.out.setAt (i := k) (by omega) (.slice A' m c'))
        rw [Nat.zero_add] at r2
        have r3 := r2.keep t2 (fun x e e2 => hgg (by simp [Value.ownBlock] at e; omega))
        have hL := HL.out
        rw [bflat_q _ _ (by omega) _ [], ← Nat.add_assoc] at r1
        refine ⟨k + 1, _, _, _, by omega, rfl, by go_num, ?_, fun j hj => ?_, r1, r3, fun j hj => ?_, ?_⟩
        · simp only [List.length_set]; exact hL
        · obtain ⟨d1, d2⟩ := HD.out j hj
          rw [get_set (by omega)]
          by_cases e : j = k
          · subst e
            rw [if_pos rfl, upd_same, if_pos (by omega), if_pos (by omega), d1, if_neg (by omega)]
            exact ⟨rfl, rfl⟩
          · rw [if_neg e, upd_ne _ _ e, d1, d2]
            by_cases e3 : j < k
            · rw [if_pos e3, if_pos e3, if_pos (by omega), if_pos (by omega)]
              exact ⟨rfl, rfl⟩
            · rw [if_neg e3, if_neg e3, if_neg (by omega), if_neg (by omega)]
              exact ⟨rfl, rfl⟩
        · have hlc := HROW2.out.len
          by_cases e : j = k
          · subst e
            rw [List.getElem?_set_self (by omega), HVV.out]
          · rw [List.getElem?_set_ne (fun e' => e e'.symm)]
            exact HCS.out j (by omega)
        · refine (HT.out.trans t1 (fun x hx e => ?_)).trans t2 (fun x hx e => e)
          have := HG.out; omega
    · obtain rfl : k = N := by omega
      go_wp2_with fail
      go_ret
      have hlt := (HROW2.out.lt g2 rfl).2
      have hL := HL.out
      have hcl := HROW2.out.len
      have hx : bflat L' V' = bflat (hollow L) (fun _ => nilS) := by
        refine bflat_ext (L := L) (V := V) (by rw [bflat_len]; simp [hollow, hL, HLL.out]) fun j hj => ?_
        have hj3 : j < k * 3 := by simpa [hollow, HLL.out] using hj
        rw [bflat_at _ _ (by omega)]
        unfold bcell
        obtain ⟨h1, h2⟩ := HD.out (j / 3) (by omega)
        rw [if_pos (by omega)] at h1 h2
        have h3 : (hollow L)[j / 3]! = { L[j / 3]! with q := [] } := by
          have hl := HLL.out
          rw [getElem!_pos (hollow L) (j / 3) (by simp [hollow]; omega), getElem!_pos L (j / 3) (by omega)]
          simp [hollow]
        rw [h1, h2, h3]
      rw [← hx]
      refine ⟨g2, rfl, by have := HG.out; omega, hlt, ?_, HROW.out, HT.out⟩
      obtain ⟨A, cap, e, h0, h1, h2, h3, h4⟩ := HROW2.out
      cases e
      obtain ⟨g', o', e, hb, hlt', hl, hc⟩ := h4 _ rfl
      cases e
      intro j x hj
      have hjk : j < k := by
        have := (List.getElem?_eq_some_iff.1 hj).1
        simpa using this
      have : x = V j := by simpa [hjk] using hj.symm
      subst this
      exact hl j _ (HCS.out j hjk)
end Go.Proofs.YtdodloannlfnlaaGreat.S10
namespace Go.Proofs.YtdodloannlfnlaaGreat.S10
open Go.Proofs.YtdodloannlfnlaaGreat
open Go.RowKit

def M0 (now : Int) : Int → List Bk := upd (fun _ => []) 2 (fresh now (List.replicate 4 []))
theorem grown_turns {w w' : World} {r : Option Nat} (h : w.grownBy w' r) : Turns (fun k => r = some k) w w' :=
  ⟨h.os, h.tape, h.output, h.size, fun k hk hn => h.block k hk (fun e => hn e.symm)⟩
theorem fresh_at (now : Int) (Ls : List (List Ent)) {i : Nat} (hi : i < Ls.length) : (fresh now Ls)[i]! = ⟨now, now, Ls[i]!⟩ := by
  rw [getElem!_pos (fresh now Ls) i (by simpa [fresh] using hi), getElem!_pos Ls i hi]
  simp [fresh]
theorem fresh_len (now : Int) (Ls : List (List Ent)) : (fresh now Ls).length = Ls.length := by simp [fresh]
theorem hollow_at (L : List Bk) {i : Nat} (hi : i < L.length) : (hollow L)[i]! = { L[i]! with q := [] } := by
  rw [getElem!_pos (hollow L) i (by simpa [hollow] using hi), getElem!_pos L i hi]
  simp [hollow]
theorem hollow_len (L : List Bk) : (hollow L).length = L.length := by simp [hollow]
theorem rep_at (n i : Nat) : (List.replicate n ([] : List Ent))[i]! = [] := by
  rw [List.getElem!_eq_getElem?_getD, List.getElem?_replicate]
  split <;> rfl
theorem rep_get (n i : Nat) : ((List.replicate n nilS)[i]?).getD nilS = nilS := by
  rw [List.getElem?_replicate]
  split <;> rfl
theorem new_any (now : Int) (w : World) : Calls Tryz.prog 45 #[.int .u64 now] w fun e w' => ∃ s own, e = .returned s ∧ St w' w.heap.size own s 1 (M0 now) ∧ Below w.heap.size w w' := by
  have hs : ∀ w, Calls Tryz.prog 88 #[.int .i64 2] w fun e w' => e = .returned (.int .i64 4) ∧ w = w' := fun w => by
    have := size_any 2 w
    rwa [show sizeN 2 = 4 by decide] at this
  have HS := Lib.hid hs
  clear hs
  have hmk : ∀ w, (Instr.makeSlice 149 (.int .i64 4) (.int .i64 4)).run Tryz.prog w = .ok (.slice (some ⟨w.heap.size, 0, none⟩) 4 4) (w.alloc (.cells (List.replicate 4 nilS).toArray 77)) := fun w => make_any 4 (by omega) w
  have hmm := @run_makeMap Tryz.prog
  generalize hR : (List.replicate 4 nilS).toArray = R4 at hmk
  have HR4 := Lib.hid hR
  clear hR
  go_enter Tryz.func45, Tryz.ntmps45
  go_wp2_with (go_at_call 88; refine (HS.out _).mono ?_; rintro e w' ⟨rfl, rfl⟩)
  have hn1 := heap_alloc_new w (.cells R4 77)
  have hs1 : (w.alloc (.cells R4 77)).heap.size = w.heap.size + 1 := by simp
  have hb1 := below1 w (.cells R4 77)
  generalize w.alloc (.cells R4 77) = w1 at *
  have hm1 := MapAt.made w1
  have hb2 := below1 w1 (.map #[] 0)
  have hs2 : (w1.alloc (.map #[] 0)).heap.size = w.heap.size + 2 := by simp [hs1]
  have hn2 := (hb2.block w.heap.size (by omega)).trans hn1
  rw [hs1] at hm1
  generalize w1.alloc (.map #[] 0) = w2 at *
  rw [← HR4.out] at hn2
  have hrd : Rd w2 w2.heap.size (some ⟨w.heap.size, 0, none⟩) (List.replicate 4 nilS) := fun _ => ⟨_, 0, rfl, by omega, fun j u e => by rw [cell_row hn2, Nat.zero_add, List.getElem?_toArray]; exact e⟩
  refine (begun_any (c := 4) (ss := List.replicate 4 nilS) (List.replicate 4 []) now hrd (Nat.le_refl _) (by simp) (by simp) (fun i hi => ⟨none, 0, 0, by rw [List.getElem?_replicate, if_pos hi]⟩) (by omega)).mono ?_
  rintro e w3 ⟨g, rfl, hg, hr3, hb3⟩
  have hm3 := hm1.keep (Turns.of_below (S := fun _ => False) hb3) (fun h => h)
  obtain ⟨w4, hrun, hm4, hg4⟩ := hm3.put (by omega) (b := 2) (by unfold InI; omega) (.slice (some ⟨g, 0, none⟩) 4 4)
  have hs4 : w3.heap.size ≤ w4.heap.size := hg4.size
  have hbw : Below w.heap.size w w4 := by
    refine (hb1.trans (hb2.mono (by omega))).trans ((hb3.mono (by omega)).trans ((grown_turns hg4).below (by have := hb3.size; omega) (fun k hk e => ?_)))
    simp at e; omega
  have hr4 := hr3.keep (grown_turns hg4) (fun x e e2 => by simp [Value.ownBlock] at e; simp at e2; omega)
  have hglt := (hr4.lt g rfl).2
  have HB := Lib.hid hbw; have HM := Lib.hid hm4; have HRW := Lib.hid hr4
  have hw2 := hb3.size
  have HSZ : Hid (w.heap.size + 1 < w4.heap.size ∧ w.heap.size + 2 ≤ g ∧ g < w4.heap.size) := Lib.hid ⟨by omega, by omega, hglt⟩
  clear hn1 hb1 hm1 hb2 hn2 hrd hr3 hb3 hm3 hg4 hbw hm4 hr4 hmk hmm hs4 hglt hs1 hs2 hg hw2
  go_wp2_with fail
  go_ret
  obtain ⟨z1, z2, z3⟩ := HSZ.out
  have hbn := below1 w4 (.cells #[.map (some (w.heap.size + 1))] 154)
  have hnew := heap_alloc_new w4 (.cells #[.map (some (w.heap.size + 1))] 154)
  have hsz : (w4.alloc (.cells #[.map (some (w.heap.size + 1))] 154)).heap.size = w4.heap.size + 1 := by simp
  refine ⟨_, fun x => if x = w4.heap.size then some .set else if x = w.heap.size + 1 then some .map else if x = g then some (.tab 2) else none, rfl, ⟨w4.heap.size, w.heap.size + 1, upd (fun _ => nilS) 2 (.slice (some ⟨g, 0, none⟩) 4 4), fun _ _ => nilS, ?_⟩, HB.out.trans (hbn.mono HB.out.size)⟩
  have hM2 : M0 now 2 = fresh now (List.replicate 4 []) := upd_same _ _ _
  have hMo : ∀ b, b ≠ 2 → M0 now b = [] := fun b hb => upd_ne _ _ hb
  refine ⟨fun x r e => ?_, rfl, hnew, if_pos rfl, HM.out.keep (Turns.of_below (S := fun _ => False) hbn) (fun h => h), by rw [if_neg (by omega), if_pos rfl], fun b => ?_, fun b x e => ?_, fun b i hi => ?_, fun b i x hi e => by simp [Value.ownBlock] at e⟩
  · rw [hsz]
    split at e
    · omega
    · split at e
      · omega
      · split at e
        · omega
        · cases e
  · by_cases hb : b = 2
    · subst hb
      rw [upd_same, hM2]
      have := (HRW.out.new hbn).base (Nat.zero_le _)
      have hv : (fun i => ((List.replicate 4 nilS)[i]?).getD nilS) = fun _ => nilS := funext fun i => rep_get 4 i
      rw [hv] at this
      exact this
    · rw [upd_ne _ _ hb, hMo b hb]
      exact row_nil _ _ _
  · by_cases hb : b = 2
    · subst hb
      rw [upd_same] at e
      have : g = x := by simpa [Value.ownBlock] using e
      subst this
      rw [if_neg (by omega), if_neg (by omega), if_pos rfl]
    · rw [upd_ne _ _ hb] at e
      simp [Value.ownBlock] at e
  · by_cases hb : b = 2
    · subst hb
      rw [hM2] at hi ⊢
      have h4 : i < 4 := by simpa [fresh] using hi
      have : (fresh now (List.replicate 4 []))[i]!.q = [] := by
        rw [fresh_at _ _ (by simpa using h4), rep_at]
      rw [this]
      exact row_nil _ _ _
    · rw [hMo b hb] at hi
      simp at hi
end Go.Proofs.YtdodloannlfnlaaGreat.S10
namespace Go.Proofs.YtdodloannlfnlaaGreat.S11
open Go.Proofs.YtdodloannlfnlaaGreat
open Go.RowKit

def nmL : List ByteArray := [⟨#[]⟩, ⟨#[112, 97, 114, 107]⟩, ⟨#[116, 97, 107, 101]⟩, ⟨#[112, 105, 99, 107]⟩, ⟨#[109, 111, 118, 101]⟩, ⟨#[103, 111, 110, 101]⟩, ⟨#[]⟩, ⟨#[]⟩, ⟨#[]⟩, ⟨#[]⟩, ⟨#[]⟩, ⟨#[]⟩, ⟨#[]⟩, ⟨#[]⟩, ⟨#[]⟩, ⟨#[]⟩, ⟨#[108, 111, 99, 107]⟩, ⟨#[102, 114, 101, 101]⟩, ⟨#[104, 97, 110, 100]⟩, ⟨#[98, 117, 115, 121]⟩, ⟨#[108, 97, 116, 101]⟩, ⟨#[114, 101, 97, 100]⟩, ⟨#[117, 112, 103, 114]⟩, ⟨#[99, 108, 97, 105, 109]⟩, ⟨#[119, 114, 105, 116, 101]⟩, ⟨#[117, 110, 114, 101, 97, 100]⟩, ⟨#[117, 110, 117, 112, 103, 114]⟩, ⟨#[117, 110, 99, 108, 97, 105, 109]⟩, ⟨#[117, 110, 119, 114, 105, 116, 101]⟩, ⟨#[119, 97, 105, 116]⟩, ⟨#[119, 97, 107, 101]⟩, ⟨#[103, 105, 118, 101]⟩, ⟨#[110, 111, 98, 111, 100, 121]⟩, ⟨#[98, 101, 103, 105, 110]⟩, ⟨#[101, 110, 100]⟩, ⟨#[102, 97, 105, 108]⟩, ⟨#[100, 111, 110, 101]⟩, ⟨#[115, 105, 99, 107]⟩]
def nmS (k : Nat) : ByteArray := nmL.getD k ⟨#[]⟩
theorem bt (x : ByteArray) : x.toList.isEmpty = decide (x = ⟨#[]⟩) := by
  rcases x with ⟨a⟩
  by_cases h : a = #[]
  · subst h; decide +kernel
  · have : ¬ (⟨a⟩ : ByteArray) = ⟨#[]⟩ := fun e => h (by injection e)
    rw [ByteArray.toList_eq, decide_eq_false this]
    cases a with | mk l => cases l with
      | nil => exact absurd rfl h
      | cons _ _ => rfl
def Tab (w : World) : Prop := 0 < w.heap.size ∧ ∀ k, k < 38 → w.cell? ⟨0, k, none⟩ = some (.string (nmS k))
theorem Tab.below {w w' : World} {b : Nat} (h : Tab w) (hb : Below b w w') (h0 : 0 < b) : Tab w' :=
  ⟨by have := hb.size; have := h.1; omega, fun k hk => (hb.cell (p := ⟨0, k, none⟩) h0).trans (h.2 k hk)⟩
theorem Tab.kept {S : Nat → Prop} {w w' : World} (h : Tab w) (t : Turns S w w') (h0 : ¬ S 0) : Tab w' :=
  ⟨Nat.lt_of_lt_of_le h.1 t.size, fun k hk => (t.cell h.1 h0).trans (h.2 k hk)⟩
theorem Tab.drew {w : World} (h : Tab w) : Tab w.drew := h
end Go.Proofs.YtdodloannlfnlaaGreat.S11
