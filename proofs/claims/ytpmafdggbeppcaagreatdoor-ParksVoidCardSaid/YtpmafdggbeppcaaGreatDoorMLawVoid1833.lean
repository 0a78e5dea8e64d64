/- Texts of this seat, one behind the other. -/
import Derived.Test.YtpmafdggbeppcaaGreatDoorMLawVoid1814
import Derived.Test.YtpmafdggbeppcaaGreatDoorMLawVoid1832
import Derived.Deep.RegionHeld3
set_option linter.unusedVariables false
set_option linter.unusedSimpArgs false
namespace Go.Proofs.YtpmafdggbeppcaaGreatDoor.S10
open Go.Proofs.YtpmafdggbeppcaaGreatDoor
open Go.RowKit
theorem turns_grown {w w' : World} {row : Option Nat} (hg : w.grownBy w' row) : Turns (fun k => row = some k) w w' :=
  ⟨hg.os, hg.tape, hg.output, hg.size, fun k hk hn => hg.block k hk (fun e => hn e.symm)⟩
theorem CB.no {w : World} {v : Value} (h : CB w v) {row : Option Nat} (hr : ∀ r, row = some r → ∃ o : Obj, w.heap[r]? = some o ∧ o.isCells = false) : ∀ g, v.ownBlock = some g → ¬ row = some g := fun g e e' => by
  obtain ⟨cs, t, m, h1⟩ := h g e
  obtain ⟨o, h2, h3⟩ := hr g e'
  rw [h1] at h2
  cases h2
  cases h3
theorem Tab.cb {w : World} {base : Nat} {s : Value} {ss : List Value} {Ls : List (List Ent)} (h : Tab w base s ss Ls) {i : Nat} {v : Value} (hv : ss[i]? = some v) : CB w v := by
  have hi : i < Ls.length := by rw [← h.len]; exact (List.getElem?_eq_some_iff.1 hv).1
  obtain ⟨u, hu, _, hc⟩ := h.qs i hi
  rw [hv] at hu
  cases hu
  exact hc
theorem Tab.rowE {w : World} {base : Nat} {s : Value} {ss : List Value} {Ls : List (List Ent)} (h : Tab w base s ss Ls) {i : Nat} {v : Value} (hv : ss[i]? = some v) : RowE w base v Ls[i]! := by
  have hi : i < Ls.length := by rw [← h.len]; exact (List.getElem?_eq_some_iff.1 hv).1
  obtain ⟨u, hu, hr, hc⟩ := h.qs i hi
  rw [hv] at hu
  cases hu
  exact hr
theorem Tab.grown {w w' : World} {base : Nat} {s : Value} {ss : List Value} {Ls : List (List Ent)} {row : Option Nat} (h : Tab w base s ss Ls) (hg : w.grownBy w' row) (hr : ∀ r, row = some r → ∃ o : Obj, w.heap[r]? = some o ∧ o.isCells = false) : Tab w' base s ss Ls :=
  h.keep (turns_grown hg) (h.out.no hr) (fun i v g hv e => (h.cb hv).no hr g e)
theorem Tab.cell {w : World} {base g o m c : Nat} {ss : List Value} {Ls : List (List Ent)} (h : Tab w base (.slice (some ⟨g, o, none⟩) m c) ss Ls) {i : Nat} {v : Value} (hv : ss[i]? = some v) : w.cell? ⟨g, o + i, none⟩ = some v ∧ w.frozen? ⟨g, o + i, none⟩ = false := by
  obtain ⟨A, cap, e, h0, h1, h2, h3, h4⟩ := h.row
  cases e
  obtain ⟨g', o', e, hb, hlt, hl, hc⟩ := h4 _ rfl
  cases e
  have := (List.getElem?_eq_some_iff.1 hv).1
  exact ⟨hl i v hv, (hc i (by omega)).2⟩
theorem Tab.cell0 {w : World} {base g m c : Nat} {ss : List Value} {Ls : List (List Ent)} (h : Tab w base (.slice (some ⟨g, 0, none⟩) m c) ss Ls) {i : Nat} {v : Value} (hv : ss[i]? = some v) : w.cell? ⟨g, i, none⟩ = some v ∧ w.frozen? ⟨g, i, none⟩ = false := by
  have := h.cell hv
  rwa [Nat.zero_add] at this
theorem tab_made (w : World) (base g n : Nat) (h : w.heap[g]? = some (.cells (List.replicate n (Value.slice none 0 0)).toArray 123 (0, 0))) (hb : base ≤ g) (hn : n ≤ 65536) : Tab w base (.slice (some ⟨g, 0, none⟩) n n) (List.replicate n (.slice none 0 0)) (List.replicate n []) := by
  have hlt := (Array.getElem?_eq_some_iff.1 h).1
  refine ⟨?_, fun i hi => ?_, fun g' e => ?_, fun i v g hv e => ?_, fun i j v u g hv hu e _ => ?_⟩
  · rw [List.length_replicate]
    refine ⟨_, n, rfl, by simp, Nat.le_refl _, by unfold maxLen; omega, (fun e => by cases e), fun ad e => ?_⟩
    cases e
    refine ⟨g, 0, rfl, hb, hlt, fun j u e => ?_, fun j hj => ⟨?_, froz_row h _⟩⟩
    · rw [cell_row h, Nat.zero_add, List.getElem?_toArray]
      exact e
    · rw [cell_row h, Nat.zero_add]
      simp; omega
  · rw [List.length_replicate] at hi
    refine ⟨.slice none 0 0, by simp [hi], ?_, cb_none w⟩
    have : (List.replicate n ([] : List Ent))[i]! = [] := by rw [List.getElem!_eq_getElem?_getD]; simp [List.getElem?_replicate, hi]
    rw [this]
    exact row_nil _ _ _
  · obtain rfl : g = g' := by simpa [Value.ownBlock] using e
    exact ⟨_, _, _, h⟩
  · rw [List.getElem?_replicate] at hv
    split at hv
    · cases hv; simp [Value.ownBlock] at e
    · cases hv
  · rw [List.getElem?_replicate] at hv
    split at hv
    · cases hv; simp [Value.ownBlock] at e
    · cases hv
theorem reh_nil (h : Nat → Nat) (n : Nat) : reh h n [] = List.replicate n [] := by
  refine List.ext_getElem? fun i => ?_
  by_cases hi : i < n
  · simp [reh, bk, hi]
  · rw [List.getElem?_eq_none (by rw [reh_len]; omega), List.getElem?_eq_none (by simp; omega)]
def Hi (ss : List Value) (X : Nat) : Prop := ∀ (i : Nat) (v : Value) (g : Nat), ss[i]? = some v → v.ownBlock = some g → X ≤ g
theorem hi_nil (n X : Nat) : Hi (List.replicate n (.slice none 0 0)) X := fun i v g hv e => by
  rw [List.getElem?_replicate] at hv
  split at hv
  · cases hv; simp [Value.ownBlock] at e
  · cases hv
theorem Hi.set {ss : List Value} {X i : Nat} {v' : Value} (h : Hi ss X) (hv : ∀ g, v'.ownBlock = some g → X ≤ g) : Hi (ss.set i v') X := fun j v g hj e => by
  rw [List.getElem?_set] at hj
  split at hj
  · split at hj
    · cases hj; exact hv g e
    · cases hj
  · exact h j v g hj e
end Go.Proofs.YtpmafdggbeppcaaGreatDoor.S10
namespace Go.Proofs.YtpmafdggbeppcaaGreatDoor.S10
set_option maxRecDepth 100000
set_option maxHeartbeats 16000000
open Go.Proofs.YtpmafdggbeppcaaGreatDoor
open Go.RowKit
attribute [local go_sem] Oper.semAt_some
def el (E : List Ent) (i : Nat) : Ent := E[i]!
theorem Boxed.turn {S : Nat → Prop} {W W' : World} {B : Nat} {t : TypeId} {v : Value} (h : Boxed W B t v) (g : Turns S W W') (hn : ¬ S B) : Boxed W' B t v := (g.block B h.lt hn).trans h
theorem others_turn {S : Nat → Prop} {w w' : World} (t : Turns S w w') (hS : ∀ g, S g → ∃ cs t m, w.heap[g]? = some (.cells cs t m)) : KeepsOthers w w' :=
  ⟨t.size, fun k o hk ho => by
    refine (t.block k (Array.getElem?_eq_some_iff.1 hk).1 (fun e => ?_)).trans hk
    obtain ⟨cs, ty, m, h1⟩ := hS k e
    rw [hk] at h1
    cases h1
    cases ho⟩
def onlyN (Q : Exit → Act → World → Prop) : Exit → Act → World → Prop
  | .normal, a, w => Q .normal a w
  | _, _, _ => False
theorem onlyN_in {Q : Exit → Act → World → Prop} {a : Act} {w : World} (h : Q .normal a w) : onlyN Q .normal a w := h
theorem onlyN_out {Q : Exit → Act → World → Prop} {e : Exit} {a : Act} {w : World} (h : onlyN Q e a w) : Q e a w := by
  cases e <;> first | exact h | exact h.elim
def began (w : World) (b : Int) (n N c : Nat) (A : Option Addr) : World := (((w.alloc (.cells #[.int .i64 b] 3)).alloc (.cells (Array.replicate n (.slice none 0 0)) 123)).alloc (.cells #[.slice (some ⟨w.heap.size + 1, 0, none⟩) n n] 220)).alloc (.cells #[.slice A N c] 220)
theorem began_facts (w : World) (b : Int) (n N c : Nat) (A : Option Addr) : (began w b n N c A).heap.size = w.heap.size + 4 ∧ (began w b n N c A).heap[w.heap.size]? = some (.cells #[.int .i64 b] 3 (0, 0)) ∧ (began w b n N c A).heap[w.heap.size + 1]? = some (.cells (List.replicate n (Value.slice none 0 0)).toArray 123 (0, 0)) ∧
    (began w b n N c A).heap[w.heap.size + 2]? = some (.cells #[.slice (some ⟨w.heap.size + 1, 0, none⟩) n n] 220 (0, 0)) ∧ (began w b n N c A).heap[w.heap.size + 3]? = some (.cells #[.slice A N c] 220 (0, 0)) ∧ Below w.heap.size w (began w b n N c A) := by
  unfold began
  have hb : ∀ (W : World) (o : Obj) (k : Nat), k < W.heap.size → (W.alloc o).heap[k]? = W.heap[k]? := fun W o k h => Below.heap_alloc W o k h
  have s1 : (w.alloc (.cells #[Value.int .i64 b] 3)).heap.size = w.heap.size + 1 := by simp
  generalize hw1 : w.alloc (.cells #[Value.int .i64 b] 3) = w1 at *
  have k1 := heap_alloc_new w (.cells #[Value.int .i64 b] 3)
  rw [hw1] at k1
  have s2 : (w1.alloc (.cells (Array.replicate n (Value.slice none 0 0)) 123)).heap.size = w.heap.size + 2 := by simp; omega
  have k2 := heap_alloc_new w1 (.cells (Array.replicate n (Value.slice none 0 0)) 123)
  have j2 := hb w1 (.cells (Array.replicate n (Value.slice none 0 0)) 123)
  have l2 := below1 w1 (.cells (Array.replicate n (Value.slice none 0 0)) 123)
  generalize w1.alloc (.cells (Array.replicate n (Value.slice none 0 0)) 123) = w2 at *
  have s3 : (w2.alloc (.cells #[Value.slice (some ⟨w.heap.size + 1, 0, none⟩) n n] 220)).heap.size = w.heap.size + 3 := by simp; omega
  have k3 := heap_alloc_new w2 (.cells #[Value.slice (some ⟨w.heap.size + 1, 0, none⟩) n n] 220)
  have j3 := hb w2 (.cells #[Value.slice (some ⟨w.heap.size + 1, 0, none⟩) n n] 220)
  have l3 := below1 w2 (.cells #[Value.slice (some ⟨w.heap.size + 1, 0, none⟩) n n] 220)
  generalize w2.alloc (.cells #[Value.slice (some ⟨w.heap.size + 1, 0, none⟩) n n] 220) = w3 at *
  have s4 : (w3.alloc (.cells #[Value.slice A N c] 220)).heap.size = w.heap.size + 4 := by simp; omega
  have k4 := heap_alloc_new w3 (.cells #[Value.slice A N c] 220)
  have j4 := hb w3 (.cells #[Value.slice A N c] 220)
  have l4 := below1 w3 (.cells #[Value.slice A N c] 220)
  generalize w3.alloc (.cells #[Value.slice A N c] 220) = w4 at *
  rw [s1] at k2; rw [s2] at k3; rw [s3] at k4
  refine ⟨s4, ?_, ?_, ?_, k4, ?_⟩
  · rw [j4 _ (by omega), j3 _ (by omega), j2 _ (by omega)]; exact k1
  · rw [j4 _ (by omega), j3 _ (by omega), k2, List.toArray_replicate]
  · rw [j4 _ (by omega)]; exact k3
  · have l1 := below1 w (.cells #[Value.int .i64 b] 3)
    rw [hw1] at l1
    exact l1.trans ((l2.mono (by omega)).trans ((l3.mono (by omega)).trans (l4.mono (by omega))))
theorem rehash_any {w : World} {base n c : Nat} {b : Int} {A : Option Addr} {Ls : List (List Ent)} (h : Nat → Nat)
    (hs : ∀ w, Calls Tryz.prog 119 #[.int .i64 b] w fun e w' => e = .returned (.int .i64 (n : Nat)) ∧ w = w')
    (hh : ∀ (k : Nat) w, k < 4294967296 → Calls Tryz.prog 112 #[.int .u32 k, .int .i64 b] w fun e w' => e = .returned (.int .i64 (h k : Nat)) ∧ w = w')
    (hlt : ∀ k, k < 4294967296 → h k < n) (hn0 : 0 < n) (hn : n ≤ 256) (hq : Qs w base A Ls) (hbase : base ≤ w.heap.size) (hc : Ls.length ≤ c) (hc9 : c ≤ 9223372036854775807) (hkeys : Keys Ls.flatten) (hlen : Ls.length ≤ 1000000) (hlen2 : Ls.flatten.length ≤ 100000) :
    Calls Tryz.prog 86 #[.slice A Ls.length c, .int .i64 b] w fun e w' => ∃ s ss, e = .returned s ∧ Tab w' w.heap.size s ss (reh h n Ls.flatten) ∧ (∀ i, i < n → ∃ A' m, ss[i]? = some (.slice A' m m)) ∧ Below w.heap.size w w' := by
  obtain ⟨N, hN⟩ : ∃ N, N = Ls.length := ⟨_, rfl⟩
  rw [← hN] at hc hlen
  have hmk := make_any n (by omega)
  have HMK := Lib.hid hmk
  have HS := Lib.hid hs; have HH := Lib.hid hh; have HLT := Lib.hid hlt; have HQ := Lib.hid hq; have HK := Lib.hid hkeys; have HN := Lib.hid hN; have HL2 := Lib.hid hlen2; have HBS := Lib.hid hbase
  rw [← hN]
  clear hmk hs hh hlt hq hkeys hN hlen2 hbase
  refine (callsIn_wide (n := 6)).1 (callsIn_of_wp_marks Tryz.func86 rfl trivial ?_ rfl)
  simp only [Tryz.ntmps86, List.size_toArray, List.length_cons, List.length_nil, Nat.reduceAdd, Nat.reduceSub, Array.replicate_succ, Array.replicate_zero, List.push_toArray, List.append_toArray, List.nil_append, List.cons_append]
  refine wpIn_wide.2 ?_
  have hn00 : ((n : Int) == 0) = false := by rw [beq_eq_false_iff_ne]; omega
  have hmk1 := fun w => HMK.out w
  go_wp2_with (first | (go_at_call 119; refine (HS.out _).mono ?_; rintro e w' ⟨rfl, rfl⟩) | (go_at_call 124; refine (entries_any _ _ _ _).mono ?_; rintro e w' ⟨rfl, rfl⟩))
  clear hmk1 HMK
  obtain ⟨hsz, hk1, hk2, hk3, hk4, hbel⟩ := began_facts w b n N c A
  have hfold : (((w.alloc (.cells #[Value.int .i64 b] 3)).alloc (.cells (Array.replicate n (Value.slice none 0 0)) 123)).alloc (.cells #[Value.slice (some ⟨w.heap.size + 1, 0, none⟩) n n] 220)).alloc (.cells #[Value.slice A N c] 220) = began w b n N c A := rfl
  rw [hfold]
  clear hfold
  generalize began w b n N c A = W0 at *
  obtain ⟨base0, hb0⟩ : ∃ x, x = w.heap.size := ⟨_, rfl⟩
  rw [← hb0] at hsz hk1 hk2 hk3 hk4 hbel
  rw [← hb0] at HBS ⊢
  rw [show base0 + 1 + 1 + 1 = base0 + 3 from rfl, show base0 + 1 + 1 = base0 + 2 from rfl]
  have hcq : W0.cell? ⟨base0 + 3, 0, none⟩ = some (.slice A N c) := cell_row hk4 0
  have htab0 := tab_made W0 base0 (base0 + 1) n hk2 (by omega) (by omega)
  rw [← reh_nil h] at htab0
  obtain ⟨E, hE⟩ : ∃ E, E = Ls.flatten := ⟨_, rfl⟩
  have hst := ent_stops (w := W0) 5 (base0 + 3) base0 (A := A) (Ls := Ls) (c := c) (by rw [← HN.out]; exact hc) hc9 (by rw [← HN.out]; exact hcq) (by omega) ((HQ.out.below hbel (by have := HBS.out; omega)).more HBS.out) (by omega) (by rw [← HN.out]; exact hlen)
  rw [← hE] at HK HL2 hst
  have hst' : SeqStopsK Fence.wide 5 Tryz.prog 139 #[.pointer (some ⟨base0 + 3, 0, none⟩)] (fun i : Nat => #[ag (el E i)]) (Turns (fun k => base0 ≤ k ∧ k ≠ base0 + 3)) (fun xs => xs = List.range E.length) (fun _ => True) E.length W0 := hst
  have HST := Lib.hid hst'; have HT0 := Lib.hid htab0; have HBEL := Lib.hid hbel; have HEE := Lib.hid hE; have HB0 := Lib.hid hb0
  have HK1 := Lib.hid hk1; have HK3 := Lib.hid hk3
  clear hst hst' hb0 htab0 hbel hE hk1 hk2 hk3 hk4 hcq HQ
  refine (wpIn_wide (n := 6)).1 (wpIn_rangeFunc_ownH (F := Fence.wide) rfl (by omega) (gf := 139) (lb := #[.pointer (some ⟨base0 + 3, 0, none⟩)]) rfl trivial (enters_of Tryz.func139 (by kernel_rfl) rfl) HST.out
    (fun h k => h.trans k (fun _ _ e => e)) (fun W l o o' hl h _ _ => (turns_grown (grownBy_putObj' W l o')).mono (fun k hk e => by cases e; omega)) (Below.refl _ _) (fun _ => rfl)
    (fun pre W => ∃ ss, Tab W base0 (.slice (some ⟨base0 + 1, 0, none⟩) n n) ss (reh h n (pre.map (el E))) ∧ Hi ss W0.heap.size ∧ Boxed W base0 3 (.int .i64 b) ∧ Boxed W (base0 + 2) 220 (.slice (some ⟨base0 + 1, 0, none⟩) n n) ∧ Turns (fun k => base0 ≤ k ∧ k ≠ base0 + 3) W0 W)
    (fun _ _ _ => False) ?hI (fun _ _ _ _ _ hs _ _ => hs) ⟨_, HT0.out, hi_nil _ _, HK1.out, HK3.out, Turns.refl _ _⟩
    (fun x a' W => ∃ Bx, W0.heap.size ≤ Bx ∧ Bx < W.heap.size ∧ base0 + 1 < W.heap.size ∧ W.heap[Bx]? = some (.cells #[.int .i64 (el E x).t, .int .u32 (el E x).k, .int .u64 (el E x).z] 39 (0, 0)) ∧ (∀ (i : Nat) (v : Value), i < n → W.cell? ⟨base0 + 1, i, none⟩ = some v → v.ownBlock ≠ some Bx) ∧
      a' = { tmps := #[Value.slice A N c, Value.int IntKind.i64 b, undef, Value.pointer (some ⟨base0, 0, none⟩),
          Value.slice none 0 0, Value.int IntKind.i64 ↑n, Value.pointer (some ⟨base0 + 2, 0, none⟩), Value.pointer (some ⟨Bx, 0, none⟩), undef, undef, undef,
          Value.int IntKind.i64 b, Value.int IntKind.i64 ↑n, Value.int IntKind.i64 ↑n, Value.bool false,
          Value.int IntKind.i64 ↑n, Value.slice (some ⟨base0 + 1, 0, none⟩) n n, Value.slice A N c,
          Value.func (Fn.func 139) #[] #[Value.pointer (some ⟨base0 + 3, 0, none⟩)], ag (el E x),
          undef, undef, undef, undef, undef, undef, undef, undef, undef, undef, undef, undef, undef, undef, undef,
          undef, undef, undef, undef, undef, undef, undef, undef, undef, undef, undef, undef, undef], defers := [] })
    ?hAx ?assign ?body ?done ?stop)
  case hI =>
    rintro pre X Y row ⟨ss, ht, hh, h1, h3, hT⟩ hg hr
    have hrr := fun r e => (hr r e).2
    have hnr : ∀ k, k < W0.heap.size → ¬ row = some k := fun k hk e => by have := (hr k e).1; omega
    exact ⟨ss, ht.grown hg hrr, hh, Boxed.turn h1 (turns_grown hg) (hnr _ (by omega)), Boxed.turn h3 (turns_grown hg) (hnr _ (by omega)),
      hT.trans (turns_grown hg) (fun k hk e => (hnr k hk e).elim)⟩
  case hAx =>
    rintro x a' _ X Y row ⟨Bx, h0, h1, h2, h3, h4, h5⟩ hg hr
    have hrr := fun r e => (hr r e).2
    have hnr : ∀ k, k < W0.heap.size → ¬ row = some k := fun k hk e => by have := (hr k e).1; omega
    have hX : Y.heap[base0 + 1]? = X.heap[base0 + 1]? := hg.block _ h2 (fun e => hnr _ (by omega) e.symm)
    refine ⟨Bx, h0, Nat.lt_of_lt_of_le h1 hg.size, Nat.lt_of_lt_of_le h2 hg.size, ?_, fun i v hi hv => h4 i v hi ?_, h5⟩
    · refine (hg.block Bx h1 (fun e => ?_)).trans h3
      obtain ⟨o, h6, h7⟩ := hrr Bx e.symm
      rw [h3] at h6; cases h6; cases h7
    · rw [← hv]; exact (World.cell?_of_block (a := ⟨base0 + 1, i, none⟩) hX).symm
  case assign =>
    rintro l pre x W K ⟨ss, ht, hhi, h1, h3, hT⟩ hK
    gi_wp2
    have hWs := hT.size
    have hnew := heap_alloc_new W (.cells #[Value.int .i64 (el E x).t, .int .u32 (el E x).k, .int .u64 (el E x).z] 39)
    have hbl := below1 W (.cells #[Value.int .i64 (el E x).t, .int .u32 (el E x).k, .int .u64 (el E x).z] 39)
    have htu : Turns (fun _ => False) W (W.alloc (.cells #[Value.int .i64 (el E x).t, .int .u32 (el E x).k, .int .u64 (el E x).z] 39)) := (Turns.refl _ W).alloc _
    refine hK _ _ ((KeepsOthers.alloc W _).from _) (htu.mono (fun _ _ e => e.elim)) ⟨ss, ht.new hbl, hhi, h1.alloc _, h3.alloc _, hT.trans htu (fun _ _ e => e.elim)⟩ ⟨W.heap.size, hWs, by simp, by simp; omega, hnew, ?_, rfl⟩
    intro i v hi hv e
    have hi' : i < ss.length := by rw [ht.len, reh_len]; exact hi
    have hv' := List.getElem?_eq_getElem hi'
    rw [World.cell?_alloc_lt _ _ _ (by show base0 + 1 < _; omega), (ht.cell0 hv').1] at hv
    have := (ht.lt (hv'.trans hv) e).2
    omega
  case body =>
    rintro l pre x a' W hl ⟨r, hr⟩ ⟨ss, ht, hhi, h1, h3, hT⟩ ⟨Bx, hx0, hx1, hx2, hx3, hx4, rfl⟩ hlen
    obtain ⟨kk, hkk, hk2⟩ := HK.out.get x
    rw [show E[x]! = el E x from rfl] at hkk
    obtain ⟨d, hd⟩ : ∃ d, d = el E x := ⟨_, rfl⟩
    rw [← hd] at hx3 hkk ⊢
    have HD := Lib.hid hd
    clear hd
    have x0 := cell_row hx3 0; have x1 := cell_row hx3 1; have x2 := cell_row hx3 2
    have x1' : W.cell? ⟨Bx, 1, none⟩ = some (.int .u32 (kk : Int)) := by rw [x1, ← hkk]; rfl
    have y1 : W.cell? ⟨base0, 0, none⟩ = some (.int .i64 b) := h1.cell
    have HX0 := Lib.hid x0; have HX1 := Lib.hid x1; have HX2 := Lib.hid x2; have HT := Lib.hid ht; have HHI := Lib.hid hhi; have HB1 := Lib.hid h1; have HB3 := Lib.hid h3; have HTT := Lib.hid hT; have HX4 := Lib.hid hx4
    clear x0 x1 x2 ht hhi h1 h3 hT hx4 hx3 hr
    gi_wp2_with (refine ⟨trivial, ?_⟩; gi_at_call 112; refine (CallsIn.inRound l (callsIn_wide.2 (HH.out kk _ hk2))).mono ?_; rintro e w' ⟨rfl, rfl⟩)
    have hih := HLT.out kk hk2
    obtain ⟨i, hi⟩ : ∃ i, i = h kk := ⟨_, rfl⟩
    rw [← hi] at hih ⊢
    have htab := HT.out
    have hssl : ss.length = n := by rw [htab.len, reh_len]
    have hv := List.getElem?_eq_getElem (l := ss) (i := i) (by omega)
    generalize ss[i]'(by omega) = v at hv
    have hrow := htab.rowE hv
    rw [reh_at h _ hih] at hrow
    obtain ⟨P, hP⟩ : ∃ P, P = pre.map (el E) := ⟨_, rfl⟩
    rw [← hP] at hrow htab
    have hDle := bk_le h i P
    have hPl : P.length = pre.length := by rw [hP]; simp
    obtain ⟨D, hD⟩ : ∃ D, D = bk h i P := ⟨_, rfl⟩
    rw [← hD] at hrow hDle
    have hml : D.length + 1 ≤ 1000000 := by have := HL2.out; omega
    obtain ⟨A1, cap1, rfl, hm1, hm9⟩ := hrow.shape
    obtain ⟨m1, hm⟩ : ∃ m1, m1 = D.length := ⟨_, rfl⟩
    have hrow' : Row W base0 3 (.slice A1 m1 cap1) m1 (flat D) := by rw [hm]; exact hrow
    rw [← hm] at hv hm1 hml
    have hcg := htab.cell0 hv
    have hcbv := htab.cb hv
    have hne1 : ¬ (Value.slice A1 m1 cap1).ownBlock = some (base0 + 2) := fun e => by have := HHI.out i _ _ hv e; omega
    have hne2 : ¬ (Value.slice A1 m1 cap1).ownBlock = some Bx := HX4.out i _ hih hcg.1
    have hne3 : ¬ (Value.slice A1 m1 cap1).ownBlock = some (base0 + 1) := fun e => by have := HHI.out i _ _ hv e; omega
    have hWs := HTT.out.size
    have hbla : Below W.heap.size W ((W.alloc (.cells #[.int .i64 d.t, .int .u32 d.k, .int .u64 d.z] 39)).drew) := ((Below.refl _ W).alloc (Nat.le_refl _) _).drew
    have hend : ∀ (v2 : Value) (w2 : World), Row w2 base0 3 v2 (m1 + 1) (flat D ++ flat [d]) → Turns (fun k => (Value.slice A1 m1 cap1).ownBlock = some k) ((W.alloc (.cells #[.int .i64 d.t, .int .u32 d.k, .int .u64 d.z] 39)).drew) w2 → (v2.ownBlock = (Value.slice A1 m1 cap1).ownBlock ∨ v2.ownBlock = some ((W.alloc (.cells #[.int .i64 d.t, .int .u32 d.k, .int .u64 d.z] 39)).drew).heap.size) →
        KeepsFrom W0.heap.size W (w2.setCell ⟨base0 + 1, i, none⟩ v2) ∧ Turns (fun k => base0 ≤ k ∧ k ≠ base0 + 3) W (w2.setCell ⟨base0 + 1, i, none⟩ v2) ∧
        ∃ ss, Tab (w2.setCell ⟨base0 + 1, i, none⟩ v2) base0 (.slice (some ⟨base0 + 1, 0, none⟩) n n) ss (reh h n ((pre ++ [x]).map (el E))) ∧ Hi ss W0.heap.size ∧ Boxed (w2.setCell ⟨base0 + 1, i, none⟩ v2) base0 3 (.int .i64 b) ∧ Boxed (w2.setCell ⟨base0 + 1, i, none⟩ v2) (base0 + 2) 220 (.slice (some ⟨base0 + 1, 0, none⟩) n n) ∧ Turns (fun k => base0 ≤ k ∧ k ≠ base0 + 3) W0 (w2.setCell ⟨base0 + 1, i, none⟩ v2) := by
      intro v2 w2 hr2 ht2 ho2
      have hcb2 : CB w2 v2 := hr2.cb (by omega) (by omega)
      have hvlo : ∀ k, (Value.slice A1 m1 cap1).ownBlock = some k → W0.heap.size ≤ k := fun k e => HHI.out i _ _ hv e
      have hKW : KeepsOthers W w2 := ((KeepsOthers.alloc W _).trans (KeepsOthers.drew _)).trans (others_turn ht2 (fun g e => (hcbv.turn (Turns.of_below (S := fun _ => False) hbla) (fun _ _ e => e)) g e))
      have hTW : Turns (fun k => base0 ≤ k ∧ k ≠ base0 + 3) W (w2.setCell ⟨base0 + 1, i, none⟩ v2) := (((Turns.of_below (S := fun k => base0 ≤ k ∧ k ≠ base0 + 3) hbla).trans ht2 (fun k _ e => by have := hvlo k e; omega))).setCell _ _ (by show base0 ≤ base0 + 1 ∧ base0 + 1 ≠ base0 + 3; omega)
      have hts : Turns (fun k => k = base0 + 1 ∨ W0.heap.size ≤ k) W (w2.setCell ⟨base0 + 1, i, none⟩ v2) := (((Turns.of_below (S := fun k => k = base0 + 1 ∨ W0.heap.size ≤ k) hbla).trans ht2 (fun k _ e => Or.inr (hvlo k e)))).setCell _ _ (Or.inl rfl)
      refine ⟨(hKW.trans (KeepsOthers.setCell _ _ _)).from _, hTW, ss.set i v2, ?_, HHI.out.set (fun g e => ?_), Boxed.turn HB1.out hts (by omega), Boxed.turn HB3.out hts (by omega), HTT.out.trans hTW (fun _ _ e => e)⟩
      · rw [map_snoc, ← hP, ← HD.out, reh_snoc h P d (by rw [hkk, Int.toNat_natCast, ← hi]; exact hih), hkk, Int.toNat_natCast, ← hi, ← hD]
        have hr2' : RowE w2 base0 v2 (D ++ [d]) := by
          show Row w2 base0 3 v2 (D ++ [d]).length (flat (D ++ [d]))
          rw [flat_app, List.length_append, List.length_singleton, ← hm]
          exact hr2
        have := htab.app hbla (by rw [reh_len]; exact hih) hv hr2' hcb2 ht2 ho2
        rwa [Nat.zero_add] at this
      · rcases ho2 with ho2 | ho2
        · exact hvlo g (by rw [← ho2]; exact e)
        · rw [ho2] at e
          have hs := hbla.size
          injection e with e
          omega
    have HEND := Lib.hid hend
    have CB3 : Hid (W.drew.cell? ⟨base0 + 2, 0, none⟩ = some (.slice (some ⟨base0 + 1, 0, none⟩) n n)) := Lib.hid HB3.out.cell
    have CX0 : Hid (W.drew.cell? ⟨Bx, 0, none⟩ = some (.int .i64 d.t)) := Lib.hid HX0.out
    have CX1 : Hid (W.drew.cell? ⟨Bx, 1, none⟩ = some (.int .u32 d.k)) := Lib.hid HX1.out
    have CX2 : Hid (W.drew.cell? ⟨Bx, 2, none⟩ = some (.int .u64 d.z)) := Lib.hid HX2.out
    have CG : Hid (W.drew.cell? ⟨base0 + 1, i, none⟩ = some (.slice A1 m1 cap1) ∧ W.drew.frozen? ⟨base0 + 1, i, none⟩ = false) := Lib.hid hcg
    have hkeep : ∀ g o, g < W.heap.size → ((W.alloc (.cells #[.int .i64 d.t, .int .u32 d.k, .int .u64 d.z] 39)).drew).cell? ⟨g, o, none⟩ = W.cell? ⟨g, o, none⟩ := fun g o hg => hbla.cell (p := ⟨g, o, none⟩) hg
    have CGa : Hid (((W.alloc (.cells #[.int .i64 d.t, .int .u32 d.k, .int .u64 d.z] 39)).drew).cell? ⟨base0 + 1, i, none⟩ = some (.slice A1 m1 cap1) ∧ ((W.alloc (.cells #[.int .i64 d.t, .int .u32 d.k, .int .u64 d.z] 39)).drew).frozen? ⟨base0 + 1, i, none⟩ = false) :=
      Lib.hid ⟨(hkeep _ _ (by omega)).trans hcg.1, ((Turns.of_below (S := fun _ => False) hbla).frozen (by omega) (fun e => e)).trans hcg.2⟩
    have CA3 := Lib.hid ((hkeep (base0 + 2) 0 (by omega)).trans HB3.out.cell)
    have CAX := Lib.hid (And.intro ((hkeep Bx 0 hx1).trans HX0.out) (And.intro ((hkeep Bx 1 hx1).trans HX1.out) ((hkeep Bx 2 hx1).trans HX2.out)))
    have HROWa := Lib.hid (hrow'.new hbla)
    have HBa : Hid (base0 ≤ ((W.alloc (.cells #[.int .i64 d.t, .int .u32 d.k, .int .u64 d.z] 39)).drew).heap.size) := Lib.hid (by have := hbla.size; omega)
    have HRDa := Lib.hid (rd_one W d 39).drew
    have HLa := Lib.hid hml
    have HSZ : Hid (base0 + 2 < ((W.alloc (.cells #[.int .i64 d.t, .int .u32 d.k, .int .u64 d.z] 39)).drew).heap.size ∧ Bx < ((W.alloc (.cells #[.int .i64 d.t, .int .u32 d.k, .int .u64 d.z] 39)).drew).heap.size) := Lib.hid (by have := hbla.size; omega)
    have HGa : Hid (base0 + 1 < ((W.alloc (.cells #[.int .i64 d.t, .int .u32 d.k, .int .u64 d.z] 39)).drew).heap.size) := Lib.hid (by have := hbla.size; omega)
    have HNE := Lib.hid (And.intro hne1 (And.intro hne2 hne3))
    have HG3 : Hid (base0 + 1 ≠ base0 + 2) := Lib.hid (by omega)
    have HGx : Hid (base0 + 1 ≠ Bx) := Lib.hid (by omega)
    have hii : (i : Int) < (n : Int) := by omega
    clear hend hne1 hne2 hne3 hcg hcbv hkeep hbla hrow hrow' htab hv hDle hP hPl hD hm hi hssl HT HHI HTT HX4 HX0 HX1 HX2 HB1 HB3 hWs hml x1' y1 hkk
    refine region_round (S := fun w' => w'.cell? ⟨base0 + 2, 0, none⟩ = some (.slice (some ⟨base0 + 1, 0, none⟩) n n) ∧ w'.cell? ⟨Bx, 0, none⟩ = some (.int .i64 d.t) ∧ w'.cell? ⟨Bx, 1, none⟩ = some (.int .u32 d.k) ∧ w'.cell? ⟨Bx, 2, none⟩ = some (.int .u64 d.z)) (by kernel_rfl) (by kernel_rfl) (by rintro ⟨a, w, hq⟩; exact hq) ⟨CB3.out, CX0.out, CX1.out, CX2.out⟩ (fun hHeld => ?_)
    refine tA 0 ⟨some 24, .load 220 (.tmp 6), 220, "rehashes.go:21", #[], none⟩ ?va0 ?ra0
    (try simp only [Act.put, tC, tD, tE])
    refine tA 1 ⟨some 25, .move (.tmp 8), 3, "rehashes.go:21", #[], none⟩ ?va1 ?ra1
    (try simp only [Act.put, tC, tD, tE])
    refine tA 2 ⟨some 26, .load 220 (.tmp 6), 220, "rehashes.go:21", #[], none⟩ ?va2 ?ra2
    (try simp only [Act.put, tC, tD, tE])
    refine tA 3 ⟨some 27, .move (.tmp 8), 3, "rehashes.go:21", #[], none⟩ ?va3 ?ra3
    (try simp only [Act.put, tC, tD, tE])
    refine tA 4 ⟨some 28, .indexAddr 220 (.tmp 26) (.tmp 27), 0, "rehashes.go:21", #[⟨2, .data⟩, ⟨3, .data⟩], none⟩ ?va4 ?ra4
    (try simp only [Act.put, tC, tD, tE])
    refine tA 6 ⟨some 30, .load 39 (.tmp 7), 39, "rehashes.go:21", #[], none⟩ ?va6 ?ra6
    (try simp only [Act.put, tC, tD, tE])
    refine wpAnyH_ready (rs := [5, 7]) (by kernel_rfl) (by simp) ?_
    refine AllReadyH.cons (o := ⟨some 29, .load 123 (.tmp 28), 123, "rehashes.go:21", #[⟨4, .data⟩], none⟩) rfl (fun Kq hKq => ?_) (AllReadyH.cons (o := ⟨some 31, .buildSlice 123 1 #[(0, .tmp 30)], 123, "rehashes.go:21", #[⟨6, .data⟩], none⟩) rfl (fun Kq hKq => ?_) AllReadyH.nil)
    · have c5 := CG.out.1
      go_simp
      refine hKq.out _ _ ?_ (fun hHeld => ?_)
      · exact hHeld
      clear hKq Kq
      (try simp only [Act.put, tC, tD, tE])
      refine wpAnyH_ready (rs := [7]) (by kernel_rfl) (by simp) ?_
      refine AllReadyH.cons (o := ⟨some 31, .buildSlice 123 1 #[(0, .tmp 30)], 123, "rehashes.go:21", #[⟨6, .data⟩], none⟩) rfl (fun Kq hKq => ?_) AllReadyH.nil
      go_simp
      refine hKq.out _ _ ?_ (fun hHeld => ?_)
      · exact ⟨CA3.out, CAX.out.1, CAX.out.2.1, CAX.out.2.2⟩
      clear hKq Kq
      (try simp only [Act.put, tC, tD, tE])
      refine wpAnyH_ready (rs := [8]) (by kernel_rfl) (by simp) ?_
      refine AllReadyH.cons (o := ⟨some 32, .call ⟨.builtin .append, #[.tmp 29, .tmp 31], #[123, 123]⟩, 123, "rehashes.go:21", #[⟨5, .data⟩, ⟨7, .data⟩], none⟩) rfl (fun Kq hKq => ?_) AllReadyH.nil
      (refine step_append_row layE rfl _ _ rfl rfl HROWa.out (flat_one' _) HBa.out 1 rfl HRDa.out rfl (flat_one' _) HLa.out ?_; intro v2 w2 hr2 ht2 ho2; obtain ⟨A2, cap2, hv2, hn2, hm2⟩ := hr2.shape; subst hv2)
      refine hKq.out _ _ ?_ (fun hHeld => ?_)
      · exact ⟨(ht2.cell HSZ.out.1 HNE.out.1).trans hHeld.1, (ht2.cell HSZ.out.2 HNE.out.2.1).trans hHeld.2.1, (ht2.cell HSZ.out.2 HNE.out.2.1).trans hHeld.2.2.1, (ht2.cell HSZ.out.2 HNE.out.2.1).trans hHeld.2.2.2⟩
      clear hKq Kq
      (try simp only [Act.put, tC, tD, tE])
      refine tA 9 ⟨some 33, .indexAddr 220 (.tmp 24) (.tmp 25), 0, "rehashes.go:21", #[⟨0, .data⟩, ⟨1, .data⟩, ⟨0, .phase⟩, ⟨1, .phase⟩, ⟨2, .phase⟩, ⟨3, .phase⟩, ⟨4, .phase⟩, ⟨5, .phase⟩, ⟨6, .phase⟩, ⟨7, .phase⟩, ⟨8, .phase⟩], none⟩ ?vb9 ?rb9
      (try simp only [Act.put, tC, tD, tE])
      have c9 : w2.cell? ⟨base0 + 1, i, none⟩ = some (.slice A1 m1 cap1) := (ht2.cell HGa.out HNE.out.2.2).trans CGa.out.1
      have f9 : w2.frozen? ⟨base0 + 1, i, none⟩ = false := (ht2.frozen HGa.out HNE.out.2.2).trans CGa.out.2
      refine wpAnyH_ready (rs := [10]) (by kernel_rfl) (by simp) ?_
      refine AllReadyH.cons (o := ⟨none, .store 123 (.tmp 33) (.tmp 32), 0, "rehashes.go:21", #[⟨9, .data⟩, ⟨8, .data⟩, ⟨8, .chain⟩, ⟨0, .phase⟩, ⟨1, .phase⟩, ⟨2, .phase⟩, ⟨3, .phase⟩, ⟨4, .phase⟩, ⟨5, .phase⟩, ⟨6, .phase⟩, ⟨7, .phase⟩, ⟨8, .phase⟩], none⟩) rfl (fun Kq hKq => ?_) AllReadyH.nil
      go_simp
      refine hKq.out _ _ ?_ (fun hHeld => ?_)
      · exact ⟨(World.cell?_setCell_other _ _ _ _ (by intro e; injection e with e1; exact HG3.out e1)).trans hHeld.1, (World.cell?_setCell_other _ _ _ _ (by intro e; injection e with e1; exact HGx.out e1)).trans hHeld.2.1, (World.cell?_setCell_other _ _ _ _ (by intro e; injection e with e1; exact HGx.out e1)).trans hHeld.2.2.1, (World.cell?_setCell_other _ _ _ _ (by intro e; injection e with e1; exact HGx.out e1)).trans hHeld.2.2.2⟩
      clear hKq Kq
      (try simp only [Act.put, tC, tD, tE])
      refine wpAnyH_done (by kernel_rfl) ?_ _
      exact HEND.out _ _ hr2 ht2 ho2
    · go_simp
      refine hKq.out _ _ ?_ (fun hHeld => ?_)
      · exact ⟨CA3.out, CAX.out.1, CAX.out.2.1, CAX.out.2.2⟩
      clear hKq Kq
      (try simp only [Act.put, tC, tD, tE])
      have c5 := CGa.out.1
      refine wpAnyH_ready (rs := [5]) (by kernel_rfl) (by simp) ?_
      refine AllReadyH.cons (o := ⟨some 29, .load 123 (.tmp 28), 123, "rehashes.go:21", #[⟨4, .data⟩], none⟩) rfl (fun Kq hKq => ?_) AllReadyH.nil
      go_simp
      refine hKq.out _ _ ?_ (fun hHeld => ?_)
      · exact hHeld
      clear hKq Kq
      (try simp only [Act.put, tC, tD, tE])
      refine wpAnyH_ready (rs := [8]) (by kernel_rfl) (by simp) ?_
      refine AllReadyH.cons (o := ⟨some 32, .call ⟨.builtin .append, #[.tmp 29, .tmp 31], #[123, 123]⟩, 123, "rehashes.go:21", #[⟨5, .data⟩, ⟨7, .data⟩], none⟩) rfl (fun Kq hKq => ?_) AllReadyH.nil
      (refine step_append_row layE rfl _ _ rfl rfl HROWa.out (flat_one' _) HBa.out 1 rfl HRDa.out rfl (flat_one' _) HLa.out ?_; intro v2 w2 hr2 ht2 ho2; obtain ⟨A2, cap2, hv2, hn2, hm2⟩ := hr2.shape; subst hv2)
      refine hKq.out _ _ ?_ (fun hHeld => ?_)
      · exact ⟨(ht2.cell HSZ.out.1 HNE.out.1).trans hHeld.1, (ht2.cell HSZ.out.2 HNE.out.2.1).trans hHeld.2.1, (ht2.cell HSZ.out.2 HNE.out.2.1).trans hHeld.2.2.1, (ht2.cell HSZ.out.2 HNE.out.2.1).trans hHeld.2.2.2⟩
      clear hKq Kq
      (try simp only [Act.put, tC, tD, tE])
      refine tA 9 ⟨some 33, .indexAddr 220 (.tmp 24) (.tmp 25), 0, "rehashes.go:21", #[⟨0, .data⟩, ⟨1, .data⟩, ⟨0, .phase⟩, ⟨1, .phase⟩, ⟨2, .phase⟩, ⟨3, .phase⟩, ⟨4, .phase⟩, ⟨5, .phase⟩, ⟨6, .phase⟩, ⟨7, .phase⟩, ⟨8, .phase⟩], none⟩ ?vc9 ?rc9
      (try simp only [Act.put, tC, tD, tE])
      have c9 : w2.cell? ⟨base0 + 1, i, none⟩ = some (.slice A1 m1 cap1) := (ht2.cell HGa.out HNE.out.2.2).trans CGa.out.1
      have f9 : w2.frozen? ⟨base0 + 1, i, none⟩ = false := (ht2.frozen HGa.out HNE.out.2.2).trans CGa.out.2
      refine wpAnyH_ready (rs := [10]) (by kernel_rfl) (by simp) ?_
      refine AllReadyH.cons (o := ⟨none, .store 123 (.tmp 33) (.tmp 32), 0, "rehashes.go:21", #[⟨9, .data⟩, ⟨8, .data⟩, ⟨8, .chain⟩, ⟨0, .phase⟩, ⟨1, .phase⟩, ⟨2, .phase⟩, ⟨3, .phase⟩, ⟨4, .phase⟩, ⟨5, .phase⟩, ⟨6, .phase⟩, ⟨7, .phase⟩, ⟨8, .phase⟩], none⟩) rfl (fun Kq hKq => ?_) AllReadyH.nil
      go_simp
      refine hKq.out _ _ ?_ (fun hHeld => ?_)
      · exact ⟨(World.cell?_setCell_other _ _ _ _ (by intro e; injection e with e1; exact HG3.out e1)).trans hHeld.1, (World.cell?_setCell_other _ _ _ _ (by intro e; injection e with e1; exact HGx.out e1)).trans hHeld.2.1, (World.cell?_setCell_other _ _ _ _ (by intro e; injection e with e1; exact HGx.out e1)).trans hHeld.2.2.1, (World.cell?_setCell_other _ _ _ _ (by intro e; injection e with e1; exact HGx.out e1)).trans hHeld.2.2.2⟩
      clear hKq Kq
      (try simp only [Act.put, tC, tD, tE])
      refine wpAnyH_done (by kernel_rfl) ?_ _
      exact HEND.out _ _ hr2 ht2 ho2
  case done =>
    rintro D xs W hDl rfl ⟨ss, ht, _, _, h3, hT⟩ hDK
    have hme : (List.range E.length).map (el E) = E := map_range_get E
    rw [hme] at ht
    have hbW : Below base0 W0 W := hT.below (by omega) (fun k hk e => by omega)
    have hWs := hT.size
    have hcl : ∀ k, k < 0 → ∃ A' m, ss[k]? = some (.slice A' m m) := fun k hk => by omega
    have HTA := Lib.hid ht; have HB3 := Lib.hid h3; have HDK := Lib.hid hDK; have HBW := Lib.hid (HBEL.out.trans hbW); have HCL0 := Lib.hid hcl
    have c3 : W.cell? ⟨base0 + 2, 0, none⟩ = some (.slice (some ⟨base0 + 1, 0, none⟩) n n) := h3.cell
    clear ht h3 hT hDK hbW hcl HK HT0 HST hme
    go_wp2_with fail
    clear c3
    go_loopg [36] n (fun q s36 wx => ∃ (k : Nat) (ss : List Value), k ≤ n ∧ q = n - k ∧ s36 = .int .i64 (k : Int) ∧ Tab wx base0 (.slice (some ⟨base0 + 1, 0, none⟩) n n) ss (reh h n E) ∧ (∀ j, j < k → ∃ A' m, ss[j]? = some (.slice A' m m)) ∧ Boxed wx (base0 + 2) 220 (.slice (some ⟨base0 + 1, 0, none⟩) n n) ∧ wx.heap[D]? = some (.deferred (some [])) ∧ Below base0 w wx)
    case atStart => exact ⟨0, ss, by omega, rfl, rfl, HTA.out, HCL0.out, HB3.out, HDK.out, HBW.out⟩
    case round =>
      obtain ⟨k, ss, hk, rfl, rfl, ht, hcl, hb3, hdk, hbw⟩ := hrel
      have HT := Lib.hid ht; have HCL := Lib.hid hcl; have HB3 := Lib.hid hb3; have HDK := Lib.hid hdk; have HBW := Lib.hid hbw
      clear ht hcl hb3 hdk hbw
      have hb3c := HB3.out.cell
      by_cases hkn : k < n
      · have htab := HT.out
        have hssl : ss.length = n := by rw [htab.len, reh_len]
        have hv := List.getElem?_eq_getElem (l := ss) (i := k) (by omega)
        generalize ss[k]'(by omega) = v at hv
        have hrow := htab.rowE hv
        obtain ⟨A1, cap1, rfl, hm1, hm9⟩ := hrow.shape
        obtain ⟨m1, hm⟩ : ∃ m1, m1 = (reh h n E)[k]!.length := ⟨_, rfl⟩
        rw [← hm] at hv hm1
        obtain ⟨ck, fk⟩ := htab.cell0 hv
        have hrow' : RowE wr base0 (.slice A1 m1 m1) (reh h n E)[k]! := by
          have h0 : Row wr base0 3 (.slice A1 (reh h n E)[k]!.length cap1) (reh h n E)[k]!.length (flat (reh h n E)[k]!) := hrow
          rw [hm]
          exact h0.clip
        have hob : (Value.slice A1 m1 m1).ownBlock = (Value.slice A1 m1 cap1).ownBlock := by cases A1 <;> rfl
        have hend : Tab (wr.drew.setCell ⟨base0 + 1, k, none⟩ (.slice A1 m1 m1)) base0 (.slice (some ⟨base0 + 1, 0, none⟩) n n) (ss.set k (.slice A1 m1 m1)) (reh h n E) := by
          have hset : (reh h n E).set k (reh h n E)[k]! = reh h n E := by
            rw [getElem!_pos _ k (by rw [reh_len]; exact hkn), List.set_getElem_self]
          have hbd : Below wr.heap.size wr wr.drew := (Below.refl _ wr).drew
          have := htab.app hbd (w2 := wr.drew) (by rw [reh_len]; exact hkn) hv (v' := .slice A1 m1 m1) (D := (reh h n E)[k]!) hrow'.drew (fun g e => htab.cb hv g (by rw [← hob]; exact e)) (Turns.refl _ _) (Or.inl hob)
          rwa [Nat.zero_add, hset] at this
        have hcl2 : ∀ j, j < k + 1 → ∃ A' m, (ss.set k (.slice A1 m1 m1))[j]? = some (.slice A' m m) := fun j hj => by
          by_cases ej : j = k
          · subst ej
            exact ⟨A1, m1, List.getElem?_set_self (by omega)⟩
          · rw [List.getElem?_set_ne (fun e => ej e.symm)]
            exact HCL.out j (by omega)
        have hlt3 := HB3.out.lt
        have hlts : base0 + 1 < wr.heap.size := by omega
        have hts : Turns (fun g => g = base0 + 1) wr (wr.drew.setCell ⟨base0 + 1, k, none⟩ (.slice A1 m1 m1)) := ((Turns.refl _ wr).drew).setCell _ _ rfl
        have HEND := Lib.hid (And.intro hend (And.intro hcl2 (And.intro (Boxed.turn HB3.out hts (by omega)) (And.intro ((hts.block D (Array.getElem?_eq_some_iff.1 HDK.out).1 (by omega)).trans HDK.out) (HBW.out.trans (hts.below (B := base0) (by omega) (fun k hk e => by omega)))))))
        have HCP := Lib.hid (And.intro hm1 hm9)
        have HG3 : Hid (base0 + 1 ≠ base0 + 2) := Lib.hid (by omega)
        clear htab hv hrow hrow' hend hcl2 hts hm1 hm hssl
        have ck' : wr.drew.cell? ⟨base0 + 1, k, none⟩ = some (.slice A1 (m1) cap1) := ck
        have fk' : wr.drew.frozen? ⟨base0 + 1, k, none⟩ = false := fk
        go_upto_region 12 with (fail)
        refine wp_mono (Q := onlyN _) ?_ (fun _ _ _ => onlyN_out)
        refine wp_region_held_drew (S := fun w' => w'.cell? ⟨base0 + 2, 0, none⟩ = some (.slice (some ⟨base0 + 1, 0, none⟩) n n)) (by kernel_rfl) hb3c (fun hHeld => ?_)
        refine tA 0 ⟨some 41, .load 220 (.tmp 6), 220, "rehashes.go:25", #[], none⟩ ?ve0 ?re0
        (try simp only [Act.put, tC, tD, tE])
        refine tA 1 ⟨some 42, .move (.tmp 9), 3, "rehashes.go:25", #[], none⟩ ?ve1 ?re1
        (try simp only [Act.put, tC, tD, tE])
        refine tA 2 ⟨some 43, .move (.tmp 10), 123, "rehashes.go:25", #[], none⟩ ?ve2 ?re2
        (try simp only [Act.put, tC, tD, tE])
        refine wpAnyH_ready (rs := [3]) (by kernel_rfl) (by simp) ?_
        refine AllReadyH.cons (o := ⟨some 44, .call ⟨.value (.func 125), #[.tmp 43], #[123]⟩, 123, "rehashes.go:25", #[⟨2, .data⟩], none⟩) rfl (fun Kq hKq => ?_) AllReadyH.nil
        go_simp
        (refine (clip_any _ _ _ _ HCP.out.1 HCP.out.2).mono ?_; rintro e w1 ⟨rfl, rfl⟩)
        refine hKq.out _ _ ?_ (fun hHeld => ?_)
        · exact hHeld
        clear hKq Kq
        (try simp only [Act.put, tC, tD, tE])
        refine tA 4 ⟨some 45, .indexAddr 220 (.tmp 41) (.tmp 42), 0, "rehashes.go:25", #[⟨0, .data⟩, ⟨1, .data⟩, ⟨0, .phase⟩, ⟨1, .phase⟩, ⟨2, .phase⟩, ⟨3, .phase⟩], none⟩ ?ve4 ?re4
        (try simp only [Act.put, tC, tD, tE])
        refine wpAnyH_ready (rs := [5]) (by kernel_rfl) (by simp) ?_
        refine AllReadyH.cons (o := ⟨none, .store 123 (.tmp 45) (.tmp 44), 0, "rehashes.go:25", #[⟨4, .data⟩, ⟨3, .data⟩, ⟨3, .chain⟩, ⟨0, .phase⟩, ⟨1, .phase⟩, ⟨2, .phase⟩, ⟨3, .phase⟩], none⟩) rfl (fun Kq hKq => ?_) AllReadyH.nil
        go_simp
        refine hKq.out _ _ ?_ (fun hHeld => ?_)
        · exact (World.cell?_setCell_other _ _ _ _ (by intro e; injection e with e1; exact HG3.out e1)).trans hHeld
        clear hKq Kq
        (try simp only [Act.put, tC, tD, tE])
        refine wpAnyH_done (by kernel_rfl) (onlyN_in ?_) _
        go_wp2_with fail
        go_roundg (n - (k + 1))
        case measure => omega
        case rel => exact ⟨k + 1, _, by omega, rfl, by go_num, HEND.out.1, HEND.out.2.1, HEND.out.2.2.1, HEND.out.2.2.2.1, HEND.out.2.2.2.2⟩
      · obtain rfl : k = n := by omega
        go_wp2_with fail
        refine ⟨by simp, .inl ⟨_, _, rfl, run_takeDeferred HDK.out, ?_⟩⟩
        have hg := grownBy_putObj' wr D (.deferred none)
        have hr : ∀ r, some D = some r → ∃ o : Obj, wr.heap[r]? = some o ∧ o.isCells = false := fun r e => by cases e; exact ⟨_, HDK.out, rfl⟩
        refine ⟨_, results_tmp rfl _ _ _, _, _, rfl, ?_, HCL.out, ?_⟩
        · rw [← HEE.out, ← HB0.out]
          exact HT.out.grown hg hr
        · rw [← HB0.out]
          exact HBW.out.trans ((turns_grown hg).below (by have := HBW.out.size; have := HB0.out; omega) (fun k hk e => by injection e with e; omega))
  case stop =>
    rintro D c' pre W _ _ hf _
    exact hf.elim
end Go.Proofs.YtpmafdggbeppcaaGreatDoor.S10
namespace Go.Proofs.YtpmafdggbeppcaaGreatDoor.S10
open Go.Proofs.YtpmafdggbeppcaaGreatDoor
open Go.RowKit
theorem cb_of {w : World} {base : Nat} {s : Value} {D : List Ent} (h : RowE w base s D) (hd : s = .slice none 0 0 ∨ 0 < D.length) : CB w s := by
  rcases hd with rfl | hd
  · exact cb_none w
  · exact h.cb hd (by omega)
theorem Tab.one {w : World} {base : Nat} {s : Value} {ss : List Value} {Ls : List (List Ent)} (h : Tab w base s ss Ls) : ∀ u ∈ ss, u.oneCell' = true := fun u hu => by
  obtain ⟨i, hi, rfl⟩ := List.getElem_of_mem hu
  obtain ⟨A, c, e, _⟩ := (h.rowE (List.getElem?_eq_getElem hi)).shape
  rw [e]; rfl
theorem keys_in {Ls : List (List Ent)} (hk : Keys Ls.flatten) {i : Nat} (hi : i < Ls.length) {j : Nat} (hj : j < Ls[i]!.length) : ∃ k : Nat, (el Ls[i]! j).k = (k : Int) ∧ k < 4294967296 := by
  have := hk.get (cum Ls i + j)
  rwa [cum_at hi hj] at this
theorem Rd.key {w : World} {base : Nat} {A : Option Addr} {D : List Ent} (h : Rd w base A (flat D)) {i : Nat} (hi : i < D.length) {k : Nat} (hk : (el D i).k = (k : Int)) : ∃ g o, A = some ⟨g, o, none⟩ ∧ g < base ∧
    w.cell? ⟨g, o + i * 3, none⟩ = some (.int .i64 (el D i).t) ∧ w.cell? ⟨g, o + i * 3 + 1, none⟩ = some (.int .u32 (k : Int)) ∧ w.cell? ⟨g, o + i * 3 + 2, none⟩ = some (.int .u64 (el D i).z) := by
  obtain ⟨g, o, e, hg, h0, h1, h2⟩ := h.ent hi
  exact ⟨g, o, e, hg, h0, by rw [← hk]; exact h1, h2⟩
end Go.Proofs.YtpmafdggbeppcaaGreatDoor.S10
