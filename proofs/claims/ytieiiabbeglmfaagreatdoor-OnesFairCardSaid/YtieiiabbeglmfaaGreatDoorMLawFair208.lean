/- Texts of this seat, one behind the other. -/
import Derived.Test.YtieiiabbeglmfaaGreatDoorMLawFair207
import Derived.Maps.OwnSet
import Derived.Maps.OwnOps
import Derived.WalkSpells
set_option linter.unusedVariables false
set_option linter.unusedSimpArgs false
set_option linter.unusedVariables false
set_option linter.unusedSimpArgs false
namespace Go.Proofs.YtieiiabbeglmfaaGreatDoor.S2
set_option maxRecDepth 100000
set_option maxHeartbeats 16000000
open Go.Proofs.YtieiiabbeglmfaaGreatDoor
open Go.RowKit Go.Maps Go.ChangeMaps Go.MapKept
structure Turns (S : Nat → Prop) (w w' : World) : Prop where
  os : w'.os = w.os
  tape : w'.tape = w.tape
  output : w'.output = w.output
  size : w.heap.size ≤ w'.heap.size
  block : ∀ k, k < w.heap.size → ¬ S k → w'.heap[k]? = w.heap[k]?
theorem Turns.refl (S : Nat → Prop) (w : World) : Turns S w w := ⟨rfl, rfl, rfl, Nat.le_refl _, fun _ _ _ => rfl⟩
theorem Turns.trans {S T : Nat → Prop} {a b c : World} (h : Turns S a b) (g : Turns T b c) (hs : ∀ k, k < a.heap.size → T k → S k) : Turns S a c :=
  ⟨g.os.trans h.os, g.tape.trans h.tape, g.output.trans h.output, Nat.le_trans h.size g.size, fun k hk hn => (g.block k (Nat.lt_of_lt_of_le hk h.size) (fun ht => hn (hs k hk ht))).trans (h.block k hk hn)⟩
theorem Turns.mono {S T : Nat → Prop} {a b : World} (h : Turns S a b) (hs : ∀ k, k < a.heap.size → S k → T k) : Turns T a b :=
  (Turns.refl T a).trans h hs
theorem Turns.grown {S : Nat → Prop} {a b : World} {row : Option Nat} (h : a.grownBy b row) (hs : ∀ k, row = some k → S k) : Turns S a b :=
  ⟨h.os, h.tape, h.output, h.size, fun k hk hn => h.block k hk (fun e => hn (hs k e.symm))⟩
theorem Turns.of_below {S : Nat → Prop} {a b : World} (h : Below a.heap.size a b) : Turns S a b :=
  ⟨h.os, h.tape, h.output, h.size, fun k hk _ => h.block k hk⟩
theorem Turns.below {S : Nat → Prop} {a b : World} {B : Nat} (h : Turns S a b) (hB : B ≤ a.heap.size) (hs : ∀ k, k < B → ¬ S k) : Below B a b :=
  ⟨h.os, h.tape, h.output, h.size, fun k hk => h.block k (by omega) (hs k hk)⟩
theorem Turns.alloc {S : Nat → Prop} {a b : World} (h : Turns S a b) (o : Obj) : Turns S a (b.alloc o) :=
  h.trans (T := fun _ => False) ⟨rfl, rfl, rfl, by simp, fun k hk _ => Below.heap_alloc _ _ _ hk⟩ (fun _ _ h => h.elim)
theorem Turns.setCell {S : Nat → Prop} {a b : World} (h : Turns S a b) (p : Addr) (u : Value) (hp : S p.block) : Turns S a (b.setCell p u) :=
  h.trans (T := fun k => k = p.block) ⟨rfl, rfl, rfl, by simp [World.setCell], fun k _ hn => Below.heap_setCell _ _ _ _ hn⟩ (fun k _ e => e ▸ hp)
theorem Turns.turned {S : Nat → Prop} {a b c : World} {m : Nat} (h : Turns S a b) (g : b.mapTurned c m) (hm : m < a.heap.size → S m) : Turns S a c := by
  obtain ⟨es, clock, es', clock', hb, rfl⟩ := g
  refine h.trans (T := fun k => k = m) ⟨rfl, rfl, rfl, by simp [setBlock], fun k _ hn => ?_⟩ (fun k hk e => e ▸ hm (e ▸ hk))
  exact heap_setBlock_other hb _ hn
theorem law27 : Keyed Tryz.prog 35 := int_keyed Tryz.underlying35
theorem zero28 (w : World) : (zeroValue 23).run Tryz.prog w = .ok (.int .u64 0) w := by kernel_rfl
abbrev MapAt (w : World) (m : Nat) (L : LL) : Prop := w.ownsMap Tryz.prog 35 (plainElem (H := Unit) Tryz.prog 23) m L.length (DL L)
theorem keyOf27 {a : Nat} (h : a < 4294967296) : keyOf Tryz.prog 35 (.int .u32 (a : Int)) = some (.int .u32 (a : Int)) := keyOf_int_mk Tryz.underlying35 (wfA h)
theorem tight {w : World} {m n : Nat} {L : LL} (h : w.ownsMap Tryz.prog 35 (plainElem (H := Unit) Tryz.prog 23) m n (DL L)) : MapAt w m L := by
  obtain ⟨es, clock, hb, F, _, hD⟩ := h
  have e : Maps.size (DL L) = es.size := by rw [hD]; simp [Maps.size, length_sorted]
  rw [DL_size] at e
  exact ⟨es, clock, hb, F, by omega, hD⟩
def Fp (B : Nat) (M : Option Nat) (k : Nat) : Prop := k = B ∨ M = some k
structure CellsAt (w : World) (B : Nat) (M : Option Nat) (L : LL) (n k a was is : Nat) : Prop where
  good : Good L
  row : w.heap[B]? = some (.cells #[.map M, .int .i64 n, .int .u8 k, .int .u32 a, .int .u64 was, .int .u64 is] 227 (0, 0))
  non : M = none → L = []
  som : ∀ m, M = some m → m ≠ B ∧ MapAt w m L
theorem CellsAt.lt {w : World} {B : Nat} {M : Option Nat} {L : LL} {n k a was is : Nat} (h : CellsAt w B M L n k a was is) : ∀ j, Fp B M j → j < w.heap.size := by
  rintro j (rfl | e)
  · exact (Array.getElem?_eq_some_iff.1 h.row).1
  · exact (h.som j e).2.lt
theorem CellsAt.kept {S : Nat → Prop} {w w' : World} {B : Nat} {M : Option Nat} {L : LL} {n k a was is : Nat} (h : CellsAt w B M L n k a was is) (t : Turns S w w') (hs : ∀ j, Fp B M j → ¬ S j) : CellsAt w' B M L n k a was is := by
  refine ⟨h.good, (t.block B (h.lt B (.inl rfl)) (hs B (.inl rfl))).trans h.row, h.non, fun m e => ⟨(h.som m e).1, ?_⟩⟩
  obtain ⟨es, clock, hb, r⟩ := (h.som m e).2
  exact ⟨es, clock, (t.block m (h.lt m (.inr e)) (hs m (.inr e))).trans hb, r⟩
theorem cell_row {w : World} {B : Nat} {cs : Array Value} {T : TypeId} (h : w.heap[B]? = some (.cells cs T (0, 0))) (o : Nat) : w.cell? ⟨B, o, none⟩ = cs[o]? := by
  simp [World.cell?, h]
theorem froz_row {w : World} {B : Nat} {cs : Array Value} {T : TypeId} (h : w.heap[B]? = some (.cells cs T (0, 0))) (o : Nat) : w.frozen? ⟨B, o, none⟩ = false := by
  simp [World.frozen?, h]
theorem row_set {w : World} {B : Nat} {cs : Array Value} {T : TypeId} (h : w.heap[B]? = some (.cells cs T (0, 0))) (o : Nat) (v : Value) : (w.setCell ⟨B, o, none⟩ v).heap[B]? = some (.cells (cs.setIfInBounds o v) T (0, 0)) := by
  simp [World.setCell, Array.getElem?_modify, h]
def Same (w : World) (M M' : Option Nat) : Prop := ∀ m, M' = some m → M = some m ∨ w.heap.size ≤ m
theorem set_zero (w : World) (B : Nat) (M : Option Nat) (L : LL) (n k a0 was is a : Nat) (h : CellsAt w B M L n k a0 was is) (ha : a < 4294967296) :
    Calls Tryz.prog 139 #[.pointer (some ⟨B, 0, none⟩), .int .u32 a, .int .u64 0] w fun e w' => e = .returned (.tuple #[]) ∧ CellsAt w' B M (strike a L) n k a0 was is ∧ Turns (Fp B M) w w' := by
  have hkey := keyOf27 ha
  have c0 : w.cell? ⟨B, 0, none⟩ = some (.map M) := cell_row h.row 0
  have hg := h.good
  have H := Lib.hid h
  clear h
  cases M with
  | none =>
    have hL := H.out.non rfl
    subst hL
    have hd := drop_nil (w := w) law27 Tryz.underlying222 hkey
    go_enter Tryz.func139, Tryz.ntmps139
    go_wp2
    (try simp only [Exit.inBlock, Exit.then]); refine bodyPost_ret (results_none rfl _ _ _) rfl ?_
    exact ⟨rfl, ⟨good_nil, H.out.row, fun _ => rfl, fun m e => by (cases e)⟩, Turns.refl _ _⟩
  | some m =>
    have hown := (H.out.som m rfl).2
    go_enter Tryz.func139, Tryz.ntmps139
    go_wp2_with (first
      | (at_delete; refine wpList_delete_own _ rfl _ _ 222 35 rfl 23 law27 Tryz.underlying222 _ m _ (DL L) rfl hown _ _ rfl hkey ?_; intro w1 hown1 hturn1))
    (try simp only [Exit.inBlock, Exit.then]); refine bodyPost_ret (results_none rfl _ _ _) rfl ?_
    rw [DL_del] at hown1
    have ht : Turns (Fp B (some m)) w w1 := (Turns.refl _ _).turned hturn1 (fun _ => .inr rfl)
    refine ⟨rfl, ⟨hg.strike a, ?_, fun e => by (cases e), fun m' e => ?_⟩, ht⟩
    · obtain ⟨es, clock, es', clock', hb, rfl⟩ := hturn1
      exact (heap_setBlock_other hb _ (fun e => (H.out.som m rfl).1 e.symm)).trans H.out.row
    · cases e
      exact ⟨(H.out.som m rfl).1, tight hown1⟩
theorem set_some (w : World) (B : Nat) (M : Option Nat) (L : LL) (n k a0 was is a v : Nat) (h : CellsAt w B M L n k a0 was is) (ha : a < 4294967296) (h0 : 0 < v) (hv : v < 18446744073709551616) :
    Calls Tryz.prog 139 #[.pointer (some ⟨B, 0, none⟩), .int .u32 a, .int .u64 v] w fun e w' => e = .returned (.tuple #[]) ∧ ∃ M', CellsAt w' B M' (putL L a v) n k a0 was is ∧ Same w M M' ∧ Turns (Fp B M) w w' := by
  have hkey := keyOf27 ha
  have c0 : w.cell? ⟨B, 0, none⟩ = some (.map M) := cell_row h.row 0
  have f0 : w.frozen? ⟨B, 0, none⟩ = false := froz_row h.row 0
  have hwv := wfV hv
  have hg : Good (putL L a v) := h.good.put ha hv
  have hlen := h.good.length
  have hlt := h.lt B (.inl rfl)
  have t0 : ((v : Int) == 0) = false := by rw [beq_eq_false_iff_ne]; omega
  have hp : (DL L).put (.int .u32 (a : Int)) (.lit (.int .u64 (v : Int))) = DL (putL L a v) := by rw [DL_put]; unfold putL; rw [if_neg (by omega)]
  have q := fun w r => run_eql_map_nil (P := Tryz.prog) w 222 35 23 r Tryz.underlying222
  have HP := Lib.hid hp
  have H := Lib.hid h
  clear h hp
  cases M with
  | none =>
    have hL := H.out.non rfl
    subst hL
    have hmm := @run_makeMap Tryz.prog
    have hown := World.ownsMap_made (w.setCell ⟨B, 0, none⟩ (.map (some w.heap.size))) Tryz.prog 35 (plainElem (H := Unit) Tryz.prog 23)
    rw [show (w.setCell ⟨B, 0, none⟩ (.map (some w.heap.size))).heap.size = w.heap.size by simp [World.setCell]] at hown
    go_enter Tryz.func139, Tryz.ntmps139
    go_wp2_with (first
      | (at_mapUpdate; refine wpList_mapUpdate_own _ rfl _ _ _ 222 rfl 35 23 law27 Tryz.underlying222 _ w.heap.size 0 (.map []) rfl hown (by unfold maxLen; omega) _ _ _ rfl rfl hkey _ [] (plainElem_int Tryz.underlying23 hwv) ?_; intro w1 hown1 hgrow1))
    go_end0
    have t1 : Turns (Fp B none) w ((w.setCell ⟨B, 0, none⟩ (.map (some w.heap.size))).alloc (.map #[] 0)) := ((Turns.refl _ _).setCell _ _ (.inl rfl)).alloc _
    have t2 : Turns (Fp B none) w w1 := t1.trans (Turns.grown (S := fun k => k = w.heap.size) hgrow1 (fun k e => by cases e; rfl)) (fun k hk e => by omega)
    refine ⟨rfl, some w.heap.size, ⟨hg, ?_, fun e => by (cases e), fun m' e => ?_⟩, fun m e => .inr (by cases e; exact Nat.le_refl _), t2⟩
    · rw [hgrow1.block B (by simp [World.setCell]; omega) (by simp; omega)]
      rw [Below.heap_alloc _ _ B (by simp [World.setCell]; omega)]
      exact row_set H.out.row 0 _
    · cases e
      rw [show (DataW.map [] : DataW Unit) = DL [] from rfl, HP.out] at hown1
      exact ⟨by omega, tight hown1⟩
  | some m =>
    have hown := (H.out.som m rfl).2
    go_enter Tryz.func139, Tryz.ntmps139
    go_wp2_with (first
      | (at_mapUpdate; refine wpList_mapUpdate_own _ rfl _ _ _ 222 rfl 35 23 law27 Tryz.underlying222 _ m _ (DL L) rfl hown (by unfold maxLen; omega) _ _ _ rfl rfl hkey _ [] (plainElem_int Tryz.underlying23 hwv) ?_; intro w1 hown1 hgrow1))
    go_end0
    rw [HP.out] at hown1
    refine ⟨rfl, some m, ⟨hg, ?_, fun e => by (cases e), fun m' e => ?_⟩, fun m' e => .inl e, Turns.grown hgrow1 (fun k e => .inr e)⟩
    · exact (hgrow1.block B hlt (fun e => (H.out.som m rfl).1 (by cases e; rfl))).trans H.out.row
    · cases e
      exact ⟨(H.out.som m rfl).1, tight hown1⟩
theorem set_any (w : World) (B : Nat) (M : Option Nat) (L : LL) (n k a0 was is a v : Nat) (h : CellsAt w B M L n k a0 was is) (ha : a < 4294967296) (hv : v < 18446744073709551616) :
    Calls Tryz.prog 139 #[.pointer (some ⟨B, 0, none⟩), .int .u32 a, .int .u64 v] w fun e w' => e = .returned (.tuple #[]) ∧ ∃ M', CellsAt w' B M' (putL L a v) n k a0 was is ∧ Same w M M' ∧ Turns (Fp B M) w w' := by
  by_cases h0 : v = 0
  · subst h0
    refine (set_zero w B M L n k a0 was is a h ha).mono fun e w' ⟨he, hc, ht⟩ => ⟨he, M, ?_, fun m e => .inl e, ht⟩
    rw [putL, if_pos rfl]; exact hc
  · exact set_some w B M L n k a0 was is a v h ha (by omega) hv
end Go.Proofs.YtieiiabbeglmfaaGreatDoor.S2
