/- Texts of this seat, one behind the other. -/
import Derived.Test.YtieiiabbeglmfaaGreatDoorMLawOldest205
import Derived.Laws.CopyOwn
import Derived.Laws.MakeOwn
set_option linter.unusedVariables false
set_option linter.unusedSimpArgs false
set_option linter.unusedVariables false
set_option linter.unusedSimpArgs false
namespace Go.Proofs.YtieiiabbeglmfaaGreatDoor.S3
open Go.Proofs.YtieiiabbeglmfaaGreatDoor
open Go.RowKit
theorem first_any (A : Option Addr) (n c k : Nat) (hn : n ≤ c) (hc : c ≤ 9223372036854775807) (hk : k ≤ 9223372036854775807) (w : World) : Calls Tryz.prog 142 #[.slice A n c, .int .i64 k] w fun e w' => e = .returned (.slice A (min n k) c) ∧ w = w' := by
  by_cases h : n ≤ k
  · rw [Nat.min_eq_left h]
    go_enter Tryz.func142, Tryz.ntmps142
    go_wp2
    go_ret
    exact ⟨rfl, rfl⟩
  · rw [Nat.min_eq_right (by omega)]
    go_enter Tryz.func142, Tryz.ntmps142
    go_wp2
    go_ret
    exact ⟨rfl, rfl⟩
end Go.Proofs.YtieiiabbeglmfaaGreatDoor.S3
namespace Go.Proofs.YtieiiabbeglmfaaGreatDoor.S3
open Go.Proofs.YtieiiabbeglmfaaGreatDoor
open Go.RowKit
theorem make_any (n : Nat) (hn : n ≤ 65536) (w : World) : ∃ cur : List Value, cur.length = n ∧ (Instr.makeSlice 58 (.int .i64 (n : Int)) (.int .i64 (n : Int))).run Tryz.prog w = .ok (.slice (some ⟨w.heap.size, 0, none⟩) n n) (w.alloc (.cells cur.toArray 23)) := by
  obtain ⟨i, hi, hz, hsz, hby⟩ := info23
  have hr := run_make (P := Tryz.prog) w 58 23 i (.int .u64 0) Tryz.underlying58 hi hz .i64 .i64 n n (by omega) (Int.le_refl _) (by rw [hby]; omega) (by omega)
  simp only [Int.toNat_natCast, hsz, Nat.mul_one] at hr
  exact ⟨(madeCells (Value.int .u64 0).cells n).toList, by simp [madeCells], by rw [hr]⟩
theorem splice_all (cur cs : List Value) (h : cs.length = cur.length) : splice cur 0 cs = cs := by
  simp [splice, h]
theorem size23 : (Tryz.prog.info? 23).map (·.size) = some 1 := by kernel_rfl
theorem row_whole {w : World} {base g : Nat} {D : List Nat} (h : w.heap[g]? = some (.cells (D.map uv).toArray 23 (0, 0))) (hb : base ≤ g) (hm : D.length ≤ maxLen) : Row w base (.slice (some ⟨g, 0, none⟩) D.length D.length) D := by
  refine ⟨_, _, rfl, Nat.le_refl _, hm, (fun e => by cases e), fun ad e => ?_⟩
  cases e
  refine ⟨g, 0, rfl, hb, (Array.getElem?_eq_some_iff.1 h).1, fun i hi => ?_, fun j hj => ⟨?_, froz_row h _⟩⟩
  · rw [cell_row h, Nat.zero_add]
    simp only [List.getElem?_toArray]
    exact get_uv hi
  · rw [cell_row h, Nat.zero_add]
    simp only [List.getElem?_toArray]
    rw [get_uv hj]; rfl
theorem Rd.spell {w : World} {base : Nat} {A : Option Addr} {D : List Nat} (h : Rd w base A D) (hp : 0 < (D.map uv).length) : ∃ ad, A = some ad ∧ ∀ (j : Nat) v, (D.map uv)[j]? = some v → w.cell? (ad.add j) = some v := by
  rw [len_uv] at hp
  obtain ⟨g, o, rfl, _, hl⟩ := h hp
  refine ⟨_, rfl, fun j v e => ?_⟩
  have hj : j < D.length := by
    have := (List.getElem?_eq_some_iff.1 e).1
    simpa using this
  rw [add_none, hl j hj, ← e, get_uv hj]
theorem copied_any (A : Option Addr) (c base : Nat) (D : List Nat) (hn : D.length ≤ 65536) (w : World) (hr : Rd w base A D) (hbase : base ≤ w.heap.size) : Calls Tryz.prog 141 #[.slice A D.length c] w fun e w' => ∃ s, e = .returned s ∧ Row w' w.heap.size s D ∧ Below w.heap.size w w' := by
  obtain ⟨cur, hcl, hmk⟩ := make_any D.length hn w
  have hg0 := heap_alloc_new w (.cells cur.toArray 23)
  have hR := (hr.below (w' := w.alloc (.cells cur.toArray 23)) ((Below.refl _ _).alloc (Nat.le_refl _) _) hbase)
  have hb0 : Below w.heap.size w (w.alloc (.cells cur.toArray 23)) := (Below.refl _ _).alloc (Nat.le_refl _) _
  have h1 : (D.map uv).length = Nat.min D.length D.length := by rw [len_uv]; exact (Nat.min_self _).symm
  have h2 : 0 < (D.map uv).length → (some (⟨w.heap.size, 0, none⟩ : Addr)) = some ⟨w.heap.size, 0, none⟩ ∧ ∃ ad, A = some ad ∧ ∀ (j : Nat) v, (D.map uv)[j]? = some v → (w.alloc (.cells cur.toArray 23)).cell? (ad.add j) = some v := fun hp => ⟨rfl, hR.spell hp⟩
  have h3 : 0 + (D.map uv).length ≤ cur.length := by rw [len_uv]; omega
  have h4 := splice_all cur (D.map uv) (by rw [len_uv, hcl])
  have HG := Lib.hid hg0
  have HB := Lib.hid hb0
  have H1 := Lib.hid h1; have H2 := Lib.hid h2; have H3 := Lib.hid h3; have H4 := Lib.hid h4; have HO := Lib.hid (one_uv D)
  clear hr hg0 hcl hb0 h1 h2 h3 h4 hR
  generalize hU : D.map uv = U at *
  have HU := Lib.hid hU
  clear hU
  go_enter Tryz.func141, Tryz.ntmps141
  go_wp2_with (first
    | ((with_reducible refine wpList_copy_splice rfl (.tmp 9) (.tmp 10) 58 58 rfl 23 Tryz.underlying58 size23 _ _ _ _ _ _ rfl rfl w.heap.size 0 cur 23 HG.out U H1.out H2.out H3.out HO.out w.heap.size w HB.out (Nat.le_refl _) ?_); intro w' HG2 hB2))
  go_ret
  refine ⟨_, rfl, row_whole ?_ (Nat.le_refl _) (by unfold maxLen; omega), hB2⟩
  have e := HG2.out
  rw [H4.out, ← HU.out] at e
  exact e
end Go.Proofs.YtieiiabbeglmfaaGreatDoor.S3
namespace Go.Proofs.YtieiiabbeglmfaaGreatDoor.S3
open Go.Proofs.YtieiiabbeglmfaaGreatDoor
open Go.RowKit
abbrev Pt (B : Nat) : Value := .pointer (some ⟨B, 0, none⟩)
structure Nums (T most : Nat) (D : List Nat) : Prop where
  t : T ≤ 18446744073709551615
  m : most ≤ 18446744073709551615
  len : D.length ≤ 65536
  all : ∀ d ∈ D, d ≤ 18446744073709551615
structure ClockAt (w : World) (base B T most : Nat) (s : Value) (D : List Nat) : Prop where
  nums : Nums T most D
  row : w.heap[B]? = some (.cells #[.int .u64 T, .int .u64 most, s] 131 (0, 0))
  own : Row w base s D
  ne : s.ownBlock ≠ some B
section
variable {w w' : World} {base B T most : Nat} {s : Value} {D : List Nat}
theorem ClockAt.lt (h : ClockAt w base B T most s D) : B < w.heap.size := (Array.getElem?_eq_some_iff.1 h.row).1
theorem ClockAt.kept {S : Nat → Prop} (h : ClockAt w base B T most s D) (t : Turns S w w') (hB : ¬ S B) (hs : ∀ g, s.ownBlock = some g → ¬ S g) : ClockAt w' base B T most s D :=
  ⟨h.nums, (t.block B h.lt hB).trans h.row, h.own.keep t hs, h.ne⟩
theorem now_any (h : ClockAt w base B T most s D) : Calls Tryz.prog 72 #[Pt B] w fun e w' => e = .returned (.int .u64 T) ∧ w = w' := by
  have c0 : w.cell? ⟨B, 0, none⟩ = some (.int .u64 T) := cell_row h.row 0
  clear h
  go_enter Tryz.func72, Tryz.ntmps72
  go_wp2
  go_ret
  exact ⟨rfl, rfl⟩
end
end Go.Proofs.YtieiiabbeglmfaaGreatDoor.S3
namespace Go.Proofs.YtieiiabbeglmfaaGreatDoor.S3
open Go.Proofs.YtieiiabbeglmfaaGreatDoor
open Go.RowKit
section
variable {P : Program} {w : World}
end
theorem Row.shape {w : World} {base : Nat} {s : Value} {D : List Nat} (h : Row w base s D) : ∃ A cap, s = .slice A D.length cap := let ⟨A, cap, e, _⟩ := h; ⟨A, cap, e⟩
def Leaves (w w' : World) (base B T most : Nat) (s : Value) (D : List Nat) : Prop := ∃ s', ClockAt w' base B T most s' D ∧ (s'.ownBlock = s.ownBlock ∨ s'.ownBlock = some w.heap.size) ∧ Turns (fun k => k = B ∨ s.ownBlock = some k) w w'
attribute [local go_sem ↓] Go.wp_at_zero Go.wp_at_succ
end Go.Proofs.YtieiiabbeglmfaaGreatDoor.S3
namespace Go.Proofs.YtieiiabbeglmfaaGreatDoor.S3
open Go.Proofs.YtieiiabbeglmfaaGreatDoor
open Go.RowKit
def Made (w : World) (T most : Nat) (D : List Nat) (e : Ending) (w' : World) : Prop := ∃ B s, e = .returned (Pt B) ∧ w.heap.size ≤ B ∧ ClockAt w' w.heap.size B T most s D ∧ Below w.heap.size w w'
theorem made_new {w w1 : World} {s : Value} {most : Nat} {D : List Nat} (hN : Nums 0 most D) (hr : Row w1 w.heap.size s D) (hb : Below w.heap.size w w1) : Made w 0 most D (.returned (Pt w1.heap.size)) (w1.alloc (.cells #[.int .u64 0, .int .u64 most, s] 131)) := by
  refine ⟨w1.heap.size, s, rfl, hb.size, ⟨hN, heap_alloc_new w1 _, hr.keep ((Turns.refl (fun _ => False) w1).alloc _) (fun _ _ e => e), fun e => ?_⟩, hb.alloc hb.size _⟩
  have := (hr.lt _ e).2
  omega
theorem new_any {w : World} {b2 : Nat} {A : Option Addr} {D : List Nat} (c most : Nat) (hn : D.length ≤ c) (hc : c ≤ 9223372036854775807) (hm : most ≤ 18446744073709551615) (hr : Rd w b2 A D) (hb2 : b2 ≤ w.heap.size) (hD : ∀ d ∈ D, d ≤ 18446744073709551615) :
    Calls Tryz.prog 84 #[.slice A D.length c, .int .u64 most] w (Made w 0 most (D.take 65536)) := by
  have hfi := fun W => first_any A D.length c 65536 hn hc (by omega) W
  have hcp := copied_any A c b2 (D.take 65536) (by rw [List.length_take]; omega) w (hr.take 65536) hb2
  have hmin : min D.length 65536 = (D.take 65536).length := by rw [List.length_take, Nat.min_comm]
  have hN : Nums 0 most (D.take 65536) := ⟨by omega, hm, by rw [List.length_take]; omega, fun d hd => hD d (List.mem_of_mem_take hd)⟩
  generalize D.take 65536 = E at *
  rw [hmin] at hfi
  have HFI := Lib.hid hfi; have HCP := Lib.hid hcp; have HN := Lib.hid hN
  clear hfi hcp hmin hN hr hD
  go_enter Tryz.func84, Tryz.ntmps84
  go_wp2_with (first
    | (go_at_call 142; refine (HFI.out _).mono ?_; rintro e w1 ⟨rfl, rfl⟩)
    | (go_at_call 141; refine HCP.out.mono ?_; rintro e w1 ⟨s, rfl, hr1, hb1⟩; obtain ⟨A1, cap1, hs1⟩ := hr1.shape; subst hs1))
  go_ret
  exact made_new HN.out hr1 hb1
structure Own (w : World) (base B T most : Nat) (D : List Nat) : Prop where
  size : base ≤ w.heap.size
  from_ : base ≤ B
  own : ∃ s, ClockAt w base B T most s D
section
variable {w w' : World} {base B T most : Nat} {D : List Nat}
theorem Own.nums (h : Own w base B T most D) : Nums T most D := let ⟨_, c⟩ := h.own; c.nums
theorem Own.lt (h : Own w base B T most D) : B < w.heap.size := let ⟨_, c⟩ := h.own; c.lt
theorem Leaves.own {s : Value} {T' : Nat} {D' : List Nat} (h : Own w base B T most D) (c : ClockAt w base B T most s D) (l : Leaves w w' base B T' most s D') : Own w' base B T' most D' ∧ Below base w w' := by
  obtain ⟨s', c', _, t⟩ := l
  refine ⟨⟨Nat.le_trans h.size t.size, h.from_, s', c'⟩, t.below h.size (fun k hk e => ?_)⟩
  have := h.from_
  rcases e with rfl | e
  · omega
  · have := (c.own.lt k e).1; omega
theorem Made.own {w : World} {T most : Nat} {D : List Nat} {e : Ending} {w' : World} (h : Made w T most D e w') : ∃ B, e = .returned (Pt B) ∧ w.heap.size ≤ B ∧ Own w' w.heap.size B T most D ∧ Below w.heap.size w w' :=
  let ⟨B, s, he, hB, c, b⟩ := h; ⟨B, he, hB, ⟨b.size, hB, s, c⟩, b⟩
end
end Go.Proofs.YtieiiabbeglmfaaGreatDoor.S3
namespace Go.Proofs.YtieiiabbeglmfaaGreatDoor.S4
open Go.Proofs.YtieiiabbeglmfaaGreatDoor Go.Proofs.YtieiiabbeglmfaaGreatDoor.S11
open Go.RowKit
abbrev Pt (B : Nat) : Value := .pointer (some ⟨B, 0, none⟩)
structure Pk where
  p : Bool
  a : Bool
  o : Bool
  t : Nat
deriving DecidableEq
instance : Inhabited Pk := ⟨⟨false, false, false, 0⟩⟩
def pk0 : Pk := ⟨false, false, false, 0⟩
structure PkAt (w : World) (B : Nat) (f : Nat → Pk) (n kd pk : Int) : Prop where
  lt : B < w.heap.size
  c0 : ∀ i, i < 128 → w.cell? ⟨B, i * 4, none⟩ = some (.bool (f i).p)
  c1 : ∀ i, i < 128 → w.cell? ⟨B, i * 4 + 1, none⟩ = some (.bool (f i).a)
  c2 : ∀ i, i < 128 → w.cell? ⟨B, i * 4 + 2, none⟩ = some (.bool (f i).o)
  c3 : ∀ i, i < 128 → w.cell? ⟨B, i * 4 + 3, none⟩ = some (.int .u64 ((f i).t : Int))
  cn : w.cell? ⟨B, 512, none⟩ = some (.int .i64 n)
  ck : w.cell? ⟨B, 513, none⟩ = some (.int .u8 kd)
  cp : w.cell? ⟨B, 514, none⟩ = some (.int .i64 pk)
  fz : ∀ i, w.frozen? ⟨B, i, none⟩ = false
section
variable {w w' : World} {B : Nat} {f : Nat → Pk} {n kd pk : Int}
theorem PkAt.kept {T : Nat → Prop} (h : PkAt w B f n kd pk) (t : Turns T w w') (hB : ¬ T B) : PkAt w' B f n kd pk :=
  ⟨Nat.lt_of_lt_of_le h.lt t.size, fun i hi => (t.cell h.lt hB).trans (h.c0 i hi), fun i hi => (t.cell h.lt hB).trans (h.c1 i hi), fun i hi => (t.cell h.lt hB).trans (h.c2 i hi), fun i hi => (t.cell h.lt hB).trans (h.c3 i hi), (t.cell h.lt hB).trans h.cn, (t.cell h.lt hB).trans h.ck, (t.cell h.lt hB).trans h.cp, fun i => (t.frozen h.lt hB).trans (h.fz i)⟩
end
theorem cset {w : World} {B i j : Nat} {v : Value} (h : i ≠ j) : (w.setCell ⟨B, i, none⟩ v).cell? ⟨B, j, none⟩ = w.cell? ⟨B, j, none⟩ :=
  World.cell?_setCell_other _ _ _ _ (by intro e; injection e with _ e2; exact h e2)
theorem PkAt.setN {w : World} {B : Nat} {f : Nat → Pk} {n kd pk : Int} (h : PkAt w B f n kd pk) (m : Int) : PkAt (w.setCell ⟨B, 512, none⟩ (.int .i64 m)) B f m kd pk :=
  ⟨by simpa [World.setCell] using h.lt, fun i hi => (cset (by omega)).trans (h.c0 i hi), fun i hi => (cset (by omega)).trans (h.c1 i hi), fun i hi => (cset (by omega)).trans (h.c2 i hi), fun i hi => (cset (by omega)).trans (h.c3 i hi), World.cell?_setCell_same _ _ _ h.cn, (cset (by omega)).trans h.ck, (cset (by omega)).trans h.cp, fun i => by rw [World.frozen?_setCell]; exact h.fz i⟩
theorem PkAt.setK {w : World} {B : Nat} {f : Nat → Pk} {n kd pk : Int} (h : PkAt w B f n kd pk) (m : Int) : PkAt (w.setCell ⟨B, 513, none⟩ (.int .u8 m)) B f n m pk :=
  ⟨by simpa [World.setCell] using h.lt, fun i hi => (cset (by omega)).trans (h.c0 i hi), fun i hi => (cset (by omega)).trans (h.c1 i hi), fun i hi => (cset (by omega)).trans (h.c2 i hi), fun i hi => (cset (by omega)).trans (h.c3 i hi), (cset (by omega)).trans h.cn, World.cell?_setCell_same _ _ _ h.ck, (cset (by omega)).trans h.cp, fun i => by rw [World.frozen?_setCell]; exact h.fz i⟩
theorem PkAt.setP {w : World} {B : Nat} {f : Nat → Pk} {n kd pk : Int} (h : PkAt w B f n kd pk) (m : Int) : PkAt (w.setCell ⟨B, 514, none⟩ (.int .i64 m)) B f n kd m :=
  ⟨by simpa [World.setCell] using h.lt, fun i hi => (cset (by omega)).trans (h.c0 i hi), fun i hi => (cset (by omega)).trans (h.c1 i hi), fun i hi => (cset (by omega)).trans (h.c2 i hi), fun i hi => (cset (by omega)).trans (h.c3 i hi), (cset (by omega)).trans h.cn, (cset (by omega)).trans h.ck, World.cell?_setCell_same _ _ _ h.cp, fun i => by rw [World.frozen?_setCell]; exact h.fz i⟩
def updP (f : Nat → Pk) (i : Nat) (x : Pk) : Nat → Pk := fun j => if j = i then x else f j
theorem PkAt.setPermit {w : World} {B : Nat} {f : Nat → Pk} {n kd pk : Int} (h : PkAt w B f n kd pk) {i : Nat} (hi : i < 128) (b : Bool) : PkAt (w.setCell ⟨B, i * 4, none⟩ (.bool b)) B (updP f i { f i with p := b }) n kd pk := by
  have hj : ∀ j, j ≠ i → updP f i { f i with p := b } j = f j := fun j e => by simp [updP, e]
  have he : updP f i { f i with p := b } i = { f i with p := b } := by simp [updP]
  refine ⟨by simpa [World.setCell] using h.lt, fun j hl => ?_, fun j hl => (cset (by omega)).trans ?_, fun j hl => (cset (by omega)).trans ?_, fun j hl => (cset (by omega)).trans ?_, (cset (by omega)).trans h.cn, (cset (by omega)).trans h.ck, (cset (by omega)).trans h.cp, fun j => by rw [World.frozen?_setCell]; exact h.fz j⟩
  · by_cases e : j = i
    · subst e; rw [he]; exact World.cell?_setCell_same _ _ _ (h.c0 j hl)
    · rw [hj j e]; exact (cset (by omega)).trans (h.c0 j hl)
  · rw [h.c1 j hl]; by_cases e : j = i
    · subst e; rw [he]
    · rw [hj j e]
  · rw [h.c2 j hl]; by_cases e : j = i
    · subst e; rw [he]
    · rw [hj j e]
  · rw [h.c3 j hl]; by_cases e : j = i
    · subst e; rw [he]
    · rw [hj j e]
theorem PkAt.setAll {w : World} {B : Nat} {f : Nat → Pk} {n kd pk : Int} (h : PkAt w B f n kd pk) {i : Nat} (hi : i < 128) (x : Pk) :
    PkAt ((((w.setCell ⟨B, i * 4, none⟩ (.bool x.p)).setCell ⟨B, i * 4 + 1, none⟩ (.bool x.a)).setCell ⟨B, i * 4 + 2, none⟩ (.bool x.o)).setCell ⟨B, i * 4 + 3, none⟩ (.int .u64 (x.t : Int))) B (updP f i x) n kd pk := by
  have hj : ∀ j, j ≠ i → updP f i x j = f j := fun j e => by simp [updP, e]
  have he : updP f i x i = x := by simp [updP]
  have far : ∀ k v, (k ≠ i * 4 ∧ k ≠ i * 4 + 1 ∧ k ≠ i * 4 + 2 ∧ k ≠ i * 4 + 3) → w.cell? ⟨B, k, none⟩ = some v → ((((w.setCell ⟨B, i * 4, none⟩ (.bool x.p)).setCell ⟨B, i * 4 + 1, none⟩ (.bool x.a)).setCell ⟨B, i * 4 + 2, none⟩ (.bool x.o)).setCell ⟨B, i * 4 + 3, none⟩ (.int .u64 (x.t : Int))).cell? ⟨B, k, none⟩ = some v := fun k v hk e => by
    rw [cset (by omega), cset (by omega), cset (by omega), cset (by omega)]; exact e
  refine ⟨by simpa [World.setCell] using h.lt, fun j hl => ?_, fun j hl => ?_, fun j hl => ?_, fun j hl => ?_, far _ _ (by omega) h.cn, far _ _ (by omega) h.ck, far _ _ (by omega) h.cp, fun j => by rw [World.frozen?_setCell, World.frozen?_setCell, World.frozen?_setCell, World.frozen?_setCell]; exact h.fz j⟩
  · by_cases e : j = i
    · subst e; rw [he, cset (by omega), cset (by omega), cset (by omega)]; exact World.cell?_setCell_same _ _ _ (h.c0 j hl)
    · rw [hj j e]; exact far _ _ (by omega) (h.c0 j hl)
  · by_cases e : j = i
    · subst e; rw [he, cset (by omega), cset (by omega)]; exact World.cell?_setCell_same _ _ _ ((cset (by omega)).trans (h.c1 j hl))
    · rw [hj j e]; exact far _ _ (by omega) (h.c1 j hl)
  · by_cases e : j = i
    · subst e; rw [he, cset (by omega)]; exact World.cell?_setCell_same _ _ _ ((cset (by omega)).trans ((cset (by omega)).trans (h.c2 j hl)))
    · rw [hj j e]; exact far _ _ (by omega) (h.c2 j hl)
  · by_cases e : j = i
    · subst e; rw [he]; exact World.cell?_setCell_same _ _ _ ((cset (by omega)).trans ((cset (by omega)).trans ((cset (by omega)).trans (h.c3 j hl))))
    · rw [hj j e]; exact far _ _ (by omega) (h.c3 j hl)
def blkP : List Value := [.bool false, .bool false, .bool false, .int .u64 0]
def ZPn (n : Nat) : Array Value := ((List.replicate n blkP).flatten ++ [Value.int .i64 0, Value.int .u8 0, Value.int .i64 0]).toArray
def ZP : Array Value := ZPn 128
theorem zero166 (w : World) : (zeroValue 190).run Tryz.prog w = .ok (.agg ZP) w := by kernel_rfl
theorem rep_get (l : List Value) (hl : l.length = 4) (r : List Value) : ∀ (n i j : Nat), i < n → j < 4 → ((List.replicate n l).flatten ++ r)[i * 4 + j]? = l[j]?
  | n + 1, 0, j, _, hj => by
    rw [List.replicate_succ, List.flatten_cons, List.append_assoc, List.getElem?_append_left (by omega)]; simp
  | n + 1, i + 1, j, hi, hj => by
    rw [List.replicate_succ, List.flatten_cons, List.append_assoc, List.getElem?_append_right (by omega)]
    rw [show (i + 1) * 4 + j - l.length = i * 4 + j by omega]
    exact rep_get l hl r n i j (by omega) hj
theorem rep_len (l : List Value) (hl : l.length = 4) (n : Nat) : (List.replicate n l).flatten.length = n * 4 := by
  induction n with
  | zero => rfl
  | succ n ih => rw [List.replicate_succ, List.flatten_cons, List.length_append, ih]; omega
theorem zpn_get (n i j : Nat) (hi : i < n) (hj : j < 4) : (ZPn n)[i * 4 + j]? = blkP[j]? := by
  unfold ZPn
  rw [List.getElem?_toArray]
  exact rep_get blkP rfl _ n i j hi hj
theorem zpn_end (n j : Nat) : (ZPn n)[n * 4 + j]? = [Value.int .i64 0, Value.int .u8 0, Value.int .i64 0][j]? := by
  unfold ZPn
  rw [List.getElem?_toArray, List.getElem?_append_right (by rw [rep_len _ rfl]; omega), rep_len _ rfl]
  congr 1; omega
theorem zp_get (i j : Nat) (hi : i < 128) (hj : j < 4) : ZP[i * 4 + j]? = blkP[j]? := zpn_get 128 i j hi hj
theorem zp_end (j : Nat) : ZP[512 + j]? = [Value.int .i64 0, Value.int .u8 0, Value.int .i64 0][j]? := zpn_end 128 j
theorem pk_row {w : World} {B : Nat} {T : TypeId} (h : w.heap[B]? = some (.cells ZP T (0, 0))) : PkAt w B (fun _ => pk0) 0 0 0 :=
  ⟨(Array.getElem?_eq_some_iff.1 h).1, fun i hi => (cell_row h _).trans (zp_get i 0 hi (by omega)), fun i hi => (cell_row h _).trans (zp_get i 1 hi (by omega)), fun i hi => (cell_row h _).trans (zp_get i 2 hi (by omega)), fun i hi => (cell_row h _).trans (zp_get i 3 hi (by omega)), (cell_row h _).trans (zp_end 0), (cell_row h _).trans (zp_end 1), (cell_row h _).trans (zp_end 2), fun i => froz_row h i⟩
theorem pnew_any (w : World) : Calls Tryz.prog 85 #[] w fun e w' => e = .returned (Pt w.heap.size) ∧ PkAt w' w.heap.size (fun _ => pk0) 0 0 0 ∧ Below w.heap.size w w' := by
  have z := zero166
  go_enter Tryz.func85, Tryz.ntmps85
  go_wp2_with fail
  go_ret
  exact ⟨rfl, pk_row (heap_alloc_new _ _), (Below.refl _ _).alloc (Nat.le_refl _) _⟩
theorem phas_yes (B i : Nat) (hi : i < 128) (w : World) : Calls Tryz.prog 76 #[Pt B, .int .i64 (i : Int)] w fun e w' => e = .returned (.bool true) ∧ w = w' := by
  have h1 : decide ((0 : Int) ≤ (i : Int)) = true := by simp
  have h2 : decide ((i : Int) < 128) = true := by simp; omega
  clear hi
  go_enter Tryz.func76, Tryz.ntmps76
  go_wp2
  go_ret
  exact ⟨rfl, rfl⟩
theorem pcount_any {w : World} {B : Nat} {f : Nat → Pk} {n kd pk : Int} (h : PkAt w B f n kd pk) : Calls Tryz.prog 171 #[Pt B] w fun e w' => e = .returned (.int .i64 n) ∧ w = w' := by
  have c0 := h.cn
  clear h
  go_enter Tryz.func171, Tryz.ntmps171
  go_wp2
  go_ret
  exact ⟨rfl, rfl⟩
def PSets (w w' : World) (B : Nat) (f : Nat → Pk) (n kd pk : Int) : Prop := PkAt w' B f n kd pk ∧ Turns (fun k => k = B) w w' ∧ w'.heap.size = w.heap.size
theorem called_yes {w : World} {B : Nat} {f : Nat → Pk} {n kd pk : Int} (h : PkAt w B f n kd pk) (hn : 0 ≤ n ∧ n ≤ 1000000000) (k : Int) {i : Nat} (hi : i < 128) :
    Calls Tryz.prog 181 #[Pt B, .int .u8 k, .int .i64 (i : Int)] w fun e w' => e = .returned (.bool true) ∧ PSets w w' B f (n + 1) k (i : Int) := by
  have c0 := h.cn; have c1 := h.ck; have c2 := h.cp
  have z0 := h.fz 512; have z1 := h.fz 513; have z2 := h.fz 514
  have hq := phas_yes B i hi
  have hwn : IntKind.i64.wrap (n + 1) = n + 1 := by rw [IntKind.wrap_i64]; omega
  have H := Lib.hid h; have HQ := Lib.hid hq
  clear h hq hn
  go_enter Tryz.func181, Tryz.ntmps181
  go_wp2_with (go_at_call 76; refine (HQ.out _).mono ?_; rintro e w' ⟨rfl, rfl⟩)
  go_ret
  refine ⟨rfl, ((H.out.setN (n + 1)).setK k).setP (i : Int), ((((Turns.refl (fun k => k = B) w).setCell ⟨B, 512, none⟩ _ rfl).setCell ⟨B, 513, none⟩ _ rfl).setCell ⟨B, 514, none⟩ _ rfl), by simp [World.setCell]⟩
theorem prepare_yes {w : World} {B : Nat} {f : Nat → Pk} {n kd pk : Int} (h : PkAt w B f n kd pk) (hn : 0 ≤ n ∧ n ≤ 1000000000) {i : Nat} (hi : i < 128) :
    Calls Tryz.prog 215 #[Pt B, .int .i64 (i : Int)] w fun e w' => e = .returned (.tuple #[]) ∧ PSets w w' B (updP f i pk0) (n + 1) 1 (i : Int) := by
  have hq := called_yes h hn 1 hi
  have HQ := Lib.hid hq
  have h1 : (i : Int) < 128 := by omega
  clear hq h hn
  go_enter Tryz.func215, Tryz.ntmps215
  go_upto_region 1 with (go_at_call 181; refine HQ.out.mono ?_; rintro e w1 ⟨rfl, hp, ht, hz⟩)
  have c0 := hp.c0 i hi; have c1 := hp.c1 i hi; have c2 := hp.c2 i hi; have c3 := hp.c3 i hi
  have z0 := hp.fz (i * 4); have z1 := hp.fz (i * 4 + 1); have z2 := hp.fz (i * 4 + 2); have z3 := hp.fz (i * 4 + 3)
  have HP := Lib.hid hp; have HT := Lib.hid ht; have HZ := Lib.hid hz
  clear hp ht hz
  go_wp2_with fail
  go_end0
  refine ⟨rfl, HP.out.setAll hi pk0, ?_, by simpa [World.setCell] using HZ.out⟩
  exact ((((HT.out.setCell ⟨B, i * 4, none⟩ _ rfl).setCell ⟨B, i * 4 + 1, none⟩ _ rfl).setCell ⟨B, i * 4 + 2, none⟩ _ rfl).setCell ⟨B, i * 4 + 3, none⟩ _ rfl)
theorem unpark_yes {w : World} {B : Nat} {f : Nat → Pk} {n kd pk : Int} (h : PkAt w B f n kd pk) (hn : 0 ≤ n ∧ n ≤ 1000000000) {i : Nat} (hi : i < 128) :
    Calls Tryz.prog 150 #[Pt B, .int .i64 (i : Int)] w fun e w' => e = .returned (.tuple #[]) ∧ PSets w w' B (updP f i { f i with p := true }) (n + 1) 4 (i : Int) := by
  have hq := called_yes h hn 4 hi
  have HQ := Lib.hid hq
  have h1 : (i : Int) < 128 := by omega
  clear hq h hn
  go_enter Tryz.func150, Tryz.ntmps150
  go_upto_region 1 with (go_at_call 181; refine HQ.out.mono ?_; rintro e w1 ⟨rfl, hp, ht, hz⟩)
  have c0 := hp.c0 i hi
  have z0 := hp.fz (i * 4)
  have HP := Lib.hid hp; have HT := Lib.hid ht; have HZ := Lib.hid hz
  clear hp ht hz
  go_wp2_with fail
  go_end0
  exact ⟨rfl, HP.out.setPermit hi true, HT.out.setCell ⟨B, i * 4, none⟩ _ rfl, by simpa [World.setCell] using HZ.out⟩
theorem asleep_yes {w : World} {B : Nat} {f : Nat → Pk} {n kd pk : Int} (h : PkAt w B f n kd pk) {i : Nat} (hi : i < 128) :
    Calls Tryz.prog 49 #[Pt B, .int .i64 (i : Int)] w fun e w' => e = .returned (.bool (f i).a) ∧ w = w' := by
  have HQ := Lib.hid (phas_yes B i hi)
  have h1 : (i : Int) < 128 := by omega
  have c1 := h.c1 i hi
  clear h
  generalize (f i).a = b at *
  go_enter Tryz.func49, Tryz.ntmps49
  go_wp2_with (go_at_call 76; refine (HQ.out _).mono ?_; rintro e w1 ⟨rfl, rfl⟩)
  go_ret
  exact ⟨rfl, rfl⟩
end Go.Proofs.YtieiiabbeglmfaaGreatDoor.S4
namespace Go.Proofs.YtieiiabbeglmfaaGreatDoor.S4
open Go.Proofs.YtieiiabbeglmfaaGreatDoor Go.Proofs.YtieiiabbeglmfaaGreatDoor.S11
open Go.RowKit
end Go.Proofs.YtieiiabbeglmfaaGreatDoor.S4
namespace Go.Proofs.YtieiiabbeglmfaaGreatDoor.S5
open Go.Proofs.YtieiiabbeglmfaaGreatDoor
open Go.RowKit
structure Turns (S : Nat → Prop) (w w' : World) : Prop where
  os : w'.os = w.os
  tape : w'.tape = w.tape
  output : w'.output = w.output
  size : w.heap.size ≤ w'.heap.size
  block : ∀ k, k < w.heap.size → ¬ S k → w'.heap[k]? = w.heap[k]?
theorem Turns.refl (S : Nat → Prop) (w : World) : Turns S w w := ⟨rfl, rfl, rfl, Nat.le_refl _, fun _ _ _ => rfl⟩
theorem Turns.trans {S T : Nat → Prop} {a b c : World} (h : Turns S a b) (g : Turns T b c) (hs : ∀ k, k < a.heap.size → T k → S k) : Turns S a c :=
  ⟨g.os.trans h.os, g.tape.trans h.tape, g.output.trans h.output, Nat.le_trans h.size g.size, fun k hk hn => (g.block k (Nat.lt_of_lt_of_le hk h.size) (fun ht => hn (hs k hk ht))).trans (h.block k hk hn)⟩
theorem Turns.mono {S T : Nat → Prop} {a b : World} (h : Turns S a b) (hs : ∀ k, k < a.heap.size → S k → T k) : Turns T a b :=
  (Turns.refl T a).trans h hs
theorem Turns.alloc {S : Nat → Prop} {a b : World} (h : Turns S a b) (o : Obj) : Turns S a (b.alloc o) :=
  h.trans (T := fun _ => False) ⟨rfl, rfl, rfl, by simp, fun k hk _ => Below.heap_alloc _ _ _ hk⟩ (fun _ _ h => h.elim)
theorem Turns.drew {S : Nat → Prop} {a b : World} (h : Turns S a b) : Turns S a b.drew :=
  ⟨h.os, h.tape, h.output, h.size, h.block⟩
theorem Turns.setCell {S : Nat → Prop} {a b : World} (h : Turns S a b) (p : Addr) (u : Value) (hp : S p.block) : Turns S a (b.setCell p u) :=
  h.trans (T := fun k => k = p.block) ⟨rfl, rfl, rfl, by simp [World.setCell], fun k _ hn => Below.heap_setCell _ _ _ _ hn⟩ (fun k _ e => e ▸ hp)
theorem Turns.cell {S : Nat → Prop} {a b : World} (h : Turns S a b) {g o : Nat} (hg : g < a.heap.size) (hn : ¬ S g) : b.cell? ⟨g, o, none⟩ = a.cell? ⟨g, o, none⟩ :=
  World.cell?_of_block (a := ⟨g, o, none⟩) (h.block g hg hn)
theorem Turns.frozen {S : Nat → Prop} {a b : World} (h : Turns S a b) {g o : Nat} (hg : g < a.heap.size) (hn : ¬ S g) : b.frozen? ⟨g, o, none⟩ = a.frozen? ⟨g, o, none⟩ :=
  World.frozen?_of_block (a := ⟨g, o, none⟩) (h.block g hg hn)
abbrev Pt (B : Nat) : Value := .pointer (some ⟨B, 0, none⟩)
abbrev Lk := Nat → Nat
structure Has (w : World) (B : Nat) (S : Lk) : Prop where
  lt : B < w.heap.size
  cell : ∀ i, i < 192 → w.cell? ⟨B, i, none⟩ = some (.int .i64 (S i : Nat))
  froz : ∀ i, i < 192 → w.frozen? ⟨B, i, none⟩ = false
  le : ∀ i, S i ≤ 64
theorem Has.kept {T : Nat → Prop} {w w' : World} {B : Nat} {S : Lk} (h : Has w B S) (t : Turns T w w') (hB : ¬ T B) : Has w' B S :=
  ⟨Nat.lt_of_lt_of_le h.lt t.size, fun i hi => (t.cell h.lt hB).trans (h.cell i hi), fun i hi => (t.frozen h.lt hB).trans (h.froz i hi), h.le⟩
theorem Has.drew {w : World} {B : Nat} {S : Lk} (h : Has w B S) : Has w.drew B S := ⟨h.lt, h.cell, h.froz, h.le⟩
def upd (S : Lk) (i v : Nat) : Lk := fun j => if j = i then v else S j
theorem Has.set {w : World} {B : Nat} {S : Lk} (h : Has w B S) {i v : Nat} (hi : i < 192) (hv : v ≤ 64) : Has (w.setCell ⟨B, i, none⟩ (.int .i64 (v : Nat))) B (upd S i v) := by
  refine ⟨by simpa [World.setCell] using h.lt, fun j hj => ?_, fun j hj => by rw [World.frozen?_setCell]; exact h.froz j hj, fun j => ?_⟩
  · unfold upd
    by_cases e : j = i
    · subst e
      rw [if_pos rfl, World.cell?_setCell_same _ _ _ (h.cell j hj)]
    · rw [if_neg e, World.cell?_setCell_other _ _ _ _ (by intro e'; injection e' with _ e2; exact e e2.symm)]
      exact h.cell j hj
  · unfold upd
    split
    · exact hv
    · exact h.le j
theorem has_yes (B t : Nat) (ht : t < 64) (w : World) : Calls Tryz.prog 138 #[Pt B, .int .i64 (t : Int)] w fun e w' => e = .returned (.bool true) ∧ w = w' := by
  have h1 : decide ((0 : Int) ≤ (t : Int)) = true := by simp
  have h2 : decide ((t : Int) < 64) = true := by simp; omega
  clear ht
  go_enter Tryz.func138, Tryz.ntmps138
  go_wp2
  go_ret
  exact ⟨rfl, rfl⟩
def notT (x : Int) : Prop := ¬ (0 ≤ x ∧ x < 64)
theorem has_no (B : Nat) (x : Int) (hx : notT x) (w : World) : Calls Tryz.prog 138 #[Pt B, .int .i64 x] w fun e w' => e = .returned (.bool false) ∧ w = w' := by
  unfold notT at hx
  by_cases h : 0 ≤ x
  · have h1 : decide ((0 : Int) ≤ x) = true := by simpa using h
    have h2 : decide (x < 64) = false := by simp; omega
    clear hx h
    go_enter Tryz.func138, Tryz.ntmps138
    go_wp2
    go_ret
    exact ⟨rfl, rfl⟩
  · have h1 : decide ((0 : Int) ≤ x) = false := by simpa using h
    clear hx h
    go_enter Tryz.func138, Tryz.ntmps138
    go_wp2
    go_ret
    exact ⟨rfl, rfl⟩
end Go.Proofs.YtieiiabbeglmfaaGreatDoor.S5
namespace Go.Proofs.YtieiiabbeglmfaaGreatDoor.S5
open Go.Proofs.YtieiiabbeglmfaaGreatDoor
open Go.RowKit
def lnk (S : Lk) (t : Nat) : Value := .agg #[.int .i64 ((S (t * 3) : Int) - 1), .int .i64 ((S (t * 3 + 1) : Int) - 1), .int .i64 ((S (t * 3 + 2) : Int) - 1)]
theorem below1 (w : World) (o : Obj) : Below w.heap.size w (w.alloc o) := (Below.refl _ _).alloc (Nat.le_refl _) _
theorem below2 (w : World) (o p : Obj) : Below w.heap.size w ((w.alloc o).alloc p) := (below1 w o).alloc (by simp) _
theorem at_yes {w : World} {B : Nat} {S : Lk} (h : Has w B S) (t : Nat) (ht : t < 64) : Calls Tryz.prog 75 #[Pt B, .int .i64 (t : Int)] w fun e w' => e = .returned (lnk S t) ∧ Below w.heap.size w w' := by
  unfold lnk
  have hh := has_yes B t ht
  have c0 := h.cell (t * 3) (by omega)
  have c1 := h.cell (t * 3 + 1) (by omega)
  have c2 := h.cell (t * 3 + 2) (by omega)
  have l0 := h.le (t * 3)
  have l1 := h.le (t * 3 + 1)
  have l2 := h.le (t * 3 + 2)
  have hlt := h.lt
  have HH := Lib.hid hh
  clear hh h
  generalize S (t * 3) = x at *
  generalize S (t * 3 + 1) = y at *
  generalize S (t * 3 + 2) = z at *
  go_enter Tryz.func75, Tryz.ntmps75
  go_wp2_with (first
    | (go_at_call 138; refine (HH.out _).mono ?_; rintro e w' ⟨rfl, rfl⟩))
  exact bodyPost_ret (v := .agg #[.int .i64 ((x : Int) - 1), .int .i64 ((y : Int) - 1), .int .i64 ((z : Int) - 1)]) (by simp [results, Tryz.results75, go_sem]) rfl ⟨rfl, below2 w _ _⟩
def put3 (S : Lk) (t a b c : Nat) : Lk := upd (upd (upd S (t * 3) a) (t * 3 + 1) b) (t * 3 + 2) c
theorem Has.put3 {w : World} {B : Nat} {S : Lk} (h : Has w B S) {t a b c : Nat} (ht : t < 64) (ha : a ≤ 64) (hb : b ≤ 64) (hc : c ≤ 64) :
    Has (((w.setCell ⟨B, t * 3, none⟩ (.int .i64 (a : Nat))).setCell ⟨B, t * 3 + 1, none⟩ (.int .i64 (b : Nat))).setCell ⟨B, t * 3 + 2, none⟩ (.int .i64 (c : Nat))) B (YtieiiabbeglmfaaGreatDoor.S5.put3 S t a b c) :=
  ((h.set (by omega) ha).set (by omega) hb).set (by omega) hc
theorem turns3 (w : World) (B i j k : Nat) (x y z : Value) : Turns (fun b => b = B) w (((w.setCell ⟨B, i, none⟩ x).setCell ⟨B, j, none⟩ y).setCell ⟨B, k, none⟩ z) :=
  (((Turns.refl (fun b => b = B) w).setCell ⟨B, i, none⟩ x rfl).setCell ⟨B, j, none⟩ y rfl).setCell ⟨B, k, none⟩ z rfl
def pushed (S : Lk) (t : Nat) : Option Nat → Lk
  | some h => put3 S t (h + 1) 0 0
  | none => put3 S t 0 0 (t + 1)
def Num (x : Int) : Option Nat → Prop
  | some t => x = (t : Int) ∧ t < 64
  | none => notT x
theorem cast1 (t : Nat) : ((t + 1 : Nat) : Int) = (t : Int) + 1 := by omega
theorem cast0 : ((0 : Nat) : Int) = 0 := rfl
theorem push_some {w : World} {B : Nat} {S : Lk} (h : Has w B S) (t hd : Nat) (ht : t < 64) (hh : hd < 64) : Calls Tryz.prog 290 #[Pt B, .int .i64 (t : Int), .int .i64 (hd : Int)] w fun e w' => e = .returned (.tuple #[]) ∧ Has w' B (pushed S t (some hd)) ∧ Turns (fun k => k = B) w w' := by
  have h1 := has_yes B t ht
  have h2 := has_yes B hd hh
  have c0 := h.cell (t * 3) (by omega)
  have c1 := h.cell (t * 3 + 1) (by omega)
  have c2 := h.cell (t * 3 + 2) (by omega)
  have f0 := h.froz (t * 3) (by omega)
  have f1 := h.froz (t * 3 + 1) (by omega)
  have f2 := h.froz (t * 3 + 2) (by omega)
  have hp := h.put3 (t := t) (a := hd + 1) (b := 0) (c := 0) ht (by omega) (by omega) (by omega)
  rw [cast1, cast0] at hp
  have H1 := Lib.hid h1; have H2 := Lib.hid h2; have HP := Lib.hid hp
  clear h1 h2 hp h
  generalize S (t * 3) = x at *
  generalize S (t * 3 + 1) = y at *
  generalize S (t * 3 + 2) = z at *
  go_enter Tryz.func290, Tryz.ntmps290
  go_wp2_with fail
  refine (H1.out _).mono ?_
  rintro e w' ⟨rfl, rfl⟩
  go_wp2_with fail
  refine (H2.out _).mono ?_
  rintro e w' ⟨rfl, rfl⟩
  go_wp2_with fail
  (try simp only [Exit.inBlock, Exit.then]); refine bodyPost_ret (results_none rfl _ _ _) rfl ?_
  exact ⟨rfl, HP.out, turns3 _ _ _ _ _ _ _ _⟩
theorem push_none {w : World} {B : Nat} {S : Lk} (h : Has w B S) (t : Nat) (x : Int) (ht : t < 64) (hx : notT x) : Calls Tryz.prog 290 #[Pt B, .int .i64 (t : Int), .int .i64 x] w fun e w' => e = .returned (.tuple #[]) ∧ Has w' B (pushed S t none) ∧ Turns (fun k => k = B) w w' := by
  have h1 := has_yes B t ht
  have h2 := has_no B x hx
  have c0 := h.cell (t * 3) (by omega)
  have c1 := h.cell (t * 3 + 1) (by omega)
  have c2 := h.cell (t * 3 + 2) (by omega)
  have f0 := h.froz (t * 3) (by omega)
  have f1 := h.froz (t * 3 + 1) (by omega)
  have f2 := h.froz (t * 3 + 2) (by omega)
  have hp := h.put3 (t := t) (a := 0) (b := 0) (c := t + 1) ht (by omega) (by omega) (by omega)
  rw [cast1, cast0] at hp
  have H1 := Lib.hid h1; have H2 := Lib.hid h2; have HP := Lib.hid hp
  clear h1 h2 hp h
  generalize S (t * 3) = x' at *
  generalize S (t * 3 + 1) = y at *
  generalize S (t * 3 + 2) = z at *
  go_enter Tryz.func290, Tryz.ntmps290
  go_wp2_with fail
  refine (H1.out _).mono ?_
  rintro e w' ⟨rfl, rfl⟩
  go_wp2_with fail
  refine (H2.out _).mono ?_
  rintro e w' ⟨rfl, rfl⟩
  go_wp2_with fail
  go_end0
  exact ⟨rfl, HP.out, turns3 _ _ _ _ _ _ _ _⟩
theorem push_no {w : World} {B : Nat} (x y : Int) (hx : notT x) : Calls Tryz.prog 290 #[Pt B, .int .i64 x, .int .i64 y] w fun e w' => e = .returned (.tuple #[]) ∧ w = w' := by
  have h1 := has_no B x hx
  have H1 := Lib.hid h1
  clear h1
  go_enter Tryz.func290, Tryz.ntmps290
  go_wp2_with fail
  refine (H1.out _).mono ?_
  rintro e w' ⟨rfl, rfl⟩
  go_wp2_with fail
  (try simp only [Exit.inBlock, Exit.then]); refine bodyPost_ret (results_none rfl _ _ _) rfl ?_
  exact ⟨rfl, rfl⟩
def pushS (S : Lk) (t h : Option Nat) : Lk := match t with
  | some t => pushed S t h
  | none => S
def Sets (w w' : World) (B : Nat) (S : Lk) : Prop := Has w' B S ∧ Turns (fun k => k = B) w w'
theorem push_any {w : World} {B : Nat} {S : Lk} (h : Has w B S) {x y : Int} {t hd : Option Nat} (hx : Num x t) (hy : Num y hd) : Calls Tryz.prog 290 #[Pt B, .int .i64 x, .int .i64 y] w fun e w' => e = .returned (.tuple #[]) ∧ Sets w w' B (pushS S t hd) := by
  cases t with
  | none => exact (push_no x y hx).mono fun e w' ⟨he, hw⟩ => ⟨he, by subst hw; exact ⟨h, Turns.refl _ _⟩⟩
  | some t =>
    obtain ⟨rfl, ht⟩ := hx
    cases hd with
    | none => exact (push_none h t y ht hy).mono fun e w' ⟨he, h1, h2⟩ => ⟨he, h1, h2⟩
    | some d => obtain ⟨rfl, hd⟩ := hy; exact (push_some h t d ht hd).mono fun e w' ⟨he, h1, h2⟩ => ⟨he, h1, h2⟩
end Go.Proofs.YtieiiabbeglmfaaGreatDoor.S5
namespace Go.Proofs.YtieiiabbeglmfaaGreatDoor.S10
open Go.Proofs.YtieiiabbeglmfaaGreatDoor
open Go.RowKit
def tabB (b : Int) : Bool := decide (2 ≤ b) && decide (b ≤ 8)
theorem tab_no {b : Int} (h : b < 2 ∨ 8 < b) : tabB b = false := by
  unfold tabB
  rcases h with h | h
  · rw [decide_eq_false (by omega), Bool.false_and]
  · rw [decide_eq_false (p := b ≤ 8) (by omega), Bool.and_false]
theorem tab_yes {b : Int} (h : 2 ≤ b) (g : b ≤ 8) : tabB b = true := by
  unfold tabB
  rw [decide_eq_true h, decide_eq_true g]; rfl
theorem is_any (b : Int) (w : World) : Calls Tryz.prog 144 #[.int .i64 b] w fun e w' => e = .returned (.bool (tabB b)) ∧ w = w' := by
  unfold tabB
  by_cases h : 2 ≤ b
  · rw [decide_eq_true h, Bool.true_and]
    go_enter Tryz.func144, Tryz.ntmps144
    go_wp2
    go_ret
    exact ⟨rfl, rfl⟩
  · rw [decide_eq_false h, Bool.false_and]
    have h' : b < 2 := by omega
    go_enter Tryz.func144, Tryz.ntmps144
    go_wp2
    go_ret
    exact ⟨rfl, rfl⟩
def sizeN (b : Int) : Nat := if 2 ≤ b ∧ b ≤ 8 then 2 ^ b.toNat else 0
theorem seven {b : Int} (h : 2 ≤ b) (g : b ≤ 8) : b = 2 ∨ b = 3 ∨ b = 4 ∨ b = 5 ∨ b = 6 ∨ b = 7 ∨ b = 8 := by omega
theorem size_no (b : Int) (h : b < 2 ∨ 8 < b) (w : World) : Calls Tryz.prog 143 #[.int .i64 b] w fun e w' => e = .returned (.int .i64 0) ∧ w = w' := by
  have q := is_any b w
  rw [tab_no h] at q
  have Q := Lib.hid q
  clear q h
  go_enter Tryz.func143, Tryz.ntmps143
  go_wp2_with fail
  refine Q.out.mono ?_
  rintro e w' ⟨rfl, rfl⟩
  go_wp2_with fail
  go_ret
  exact ⟨rfl, rfl⟩
theorem size_at (b : Int) (n : Int) (h : 2 ≤ b) (g : b ≤ 8) (hn : n = ((2 ^ b.toNat : Nat) : Int)) (w : World) : Calls Tryz.prog 143 #[.int .i64 b] w fun e w' => e = .returned (.int .i64 n) ∧ w = w' := by
  have q := is_any b w
  rw [tab_yes h g] at q
  have Q := Lib.hid q
  clear q
  rcases seven h g with rfl | rfl | rfl | rfl | rfl | rfl | rfl
  all_goals
    subst hn
    clear h g
    go_enter Tryz.func143, Tryz.ntmps143
    go_wp2_with fail
    refine Q.out.mono ?_
    rintro e w' ⟨rfl, rfl⟩
    go_wp2_with fail
    go_ret
    exact ⟨rfl, rfl⟩
theorem size_any (b : Int) (w : World) : Calls Tryz.prog 143 #[.int .i64 b] w fun e w' => e = .returned (.int .i64 (sizeN b : Nat)) ∧ w = w' := by
  by_cases h : 2 ≤ b ∧ b ≤ 8
  · refine size_at b _ h.1 h.2 ?_ w
    unfold sizeN
    rw [if_pos h]
  · have := size_no b (by omega) w
    unfold sizeN
    rw [if_neg h]
    exact this
end Go.Proofs.YtieiiabbeglmfaaGreatDoor.S10
