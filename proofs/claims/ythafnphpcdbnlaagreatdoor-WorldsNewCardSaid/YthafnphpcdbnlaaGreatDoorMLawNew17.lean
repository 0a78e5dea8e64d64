/- Texts of this seat, one behind the other. -/
import Derived.Test.YthafnphpcdbnlaaGreatDoorMLawNew3
import Derived.Laws.Rows
import Derived.Laws.StructEq
set_option linter.unusedVariables false
set_option linter.unusedSimpArgs false
set_option linter.unusedVariables false
set_option linter.unusedSimpArgs false
namespace Go.Proofs.YthafnphpcdbnlaaGreatDoor.S4
open Go.Proofs.YthafnphpcdbnlaaGreatDoor Go.Proofs.YthafnphpcdbnlaaGreatDoor.S11
open Go.RowKit

abbrev Pt (B : Nat) : Value := .pointer (some ⟨B, 0, none⟩)
/-- A parker: its permit, whether it is asleep, its deadline. -/
structure Pk where
  p : Bool
  a : Bool
  o : Bool
  t : Nat
deriving DecidableEq
instance : Inhabited Pk := ⟨⟨false, false, false, 0⟩⟩
def pk0 : Pk := ⟨false, false, false, 0⟩
abbrev pkV (x : Pk) : Value := .agg #[.bool x.p, .bool x.a, .bool x.o, .int .u64 (x.t : Int)]
structure PkAt (w : World) (B : Nat) (f : Nat → Pk) (n kd pk : Int) : Prop where
  lt : B < w.heap.size
  c0 : ∀ i, i < 128 → w.cell? ⟨B, i * 4, none⟩ = some (.bool (f i).p)
  c1 : ∀ i, i < 128 → w.cell? ⟨B, i * 4 + 1, none⟩ = some (.bool (f i).a)
  c2 : ∀ i, i < 128 → w.cell? ⟨B, i * 4 + 2, none⟩ = some (.bool (f i).o)
  c3 : ∀ i, i < 128 → w.cell? ⟨B, i * 4 + 3, none⟩ = some (.int .u64 ((f i).t : Int))
  cn : w.cell? ⟨B, 512, none⟩ = some (.int .i64 n)
  ck : w.cell? ⟨B, 513, none⟩ = some (.int .u8 kd)
  cp : w.cell? ⟨B, 514, none⟩ = some (.int .i64 pk)
  fz : ∀ i, w.frozen? ⟨B, i, none⟩ = false
section
variable {w w' : World} {B : Nat} {f : Nat → Pk} {n kd pk : Int}
theorem PkAt.kept {T : Nat → Prop} (h : PkAt w B f n kd pk) (t : Turns T w w') (hB : ¬ T B) : PkAt w' B f n kd pk :=
  ⟨Nat.lt_of_lt_of_le h.lt t.size, fun i hi => (t.cell h.lt hB).trans (h.c0 i hi), fun i hi => (t.cell h.lt hB).trans (h.c1 i hi), fun i hi => (t.cell h.lt hB).trans (h.c2 i hi), fun i hi => (t.cell h.lt hB).trans (h.c3 i hi), (t.cell h.lt hB).trans h.cn, (t.cell h.lt hB).trans h.ck, (t.cell h.lt hB).trans h.cp, fun i => (t.frozen h.lt hB).trans (h.fz i)⟩
theorem PkAt.new (h : PkAt w B f n kd pk) (b : Below w.heap.size w w') : PkAt w' B f n kd pk := h.kept (Turns.of_below (S := fun _ => False) b) (fun e => e)
theorem PkAt.drew (h : PkAt w B f n kd pk) : PkAt w.drew B f n kd pk := ⟨h.lt, h.c0, h.c1, h.c2, h.c3, h.cn, h.ck, h.cp, h.fz⟩
end
theorem cset {w : World} {B i j : Nat} {v : Value} (h : i ≠ j) : (w.setCell ⟨B, i, none⟩ v).cell? ⟨B, j, none⟩ = w.cell? ⟨B, j, none⟩ :=
  World.cell?_setCell_other _ _ _ _ (by intro e; injection e with _ e2; exact h e2)
/-- The count. -/
theorem PkAt.setN {w : World} {B : Nat} {f : Nat → Pk} {n kd pk : Int} (h : PkAt w B f n kd pk) (m : Int) : PkAt (w.setCell ⟨B, 512, none⟩ (.int .i64 m)) B f m kd pk :=
  ⟨by simpa [World.setCell] using h.lt, fun i hi => (cset (by omega)).trans (h.c0 i hi), fun i hi => (cset (by omega)).trans (h.c1 i hi), fun i hi => (cset (by omega)).trans (h.c2 i hi), fun i hi => (cset (by omega)).trans (h.c3 i hi), World.cell?_setCell_same _ _ _ h.cn, (cset (by omega)).trans h.ck, (cset (by omega)).trans h.cp, fun i => by rw [World.frozen?_setCell]; exact h.fz i⟩
theorem PkAt.setK {w : World} {B : Nat} {f : Nat → Pk} {n kd pk : Int} (h : PkAt w B f n kd pk) (m : Int) : PkAt (w.setCell ⟨B, 513, none⟩ (.int .u8 m)) B f n m pk :=
  ⟨by simpa [World.setCell] using h.lt, fun i hi => (cset (by omega)).trans (h.c0 i hi), fun i hi => (cset (by omega)).trans (h.c1 i hi), fun i hi => (cset (by omega)).trans (h.c2 i hi), fun i hi => (cset (by omega)).trans (h.c3 i hi), (cset (by omega)).trans h.cn, World.cell?_setCell_same _ _ _ h.ck, (cset (by omega)).trans h.cp, fun i => by rw [World.frozen?_setCell]; exact h.fz i⟩
theorem PkAt.setP {w : World} {B : Nat} {f : Nat → Pk} {n kd pk : Int} (h : PkAt w B f n kd pk) (m : Int) : PkAt (w.setCell ⟨B, 514, none⟩ (.int .i64 m)) B f n kd m :=
  ⟨by simpa [World.setCell] using h.lt, fun i hi => (cset (by omega)).trans (h.c0 i hi), fun i hi => (cset (by omega)).trans (h.c1 i hi), fun i hi => (cset (by omega)).trans (h.c2 i hi), fun i hi => (cset (by omega)).trans (h.c3 i hi), (cset (by omega)).trans h.cn, (cset (by omega)).trans h.ck, World.cell?_setCell_same _ _ _ h.cp, fun i => by rw [World.frozen?_setCell]; exact h.fz i⟩
def updP (f : Nat → Pk) (i : Nat) (x : Pk) : Nat → Pk := fun j => if j = i then x else f j
/-- One parker's permit. -/
theorem PkAt.setPermit {w : World} {B : Nat} {f : Nat → Pk} {n kd pk : Int} (h : PkAt w B f n kd pk) {i : Nat} (hi : i < 128) (b : Bool) : PkAt (w.setCell ⟨B, i * 4, none⟩ (.bool b)) B (updP f i { f i with p := b }) n kd pk := by
  have hj : ∀ j, j ≠ i → updP f i { f i with p := b } j = f j := fun j e => by simp [updP, e]
  have he : updP f i { f i with p := b } i = { f i with p := b } := by simp [updP]
  refine ⟨by simpa [World.setCell] using h.lt, fun j hl => ?_, fun j hl => (cset (by omega)).trans ?_, fun j hl => (cset (by omega)).trans ?_, fun j hl => (cset (by omega)).trans ?_, (cset (by omega)).trans h.cn, (cset (by omega)).trans h.ck, (cset (by omega)).trans h.cp, fun j => by rw [World.frozen?_setCell]; exact h.fz j⟩
  · by_cases e : j = i
    · subst e; rw [he]; exact World.cell?_setCell_same _ _ _ (h.c0 j hl)
    · rw [hj j e]; exact (cset (by omega)).trans (h.c0 j hl)
  · rw [h.c1 j hl]; by_cases e : j = i
    · subst e; rw [he]
    · rw [hj j e]
  · rw [h.c2 j hl]; by_cases e : j = i
    · subst e; rw [he]
    · rw [hj j e]
  · rw [h.c3 j hl]; by_cases e : j = i
    · subst e; rw [he]
    · rw [hj j e]
/-- A whole parker. -/
theorem PkAt.setAll {w : World} {B : Nat} {f : Nat → Pk} {n kd pk : Int} (h : PkAt w B f n kd pk) {i : Nat} (hi : i < 128) (x : Pk) :
    PkAt ((((w.setCell ⟨B, i * 4, none⟩ (.bool x.p)).setCell ⟨B, i * 4 + 1, none⟩ (.bool x.a)).setCell ⟨B, i * 4 + 2, none⟩ (.bool x.o)).setCell ⟨B, i * 4 + 3, none⟩ (.int .u64 (x.t : Int))) B (updP f i x) n kd pk := by
  have hj : ∀ j, j ≠ i → updP f i x j = f j := fun j e => by simp [updP, e]
  have he : updP f i x i = x := by simp [updP]
  have far : ∀ k v, (k ≠ i * 4 ∧ k ≠ i * 4 + 1 ∧ k ≠ i * 4 + 2 ∧ k ≠ i * 4 + 3) → w.cell? ⟨B, k, none⟩ = some v → ((((w.setCell ⟨B, i * 4, none⟩ (.bool x.p)).setCell ⟨B, i * 4 + 1, none⟩ (.bool x.a)).setCell ⟨B, i * 4 + 2, none⟩ (.bool x.o)).setCell ⟨B, i * 4 + 3, none⟩ (.int .u64 (x.t : Int))).cell? ⟨B, k, none⟩ = some v := fun k v hk e => by
    rw [cset (by omega), cset (by omega), cset (by omega), cset (by omega)]; exact e
  refine ⟨by simpa [World.setCell] using h.lt, fun j hl => ?_, fun j hl => ?_, fun j hl => ?_, fun j hl => ?_, far _ _ (by omega) h.cn, far _ _ (by omega) h.ck, far _ _ (by omega) h.cp, fun j => by rw [World.frozen?_setCell, World.frozen?_setCell, World.frozen?_setCell, World.frozen?_setCell]; exact h.fz j⟩
  · by_cases e : j = i
    · subst e; rw [he, cset (by omega), cset (by omega), cset (by omega)]; exact World.cell?_setCell_same _ _ _ (h.c0 j hl)
    · rw [hj j e]; exact far _ _ (by omega) (h.c0 j hl)
  · by_cases e : j = i
    · subst e; rw [he, cset (by omega), cset (by omega)]; exact World.cell?_setCell_same _ _ _ ((cset (by omega)).trans (h.c1 j hl))
    · rw [hj j e]; exact far _ _ (by omega) (h.c1 j hl)
  · by_cases e : j = i
    · subst e; rw [he, cset (by omega)]; exact World.cell?_setCell_same _ _ _ ((cset (by omega)).trans ((cset (by omega)).trans (h.c2 j hl)))
    · rw [hj j e]; exact far _ _ (by omega) (h.c2 j hl)
  · by_cases e : j = i
    · subst e; rw [he]; exact World.cell?_setCell_same _ _ _ ((cset (by omega)).trans ((cset (by omega)).trans ((cset (by omega)).trans (h.c3 j hl))))
    · rw [hj j e]; exact far _ _ (by omega) (h.c3 j hl)
/-- A set as it is at first. -/
def blkP : List Value := [.bool false, .bool false, .bool false, .int .u64 0]
def ZPn (n : Nat) : Array Value := ((List.replicate n blkP).flatten ++ [Value.int .i64 0, Value.int .u8 0, Value.int .i64 0]).toArray
def ZP : Array Value := ZPn 128
theorem zero166 (w : World) : (zeroValue 129).run Tryz.prog w = .ok (.agg ZP) w := by kernel_rfl
theorem rep_get (l : List Value) (hl : l.length = 4) (r : List Value) : ∀ (n i j : Nat), i < n → j < 4 → ((List.replicate n l).flatten ++ r)[i * 4 + j]? = l[j]?
  | n + 1, 0, j, _, hj => by
    rw [List.replicate_succ, List.flatten_cons, List.append_assoc, List.getElem?_append_left (by omega)]; simp
  | n + 1, i + 1, j, hi, hj => by
    rw [List.replicate_succ, List.flatten_cons, List.append_assoc, List.getElem?_append_right (by omega)]
    rw [show (i + 1) * 4 + j - l.length = i * 4 + j by omega]
    exact rep_get l hl r n i j (by omega) hj
theorem rep_len (l : List Value) (hl : l.length = 4) (n : Nat) : (List.replicate n l).flatten.length = n * 4 := by
  induction n with
  | zero => rfl
  | succ n ih => rw [List.replicate_succ, List.flatten_cons, List.length_append, ih]; omega
theorem zpn_get (n i j : Nat) (hi : i < n) (hj : j < 4) : (ZPn n)[i * 4 + j]? = blkP[j]? := by
  unfold ZPn
  rw [List.getElem?_toArray]
  exact rep_get blkP rfl _ n i j hi hj
theorem zpn_end (n j : Nat) : (ZPn n)[n * 4 + j]? = [Value.int .i64 0, Value.int .u8 0, Value.int .i64 0][j]? := by
  unfold ZPn
  rw [List.getElem?_toArray, List.getElem?_append_right (by rw [rep_len _ rfl]; omega), rep_len _ rfl]
  congr 1; omega
theorem zp_get (i j : Nat) (hi : i < 128) (hj : j < 4) : ZP[i * 4 + j]? = blkP[j]? := zpn_get 128 i j hi hj
theorem zp_end (j : Nat) : ZP[512 + j]? = [Value.int .i64 0, Value.int .u8 0, Value.int .i64 0][j]? := zpn_end 128 j
/-- A set as it is at first: nobody asleep, no permits. -/
theorem pk_row {w : World} {B : Nat} {T : TypeId} (h : w.heap[B]? = some (.cells ZP T (0, 0))) : PkAt w B (fun _ => pk0) 0 0 0 :=
  ⟨(Array.getElem?_eq_some_iff.1 h).1, fun i hi => (cell_row h _).trans (zp_get i 0 hi (by omega)), fun i hi => (cell_row h _).trans (zp_get i 1 hi (by omega)), fun i hi => (cell_row h _).trans (zp_get i 2 hi (by omega)), fun i hi => (cell_row h _).trans (zp_get i 3 hi (by omega)), (cell_row h _).trans (zp_end 0), (cell_row h _).trans (zp_end 1), (cell_row h _).trans (zp_end 2), fun i => froz_row h i⟩
theorem pnew_any (w : World) : Calls Tryz.prog 20 #[] w fun e w' => e = .returned (Pt w.heap.size) ∧ PkAt w' w.heap.size (fun _ => pk0) 0 0 0 ∧ Below w.heap.size w w' := by
  have z := zero166
  go_enter Tryz.func20, Tryz.ntmps20
  go_wp2_with fail
  go_ret
  exact ⟨rfl, pk_row (heap_alloc_new _ _), (Below.refl _ _).alloc (Nat.le_refl _) _⟩
/-- Is a number one of a parker's? -/
def notK (x : Int) : Prop := ¬ (0 ≤ x ∧ x < 128)
theorem phas_yes (B i : Nat) (hi : i < 128) (w : World) : Calls Tryz.prog 71 #[Pt B, .int .i64 (i : Int)] w fun e w' => e = .returned (.bool true) ∧ w = w' := by
  have h1 : decide ((0 : Int) ≤ (i : Int)) = true := by simp
  have h2 : decide ((i : Int) < 128) = true := by simp; omega
  clear hi
  go_enter Tryz.func71, Tryz.ntmps71
  go_wp2
  go_ret
  exact ⟨rfl, rfl⟩
theorem phas_no (B : Nat) (x : Int) (hx : notK x) (w : World) : Calls Tryz.prog 71 #[Pt B, .int .i64 x] w fun e w' => e = .returned (.bool false) ∧ w = w' := by
  unfold notK at hx
  by_cases h : 0 ≤ x
  · have h1 : decide ((0 : Int) ≤ x) = true := by simpa using h
    have h2 : decide (x < 128) = false := by simp; omega
    clear hx h
    go_enter Tryz.func71, Tryz.ntmps71
    go_wp2
    go_ret
    exact ⟨rfl, rfl⟩
  · have h1 : decide ((0 : Int) ≤ x) = false := by simpa using h
    clear hx h
    go_enter Tryz.func71, Tryz.ntmps71
    go_wp2
    go_ret
    exact ⟨rfl, rfl⟩
theorem phas_nil (x : Int) (w : World) : Calls Tryz.prog 71 #[.pointer none, .int .i64 x] w fun e w' => e = .returned (.bool false) ∧ w = w' := by
  go_enter Tryz.func71, Tryz.ntmps71
  go_wp2
  go_ret
  exact ⟨rfl, rfl⟩
theorem pcount_any {w : World} {B : Nat} {f : Nat → Pk} {n kd pk : Int} (h : PkAt w B f n kd pk) : Calls Tryz.prog 39 #[Pt B] w fun e w' => e = .returned (.int .i64 n) ∧ w = w' := by
  have c0 := h.cn
  clear h
  go_enter Tryz.func39, Tryz.ntmps39
  go_wp2
  go_ret
  exact ⟨rfl, rfl⟩
theorem pcount_nil (w : World) : Calls Tryz.prog 39 #[.pointer none] w fun e w' => e = .returned (.int .i64 0) ∧ w = w' := by
  go_enter Tryz.func39, Tryz.ntmps39
  go_wp2
  go_ret
  exact ⟨rfl, rfl⟩
/-- What a set is behind a call that was counted. -/
def PSets (w w' : World) (B : Nat) (f : Nat → Pk) (n kd pk : Int) : Prop := PkAt w' B f n kd pk ∧ Turns (fun k => k = B) w w' ∧ w'.heap.size = w.heap.size
theorem called_yes {w : World} {B : Nat} {f : Nat → Pk} {n kd pk : Int} (h : PkAt w B f n kd pk) (hn : 0 ≤ n ∧ n ≤ 1000000000) (k : Int) {i : Nat} (hi : i < 128) :
    Calls Tryz.prog 42 #[Pt B, .int .u8 k, .int .i64 (i : Int)] w fun e w' => e = .returned (.bool true) ∧ PSets w w' B f (n + 1) k (i : Int) := by
  have c0 := h.cn; have c1 := h.ck; have c2 := h.cp
  have z0 := h.fz 512; have z1 := h.fz 513; have z2 := h.fz 514
  have hq := phas_yes B i hi
  have hwn : IntKind.i64.wrap (n + 1) = n + 1 := by rw [IntKind.wrap_i64]; omega
  have H := Lib.hid h; have HQ := Lib.hid hq
  clear h hq hn
  go_enter Tryz.func42, Tryz.ntmps42
  go_wp2_with (go_at_call 71; refine (HQ.out _).mono ?_; rintro e w' ⟨rfl, rfl⟩)
  go_ret
  refine ⟨rfl, ((H.out.setN (n + 1)).setK k).setP (i : Int), ((((Turns.refl (fun k => k = B) w).setCell ⟨B, 512, none⟩ _ rfl).setCell ⟨B, 513, none⟩ _ rfl).setCell ⟨B, 514, none⟩ _ rfl), by simp [World.setCell]⟩
theorem called_no (B : Nat) (x : Int) (hx : notK x) (k : Int) (w : World) : Calls Tryz.prog 42 #[Pt B, .int .u8 k, .int .i64 x] w fun e w' => e = .returned (.bool false) ∧ w = w' := by
  have HQ := Lib.hid (phas_no B x hx)
  clear hx
  go_enter Tryz.func42, Tryz.ntmps42
  go_wp2_with (go_at_call 71; refine (HQ.out _).mono ?_; rintro e w' ⟨rfl, rfl⟩)
  go_ret
  exact ⟨rfl, rfl⟩
theorem called_nil (x k : Int) (w : World) : Calls Tryz.prog 42 #[.pointer none, .int .u8 k, .int .i64 x] w fun e w' => e = .returned (.bool false) ∧ w = w' := by
  have HQ := Lib.hid (phas_nil x)
  go_enter Tryz.func42, Tryz.ntmps42
  go_wp2_with (go_at_call 71; refine (HQ.out _).mono ?_; rintro e w' ⟨rfl, rfl⟩)
  go_ret
  exact ⟨rfl, rfl⟩
/-- A permit more. -/
theorem unpark_yes {w : World} {B : Nat} {f : Nat → Pk} {n kd pk : Int} (h : PkAt w B f n kd pk) (hn : 0 ≤ n ∧ n ≤ 1000000000) {i : Nat} (hi : i < 128) :
    Calls Tryz.prog 14 #[Pt B, .int .i64 (i : Int)] w fun e w' => e = .returned (.tuple #[]) ∧ PSets w w' B (updP f i { f i with p := true }) (n + 1) 4 (i : Int) := by
  have hq := called_yes h hn 4 hi
  have HQ := Lib.hid hq
  have h1 : (i : Int) < 128 := by omega
  clear hq h hn
  go_enter Tryz.func14, Tryz.ntmps14
  go_upto_region 1 with (go_at_call 42; refine HQ.out.mono ?_; rintro e w1 ⟨rfl, hp, ht, hz⟩)
  have c0 := hp.c0 i hi
  have z0 := hp.fz (i * 4)
  have HP := Lib.hid hp; have HT := Lib.hid ht; have HZ := Lib.hid hz
  clear hp ht hz
  go_wp2_with fail
  go_end0
  exact ⟨rfl, HP.out.setPermit hi true, HT.out.setCell ⟨B, i * 4, none⟩ _ rfl, by simpa [World.setCell] using HZ.out⟩
theorem unpark_no (B : Nat) (x : Int) (hx : notK x) (w : World) : Calls Tryz.prog 14 #[Pt B, .int .i64 x] w fun e w' => e = .returned (.tuple #[]) ∧ w = w' := by
  have HQ := Lib.hid (called_no B x hx 4)
  clear hx
  go_enter Tryz.func14, Tryz.ntmps14
  go_wp2_with (go_at_call 42; refine (HQ.out _).mono ?_; rintro e w1 ⟨rfl, rfl⟩)
  (try simp only [Exit.inBlock, Exit.then])
  refine bodyPost_ret (results_none rfl _ _ _) rfl ⟨rfl, rfl⟩
theorem asleep_yes {w : World} {B : Nat} {f : Nat → Pk} {n kd pk : Int} (h : PkAt w B f n kd pk) {i : Nat} (hi : i < 128) :
    Calls Tryz.prog 32 #[Pt B, .int .i64 (i : Int)] w fun e w' => e = .returned (.bool (f i).a) ∧ w = w' := by
  have HQ := Lib.hid (phas_yes B i hi)
  have h1 : (i : Int) < 128 := by omega
  have c1 := h.c1 i hi
  clear h
  generalize (f i).a = b at *
  go_enter Tryz.func32, Tryz.ntmps32
  go_wp2_with (go_at_call 71; refine (HQ.out _).mono ?_; rintro e w1 ⟨rfl, rfl⟩)
  go_ret
  exact ⟨rfl, rfl⟩
theorem last_any {w : World} {B : Nat} {f : Nat → Pk} {n kd pk : Int} (h : PkAt w B f n kd pk) : Calls Tryz.prog 55 #[Pt B] w fun e w' => e = .returned (.agg #[.int .u8 kd, .int .i64 pk]) ∧ Below w.heap.size w w' := by
  have hb : Below w.heap.size w (w.alloc (.cells #[.int .u8 0, .int .i64 0] 127)) := (Below.refl _ _).alloc (Nat.le_refl _) _
  have h1 := h.new hb
  have c1 := h1.ck; have c2 := h1.cp
  clear h h1
  go_enter Tryz.func55, Tryz.ntmps55
  go_wp2
  exact bodyPost_ret (v := .agg #[.int .u8 kd, .int .i64 pk]) (by simp [results, Tryz.results55, go_sem]) rfl ⟨rfl, (Below.refl _ _).alloc (Nat.le_refl _) _⟩
/-- May whoever is at it go on? -/
def goesB (x : Pk) (now : Nat) : Bool := decide (x = pk0) || x.p || (x.o && decide (x.t ≤ now))
end Go.Proofs.YthafnphpcdbnlaaGreatDoor.S4
set_option linter.unusedVariables false
set_option linter.unusedSimpArgs false
namespace Go.Proofs.YthafnphpcdbnlaaGreatDoor.S4
open Go.Proofs.YthafnphpcdbnlaaGreatDoor Go.Proofs.YthafnphpcdbnlaaGreatDoor.S11
open Go.RowKit

theorem eql161 (x y : Pk) (w : World) : (binOp .eql 124 (pkV x) (pkV y)).run Tryz.prog w = .ok (.bool (decide (x = y))) w := by
  obtain ⟨p, a, o, t⟩ := x; obtain ⟨p', a', o', t'⟩ := y
  simp [go_sem, Tryz.underlying124]
  by_cases h1 : p = p' <;> by_cases h2 : a = a' <;> by_cases h3 : o = o' <;> by_cases h4 : t = t' <;> simp [h1, h2, h3, h4, Int.ofNat_inj]
theorem goes_any (x : Pk) (now : Nat) (w : World) : Calls Tryz.prog 72 #[pkV x, .int .u64 (now : Int)] w fun e w' => e = .returned (.bool (goesB x now)) ∧ Below w.heap.size w w' := by
  have he := eql161 x pk0
  have HB : Hid (Below w.heap.size w (w.alloc (.cells #[.bool x.p, .bool x.a, .bool x.o, .int .u64 (x.t : Int)] 124))) := Lib.hid ((Below.refl _ _).alloc (Nat.le_refl _) _)
  obtain ⟨p, a, o, t⟩ := x
  by_cases h0 : (⟨p, a, o, t⟩ : Pk) = pk0
  · have hg : goesB ⟨p, a, o, t⟩ now = true := by simp [goesB, h0]
    rw [hg]
    rw [decide_eq_true h0] at he
    clear h0 hg
    have he' : ∀ W : World, (binOp .eql 124 (.agg #[.bool p, .bool a, .bool o, .int .u64 (t : Int)]) (.agg #[.bool false, .bool false, .bool false, .int .u64 0])).run Tryz.prog W = .ok (.bool true) W := he
    clear he
    go_enter Tryz.func72, Tryz.ntmps72
    go_wp2
    go_ret
    exact ⟨rfl, HB.out⟩
  · have hg : goesB ⟨p, a, o, t⟩ now = (p || (o && decide (t ≤ now))) := by simp [goesB, h0]
    rw [hg]
    rw [decide_eq_false h0] at he
    clear h0 hg
    have he' : ∀ W : World, (binOp .eql 124 (.agg #[.bool p, .bool a, .bool o, .int .u64 (t : Int)]) (.agg #[.bool false, .bool false, .bool false, .int .u64 0])).run Tryz.prog W = .ok (.bool false) W := he
    clear he
    cases p
    · cases o
      · go_enter Tryz.func72, Tryz.ntmps72
        go_wp2
        go_ret
        exact ⟨rfl, HB.out⟩
      · by_cases ht : t ≤ now
        · rw [decide_eq_true ht]
          go_enter Tryz.func72, Tryz.ntmps72
          go_wp2
          go_ret
          exact ⟨by simp [ht], HB.out⟩
        · rw [decide_eq_false ht]
          go_enter Tryz.func72, Tryz.ntmps72
          go_wp2
          go_ret
          exact ⟨by simp [ht], HB.out⟩
    · go_enter Tryz.func72, Tryz.ntmps72
      go_wp2
      go_ret
      exact ⟨rfl, HB.out⟩
theorem pgoes_yes {w : World} {B : Nat} {f : Nat → Pk} {n kd pk : Int} (h : PkAt w B f n kd pk) {i : Nat} (hi : i < 128) (now : Nat) :
    Calls Tryz.prog 33 #[Pt B, .int .i64 (i : Int), .int .u64 (now : Int)] w fun e w' => e = .returned (.bool (goesB (f i) now)) ∧ Below w.heap.size w w' := by
  have HQ := Lib.hid (phas_yes B i hi)
  have HG := Lib.hid (goes_any (f i) now)
  have h1 : (i : Int) < 128 := by omega
  have c0 := h.c0 i hi; have c1 := h.c1 i hi; have c2 := h.c2 i hi; have c3 := h.c3 i hi
  clear h
  generalize f i = x at *
  generalize goesB x now = b at *
  go_enter Tryz.func33, Tryz.ntmps33
  go_wp2_with (first
    | (go_at_call 71; refine (HQ.out _).mono ?_; rintro e w1 ⟨rfl, rfl⟩)
    | (go_at_call 72; refine (HG.out _).mono ?_; rintro e w2 ⟨rfl, hb⟩))
  go_ret
  exact ⟨rfl, hb⟩
theorem pgoes_no (B : Nat) (x : Int) (hx : notK x) (now : Int) (w : World) : Calls Tryz.prog 33 #[Pt B, .int .i64 x, .int .u64 now] w fun e w' => e = .returned (.bool false) ∧ w = w' := by
  have HQ := Lib.hid (phas_no B x hx)
  clear hx
  go_enter Tryz.func33, Tryz.ntmps33
  go_wp2_with (go_at_call 71; refine (HQ.out _).mono ?_; rintro e w1 ⟨rfl, rfl⟩)
  go_ret
  exact ⟨rfl, rfl⟩
end Go.Proofs.YthafnphpcdbnlaaGreatDoor.S4
set_option linter.unusedVariables false
set_option linter.unusedSimpArgs false
namespace Go.Proofs.YthafnphpcdbnlaaGreatDoor.S5
open Go.Proofs.YthafnphpcdbnlaaGreatDoor
open Go.RowKit

/-- Of the blocks that were there only those in S may have turned. -/
structure Turns (S : Nat → Prop) (w w' : World) : Prop where
  os : w'.os = w.os
  tape : w'.tape = w.tape
  output : w'.output = w.output
  size : w.heap.size ≤ w'.heap.size
  block : ∀ k, k < w.heap.size → ¬ S k → w'.heap[k]? = w.heap[k]?
theorem Turns.refl (S : Nat → Prop) (w : World) : Turns S w w := ⟨rfl, rfl, rfl, Nat.le_refl _, fun _ _ _ => rfl⟩
theorem Turns.trans {S T : Nat → Prop} {a b c : World} (h : Turns S a b) (g : Turns T b c) (hs : ∀ k, k < a.heap.size → T k → S k) : Turns S a c :=
  ⟨g.os.trans h.os, g.tape.trans h.tape, g.output.trans h.output, Nat.le_trans h.size g.size, fun k hk hn => (g.block k (Nat.lt_of_lt_of_le hk h.size) (fun ht => hn (hs k hk ht))).trans (h.block k hk hn)⟩
theorem Turns.mono {S T : Nat → Prop} {a b : World} (h : Turns S a b) (hs : ∀ k, k < a.heap.size → S k → T k) : Turns T a b :=
  (Turns.refl T a).trans h hs
theorem Turns.of_below {S : Nat → Prop} {a b : World} (h : Below a.heap.size a b) : Turns S a b :=
  ⟨h.os, h.tape, h.output, h.size, fun k hk _ => h.block k hk⟩
theorem Turns.below {S : Nat → Prop} {a b : World} {B : Nat} (h : Turns S a b) (hB : B ≤ a.heap.size) (hs : ∀ k, k < B → ¬ S k) : Below B a b :=
  ⟨h.os, h.tape, h.output, h.size, fun k hk => h.block k (by omega) (hs k hk)⟩
theorem Turns.alloc {S : Nat → Prop} {a b : World} (h : Turns S a b) (o : Obj) : Turns S a (b.alloc o) :=
  h.trans (T := fun _ => False) ⟨rfl, rfl, rfl, by simp, fun k hk _ => Below.heap_alloc _ _ _ hk⟩ (fun _ _ h => h.elim)
theorem Turns.drew {S : Nat → Prop} {a b : World} (h : Turns S a b) : Turns S a b.drew :=
  ⟨h.os, h.tape, h.output, h.size, h.block⟩
theorem Turns.setCell {S : Nat → Prop} {a b : World} (h : Turns S a b) (p : Addr) (u : Value) (hp : S p.block) : Turns S a (b.setCell p u) :=
  h.trans (T := fun k => k = p.block) ⟨rfl, rfl, rfl, by simp [World.setCell], fun k _ hn => Below.heap_setCell _ _ _ _ hn⟩ (fun k _ e => e ▸ hp)
theorem Turns.setCells {S : Nat → Prop} {a b : World} (h : Turns S a b) (g : Nat) (hg : S g) : ∀ (vs : List Value) (o : Nat), Turns S a (b.setCells g o vs)
  | [], _ => h
  | v :: r, o => by
    have h1 := h.setCell ⟨g, o, none⟩ v hg
    exact Turns.setCells h1 g hg r (o + 1)
theorem Turns.cell {S : Nat → Prop} {a b : World} (h : Turns S a b) {g o : Nat} (hg : g < a.heap.size) (hn : ¬ S g) : b.cell? ⟨g, o, none⟩ = a.cell? ⟨g, o, none⟩ :=
  World.cell?_of_block (a := ⟨g, o, none⟩) (h.block g hg hn)
theorem Turns.frozen {S : Nat → Prop} {a b : World} (h : Turns S a b) {g o : Nat} (hg : g < a.heap.size) (hn : ¬ S g) : b.frozen? ⟨g, o, none⟩ = a.frozen? ⟨g, o, none⟩ :=
  World.frozen?_of_block (a := ⟨g, o, none⟩) (h.block g hg hn)

abbrev Pt (B : Nat) : Value := .pointer (some ⟨B, 0, none⟩)
def iv (d : Nat) : Value := .int .i64 (d : Int)
/-- All links of a set: 192 numbers, three a thread (one more than they say). -/
abbrev Lk := Nat → Nat
structure Has (w : World) (B : Nat) (S : Lk) : Prop where
  lt : B < w.heap.size
  cell : ∀ i, i < 192 → w.cell? ⟨B, i, none⟩ = some (.int .i64 (S i : Nat))
  froz : ∀ i, i < 192 → w.frozen? ⟨B, i, none⟩ = false
  le : ∀ i, S i ≤ 64
theorem Has.kept {T : Nat → Prop} {w w' : World} {B : Nat} {S : Lk} (h : Has w B S) (t : Turns T w w') (hB : ¬ T B) : Has w' B S :=
  ⟨Nat.lt_of_lt_of_le h.lt t.size, fun i hi => (t.cell h.lt hB).trans (h.cell i hi), fun i hi => (t.frozen h.lt hB).trans (h.froz i hi), h.le⟩
theorem Has.new {w w' : World} {B : Nat} {S : Lk} (h : Has w B S) (b : Below w.heap.size w w') : Has w' B S :=
  h.kept (Turns.of_below (S := fun _ => False) b) (fun e => e)
theorem Has.drew {w : World} {B : Nat} {S : Lk} (h : Has w B S) : Has w.drew B S := ⟨h.lt, h.cell, h.froz, h.le⟩
def upd (S : Lk) (i v : Nat) : Lk := fun j => if j = i then v else S j
theorem Has.set {w : World} {B : Nat} {S : Lk} (h : Has w B S) {i v : Nat} (hi : i < 192) (hv : v ≤ 64) : Has (w.setCell ⟨B, i, none⟩ (.int .i64 (v : Nat))) B (upd S i v) := by
  refine ⟨by simpa [World.setCell] using h.lt, fun j hj => ?_, fun j hj => by rw [World.frozen?_setCell]; exact h.froz j hj, fun j => ?_⟩
  · unfold upd
    by_cases e : j = i
    · subst e
      rw [if_pos rfl, World.cell?_setCell_same _ _ _ (h.cell j hj)]
    · rw [if_neg e, World.cell?_setCell_other _ _ _ _ (by intro e'; injection e' with _ e2; exact e e2.symm)]
      exact h.cell j hj
  · unfold upd
    split
    · exact hv
    · exact h.le j

theorem has_yes (B t : Nat) (ht : t < 64) (w : World) : Calls Tryz.prog 74 #[Pt B, .int .i64 (t : Int)] w fun e w' => e = .returned (.bool true) ∧ w = w' := by
  have h1 : decide ((0 : Int) ≤ (t : Int)) = true := by simp
  have h2 : decide ((t : Int) < 64) = true := by simp; omega
  clear ht
  go_enter Tryz.func74, Tryz.ntmps74
  go_wp2
  go_ret
  exact ⟨rfl, rfl⟩
def notT (x : Int) : Prop := ¬ (0 ≤ x ∧ x < 64)
theorem has_no (B : Nat) (x : Int) (hx : notT x) (w : World) : Calls Tryz.prog 74 #[Pt B, .int .i64 x] w fun e w' => e = .returned (.bool false) ∧ w = w' := by
  unfold notT at hx
  by_cases h : 0 ≤ x
  · have h1 : decide ((0 : Int) ≤ x) = true := by simpa using h
    have h2 : decide (x < 64) = false := by simp; omega
    clear hx h
    go_enter Tryz.func74, Tryz.ntmps74
    go_wp2
    go_ret
    exact ⟨rfl, rfl⟩
  · have h1 : decide ((0 : Int) ≤ x) = false := by simpa using h
    clear hx h
    go_enter Tryz.func74, Tryz.ntmps74
    go_wp2
    go_ret
    exact ⟨rfl, rfl⟩
theorem has_nil (x : Int) (w : World) : Calls Tryz.prog 74 #[.pointer none, .int .i64 x] w fun e w' => e = .returned (.bool false) ∧ w = w' := by
  go_enter Tryz.func74, Tryz.ntmps74
  go_wp2
  go_ret
  exact ⟨rfl, rfl⟩
theorem is_yes (t : Nat) (ht : t < 64) (w : World) : Calls Tryz.prog 73 #[.int .i64 (t : Int)] w fun e w' => e = .returned (.bool true) ∧ w = w' := by
  have h1 : decide ((0 : Int) ≤ (t : Int)) = true := by simp
  have h2 : decide ((t : Int) ≤ 63) = true := by simp; omega
  clear ht
  go_enter Tryz.func73, Tryz.ntmps73
  go_wp2
  go_ret
  exact ⟨rfl, rfl⟩
theorem is_no (x : Int) (hx : notT x) (w : World) : Calls Tryz.prog 73 #[.int .i64 x] w fun e w' => e = .returned (.bool false) ∧ w = w' := by
  unfold notT at hx
  by_cases h : 0 ≤ x
  · have h1 : decide ((0 : Int) ≤ x) = true := by simpa using h
    have h2 : decide (x ≤ 63) = false := by simp; omega
    clear hx h
    go_enter Tryz.func73, Tryz.ntmps73
    go_wp2
    go_ret
    exact ⟨rfl, rfl⟩
  · have h1 : decide ((0 : Int) ≤ x) = false := by simpa using h
    clear hx h
    go_enter Tryz.func73, Tryz.ntmps73
    go_wp2
    go_ret
    exact ⟨rfl, rfl⟩
end Go.Proofs.YthafnphpcdbnlaaGreatDoor.S5
