/- Texts of this seat, one behind the other. -/
import Derived.Test.YtjppncglkijbjaaGreatDoorB16
set_option linter.unusedVariables false
set_option linter.unusedSimpArgs false
namespace Go.Proofs.YtjppncglkijbjaaGreatDoor.S12
open Go.Proofs.YtjppncglkijbjaaGreatDoor Go.Proofs.YtjppncglkijbjaaGreatDoor.S11
open Go.RowKit

def Sd.call (M : Sd) (k p : Int) (f : Nat → S4.Pk) : Sd := { M with pf := f, pn := M.pn + 1, pk := k, pp := p }
def Sd.prep (M : Sd) (i : Nat) : Sd := M.call 1 (i : Int) (S4.updP M.pf i S4.pk0)
def Sd.park (M : Sd) (i : Nat) : Sd := M.call 2 (i : Int) (S4.updP M.pf i (S4.parkK (M.pf i)))
def Sd.unpark (M : Sd) (i : Nat) : Sd := M.call 4 (i : Int) (S4.updP M.pf i { M.pf i with p := true })
def Sd.link (M : Sd) (S : S5.Lk) : Sd := { M with lk := S }
structure Pg (w0 w : World) (base WB : Nat) (M : Sd) (r : List Part) (X : Wm) : Prop where
  ps : Parts w base (X.parts ++ r)
  wB : X.wB = WB
  xm : X.sd = M
  bl : Below base w0 w
section
variable {w0 w w' : World} {base WB : Nat} {M : Sd} {r : List Part} {X : Wm}
theorem Pg.pw (h : Pg w0 w base WB M r X) : PW w base X := Parts.left h.ps
theorem Pg.new (h : Pg w0 w base WB M r X) (b : Below w.heap.size w w') : Pg w0 w' base WB M r X := ⟨h.ps.new b, h.wB, h.xm, h.bl.trans (b.mono h.ps.size)⟩
theorem Pg.size (h : Pg w0 w base WB M r X) : base ≤ w.heap.size := h.ps.size
theorem Pg.part (h : Pg w0 w base WB M r X) {j : Nat} {p : Part} (hj : r[j]? = some p) : (X.parts ++ r)[7 + j]? = some p := by
  rw [List.getElem?_append_right (by show 7 ≤ 7 + j; omega)]
  show r[7 + j - 7]? = _
  rw [Nat.add_sub_cancel_left]; exact hj
theorem Pg.turn (h : Pg w0 w base WB M r X) {j : Nat} {p : Part} (hj : r[j]? = some p) (q : Part) (hq : q.ok w') (t : Turns p.fp w w') (hf : ∀ k, q.fp k → p.fp k ∨ w.heap.size ≤ k) : Pg w0 w' base WB M (r.set j q) X := by
  obtain ⟨hp, hb⟩ := h.ps.turn (h.part hj) q hq t hf
  refine ⟨?_, h.wB, h.xm, h.bl.trans hb⟩
  rw [List.set_append_right _ _ (by show 7 ≤ 7 + j; omega)] at hp
  have e : 7 + j - X.parts.length = j := by show 7 + j - 7 = j; omega
  rwa [e] at hp
theorem Pg.left (h : Pg w0 w base WB M r X) {k a y : Nat} (l : S2.Left w w' X.cB X.cM (S2.putL X.L a (S2.bring a y)) (X.n + 1) k a (S2.look X.L a) (S2.bring a y)) :
    ∃ X', Pg w0 w' base WB (M.acc k a y) r X' ∧ X'.cB = X.cB := by
  obtain ⟨M', hp, hb⟩ := t_cells (i := 0) h.ps rfl l
  refine ⟨{ X with cM := M', L := S2.putL X.L a (S2.bring a y), n := X.n + 1, k := k, a := a, was := S2.look X.L a, is := S2.bring a y }, ⟨hp, h.wB, ?_, h.bl.trans hb⟩, rfl⟩
  rw [← h.xm]; rfl
theorem Pg.perm (h : Pg w0 w base WB M r X) {k p : Int} {f : Nat → S4.Pk} (l : S4.PSets w w' X.pB f ((X.pn : Int) + 1) k p) : ∃ X', Pg w0 w' base WB (M.call k p f) r X' ∧ X'.pB = X.pB := by
  obtain ⟨hp, hb⟩ := t_permits (i := 2) h.ps rfl l
  refine ⟨{ X with pf := f, pn := X.pn + 1, pk := k, pp := p }, ⟨hp, h.wB, ?_, h.bl.trans hb⟩, rfl⟩
  rw [← h.xm]; rfl
theorem Pg.links (h : Pg w0 w base WB M r X) {S : S5.Lk} (l : S5.Sets w w' X.lB S) : ∃ X', Pg w0 w' base WB (M.link S) r X' ∧ X'.lB = X.lB := by
  obtain ⟨hp, hb⟩ := t_links (i := 3) h.ps rfl l
  refine ⟨{ X with lk := S }, ⟨hp, h.wB, ?_, h.bl.trans hb⟩, rfl⟩
  rw [← h.xm]; rfl
theorem Pg.c (h : Pg w0 w base WB M r X) : w.cell? ⟨WB, 0, none⟩ = some (Pw X.cB) ∧ w.cell? ⟨WB, 2, none⟩ = some (Pw X.pB) ∧ w.cell? ⟨WB, 3, none⟩ = some (Pw X.lB) ∧ w.cell? ⟨WB, 6, none⟩ = some (.int .i64 M.sp) := by
  rw [← h.wB, ← h.xm]
  exact ⟨h.pw.c0, h.pw.c2, h.pw.c3, h.pw.c6⟩
theorem Pg.cas (h : Pg w0 w base WB M r X) {a u v : Nat} (ha : a < 4294967296) (hv : v < 18446744073709551616) (hn : M.n ≤ 1000000000) :
    Calls Tryz.prog 226 #[Pw X.cB, .int .u32 a, .int .u64 u, .int .u64 v] w fun e w' => e = .returned (.tuple #[.int .u64 (S2.look M.L a : Nat), .bool (decide (S2.look M.L a = u))]) ∧ ∃ X', Pg w0 w' base WB (M.acc 3 a (S2.casV (S2.look M.L a) u v)) r X' ∧ X'.cB = X.cB := by
  have e : X.L = M.L := congrArg Sd.L h.xm
  have e2 : X.n = M.n := congrArg Sd.n h.xm
  rw [← e]
  refine (S2.cas_any w X.cB X.cM X.L X.n X.k X.a X.was X.is a u v h.pw.cells ha hv (by omega)).mono ?_
  rintro e w' ⟨rfl, hl⟩
  exact ⟨rfl, h.left hl⟩
theorem Pg.load (h : Pg w0 w base WB M r X) {a : Nat} (ha : a < 4294967296) (hn : M.n ≤ 1000000000) :
    Calls Tryz.prog 201 #[Pw X.cB, .int .u32 a] w fun e w' => e = .returned (.int .u64 (S2.look M.L a : Nat)) ∧ ∃ X', Pg w0 w' base WB (M.acc 1 a (S2.look M.L a)) r X' ∧ X'.cB = X.cB := by
  have e : X.L = M.L := congrArg Sd.L h.xm
  have e2 : X.n = M.n := congrArg Sd.n h.xm
  rw [← e]
  refine (S2.load_any w X.cB X.cM X.L X.n X.k X.a X.was X.is a h.pw.cells ha (by omega)).mono ?_
  rintro e w' ⟨rfl, hl⟩
  exact ⟨rfl, h.left hl⟩
theorem Pg.store (h : Pg w0 w base WB M r X) {a v : Nat} (ha : a < 4294967296) (hv : v < 18446744073709551616) (hn : M.n ≤ 1000000000) :
    Calls Tryz.prog 99 #[Pw X.cB, .int .u32 a, .int .u64 v] w fun e w' => e = .returned (.int .u64 (S2.look M.L a : Nat)) ∧ ∃ X', Pg w0 w' base WB (M.acc 2 a v) r X' ∧ X'.cB = X.cB := by
  have e : X.L = M.L := congrArg Sd.L h.xm
  have e2 : X.n = M.n := congrArg Sd.n h.xm
  rw [← e]
  refine (S2.store_any w X.cB X.cM X.L X.n X.k X.a X.was X.is a v h.pw.cells ha hv (by omega)).mono ?_
  rintro e w' ⟨rfl, hl⟩
  exact ⟨rfl, h.left hl⟩
theorem Pg.prep (h : Pg w0 w base WB M r X) (hn : M.pn ≤ 1000000000) {i : Nat} (hi : i < 128) :
    Calls Tryz.prog 182 #[Pw X.pB, .int .i64 (i : Int)] w fun e w' => e = .returned (.tuple #[]) ∧ ∃ X', Pg w0 w' base WB (M.prep i) r X' ∧ X'.pB = X.pB := by
  have e2 : X.pn = M.pn := congrArg Sd.pn h.xm
  refine (S4.prepare_yes h.pw.permits (by omega) hi).mono ?_
  rintro e w' ⟨rfl, hl⟩
  rw [show X.pf = M.pf from congrArg Sd.pf h.xm] at hl
  exact ⟨rfl, h.perm hl⟩
theorem Pg.park (h : Pg w0 w base WB M r X) (hn : M.pn ≤ 1000000000) {i : Nat} (hi : i < 128) :
    Calls Tryz.prog 282 #[Pw X.pB, .int .i64 (i : Int)] w fun e w' => e = .returned (.int .u8 (if (M.pf i).p then 1 else 0)) ∧ ∃ X', Pg w0 w' base WB (M.park i) r X' ∧ X'.pB = X.pB := by
  have e2 : X.pn = M.pn := congrArg Sd.pn h.xm
  refine (S4.park_yes h.pw.permits (by omega) hi).mono ?_
  rintro e w' ⟨rfl, hl⟩
  rw [show X.pf = M.pf from congrArg Sd.pf h.xm] at hl ⊢
  exact ⟨rfl, h.perm hl⟩
theorem Pg.unpark (h : Pg w0 w base WB M r X) (hn : M.pn ≤ 1000000000) {i : Nat} (hi : i < 128) :
    Calls Tryz.prog 150 #[Pw X.pB, .int .i64 (i : Int)] w fun e w' => e = .returned (.tuple #[]) ∧ ∃ X', Pg w0 w' base WB (M.unpark i) r X' ∧ X'.pB = X.pB := by
  have e2 : X.pn = M.pn := congrArg Sd.pn h.xm
  refine (S4.unpark_yes h.pw.permits (by omega) hi).mono ?_
  rintro e w' ⟨rfl, hl⟩
  rw [show X.pf = M.pf from congrArg Sd.pf h.xm] at hl
  exact ⟨rfl, h.perm hl⟩
theorem Pg.push (h : Pg w0 w base WB M r X) {x y : Int} {t hd : Option Nat} (hx : S5.Num x t) (hy : S5.Num y hd) :
    Calls Tryz.prog 267 #[Pw X.lB, .int .i64 x, .int .i64 y] w fun e w' => e = .returned (.tuple #[]) ∧ ∃ X', Pg w0 w' base WB (M.link (S5.pushS M.lk t hd)) r X' ∧ X'.lB = X.lB := by
  refine (S5.push_any h.pw.links hx hy).mono ?_
  rintro e w' ⟨rfl, hl⟩
  rw [show X.lk = M.lk from congrArg Sd.lk h.xm] at hl
  exact ⟨rfl, h.links hl⟩
end
theorem word_any (t : Nat) (ht : t < 64) (w : World) : Calls Tryz.prog 36 #[.int .i64 (t : Int)] w fun e w' => e = .returned (.int .i64 ((2 * t + 1 : Nat) : Int)) ∧ w = w' := by
  have hof : ∀ W, Calls Tryz.prog 70 #[.int .i64 (t : Int), .int .i64 1] W fun e w' => e = .returned (.int .i64 ((2 * t + 1 : Nat) : Int)) ∧ W = w' := fun W => by
    have h1 : decide ((t : Int) < 0) = false := by simp
    have h2 : decide ((64 : Int) ≤ (t : Int)) = false := by simp; omega
    have h3 : wrap64 (wrap64 (2 * (t : Int)) + 1) = ((2 * t + 1 : Nat) : Int) := by unfold wrap64; omega
    have h4 : wrap64 (2 * (t : Int)) = 2 * (t : Int) := by unfold wrap64; omega
    have h5 : wrap64 (2 * (t : Int) + 1) = ((2 * t + 1 : Nat) : Int) := by unfold wrap64; omega
    go_enter Tryz.func70, Tryz.ntmps70
    go_wp2_with fail
    go_ret
    exact ⟨rfl, rfl⟩
  have HO := Lib.hid hof
  clear hof ht
  go_enter Tryz.func36, Tryz.ntmps36
  go_wp2_with (go_at_call 70; refine (HO.out _).mono ?_; rintro e w1 ⟨rfl, rfl⟩)
  go_ret
  exact ⟨rfl, rfl⟩
end Go.Proofs.YtjppncglkijbjaaGreatDoor.S12
namespace Go.Proofs.YtjppncglkijbjaaGreatDoor.S13
open Go.Proofs.YtjppncglkijbjaaGreatDoor Go.Proofs.YtjppncglkijbjaaGreatDoor.S11 Go.Proofs.YtjppncglkijbjaaGreatDoor.S12
open Go.RowKit

structure Lk where
  ln : Nat
  t : Nat
  a : Nat
  st : Nat
  sp : Int
def lk0 : Lk := ⟨0, 0, 0, 0, 0⟩
def lk1 (t a : Nat) : Lk := ⟨1, t, a, 0, 0⟩
abbrev askV (t a : Nat) : Value := .agg #[.int .i64 (t : Int), .int .u32 (a : Int)]
def nxV (t a : Nat) : Nat → Value
  | 1 => .func (.func 296) #[askV t a] #[]
  | 2 => .func (.func 300) #[askV t a] #[]
  | 3 => .func (.func 302) #[askV t a] #[]
  | 4 => .func (.func 303) #[askV t a] #[]
  | 5 => .func (.func 304) #[askV t a] #[]
  | 6 => .func (.func 305) #[askV t a] #[]
  | _ => .nilFunc
def Lk.cs (K : Lk) : Array Value := #[nxV K.t K.a K.ln, .int .u64 (K.st : Int), .int .i64 K.sp, .bool (decide (K.ln = 6))]
def lockP (B : Nat) (K : Lk) : Part := blockP B (.cells K.cs 431)
def Lk.turn (K : Lk) (u : Nat) : Lk :=
  if S1.bitB u 0 = false then { K with st := u, ln := 2 }
  else if S1.headN u = -1 then (if 0 < K.sp then { K with st := u, ln := 3, sp := K.sp - 1 } else { K with st := u, ln := 4 })
  else { K with st := u, ln := 4 }
structure Wl (w0 w : World) (base WB : Nat) (M : Sd) (r : List Part) (j B : Nat) (K : Lk) (X : Wm) : Prop where
  pg : Pg w0 w base WB M (r.set j (lockP B K)) X
  hj : j < r.length
section
variable {w0 w w' : World} {base WB : Nat} {M : Sd} {r : List Part} {j B : Nat} {K : Lk} {X : Wm}
theorem Wl.new (h : Wl w0 w base WB M r j B K X) (b : Below w.heap.size w w') : Wl w0 w' base WB M r j B K X := ⟨h.pg.new b, h.hj⟩
theorem Wl.part (h : Wl w0 w base WB M r j B K X) : (r.set j (lockP B K))[j]? = some (lockP B K) := List.getElem?_set_self h.hj
theorem Wl.blk (h : Wl w0 w base WB M r j B K X) : w.heap[B]? = some (.cells K.cs 431 (0, 0)) := h.pg.ps.ok _ _ (h.pg.part h.part)
theorem Wl.b0 (h : Wl w0 w base WB M r j B K X) : w.cell? ⟨B, 0, none⟩ = some (nxV K.t K.a K.ln) := cell_row h.blk 0
theorem Wl.b1 (h : Wl w0 w base WB M r j B K X) : w.cell? ⟨B, 1, none⟩ = some (.int .u64 (K.st : Int)) := cell_row h.blk 1
theorem Wl.b2 (h : Wl w0 w base WB M r j B K X) : w.cell? ⟨B, 2, none⟩ = some (.int .i64 K.sp) := cell_row h.blk 2
theorem Wl.b3 (h : Wl w0 w base WB M r j B K X) : w.cell? ⟨B, 3, none⟩ = some (.bool (decide (K.ln = 6))) := cell_row h.blk 3
theorem Wl.fz (h : Wl w0 w base WB M r j B K X) (i : Nat) : w.frozen? ⟨B, i, none⟩ = false := froz_row h.blk i
theorem Wl.put (h : Wl w0 w base WB M r j B K X) (K' : Lk) (hq : w'.heap[B]? = some (.cells K'.cs 431 (0, 0))) (t : Turns (fun k => k = B) w w') : Wl w0 w' base WB M r j B K' X := by
  have := h.pg.turn h.part (lockP B K') hq t (fun k e => .inl e)
  rw [List.set_set] at this
  exact ⟨this, h.hj⟩
theorem set_blk {cs : Array Value} {T : TypeId} (hq : w.heap[B]? = some (.cells cs T (0, 0))) (i : Nat) (v : Value) (cs' : Array Value) (e : cs.setIfInBounds i v = cs') : (w.setCell ⟨B, i, none⟩ v).heap[B]? = some (.cells cs' T (0, 0)) := by
  subst e
  simp [World.setCell, Array.getElem?_modify, hq]
end
end Go.Proofs.YtjppncglkijbjaaGreatDoor.S13
