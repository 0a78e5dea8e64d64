/- Texts of this seat, one behind the other. -/
import Derived.Test.YtdfnobdladiicaaMLawTime15
import Derived.StillTailTactics
import Derived.Deep.RegionHeld3
import Derived.Deep.QuietTactic
import Derived.BigQuiet
namespace Go.Proofs.Ytdfnobdladiicaa.S13
open Go.Proofs.Ytdfnobdladiicaa Go.Proofs.Ytdfnobdladiicaa.S11 Go.Proofs.Ytdfnobdladiicaa.S12
open Go.RowKit

/-- A lock's line, its thread, its word's address; what stood; spins that are left. -/
structure Lk where
  ln : Nat
  t : Nat
  a : Nat
  st : Nat
  sp : Int
def lk0 : Lk := ⟨0, 0, 0, 0, 0⟩
def lk1 (t a : Nat) : Lk := ⟨1, t, a, 0, 0⟩
abbrev askV (t a : Nat) : Value := .agg #[.int .i64 (t : Int), .int .u32 (a : Int)]
/-- What comes next. -/
def nxV (t a : Nat) : Nat → Value
  | 1 => .func (.func 18) #[askV t a] #[]
  | 2 => .func (.func 48) #[askV t a] #[]
  | 3 => .func (.func 50) #[askV t a] #[]
  | 4 => .func (.func 51) #[askV t a] #[]
  | 5 => .func (.func 55) #[askV t a] #[]
  | 6 => .func (.func 58) #[askV t a] #[]
  | _ => .nilFunc
def Lk.cs (K : Lk) : Array Value := #[nxV K.t K.a K.ln, .int .u64 (K.st : Int), .int .i64 K.sp, .bool (decide (K.ln = 6))]
def lockP (B : Nat) (K : Lk) : Part := blockP B (.cells K.cs 65)
/-- What a word that stood asks for. -/
def Lk.turn (K : Lk) (u : Nat) : Lk :=
  if S1.bitB u 0 = false then { K with st := u, ln := 2 }
  else if S1.headN u = -1 then (if 0 < K.sp then { K with st := u, ln := 3, sp := K.sp - 1 } else { K with st := u, ln := 4 })
  else { K with st := u, ln := 4 }
/-- A lock beside the program's world. -/
structure Wl (w0 w : World) (base WB : Nat) (M : Sd) (r : List Part) (j B : Nat) (K : Lk) (X : Wm) : Prop where
  pg : Pg w0 w base WB M (r.set j (lockP B K)) X
  hj : j < r.length
section
variable {w0 w w' : World} {base WB : Nat} {M : Sd} {r : List Part} {j B : Nat} {K : Lk} {X : Wm}
theorem Wl.new (h : Wl w0 w base WB M r j B K X) (b : Below w.heap.size w w') : Wl w0 w' base WB M r j B K X := ⟨h.pg.new b, h.hj⟩
theorem Wl.part (h : Wl w0 w base WB M r j B K X) : (r.set j (lockP B K))[j]? = some (lockP B K) := List.getElem?_set_self h.hj
theorem Wl.blk (h : Wl w0 w base WB M r j B K X) : w.heap[B]? = some (.cells K.cs 65 (0, 0)) := h.pg.ps.ok _ _ (h.pg.part h.part)
theorem Wl.b0 (h : Wl w0 w base WB M r j B K X) : w.cell? ⟨B, 0, none⟩ = some (nxV K.t K.a K.ln) := cell_row h.blk 0
theorem Wl.b1 (h : Wl w0 w base WB M r j B K X) : w.cell? ⟨B, 1, none⟩ = some (.int .u64 (K.st : Int)) := cell_row h.blk 1
theorem Wl.b2 (h : Wl w0 w base WB M r j B K X) : w.cell? ⟨B, 2, none⟩ = some (.int .i64 K.sp) := cell_row h.blk 2
theorem Wl.b3 (h : Wl w0 w base WB M r j B K X) : w.cell? ⟨B, 3, none⟩ = some (.bool (decide (K.ln = 6))) := cell_row h.blk 3
theorem Wl.fz (h : Wl w0 w base WB M r j B K X) (i : Nat) : w.frozen? ⟨B, i, none⟩ = false := froz_row h.blk i
/-- The lock turns. -/
theorem Wl.put (h : Wl w0 w base WB M r j B K X) (K' : Lk) (hq : w'.heap[B]? = some (.cells K'.cs 65 (0, 0))) (t : Turns (fun k => k = B) w w') : Wl w0 w' base WB M r j B K' X := by
  have := h.pg.turn h.part (lockP B K') hq t (fun k e => .inl e)
  rw [List.set_set] at this
  exact ⟨this, h.hj⟩
/-- The lock's block turns by a store. -/
theorem set_blk {cs : Array Value} {T : TypeId} (hq : w.heap[B]? = some (.cells cs T (0, 0))) (i : Nat) (v : Value) (cs' : Array Value) (e : cs.setIfInBounds i v = cs') : (w.setCell ⟨B, i, none⟩ v).heap[B]? = some (.cells cs' T (0, 0)) := by
  subst e
  simp [World.setCell, Array.getElem?_modify, hq]
end
end Go.Proofs.Ytdfnobdladiicaa.S13
