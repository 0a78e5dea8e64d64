/- Texts of this seat, one behind the other. -/
import Derived.Test.YthafnphpcdbnlaaGreatE1
import Derived.Test.YthafnphpcdbnlaaGreatE5
import Derived.Test.YthafnphpcdbnlaaGreatE6
import Derived.Test.YthafnphpcdbnlaaGreatE9
import Derived.Test.YthafnphpcdbnlaaGreatE10
import Derived.Test.YthafnphpcdbnlaaGreatE11
set_option linter.unusedVariables false
set_option linter.unusedSimpArgs false
namespace Go.Proofs.YthafnphpcdbnlaaGreat.S12
open Go.Proofs.YthafnphpcdbnlaaGreat Go.Proofs.YthafnphpcdbnlaaGreat.S11
open Go.RowKit

/-- What stands in the cells of a new world. -/
def L02 : S2.LL := S2.newL (fun _ => 0) (fun _ => 2) 1
def cellsP (B : Nat) (M : Option Nat) (L : S2.LL) (n k a was is : Nat) : Part where
  ok w := S2.CellsAt w B M L n k a was is
  fp k := S2.Fp B M k
  lt w h k e := h.lt k e
  kept S w w' h t hs := h.kept (S := S) ⟨t.os, t.tape, t.output, t.size, t.block⟩ hs
def clockP (base B T most : Nat) (s : Value) (D : List Nat) : Part where
  ok w := S3.ClockAt w base B T most s D
  fp k := k = B ∨ s.ownBlock = some k
  lt w h k e := by
    rcases e with rfl | e
    · exact h.lt
    · exact (h.own.lt k e).2
  kept S w w' h t hs := h.kept (S := S) ⟨t.os, t.tape, t.output, t.size, t.block⟩ (hs B (.inl rfl)) (fun g e => hs g (.inr e))
def permitsP (B : Nat) (f : Nat → S4.Pk) (n kd pk : Int) : Part where
  ok w := S4.PkAt w B f n kd pk
  fp k := k = B
  lt w h k e := by rw [e]; exact h.lt
  kept S w w' h t hs := h.kept (T := S) t (hs B rfl)
def linksP (B : Nat) (S : S5.Lk) : Part where
  ok w := S5.Has w B S
  fp k := k = B
  lt w h k e := by rw [e]; exact h.lt
  kept S w w' h t hs := h.kept (T := S) ⟨t.os, t.tape, t.output, t.size, t.block⟩ (hs B rfl)
def tablesP (base : Nat) (own : Nat → Option S10.Role) (s : Value) (n : Nat) (M : Int → List S10.Bk) : Part where
  ok w := S10.St w base own s n M
  fp k := S10.Mine own k
  lt w h k e := (h.fp e).2
  kept S w w' h t hs := h.keep (S := S) ⟨t.os, t.tape, t.output, t.size, t.block⟩ hs
def notesP (T : Nat) (K : IntKind) (base p : Nat) (s : Value) (D : List S11.Nt) : Part where
  ok w := S11.LAt T K w base p s D
  fp k := k = p ∨ s.ownBlock = some k
  lt w h k e := by
    rcases e with rfl | e
    · exact h.lt
    · exact (h.own.lt k e).2
  kept S w w' h t hs := h.kept (S := S) t (hs p (.inl rfl)) (fun g e => hs g (.inr e))
section
variable {w w' : World} {base b0 i : Nat} {l : List Part}
theorem t_cells {B : Nat} {M : Option Nat} {L L' : S2.LL} {n k a was is n' k' a' was' is' : Nat} (h : Parts w base l) (hi : l[i]? = some (cellsP B M L n k a was is)) (hl : S2.Left w w' B M L' n' k' a' was' is') :
    ∃ M', Parts w' base (l.set i (cellsP B M' L' n' k' a' was' is')) ∧ Below base w w' := by
  obtain ⟨M', c, sm, t⟩ := hl
  refine ⟨M', h.turn hi (cellsP B M' L' n' k' a' was' is') c ⟨t.os, t.tape, t.output, t.size, t.block⟩ (fun k e => ?_)⟩
  rcases e with e | e
  · exact .inl (.inl e)
  · rcases sm k e with e | e
    · exact .inl (.inr e)
    · exact .inr e
theorem t_clock {B T most T' most' : Nat} {s s' : Value} {D D' : List Nat} (h : Parts w base l) (hi : l[i]? = some (clockP b0 B T most s D)) (c : S3.ClockAt w' b0 B T' most' s' D') (ho : ∀ g, s'.ownBlock = some g → s.ownBlock = some g ∨ w.heap.size ≤ g) (t : S3.Turns (fun k => k = B ∨ s.ownBlock = some k) w w') :
    Parts w' base (l.set i (clockP b0 B T' most' s' D')) ∧ Below base w w' := by
  refine h.turn hi (clockP b0 B T' most' s' D') c ⟨t.os, t.tape, t.output, t.size, t.block⟩ (fun k e => ?_)
  rcases e with e | e
  · exact .inl (.inl e)
  · rcases ho k e with e | e
    · exact .inl (.inr e)
    · exact .inr e
theorem t_permits {B : Nat} {f f' : Nat → S4.Pk} {n kd pk n' kd' pk' : Int} (h : Parts w base l) (hi : l[i]? = some (permitsP B f n kd pk)) (hp : S4.PSets w w' B f' n' kd' pk') :
    Parts w' base (l.set i (permitsP B f' n' kd' pk')) ∧ Below base w w' :=
  h.turn hi (permitsP B f' n' kd' pk') hp.1 hp.2.1 (fun k e => .inl e)
theorem t_links {B : Nat} {S S' : S5.Lk} (h : Parts w base l) (hi : l[i]? = some (linksP B S)) (hp : S5.Sets w w' B S') :
    Parts w' base (l.set i (linksP B S')) ∧ Below base w w' := by
  obtain ⟨c, t⟩ := hp
  exact h.turn hi (linksP B S') c ⟨t.os, t.tape, t.output, t.size, t.block⟩ (fun k e => .inl e)
theorem t_tables {own own' : Nat → Option S10.Role} {s : Value} {n n' : Nat} {M M' : Int → List S10.Bk} (h : Parts w base l) (hi : l[i]? = some (tablesP b0 own s n M)) (c : S10.St w' b0 own' s n' M') (t : S10.Turns (S10.Mine own) w w') (f : S10.Fresh own own' w) :
    Parts w' base (l.set i (tablesP b0 own' s n' M')) ∧ Below base w w' :=
  h.turn hi (tablesP b0 own' s n' M') c ⟨t.os, t.tape, t.output, t.size, t.block⟩ (fun k ⟨r, e⟩ => f k r e)
end
end Go.Proofs.YthafnphpcdbnlaaGreat.S12
