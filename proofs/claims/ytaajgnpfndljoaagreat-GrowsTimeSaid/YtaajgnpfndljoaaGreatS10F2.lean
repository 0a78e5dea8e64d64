/- Queues of a call's own: small lemmas. -/
import Derived.Test.YtaajgnpfndljoaaGreatS10R1
set_option linter.unusedVariables false
set_option linter.unusedSimpArgs false
namespace Go.Proofs.YtaajgnpfndljoaaGreat.S10
open Go.Proofs.YtaajgnpfndljoaaGreat
open Go.RowKit

theorem cb_of {w : World} {base : Nat} {s : Value} {D : List Ent} (h : RowE w base s D) (hd : s = .slice none 0 0 ∨ 0 < D.length) : CB w s := by
  rcases hd with rfl | hd
  · exact cb_none w
  · exact h.cb hd (by omega)
theorem Tab.one {w : World} {base : Nat} {s : Value} {ss : List Value} {Ls : List (List Ent)} (h : Tab w base s ss Ls) : ∀ u ∈ ss, u.oneCell' = true := fun u hu => by
  obtain ⟨i, hi, rfl⟩ := List.getElem_of_mem hu
  obtain ⟨A, c, e, _⟩ := (h.rowE (List.getElem?_eq_getElem hi)).shape
  rw [e]; rfl
theorem take_snocL {Ls : List (List Ent)} {k : Nat} (h : k < Ls.length) : Ls.take (k + 1) = Ls.take k ++ [Ls[k]!] := take_snoc h
theorem keys_in {Ls : List (List Ent)} (hk : Keys Ls.flatten) {i : Nat} (hi : i < Ls.length) {j : Nat} (hj : j < Ls[i]!.length) : ∃ k : Nat, (el Ls[i]! j).k = (k : Int) ∧ k < 4294967296 := by
  have := hk.get (cum Ls i + j)
  rwa [cum_at hi hj] at this
theorem Rd.key {w : World} {base : Nat} {A : Option Addr} {D : List Ent} (h : Rd w base A (flat D)) {i : Nat} (hi : i < D.length) {k : Nat} (hk : (el D i).k = (k : Int)) : ∃ g o, A = some ⟨g, o, none⟩ ∧ g < base ∧
    w.cell? ⟨g, o + i * 3, none⟩ = some (.int .i64 (el D i).t) ∧ w.cell? ⟨g, o + i * 3 + 1, none⟩ = some (.int .u32 (k : Int)) ∧ w.cell? ⟨g, o + i * 3 + 2, none⟩ = some (.int .u64 (el D i).z) := by
  obtain ⟨g, o, e, hg, h0, h1, h2⟩ := h.ent hi
  exact ⟨g, o, e, hg, h0, by rw [← hk]; exact h1, h2⟩
end Go.Proofs.YtaajgnpfndljoaaGreat.S10
