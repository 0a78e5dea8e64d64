/- A pair of locks, an apart: plain; some blocks of one thing, beside a world. -/
import Derived.Test.YtdfokceecnmocaaS15M
set_option linter.unusedVariables false
set_option linter.unusedSimpArgs false
namespace Go.Proofs.Ytdfokceecnmocaa.S16
open Go.Proofs.Ytdfokceecnmocaa Go.Proofs.Ytdfokceecnmocaa.S11 Go.Proofs.Ytdfokceecnmocaa.S12 Go.Proofs.Ytdfokceecnmocaa.S13 Go.Proofs.Ytdfokceecnmocaa.S14 Go.Proofs.Ytdfokceecnmocaa.S15
open Go.RowKit

/-- A Pair: its line (0: over), its thread, its keys, the table's word as it was found; both locks, the Free that is under way. -/
structure Pr where
  ln : Nat
  t : Nat
  a : Nat
  b : Nat
  tw : Nat
  K1 : Lk
  K2 : Lk
  F : Fr
def pr0 (t a b : Nat) : Pr := ⟨1, t, a, b, 0, lk0, lk0, fr0 0⟩
/-- Which key's bucket is the lower one, which the other. -/
def loK (a b u : Nat) : Nat := if bktN b u < bktN a u then b else a
def hiK (a b u : Nat) : Nat := if bktN b u < bktN a u then a else b
/-- A step: what the world is behind it, what the Pair. -/
def prM (M : Sd) (P : Pr) : Sd :=
  match P.ln with
  | 1 => M.acc 1 0 (S2.look M.L 0)
  | 2 => stepM M P.K1
  | 3 => M.acc 1 0 (S2.look M.L 0)
  | 4 => stepM M P.K2
  | 5 => fstepM M P.F
  | _ => M
def prE (M : Sd) (P : Pr) : Pr :=
  match P.ln with
  | 1 => { P with tw := S2.look M.L 0, ln := 2, K1 := lk1 P.t (lokN (loK P.a P.b (S2.look M.L 0)) (S2.look M.L 0)), K2 := lk1 P.t (lokN (hiK P.a P.b (S2.look M.L 0)) (S2.look M.L 0)) }
  | 2 => { P with K1 := stepK M P.K1, ln := if (stepK M P.K1).ln = 0 then 3 else 2 }
  | 3 => if S2.look M.L 0 = P.tw then { P with ln := if bktN P.a P.tw = bktN P.b P.tw then 0 else 4 } else { P with ln := 5, F := fr0 (lokN (loK P.a P.b P.tw) P.tw) }
  | 4 => { P with K2 := stepK M P.K2, ln := if (stepK M P.K2).ln = 0 then 0 else 4 }
  | 5 => { P with F := fstepK M P.F, ln := if (fstepK M P.F).ln = 0 then 1 else 5 }
  | _ => P
/-- Some blocks of one thing, and what stands in each. -/
abbrev Rows := List (Nat × Obj)
def rowsP (l : Rows) : Part where
  ok w := (∀ x, x ∈ l → w.heap[x.1]? = some x.2) ∧ (l.map Prod.fst).Nodup
  fp k := ∃ ob, (k, ob) ∈ l
  lt w h k e := by
    obtain ⟨ob, he⟩ := e
    exact heap_lt (h.1 _ he)
  kept S w w' h t hs := ⟨fun x hx => (t.block x.1 (heap_lt (h.1 _ hx)) (hs _ ⟨x.2, hx⟩)).trans (h.1 _ hx), h.2⟩
theorem set_at2 {l : Rows} {k i : Nat} {x y : Nat × Obj} (h : l[k]? = some x) (hk : i ≠ k) : (l.set i y)[k]? = some x := (List.getElem?_set_ne hk).trans h
theorem at_end (l : Rows) (x : Nat × Obj) : (l ++ [x])[l.length]? = some x := by rw [List.getElem?_append_right (Nat.le_refl _), Nat.sub_self]; rfl
theorem app1 {l a : Rows} {k : Nat} {x : Nat × Obj} (h : l[k]? = some x) : (l ++ a)[k]? = some x := by
  rw [List.getElem?_append_left (List.getElem?_eq_some_iff.1 h).1]; exact h
theorem app2 {l a b : Rows} {k : Nat} {x : Nat × Obj} (h : l[k]? = some x) : (l ++ a ++ b)[k]? = some x := app1 (app1 h)
theorem app3 {l a b c : Rows} {k : Nat} {x : Nat × Obj} (h : l[k]? = some x) : (l ++ a ++ b ++ c)[k]? = some x := app1 (app2 h)
theorem app4 {l a b c d : Rows} {k : Nat} {x : Nat × Obj} (h : l[k]? = some x) : (l ++ a ++ b ++ c ++ d)[k]? = some x := app1 (app3 h)
section
variable {w0 w w' : World} {base WB : Nat} {M : Sd} {r : List Part} {j u U : Nat} {l l' : Rows} {X : Wm}
/-- Blocks of one thing, beside the world. -/
structure Wq (w0 w : World) (base WB : Nat) (M : Sd) (r : List Part) (j : Nat) (l : Rows) (X : Wm) : Prop where
  pg : Pg w0 w base WB M (r.set j (rowsP l)) X
  hj : j < r.length
theorem Wq.new (h : Wq w0 w base WB M r j l X) (b : Below w.heap.size w w') : Wq w0 w' base WB M r j l X := ⟨h.pg.new b, h.hj⟩
theorem Wq.part (h : Wq w0 w base WB M r j l X) : (r.set j (rowsP l))[j]? = some (rowsP l) := List.getElem?_set_self h.hj
theorem Wq.at (h : Wq w0 w base WB M r j l X) : (rowsP l).ok w := h.pg.ps.ok _ _ (h.pg.part h.part)
theorem Wq.blk (h : Wq w0 w base WB M r j l X) (k : Nat) {B : Nat} {ob : Obj} (e : l[k]? = some (B, ob)) : w.heap[B]? = some ob := h.at.1 _ (List.mem_of_getElem? e)
theorem Wq.lt (h : Wq w0 w base WB M r j l X) {x : Nat × Obj} (e : x ∈ l) : x.1 < w.heap.size := heap_lt (h.at.1 _ e)
theorem Wq.turn (h : Wq w0 w base WB M r j l X) (hq : (rowsP l').ok w') (tn : Turns (rowsP l).fp w w') (hf : ∀ k, (rowsP l').fp k → (rowsP l).fp k ∨ w.heap.size ≤ k) : Wq w0 w' base WB M r j l' X := by
  have := h.pg.turn h.part (rowsP l') hq tn hf
  rw [List.set_set] at this
  exact ⟨this, h.hj⟩
/-- Fewer of them. -/
theorem Wq.only (h : Wq w0 w base WB M r j l X) (hs : ∀ x, x ∈ l' → x ∈ l) (hn : (l'.map Prod.fst).Nodup) : Wq w0 w base WB M r j l' X :=
  h.turn ⟨fun x hx => h.at.1 x (hs x hx), hn⟩ (Turns.refl _ w) (fun k hk => .inl (by obtain ⟨ob, he⟩ := hk; exact ⟨ob, hs _ he⟩))
theorem set_fst {l : Rows} {k B : Nat} {o1 o2 : Obj} (e : l[k]? = some (B, o1)) : (l.set k (B, o2)).map Prod.fst = l.map Prod.fst := by
  rw [List.map_set]
  refine List.ext_getElem? fun i => ?_
  by_cases hi : i = k
  · subst hi
    have hlt : i < l.length := (List.getElem?_eq_some_iff.1 e).1
    rw [List.getElem?_set_self (by rw [List.length_map]; exact hlt), List.getElem?_map, e]; rfl
  · rw [List.getElem?_set_ne (Ne.symm hi)]
theorem nodup_at {l : Rows} (hn : (l.map Prod.fst).Nodup) {i k : Nat} {x y : Nat × Obj} (hi : l[i]? = some x) (hk : l[k]? = some y) (e : x.1 = y.1) : i = k := by
  have h1 : (l.map Prod.fst)[i]? = some x.1 := by rw [List.getElem?_map, hi]; rfl
  have h2 : (l.map Prod.fst)[k]? = some x.1 := by rw [List.getElem?_map, hk, e]; rfl
  exact (List.getElem?_inj (List.getElem?_eq_some_iff.1 h1).1 hn).1 (h1.trans h2.symm)
/-- A cell of one block turns. -/
theorem Wq.put (h : Wq w0 w base WB M r j l X) (k : Nat) {B T : Nat} {cs cs' : Array Value} (e : l[k]? = some (B, .cells cs T (0, 0))) (i : Nat) (v : Value) (ec : cs.setIfInBounds i v = cs') : Wq w0 (w.setCell ⟨B, i, none⟩ v) base WB M r j (l.set k (B, .cells cs' T (0, 0))) X := by
  have hb := h.blk k e
  have hm : (B, .cells cs T (0, 0)) ∈ l := List.mem_of_getElem? e
  refine h.turn ⟨fun x hx => ?_, by rw [set_fst e]; exact h.at.2⟩ ((Turns.refl _ w).setCell ⟨B, i, none⟩ _ ⟨_, hm⟩) (fun q hq => .inl ?_)
  · obtain ⟨n, hn⟩ := List.getElem?_of_mem hx
    by_cases hnk : n = k
    · subst hnk
      rw [List.getElem?_set_self (List.getElem?_eq_some_iff.1 e).1] at hn
      injection hn with hn
      rw [← hn]
      exact set_blk hb i v _ ec
    · rw [List.getElem?_set_ne (Ne.symm hnk)] at hn
      rw [heap_set_ne (fun he => hnk (nodup_at h.at.2 hn e he))]
      exact h.blk n hn
  · obtain ⟨ob, hx⟩ := hq
    have hx2 : q ∈ (l.set k (B, .cells cs' T (0, 0))).map Prod.fst := List.mem_map.2 ⟨_, hx, rfl⟩
    rw [set_fst e] at hx2
    obtain ⟨y, hy, rfl⟩ := List.mem_map.1 hx2
    exact ⟨y.2, hy⟩
/-- A block more. -/
theorem Wq.push (h : Wq w0 w base WB M r j l X) (ob : Obj) : Wq w0 (w.alloc ob) base WB M r j (l ++ [(w.heap.size, ob)]) X := by
  refine h.turn ⟨fun x hx => ?_, ?_⟩ ((Turns.refl _ w).alloc ob) (fun q hq => ?_)
  · rcases List.mem_append.1 hx with hx | hx
    · rw [alloc_lt (h.lt hx)]; exact h.at.1 x hx
    · rw [List.mem_singleton] at hx
      subst hx
      exact heap_alloc_new w ob
  · rw [List.map_append, List.nodup_append]
    refine ⟨h.at.2, by simp, fun a ha b hb e => ?_⟩
    obtain ⟨y, hy, rfl⟩ := List.mem_map.1 ha
    have := h.lt hy
    simp at hb
    omega
  · obtain ⟨ob', hx⟩ := hq
    rcases List.mem_append.1 hx with hx | hx
    · exact .inl ⟨ob', hx⟩
    · rw [List.mem_singleton] at hx
      injection hx with h1 h2
      exact .inr (by omega)
/-- What is new, and the one that turned. -/
theorem Wq.keep {s : Rows} {k : Nat} {y : Nat × Obj} (h : Wq w0 w base WB M r j ((l ++ s).set k y) X) (hk : k < l.length) : Wq w0 w base WB M r j (y :: s) X := by
  have hs := h.at.2
  rw [List.set_append_left _ _ hk] at h hs
  refine h.only (fun x hx => ?_) ?_
  · rcases List.mem_cons.1 hx with rfl | hx
    · exact List.mem_append_left _ (List.mem_set hk x)
    · exact List.mem_append_right _ hx
  · rw [List.map_append, List.nodup_append] at hs
    rw [List.map_cons, List.nodup_cons]
    refine ⟨fun hm => hs.2.2 _ (List.mem_map.2 ⟨y, List.mem_set hk y, rfl⟩) _ hm rfl, hs.2.1⟩
theorem Wq.load (h : Wq w0 w base WB M r j l X) {a : Nat} (ha : a < 4294967296) (hn : M.n ≤ 1000000000) :
    Calls Try.prog 48 #[Pw X.cB, .int .u32 a] w fun e w' => e = .returned (.int .u64 (S2.look M.L a : Nat)) ∧ ∃ X', Wq w0 w' base WB (M.acc 1 a (S2.look M.L a)) r j l X' ∧ X'.cB = X.cB := by
  refine (h.pg.load ha hn).mono ?_
  rintro e w' ⟨rfl, X', h', e'⟩
  exact ⟨rfl, X', ⟨h', h.hj⟩, e'⟩
theorem Wq.look (h : Wq w0 w base WB M r j l X) (a : Nat) : S2.look M.L a < 18446744073709551616 := by
  have := S2.look_lt h.pg.pw.cells.good a
  rwa [show X.L = M.L from congrArg Sd.L h.pg.xm] at this
/-- Something new in place of something that stands beside. -/
theorem Wq.newU (h : Wq w0 w base WB M r j l X) (hju : j ≠ u) (hu : u < r.length) (ob : Obj) : Wq w0 (w.alloc ob) base WB M (r.set u (blockP w.heap.size ob)) j l X := by
  have e : (r.set j (rowsP l))[u]? = r[u]? := List.getElem?_set_ne hju
  have hp : (r.set j (rowsP l))[u]? = some r[u] := by rw [e]; exact List.getElem?_eq_getElem hu
  have h2 := h.pg.turn hp (blockP w.heap.size ob) (heap_alloc_new w ob) ((Turns.refl _ w).alloc ob) (fun k e => .inr (Nat.le_of_eq (show k = w.heap.size from e).symm))
  rw [List.set_comm _ _ hju] at h2
  exact ⟨h2, by rw [List.length_set]; exact h.hj⟩
theorem Wq.lock {K : Lk} (h : Wq w0 w base WB M r j l X) (hju : j ≠ u) (hu : r[u]? = some (lockP U K)) : Wl w0 w base WB M (r.set j (rowsP l)) u U K X := by
  have e : (r.set j (rowsP l))[u]? = some (lockP U K) := (List.getElem?_set_ne hju).trans hu
  exact ⟨by rw [set_eq e]; exact h.pg, (List.getElem?_eq_some_iff.1 e).1⟩
theorem Wq.free {K : Fr} (h : Wq w0 w base WB M r j l X) (hju : j ≠ u) (hu : r[u]? = some (freeP U K)) : Wf w0 w base WB M (r.set j (rowsP l)) u U K X := by
  have e : (r.set j (rowsP l))[u]? = some (freeP U K) := (List.getElem?_set_ne hju).trans hu
  exact ⟨by rw [set_eq e]; exact h.pg, (List.getElem?_eq_some_iff.1 e).1⟩
theorem wq_lock {K : Lk} (h : Wl w0 w base WB M (r.set j (rowsP l)) u U K X) (hju : j ≠ u) (hj : j < r.length) : Wq w0 w base WB M (r.set u (lockP U K)) j l X := by
  have hp := h.pg
  rw [List.set_comm _ _ hju] at hp
  exact ⟨hp, by rw [List.length_set]; exact hj⟩
theorem wq_free {K : Fr} (h : Wf w0 w base WB M (r.set j (rowsP l)) u U K X) (hju : j ≠ u) (hj : j < r.length) : Wq w0 w base WB M (r.set u (freeP U K)) j l X := by
  have hp := h.pg
  rw [List.set_comm _ _ hju] at hp
  exact ⟨hp, by rw [List.length_set]; exact hj⟩
end
end Go.Proofs.Ytdfokceecnmocaa.S16
