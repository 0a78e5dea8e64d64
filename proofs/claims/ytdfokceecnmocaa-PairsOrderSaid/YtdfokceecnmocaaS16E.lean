/- A Pair that stands; Over; its step. -/
import Derived.Test.YtdfokceecnmocaaS16D
set_option linter.unusedVariables false
set_option linter.unusedSimpArgs false
namespace Go.Proofs.Ytdfokceecnmocaa.S16
open Go.Proofs.Ytdfokceecnmocaa Go.Proofs.Ytdfokceecnmocaa.S11 Go.Proofs.Ytdfokceecnmocaa.S12 Go.Proofs.Ytdfokceecnmocaa.S13 Go.Proofs.Ytdfokceecnmocaa.S14 Go.Proofs.Ytdfokceecnmocaa.S15
open Go.RowKit

section
variable {w0 w w' : World} {base WB : Nat} {M : Sd} {r : List Part} {j u v U : Nat} {l l' : Rows} {X : Wm}
set_option maxRecDepth 100000 in
set_option maxHeartbeats 4000000 in
theorem over_any {B a b n c : Nat} {p1 q1 p2 q2 : Int} {P : Option Addr} (k : Nat) (h : Wq w0 w base WB M r j l X) (hb : l[k]? = some (B, .cells (pairC a b p1 q1 p2 q2 (.slice P n c)) 120 (0, 0))) : Calls Try.prog 20 #[Pw B] w fun e w' => e = .returned (.bool (decide (n = 0))) ∧ Below w.heap.size w w' := by
  have y0 : w.cell? ⟨B, 6, none⟩ = some (.slice P n c) := cell_row (h.blk k hb) 6
  have d1 : ((n : Int) == 0) = decide (n = 0) := by by_cases e : n = 0 <;> simp [e]
  have d2 : decide ((n : Int) = 0) = decide (n = 0) := by by_cases e : n = 0 <;> simp [e]
  generalize decide (n = 0) = d at *
  clear h hb
  go_enter Try.func20, Try.ntmps20
  go_wp2_with fail
  go_ret
  exact ⟨by simp [d1, d2], Below.refl _ _⟩
set_option maxRecDepth 100000 in
set_option maxHeartbeats 4000000 in
theorem over_nil (w : World) : Calls Try.prog 20 #[.pointer none] w fun e w' => e = .returned (.bool true) ∧ w = w' := by
  go_enter Try.func20, Try.ntmps20
  go_wp2_with fail
  go_ret
  exact ⟨rfl, rfl⟩
end
/-- What holds of a lock under way. -/
structure KOk (K : Lk) : Prop where
  ln : K.ln ≤ 6
  t : K.t < 64
  a : K.a < 4294967296
  st : K.st < 18446744073709551616
  sp : 0 ≤ K.sp ∧ K.sp ≤ 16
theorem KOk.lok {M : Sd} {K : Lk} (h : KOk K) (ms : 0 ≤ M.sp ∧ M.sp ≤ 16) (hn : M.n ≤ 1000000000) (hp : M.pn ≤ 1000000000) : LkOk M K := ⟨h.t, h.a, h.st, h.sp, ms, hn, hp⟩
theorem KOk.step {M : Sd} {K : Lk} (h : KOk K) (ms : 0 ≤ M.sp ∧ M.sp ≤ 16) (hl : ∀ a, S2.look M.L a < 18446744073709551616) : KOk (stepK M K) := by
  obtain ⟨k1, k2, k3, k4, k5⟩ := stepK_ok (M := M) (K := K) h.st h.sp ms (hl _)
  exact ⟨step_le h.ln, by rw [k1]; exact h.t, by rw [k2]; exact h.a, k3, k4, k5⟩
theorem kok_1 {t a : Nat} (ht : t < 64) (ha : a < 4294967296) : KOk (lk1 t a) := ⟨by show 1 ≤ 6; omega, ht, ha, by show 0 < _; omega, by show (0 : Int) ≤ 0; omega, by show (0 : Int) ≤ 16; omega⟩
theorem kok_0 : KOk lk0 := ⟨by show 0 ≤ 6; omega, by show 0 < 64; omega, by show 0 < _; omega, by show 0 < _; omega, by show (0 : Int) ≤ 0; omega, by show (0 : Int) ≤ 16; omega⟩
/-- What holds of a Pair. -/
structure PrOk (P : Pr) : Prop where
  ln : P.ln ≤ 5
  t : P.t < 64
  a : P.a < 4294967296
  b : P.b < 4294967296
  tw : P.tw < 18446744073709551616
  k1 : KOk P.K1
  k2 : KOk P.K2
  f : FOk P.F
theorem ok_pr {t a b : Nat} (ht : t < 64) (ha : a < 4294967296) (hb : b < 4294967296) : PrOk (pr0 t a b) := ⟨by show 1 ≤ 5; omega, ht, ha, hb, by show 0 < _; omega, kok_0, kok_0, fok_new (by omega)⟩
theorem PrOk.step {M : Sd} {P : Pr} (h : PrOk P) (ms : 0 ≤ M.sp ∧ M.sp ≤ 16) (hl : ∀ a, S2.look M.L a < 18446744073709551616) (hk : ∀ i, M.lk i ≤ 64) : PrOk (prE M P) := by
  obtain ⟨ln, t, a, b, tw, K1, K2, F⟩ := P
  have hln := h.ln
  rcases (show ln = 0 ∨ ln = 1 ∨ ln = 2 ∨ ln = 3 ∨ ln = 4 ∨ ln = 5 from by have : ln ≤ 5 := hln; omega) with rfl | rfl | rfl | rfl | rfl | rfl
  · exact h
  · have h1 := lok_in (loK a b (S2.look M.L 0)) (S2.look M.L 0)
    have h2 := lok_in (hiK a b (S2.look M.L 0)) (S2.look M.L 0)
    have h1' : lokN (loK a b (S2.look M.L 0)) (S2.look M.L 0) < 4294967296 := by omega
    have h2' : lokN (hiK a b (S2.look M.L 0)) (S2.look M.L 0) < 4294967296 := by omega
    exact ⟨by show 2 ≤ 5; omega, h.t, h.a, h.b, hl _, kok_1 h.t h1', kok_1 h.t h2', h.f⟩
  · exact ⟨by show (if (stepK M K1).ln = 0 then 3 else 2) ≤ 5; split <;> omega, h.t, h.a, h.b, h.tw, h.k1.step ms hl, h.k2, h.f⟩
  · by_cases hx : S2.look M.L 0 = tw
    · have e : prE M ⟨3, t, a, b, tw, K1, K2, F⟩ = ⟨if bktN a tw = bktN b tw then 0 else 4, t, a, b, tw, K1, K2, F⟩ := if_pos hx
      rw [e]
      exact ⟨by show (if bktN a tw = bktN b tw then 0 else 4) ≤ 5; split <;> omega, h.t, h.a, h.b, h.tw, h.k1, h.k2, h.f⟩
    · have e : prE M ⟨3, t, a, b, tw, K1, K2, F⟩ = ⟨5, t, a, b, tw, K1, K2, fr0 (lokN (loK a b tw) tw)⟩ := if_neg hx
      rw [e]
      have h1 := lok_in (loK a b tw) tw
      exact ⟨by show 5 ≤ 5; omega, h.t, h.a, h.b, h.tw, h.k1, h.k2, fok_new (by omega)⟩
  · exact ⟨by show (if (stepK M K2).ln = 0 then 0 else 4) ≤ 5; split <;> omega, h.t, h.a, h.b, h.tw, h.k1, h.k2.step ms hl, h.f⟩
  · exact ⟨by show (if (fstepK M F).ln = 0 then 1 else 5) ≤ 5; split <;> omega, h.t, h.a, h.b, h.tw, h.k1, h.k2, h.f.step hl hk⟩
/-- How a Pair stands in memory, line by line. -/
def Shape (P : Pr) (B : Nat) (r : List Part) (u v : Nat) (l : Rows) : Prop :=
  match P.ln with
  | 1 => ∃ (LB XC TC i kl kx kt : Nat) (p1 q1 p2 q2 : Int) (row : Array Value), l[0]? = some (B, .cells (pairC P.a P.b p1 q1 p2 q2 (.slice (some ⟨LB, i, none⟩) 1 1)) 120 (0, 0)) ∧ l[kl]? = some (LB, .cells row 121 (0, 0)) ∧ row[i]? = some (lookF XC TC) ∧ l[kx]? = some (XC, .cells #[Pw B] 56 (0, 0)) ∧ l[kt]? = some (TC, .cells #[.int .i64 (P.t : Int)] 3 (0, 0)) ∧ 0 ≠ kl ∧ 0 ≠ kx ∧ 0 ≠ kt
  | 2 => ∃ OR V1 XC TC KB OB V2 LB U1 U2 : Nat, l = twoL B OR V1 XC TC KB OB V2 LB P.a P.b P.t P.tw U1 U2 0 3 ∧ r[u]? = some (lockP U1 P.K1) ∧ r[v]? = some (lockP U2 P.K2)
  | 3 => ∃ OR V1 XC TC KB OB V2 LB U1 U2 : Nat, l = twoL B OR V1 XC TC KB OB V2 LB P.a P.b P.t P.tw U1 U2 1 2 ∧ r[u]? = some (lockP U1 P.K1) ∧ r[v]? = some (lockP U2 P.K2)
  | 4 => ∃ OR V1 XC TC KB OB V2 LB U1 U2 : Nat, l = twoL B OR V1 XC TC KB OB V2 LB P.a P.b P.t P.tw U1 U2 2 1 ∧ r[u]? = some (lockP U1 P.K1) ∧ r[v]? = some (lockP U2 P.K2)
  | 5 => ∃ (V U XC TC LB : Nat) (p1 q1 p2 q2 : Int), l = [(B, .cells (pairC P.a P.b p1 q1 p2 q2 (.slice (some ⟨LB, 0, none⟩) 2 2)) 120 (0, 0)), (V, .cells #[Pw U] 47 (0, 0)), (XC, .cells #[Pw B] 56 (0, 0)), (TC, .cells #[.int .i64 (P.t : Int)] 3 (0, 0)), (LB, .cells #[leaveF V, lookF XC TC] 121 (0, 0))] ∧ r[u]? = some (freeP U P.F)
  | _ => ∃ (A : Option Addr) (c : Nat), l[0]? = some (B, .cells (pairC P.a P.b (bitsN P.tw : Int) (bktN P.a P.tw : Int) (bitsN P.tw : Int) (bktN P.b P.tw : Int) (.slice A 0 c)) 120 (0, 0))
/-- A Pair beside the world: its own blocks at j, its first lock (or the Free) at u, its other lock at v. -/
structure PairAt (w0 w : World) (base WB : Nat) (M : Sd) (r : List Part) (j u v : Nat) (P : Pr) (B : Nat) (X : Wm) : Prop where
  ju : j ≠ u
  jv : j ≠ v
  uv : u ≠ v
  hu : u < r.length
  hv : v < r.length
  at' : ∃ l, Wq w0 w base WB M r j l X ∧ Shape P B r u v l
/-- What a step leaves. -/
def PStep (w0 w' : World) (base WB : Nat) (M : Sd) (r : List Part) (j u v : Nat) (P : Pr) (B : Nat) : Prop := ∃ q1 q2 X', PairAt w0 w' base WB (prM M P) ((r.set u q1).set v q2) j u v (prE M P) B X'
section
variable {w0 w w' : World} {base WB : Nat} {M : Sd} {r : List Part} {j u v U B : Nat} {l l' : Rows} {X : Wm} {P : Pr}
theorem PairAt.new (h : PairAt w0 w base WB M r j u v P B X) (b : Below w.heap.size w w') : PairAt w0 w' base WB M r j u v P B X := by
  obtain ⟨l, hw, hs⟩ := h.at'
  exact ⟨h.ju, h.jv, h.uv, h.hu, h.hv, l, hw.new b, hs⟩
theorem PairAt.look (h : PairAt w0 w base WB M r j u v P B X) (a : Nat) : S2.look M.L a < 18446744073709551616 := by
  obtain ⟨l, hw, hs⟩ := h.at'
  exact hw.look a
theorem PairAt.lk (h : PairAt w0 w base WB M r j u v P B X) (i : Nat) : M.lk i ≤ 64 := by
  obtain ⟨l, hw, hs⟩ := h.at'
  exact pg_le hw.pg i
theorem set_get {r : List Part} {u : Nat} {p q : Part} (h : r[u]? = some p) : (r.set u q)[u]? = some q := List.getElem?_set_self (List.getElem?_eq_some_iff.1 h).1
theorem set_oth {r : List Part} {u v : Nat} {p q : Part} (h : r[v]? = some p) (huv : u ≠ v) : (r.set u q)[v]? = some p := (List.getElem?_set_ne huv).trans h
theorem PStep.one {P' : Pr} {q : Part} (hq : prE M P = P') (h : PairAt w0 w' base WB (prM M P) (r.set u q) j u v P' B X) (hv : v < r.length) : PStep w0 w' base WB M r j u v P B := by
  obtain ⟨q2, h2⟩ := same_at (r := r.set u q) (u := v) (by rw [List.length_set]; exact hv)
  exact ⟨q, q2, X, by rw [h2, hq]; exact h⟩
theorem PStep.none {P' : Pr} (hq : prE M P = P') (h : PairAt w0 w' base WB (prM M P) r j u v P' B X) : PStep w0 w' base WB M r j u v P B := by
  obtain ⟨q1, h1⟩ := same_at (r := r) (u := u) h.hu
  obtain ⟨q2, h2⟩ := same_at (r := r) (u := v) h.hv
  exact ⟨q1, q2, X, by rw [h1, h2, hq]; exact h⟩
theorem wq_cell (h : Wq w0 w base WB M r j l X) {a b n c : Nat} {p1 q1 p2 q2 : Int} {A : Option Addr} (hb : l[0]? = some (B, .cells (pairC a b p1 q1 p2 q2 (.slice A n c)) 120 (0, 0))) : w.cell? ⟨B, 6, none⟩ = some (.slice A n c) ∧ w.frozen? ⟨B, 6, none⟩ = false := ⟨cell_row (h.blk 0 hb) 6, froz_row (h.blk 0 hb) 6⟩
theorem PStep.two {P' : Pr} {q : Part} (hq : prE M P = P') (h : PairAt w0 w' base WB (prM M P) (r.set v q) j u v P' B X) (hu : u < r.length) (huv : u ≠ v) : PStep w0 w' base WB M r j u v P B := by
  obtain ⟨q1, h1⟩ := same_at (r := r) (u := u) hu
  exact ⟨q1, q, X, by rw [h1, hq]; exact h⟩
set_option maxRecDepth 100000 in
set_option maxHeartbeats 4000000 in
theorem pline_2 {t a b tw : Nat} {K1 K2 : Lk} {F : Fr} (h : PairAt w0 w base WB M r j u v ⟨2, t, a, b, tw, K1, K2, F⟩ B X) (ok : KOk K1) (ms : 0 ≤ M.sp ∧ M.sp ≤ 16) (hn : M.n ≤ 1000000000) (hp : M.pn ≤ 1000000000) :
    Calls Try.prog 33 #[.pointer (some ⟨B, 6, none⟩), Pw WB] w fun e w' => e = .returned (.tuple #[]) ∧ PStep w0 w' base WB M r j u v ⟨2, t, a, b, tw, K1, K2, F⟩ B := by
  obtain ⟨l, hw, OR, V1, XC, TC, KB, OB, V2, LB, U1, U2, rfl, hr1, hr2⟩ := h.at'
  have hc := wq_cell hw rfl
  have hw1 : Wq w0 (w.setCell ⟨B, 6, none⟩ (.slice (some ⟨LB, 1, none⟩) 2 2)) base WB M r j (twoL B OR V1 XC TC KB OB V2 LB a b t tw U1 U2 1 2) X := hw.put 0 rfl 6 (.slice (some ⟨LB, 1, none⟩) 2 2) rfl
  have hst := take_step hw1 h.ju hr1 2 (V := V1) rfl (ok.lok ms hn hp) ok.ln
  refine (todo_take (LB := LB) (i := 0) (n := 2) (c := 2) (V := V1) (Q := fun bo w' => bo = decide ((stepK M K1).ln = 0) ∧ ∃ X', Wq w0 w' base WB (stepM M K1) (r.set u (lockP U1 (stepK M K1))) j (twoL B OR V1 XC TC KB OB V2 LB a b t tw U1 U2 1 2) X') (by omega) (by omega) (by omega) hc.1 hc.2 (cell_row (hw1.blk 8 rfl) 0) (hst.mono ?_) ?_).mono ?_
  · rintro e w' ⟨rfl, X', h'⟩
    exact ⟨_, rfl, rfl, X', h'⟩
  · rintro w' ⟨_, X', h'⟩
    exact ⟨(wq_cell h' rfl).2, _, (wq_cell h' rfl).1⟩
  · rintro e w' ⟨rfl, ⟨hb, X', h'⟩ | ⟨w2, ⟨hb, X', h'⟩, rfl⟩⟩
    · have h0 : (stepK M K1).ln = 0 := of_decide_eq_true hb.symm
      have e : prE M ⟨2, t, a, b, tw, K1, K2, F⟩ = ⟨3, t, a, b, tw, stepK M K1, K2, F⟩ := by show (⟨if (stepK M K1).ln = 0 then 3 else 2, t, a, b, tw, stepK M K1, K2, F⟩ : Pr) = _; rw [if_pos h0]
      exact ⟨rfl, PStep.one (q := lockP U1 (stepK M K1)) e (X := X') ⟨h.ju, h.jv, h.uv, by rw [List.length_set]; exact h.hu, by rw [List.length_set]; exact h.hv, _, h', ⟨OR, V1, XC, TC, KB, OB, V2, LB, U1, U2, rfl, set_get hr1, set_oth hr2 h.uv⟩⟩ h.hv⟩
    · have h0 : ¬ (stepK M K1).ln = 0 := of_decide_eq_false hb.symm
      have e : prE M ⟨2, t, a, b, tw, K1, K2, F⟩ = ⟨2, t, a, b, tw, stepK M K1, K2, F⟩ := by show (⟨if (stepK M K1).ln = 0 then 3 else 2, t, a, b, tw, stepK M K1, K2, F⟩ : Pr) = _; rw [if_neg h0]
      have h2 : Wq w0 (w2.setCell ⟨B, 6, none⟩ (.slice (some ⟨LB, 0, none⟩) 3 3)) base WB (stepM M K1) (r.set u (lockP U1 (stepK M K1))) j (twoL B OR V1 XC TC KB OB V2 LB a b t tw U1 U2 0 3) X' := h'.put 0 rfl 6 (.slice (some ⟨LB, 0, none⟩) 3 3) rfl
      exact ⟨rfl, PStep.one (q := lockP U1 (stepK M K1)) e (X := X') ⟨h.ju, h.jv, h.uv, by rw [List.length_set]; exact h.hu, by rw [List.length_set]; exact h.hv, _, h2, ⟨OR, V1, XC, TC, KB, OB, V2, LB, U1, U2, rfl, set_get hr1, set_oth hr2 h.uv⟩⟩ h.hv⟩
set_option maxRecDepth 100000 in
set_option maxHeartbeats 4000000 in
theorem pline_4 {t a b tw : Nat} {K1 K2 : Lk} {F : Fr} (h : PairAt w0 w base WB M r j u v ⟨4, t, a, b, tw, K1, K2, F⟩ B X) (ok : KOk K2) (ms : 0 ≤ M.sp ∧ M.sp ≤ 16) (hn : M.n ≤ 1000000000) (hp : M.pn ≤ 1000000000) :
    Calls Try.prog 33 #[.pointer (some ⟨B, 6, none⟩), Pw WB] w fun e w' => e = .returned (.tuple #[]) ∧ PStep w0 w' base WB M r j u v ⟨4, t, a, b, tw, K1, K2, F⟩ B := by
  obtain ⟨l, hw, OR, V1, XC, TC, KB, OB, V2, LB, U1, U2, rfl, hr1, hr2⟩ := h.at'
  have hc := wq_cell hw rfl
  have hw1 : Wq w0 (w.setCell ⟨B, 6, none⟩ (.slice (some ⟨LB, 2, none⟩) 0 0)) base WB M r j (twoL B OR V1 XC TC KB OB V2 LB a b t tw U1 U2 2 0) X := hw.put 0 rfl 6 (.slice (some ⟨LB, 2, none⟩) 0 0) rfl
  have hst := take_step hw1 h.jv hr2 7 (V := V2) rfl (ok.lok ms hn hp) ok.ln
  refine (todo_take (LB := LB) (i := 2) (n := 0) (c := 0) (V := V2) (Q := fun bo w' => bo = decide ((stepK M K2).ln = 0) ∧ ∃ X', Wq w0 w' base WB (stepM M K2) (r.set v (lockP U2 (stepK M K2))) j (twoL B OR V1 XC TC KB OB V2 LB a b t tw U1 U2 2 0) X') (by omega) (by omega) (by omega) hc.1 hc.2 (cell_row (hw1.blk 8 rfl) 2) (hst.mono ?_) ?_).mono ?_
  · rintro e w' ⟨rfl, X', h'⟩
    exact ⟨_, rfl, rfl, X', h'⟩
  · rintro w' ⟨_, X', h'⟩
    exact ⟨(wq_cell h' rfl).2, _, (wq_cell h' rfl).1⟩
  · rintro e w' ⟨rfl, ⟨hb, X', h'⟩ | ⟨w2, ⟨hb, X', h'⟩, rfl⟩⟩
    · have h0 : (stepK M K2).ln = 0 := of_decide_eq_true hb.symm
      have e : prE M ⟨4, t, a, b, tw, K1, K2, F⟩ = ⟨0, t, a, b, tw, K1, stepK M K2, F⟩ := by show (⟨if (stepK M K2).ln = 0 then 0 else 4, t, a, b, tw, K1, stepK M K2, F⟩ : Pr) = _; rw [if_pos h0]
      exact ⟨rfl, PStep.two (q := lockP U2 (stepK M K2)) e (X := X') ⟨h.ju, h.jv, h.uv, by rw [List.length_set]; exact h.hu, by rw [List.length_set]; exact h.hv, _, h', ⟨_, _, rfl⟩⟩ h.hu h.uv⟩
    · have h0 : ¬ (stepK M K2).ln = 0 := of_decide_eq_false hb.symm
      have e : prE M ⟨4, t, a, b, tw, K1, K2, F⟩ = ⟨4, t, a, b, tw, K1, stepK M K2, F⟩ := by show (⟨if (stepK M K2).ln = 0 then 0 else 4, t, a, b, tw, K1, stepK M K2, F⟩ : Pr) = _; rw [if_neg h0]
      have h2 : Wq w0 (w2.setCell ⟨B, 6, none⟩ (.slice (some ⟨LB, 2, none⟩) 1 1)) base WB (stepM M K2) (r.set v (lockP U2 (stepK M K2))) j (twoL B OR V1 XC TC KB OB V2 LB a b t tw U1 U2 2 1) X' := h'.put 0 rfl 6 (.slice (some ⟨LB, 2, none⟩) 1 1) rfl
      exact ⟨rfl, PStep.two (q := lockP U2 (stepK M K2)) e (X := X') ⟨h.ju, h.jv, h.uv, by rw [List.length_set]; exact h.hu, by rw [List.length_set]; exact h.hv, _, h2, ⟨OR, V1, XC, TC, KB, OB, V2, LB, U1, U2, rfl, set_oth hr1 (Ne.symm h.uv), set_get hr2⟩⟩ h.hu h.uv⟩
end
end Go.Proofs.Ytdfokceecnmocaa.S16
