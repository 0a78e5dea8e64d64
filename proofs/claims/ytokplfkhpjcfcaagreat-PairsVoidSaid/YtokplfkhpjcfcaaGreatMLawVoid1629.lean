/- Texts of this seat, one behind the other. -/
import Derived.Test.YtokplfkhpjcfcaaGreatMLawVoid1628
set_option linter.unusedVariables false
set_option linter.unusedSimpArgs false
set_option linter.unusedVariables false
set_option linter.unusedSimpArgs false
namespace Go.Proofs.YtokplfkhpjcfcaaGreat.S10
open Go.Proofs.YtokplfkhpjcfcaaGreat
open Go.RowKit
theorem hash_no (a : Nat) (b : Int) (h : b < 2 ∨ 8 < b) (w : World) : Calls Tryz.prog 31 #[.int .u32 a, .int .i64 b] w fun e w' => e = .returned (.int .i64 (-1)) ∧ w = w' := by
  have q := is_any b w
  rw [tab_no h] at q
  have Q := Lib.hid q
  clear q h
  go_enter Tryz.func31, Tryz.ntmps31
  go_wp2_with fail
  refine Q.out.mono ?_
  rintro e w' ⟨rfl, rfl⟩
  go_wp2_with fail
  go_ret
  exact ⟨rfl, rfl⟩
def hashZ (a : Nat) (b : Int) : Int := if 2 ≤ b ∧ b ≤ 8 then (hsh a b.toNat : Nat) else -1
theorem size_le (b : Int) : sizeN b ≤ 256 := by
  unfold sizeN
  split
  · rename_i h
    calc 2 ^ b.toNat ≤ 2 ^ 8 := Nat.pow_le_pow_right (by omega) (by omega)
      _ = 256 := rfl
  · omega
theorem hash_any (a : Nat) (b : Int) (ha : a < 4294967296) (w : World) : Calls Tryz.prog 31 #[.int .u32 a, .int .i64 b] w fun e w' => e = .returned (.int .i64 (hashZ a b)) ∧ w = w' := by
  unfold hashZ
  by_cases h : 2 ≤ b ∧ b ≤ 8
  · obtain ⟨n, rfl⟩ := Int.eq_ofNat_of_zero_le (show 0 ≤ b by omega)
    rw [if_pos h]
    exact hash_yes a n ha (by omega) (by omega) w
  · rw [if_neg h]
    exact hash_no a b (by omega) w
def lockZ (b i : Int) : Int := if i < 0 ∨ (sizeN b : Int) ≤ i then 0 else 256 + ((sizeN b : Int) + i)
theorem lock_any (b i : Int) (w : World) : Calls Tryz.prog 33 #[.int .i64 b, .int .i64 i] w fun e w' => e = .returned (.int .u32 (lockZ b i)) ∧ w = w' := by
  have q := size_any b w
  have hn := size_le b
  unfold lockZ
  generalize sizeN b = n at *
  have Q := Lib.hid q
  clear q
  by_cases h0 : i < 0
  · rw [if_pos (Or.inl h0)]
    go_enter Tryz.func33, Tryz.ntmps33
    go_wp2_with fail
    refine Q.out.mono ?_
    rintro e w' ⟨rfl, rfl⟩
    go_wp2_with fail
    go_ret
    exact ⟨rfl, rfl⟩
  · by_cases h1 : (n : Int) ≤ i
    · rw [if_pos (Or.inr h1)]
      go_enter Tryz.func33, Tryz.ntmps33
      go_wp2_with fail
      refine Q.out.mono ?_
      rintro e w' ⟨rfl, rfl⟩
      go_wp2_with fail
      go_ret
      exact ⟨rfl, rfl⟩
    · rw [if_neg (by omega)]
      have h2 : 0 ≤ i := by omega
      have h3 : i < (n : Int) := by omega
      clear h1 h0
      go_enter Tryz.func33, Tryz.ntmps33
      go_wp2_with fail
      refine Q.out.mono ?_
      rintro e w' ⟨rfl, rfl⟩
      go_wp2_with fail
      go_ret
      exact ⟨rfl, rfl⟩
end Go.Proofs.YtokplfkhpjcfcaaGreat.S10
namespace Go.Proofs.YtokplfkhpjcfcaaGreat.S2
open Go.Maps
open Go.Proofs.YtokplfkhpjcfcaaGreat
theorem look_strike_other {a b : Nat} (h : b ≠ a) (L : LL) : look (strike a L) b = look L b := by
  unfold look strike
  rw [find_filter_keep (f := fun p : Nat × Nat => p.1 == b) (g := fun p : Nat × Nat => p.1 != a)]
  intro p hp
  simp at *
  omega
theorem look_ins_other {a b : Nat} (v : Nat) (h : b ≠ a) : ∀ L : LL, look (ins a v L) b = look L b
  | [] => by simp [look, ins, Ne.symm h]
  | q :: r => by
    unfold ins
    split
    · simp [look, Ne.symm h]
    · have ih := look_ins_other v h r
      unfold look at *
      rw [List.find?_cons, List.find?_cons]
      cases q.1 == b
      · exact ih
      · rfl
theorem look_put_other {a b : Nat} (v : Nat) (h : b ≠ a) (L : LL) : look (putL L a v) b = look L b := by
  unfold putL
  split
  · exact look_strike_other h L
  · rw [look_ins_other v h, look_strike_other h]
end Go.Proofs.YtokplfkhpjcfcaaGreat.S2
namespace Go.Proofs.YtokplfkhpjcfcaaGreat.S13
open Go.Proofs.YtokplfkhpjcfcaaGreat Go.RowKit
end Go.Proofs.YtokplfkhpjcfcaaGreat.S13
set_option linter.unusedVariables false
set_option linter.unusedSimpArgs false
namespace Go.Proofs.YtokplfkhpjcfcaaGreat.S15
open Go.Proofs.YtokplfkhpjcfcaaGreat Go.Proofs.YtokplfkhpjcfcaaGreat.S11 Go.Proofs.YtokplfkhpjcfcaaGreat.S12 Go.Proofs.YtokplfkhpjcfcaaGreat.S13 Go.Proofs.YtokplfkhpjcfcaaGreat.S14
open Go.RowKit
def bitsN (u : Nat) : Nat := if 2 ≤ u ∧ u ≤ 8 then u else 2
theorem bits_in (u : Nat) : 2 ≤ bitsN u ∧ bitsN u ≤ 8 := by unfold bitsN; split <;> omega
def bktN (key u : Nat) : Nat := S10.hsh key (bitsN u)
theorem bkt_lt (key u : Nat) : bktN key u < 2 ^ bitsN u := S10.hsh_lt key (bitsN u) (by have := bits_in u; omega)
theorem bkt_hash (key u : Nat) : S10.hashZ key (bitsN u : Nat) = ((bktN key u : Nat) : Int) := by
  have := bits_in u
  unfold S10.hashZ
  rw [if_pos (by omega)]; rfl
def lokN (key u : Nat) : Nat := 256 + (2 ^ bitsN u + bktN key u)
theorem size_bits (u : Nat) : S10.sizeN (bitsN u : Nat) = 2 ^ bitsN u := by
  have := bits_in u
  unfold S10.sizeN
  rw [if_pos (by omega)]; rfl
theorem lok_lock (key u : Nat) : S10.lockZ (bitsN u : Nat) (bktN key u : Nat) = ((lokN key u : Nat) : Int) := by
  have h := bkt_lt key u
  unfold S10.lockZ lokN
  rw [size_bits]
  rw [if_neg (by omega)]
  omega
theorem pow_in (u : Nat) : 4 ≤ 2 ^ bitsN u ∧ 2 ^ bitsN u ≤ 256 := by
  have h := bits_in u
  rcases (show bitsN u = 2 ∨ bitsN u = 3 ∨ bitsN u = 4 ∨ bitsN u = 5 ∨ bitsN u = 6 ∨ bitsN u = 7 ∨ bitsN u = 8 by omega) with e | e | e | e | e | e | e <;> rw [e] <;> decide
theorem lok_in (key u : Nat) : 260 ≤ lokN key u ∧ lokN key u < 768 := by
  have := bkt_lt key u
  have := pow_in u
  unfold lokN
  omega
structure En where
  ow : Bool
  ln : Nat
  t : Nat
  kw : Nat
  tw : Nat
  K : Lk
  F : Fr
def En.a (E : En) : Nat := lokN (E.kw % 4294967296) E.tw
def En.at (E : En) : Nat :=
  if E.ow then (match E.ln with | 1 => 0 | 2 => 1 | 3 => 2 | 4 => 3 | 5 => 4 | 6 => 5 | _ => 6)
  else (match E.ln with | 2 => 0 | 3 => 1 | 4 => 2 | 6 => 3 | _ => 4)
structure EnOk (E : En) : Prop where
  ln : E.ln ≤ 6
  en : E.ow = false → E.ln ≠ 1 ∧ E.ln ≠ 5
  t : E.t < 64
  kw : E.kw < 18446744073709551616
  tw : E.tw < 18446744073709551616
  k6 : E.K.ln ≤ 6
  kt : E.K.t < 64
  ka : E.K.a < 4294967296
  ks : E.K.st < 18446744073709551616
  kp : 0 ≤ E.K.sp ∧ E.K.sp ≤ 16
  f : FOk E.F
end Go.Proofs.YtokplfkhpjcfcaaGreat.S15
set_option linter.unusedVariables false
set_option linter.unusedSimpArgs false
namespace Go.Proofs.YtokplfkhpjcfcaaGreat.S15
open Go.Proofs.YtokplfkhpjcfcaaGreat Go.Proofs.YtokplfkhpjcfcaaGreat.S11 Go.Proofs.YtokplfkhpjcfcaaGreat.S12 Go.Proofs.YtokplfkhpjcfcaaGreat.S13 Go.Proofs.YtokplfkhpjcfcaaGreat.S14
open Go.RowKit
structure Wb where
  B : Nat
  PB : Nat
  KB : Nat
  TB : Nat
  i : Int
  st : Bool
  pb : Int
  pi : Int
  uv : Value
abbrev readV (B : Nat) : Value := .iface 134 (.agg #[Pw B])
abbrev askV (B : Nat) : Value := .iface 139 (.agg #[Pw B])
abbrev takeV : Value := .iface 138 (.agg #[])
abbrev leaveV : Value := .iface 140 (.agg #[])
abbrev lockU (U : Nat) : Value := .iface 293 (Pw U)
abbrev freeU (U : Nat) : Value := .iface 270 (Pw U)
def partsV (o : Bool) (KB TB : Nat) : Array Value :=
  if o then #[readV KB, readV TB, takeV, askV TB, askV KB, leaveV] else #[readV TB, takeV, askV TB, leaveV]
def nPart (o : Bool) : Nat := if o then 6 else 4
def tyE (o : Bool) : Nat := if o then 58 else 57
def wayC (o : Bool) (t : Nat) (Z : Wb) : Array Value :=
  #[.slice (some ⟨Z.PB, 0, none⟩) (nPart o) (nPart o), .int .i64 Z.i, .int .i64 (t : Int), Pw Z.KB, Pw Z.TB, .int .i64 Z.pb, .int .i64 Z.pi, .bool Z.st, Z.uv]
def wordC (a : Nat) (k : Bool) (u : Nat) : Array Value := #[.int .u32 (a : Int), .bool k, .int .u64 (u : Int)]
def kyA (o : Bool) (t : Nat) : Nat := if o then 64 + t else 0
structure WayAt (w : World) (o : Bool) (t kw tw : Nat) (Z : Wb) : Prop where
  b : w.heap[Z.B]? = some (.cells (wayC o t Z) (tyE o) (0, 0))
  p : ∃ T, w.heap[Z.PB]? = some (.cells (partsV o Z.KB Z.TB) T (0, 0))
  k : w.heap[Z.KB]? = some (.cells (wordC (kyA o t) o kw) 132 (0, 0))
  t : w.heap[Z.TB]? = some (.cells (wordC 0 false tw) 132 (0, 0))
  ne : Z.KB ≠ Z.TB
theorem heap_lt {w : World} {B : Nat} {o : Obj} (h : w.heap[B]? = some o) : B < w.heap.size := (Array.getElem?_eq_some_iff.1 h).1
def wayP (o : Bool) (t kw tw : Nat) (Z : Wb) : Part where
  ok w := WayAt w o t kw tw Z
  fp k := k = Z.B ∨ k = Z.PB ∨ k = Z.KB ∨ k = Z.TB
  lt w h k e := by
    rcases e with rfl | rfl | rfl | rfl
    · exact heap_lt h.b
    · obtain ⟨T, hp⟩ := h.p; exact heap_lt hp
    · exact heap_lt h.k
    · exact heap_lt h.t
  kept S w w' h t hs := by
    obtain ⟨T, hp⟩ := h.p
    exact ⟨(t.block _ (heap_lt h.b) (hs _ (.inl rfl))).trans h.b, ⟨T, (t.block _ (heap_lt hp) (hs _ (.inr (.inl rfl)))).trans hp⟩, (t.block _ (heap_lt h.k) (hs _ (.inr (.inr (.inl rfl))))).trans h.k, (t.block _ (heap_lt h.t) (hs _ (.inr (.inr (.inr rfl))))).trans h.t, h.ne⟩
section
variable {w w' : World} {o : Bool} {t kw tw : Nat} {Z : Wb}
theorem parts_size (o : Bool) (KB TB : Nat) : (partsV o KB TB).size = nPart o := by unfold partsV nPart; cases o <;> rfl
theorem WayAt.pb (h : WayAt w o t kw tw Z) : Z.PB ≠ Z.B := fun e => by
  obtain ⟨T, hp⟩ := h.p
  rw [e, h.b] at hp; injection hp with hp; injection hp with hp _
  have := parts_size o Z.KB Z.TB
  rw [← hp] at this
  unfold nPart wayC at this
  cases o <;> simp at this
theorem heap_set_ne {w : World} {a : Addr} {v : Value} {B : Nat} (h : B ≠ a.block) : (w.setCell a v).heap[B]? = w.heap[B]? := Below.heap_setCell _ _ _ _ h
end
end Go.Proofs.YtokplfkhpjcfcaaGreat.S15
set_option linter.unusedVariables false
set_option linter.unusedSimpArgs false
namespace Go.Proofs.YtokplfkhpjcfcaaGreat.S15
open Go.Proofs.YtokplfkhpjcfcaaGreat Go.Proofs.YtokplfkhpjcfcaaGreat.S11 Go.Proofs.YtokplfkhpjcfcaaGreat.S12 Go.Proofs.YtokplfkhpjcfcaaGreat.S13 Go.Proofs.YtokplfkhpjcfcaaGreat.S14
open Go.RowKit
theorem bits_any (u : Nat) (hu : u < 18446744073709551616) (w : World) : Calls Tryz.prog 5 #[.int .u64 (u : Int)] w fun e w' => e = .returned (.int .i64 (bitsN u : Int)) ∧ w = w' := by
  unfold bitsN
  by_cases h : 2 ≤ u
  · by_cases g : u ≤ 8
    · rw [if_pos ⟨h, g⟩]
      have d0 : decide ((u : Int) < 2) = false := decide_eq_false (by omega)
      have d1 : decide ((8 : Int) < (u : Int)) = false := decide_eq_false (by omega)
      have e1 : wrap64 (u : Int) = (u : Int) := by unfold wrap64; omega
      have e2 : IntKind.i64.wrap (u : Int) = (u : Int) := by rw [IntKind.wrap_i64]; omega
      clear h g hu
      go_enter Tryz.func5, Tryz.ntmps5
      go_wp2_with fail
      go_ret
      exact ⟨rfl, rfl⟩
    · rw [if_neg (by omega)]
      have d0 : decide ((u : Int) < 2) = false := decide_eq_false (by omega)
      have d1 : decide ((8 : Int) < (u : Int)) = true := decide_eq_true (by omega)
      clear h g hu
      go_enter Tryz.func5, Tryz.ntmps5
      go_wp2_with fail
      go_ret
      exact ⟨rfl, rfl⟩
  · rw [if_neg (by omega)]
    have d0 : decide ((u : Int) < 2) = true := decide_eq_true (by omega)
    clear h hu
    go_enter Tryz.func5, Tryz.ntmps5
    go_wp2_with fail
    go_ret
    exact ⟨rfl, rfl⟩
def placeV (key u : Nat) : Value := .agg #[.int .i64 (bitsN u : Int), .int .i64 (bktN key u : Int)]
theorem place_any (key u : Nat) (hk : key < 4294967296) (hu : u < 18446744073709551616) (w : World) : Calls Tryz.prog 8 #[.int .u32 (key : Int), .int .u64 (u : Int)] w fun e w' => e = .returned (placeV key u) ∧ Below w.heap.size w w' := by
  have hb := fun W => bits_any u hu W
  have hh : ∀ W, Calls Tryz.prog 31 #[.int .u32 (key : Int), .int .i64 (bitsN u : Int)] W fun e w' => e = .returned (.int .i64 (bktN key u : Int)) ∧ W = w' := fun W => by
    have := S10.hash_any key (bitsN u : Nat) hk W
    rwa [bkt_hash] at this
  have HB := Lib.hid hb; have HH := Lib.hid hh
  unfold placeV
  generalize bitsN u = b at *
  generalize bktN key u = k at *
  clear hb hh hk hu
  go_enter Tryz.func8, Tryz.ntmps8
  go_wp2_with (first
    | (go_at_call 5; refine (HB.out _).mono ?_; rintro e w2 ⟨rfl, rfl⟩)
    | (go_at_call 31; refine (HH.out _).mono ?_; rintro e w3 ⟨rfl, rfl⟩))
  exact bodyPost_ret (v := .agg #[.int .i64 (b : Int), .int .i64 (k : Int)]) (by simp [results, Tryz.results8, go_sem]) rfl ⟨rfl, below1 w _⟩
theorem lockOf_any (b i : Int) (w : World) : Calls Tryz.prog 10 #[.agg #[.int .i64 b, .int .i64 i]] w fun e w' => e = .returned (.int .u32 (S10.lockZ b i)) ∧ Below w.heap.size w w' := by
  have HL := Lib.hid (fun W => S10.lock_any b i W)
  generalize S10.lockZ b i = a at *
  go_enter Tryz.func10, Tryz.ntmps10
  go_wp2_with (go_at_call 33; refine (HL.out _).mono ?_; rintro e w2 ⟨rfl, rfl⟩)
  go_ret
  exact ⟨rfl, below1 _ _⟩
section
variable {w0 w w' : World} {base WB : Nat} {M : Sd} {r : List Part} {j : Nat} {o : Bool} {t kw tw : Nat} {Z : Wb} {X : Wm}
structure Wy (w0 w : World) (base WB : Nat) (M : Sd) (r : List Part) (j : Nat) (o : Bool) (t kw tw : Nat) (Z : Wb) (X : Wm) : Prop where
  pg : Pg w0 w base WB M (r.set j (wayP o t kw tw Z)) X
  hj : j < r.length
theorem Wy.part (h : Wy w0 w base WB M r j o t kw tw Z X) : (r.set j (wayP o t kw tw Z))[j]? = some (wayP o t kw tw Z) := List.getElem?_set_self h.hj
theorem Wy.at (h : Wy w0 w base WB M r j o t kw tw Z X) : WayAt w o t kw tw Z := h.pg.ps.ok _ _ (h.pg.part h.part)
theorem Wy.turn (h : Wy w0 w base WB M r j o t kw tw Z X) {o' : Bool} {t' kw' tw' : Nat} {Z' : Wb} (hq : WayAt w' o' t' kw' tw' Z') (tn : Turns (wayP o t kw tw Z).fp w w') (hf : ∀ k, (wayP o' t' kw' tw' Z').fp k → (wayP o t kw tw Z).fp k ∨ w.heap.size ≤ k) : Wy w0 w' base WB M r j o' t' kw' tw' Z' X := by
  have := h.pg.turn h.part (wayP o' t' kw' tw' Z') hq tn hf
  rw [List.set_set] at this
  exact ⟨this, h.hj⟩
end
end Go.Proofs.YtokplfkhpjcfcaaGreat.S15
set_option linter.unusedVariables false
set_option linter.unusedSimpArgs false
namespace Go.Proofs.YtokplfkhpjcfcaaGreat.S15
open Go.Proofs.YtokplfkhpjcfcaaGreat Go.Proofs.YtokplfkhpjcfcaaGreat.S11 Go.Proofs.YtokplfkhpjcfcaaGreat.S12 Go.Proofs.YtokplfkhpjcfcaaGreat.S13 Go.Proofs.YtokplfkhpjcfcaaGreat.S14
open Go.RowKit
section
variable {w0 w w' : World} {base WB : Nat} {M : Sd} {r : List Part} {j : Nat} {o : Bool} {t kw tw : Nat} {Z : Wb} {X : Wm}
end
end Go.Proofs.YtokplfkhpjcfcaaGreat.S15
set_option linter.unusedVariables false
set_option linter.unusedSimpArgs false
namespace Go.Proofs.YtokplfkhpjcfcaaGreat.S15
open Go.Proofs.YtokplfkhpjcfcaaGreat Go.Proofs.YtokplfkhpjcfcaaGreat.S11 Go.Proofs.YtokplfkhpjcfcaaGreat.S12 Go.Proofs.YtokplfkhpjcfcaaGreat.S13 Go.Proofs.YtokplfkhpjcfcaaGreat.S14
open Go.RowKit
theorem set_eq {l : List Part} {i : Nat} {p : Part} (h : l[i]? = some p) : l.set i p = l := by
  apply List.ext_getElem?
  intro k
  by_cases e : k = i
  · subst e
    rw [List.getElem?_set_self (List.getElem?_eq_some_iff.1 h).1, h]
  · rw [List.getElem?_set_ne (fun x => e x.symm)]
section
variable {w0 w w' : World} {base WB : Nat} {M : Sd} {r : List Part} {j u U : Nat} {o : Bool} {t kw tw : Nat} {Z : Wb} {X : Wm}
end
end Go.Proofs.YtokplfkhpjcfcaaGreat.S15
set_option linter.unusedVariables false
set_option linter.unusedSimpArgs false
namespace Go.Proofs.YtokplfkhpjcfcaaGreat.S15
open Go.Proofs.YtokplfkhpjcfcaaGreat Go.Proofs.YtokplfkhpjcfcaaGreat.S11 Go.Proofs.YtokplfkhpjcfcaaGreat.S12 Go.Proofs.YtokplfkhpjcfcaaGreat.S13 Go.Proofs.YtokplfkhpjcfcaaGreat.S14
open Go.RowKit
section
variable {w0 w w' : World} {base WB : Nat} {M : Sd} {r : List Part} {j u U : Nat} {o : Bool} {t kw tw : Nat} {Z : Wb} {X : Wm}
end
end Go.Proofs.YtokplfkhpjcfcaaGreat.S15
set_option linter.unusedVariables false
set_option linter.unusedSimpArgs false
namespace Go.Proofs.YtokplfkhpjcfcaaGreat.S15
open Go.Proofs.YtokplfkhpjcfcaaGreat Go.Proofs.YtokplfkhpjcfcaaGreat.S11 Go.Proofs.YtokplfkhpjcfcaaGreat.S12 Go.Proofs.YtokplfkhpjcfcaaGreat.S13 Go.Proofs.YtokplfkhpjcfcaaGreat.S14
open Go.RowKit
section
variable {w0 w w' : World} {base WB : Nat} {M : Sd} {r : List Part} {j u U : Nat} {o : Bool} {t kw tw : Nat} {Z : Wb} {X : Wm}
theorem Wy.look (h : Wy w0 w base WB M r j o t kw tw Z X) (a : Nat) : S2.look M.L a < 18446744073709551616 := by
  have := S2.look_lt h.pg.pw.cells.good a
  rwa [show X.L = M.L from congrArg Sd.L h.pg.xm] at this
end
end Go.Proofs.YtokplfkhpjcfcaaGreat.S15
set_option linter.unusedVariables false
set_option linter.unusedSimpArgs false
namespace Go.Proofs.YtokplfkhpjcfcaaGreat.S15
open Go.Proofs.YtokplfkhpjcfcaaGreat Go.Proofs.YtokplfkhpjcfcaaGreat.S11 Go.Proofs.YtokplfkhpjcfcaaGreat.S12 Go.Proofs.YtokplfkhpjcfcaaGreat.S13 Go.Proofs.YtokplfkhpjcfcaaGreat.S14
open Go.RowKit
section
variable {w0 w w' : World} {base WB : Nat} {M : Sd} {r : List Part} {j u U : Nat} {o : Bool} {t kw tw : Nat} {Z : Wb} {X : Wm}
end
end Go.Proofs.YtokplfkhpjcfcaaGreat.S15
set_option linter.unusedVariables false
set_option linter.unusedSimpArgs false
namespace Go.Proofs.YtokplfkhpjcfcaaGreat.S15
open Go.Proofs.YtokplfkhpjcfcaaGreat Go.Proofs.YtokplfkhpjcfcaaGreat.S11 Go.Proofs.YtokplfkhpjcfcaaGreat.S12 Go.Proofs.YtokplfkhpjcfcaaGreat.S13 Go.Proofs.YtokplfkhpjcfcaaGreat.S14
open Go.RowKit
section
variable {w0 w w' : World} {base WB : Nat} {M : Sd} {r : List Part} {j u U : Nat} {o : Bool} {t kw tw : Nat} {Z : Wb} {X : Wm}
end
end Go.Proofs.YtokplfkhpjcfcaaGreat.S15
set_option linter.unusedVariables false
set_option linter.unusedSimpArgs false
namespace Go.Proofs.YtokplfkhpjcfcaaGreat.S15
open Go.Proofs.YtokplfkhpjcfcaaGreat Go.Proofs.YtokplfkhpjcfcaaGreat.S11 Go.Proofs.YtokplfkhpjcfcaaGreat.S12 Go.Proofs.YtokplfkhpjcfcaaGreat.S13 Go.Proofs.YtokplfkhpjcfcaaGreat.S14
open Go.RowKit
section
variable {w0 w w' : World} {base WB : Nat} {M : Sd} {r : List Part} {j u U : Nat} {o : Bool} {t kw tw : Nat} {Z : Wb} {X : Wm}
end
end Go.Proofs.YtokplfkhpjcfcaaGreat.S15
set_option linter.unusedVariables false
set_option linter.unusedSimpArgs false
namespace Go.Proofs.YtokplfkhpjcfcaaGreat.S15
open Go.Proofs.YtokplfkhpjcfcaaGreat Go.Proofs.YtokplfkhpjcfcaaGreat.S11 Go.Proofs.YtokplfkhpjcfcaaGreat.S12 Go.Proofs.YtokplfkhpjcfcaaGreat.S13 Go.Proofs.YtokplfkhpjcfcaaGreat.S14
open Go.RowKit
section
variable {w0 w w' : World} {base WB : Nat} {M : Sd} {r : List Part} {j u U : Nat} {o : Bool} {t kw tw : Nat} {Z : Wb} {X : Wm}
end
end Go.Proofs.YtokplfkhpjcfcaaGreat.S15
set_option linter.unusedVariables false
set_option linter.unusedSimpArgs false
namespace Go.Proofs.YtokplfkhpjcfcaaGreat.S15
open Go.Proofs.YtokplfkhpjcfcaaGreat Go.Proofs.YtokplfkhpjcfcaaGreat.S11 Go.Proofs.YtokplfkhpjcfcaaGreat.S12 Go.Proofs.YtokplfkhpjcfcaaGreat.S13 Go.Proofs.YtokplfkhpjcfcaaGreat.S14
open Go.RowKit
section
variable {w0 w w' : World} {base WB : Nat} {M : Sd} {r : List Part} {j u U : Nat} {o : Bool} {t kw tw : Nat} {Z : Wb} {X : Wm}
abbrev plV (b i : Int) : Value := .agg #[.int .i64 b, .int .i64 i]
end
end Go.Proofs.YtokplfkhpjcfcaaGreat.S15
set_option linter.unusedVariables false
set_option linter.unusedSimpArgs false
namespace Go.Proofs.YtokplfkhpjcfcaaGreat.S15
open Go.Proofs.YtokplfkhpjcfcaaGreat Go.Proofs.YtokplfkhpjcfcaaGreat.S11 Go.Proofs.YtokplfkhpjcfcaaGreat.S12 Go.Proofs.YtokplfkhpjcfcaaGreat.S13 Go.Proofs.YtokplfkhpjcfcaaGreat.S14
open Go.RowKit
structure Ew (w0 w : World) (base WB : Nat) (M : Sd) (r : List Part) (j u : Nat) (E : En) (Z : Wb) (X : Wm) : Prop where
  wy : Wy w0 w base WB M r j E.ow E.t E.kw E.tw Z X
  ju : j ≠ u
  hu : u < r.length
  i : Z.i = (E.at : Int)
  st : Z.st = decide (E.ln = 6)
  k : E.ln = 3 → ∃ U, r[u]? = some (lockP U E.K) ∧ Z.uv = lockU U
  f : E.ln = 6 → ∃ U, r[u]? = some (freeP U E.F) ∧ Z.uv = freeU U
  pl : 3 ≤ E.ln ∨ E.ln = 0 → Z.pb = (bitsN E.tw : Int) ∧ Z.pi = (bktN (E.kw % 4294967296) E.tw : Int)
section
variable {w0 w' : World} {base WB : Nat} {M : Sd} {r : List Part} {j u : Nat} {E E1 : En} {Z Z' : Wb} {X' : Wm} {q : Part}
end
theorem stepK_ok {M : Sd} {K : Lk} (hs : K.st < 18446744073709551616) (hp : 0 ≤ K.sp ∧ K.sp ≤ 16) (ms : 0 ≤ M.sp ∧ M.sp ≤ 16) (hl : S2.look M.L K.a < 18446744073709551616) :
    (stepK M K).t = K.t ∧ (stepK M K).a = K.a ∧ (stepK M K).st < 18446744073709551616 ∧ 0 ≤ (stepK M K).sp ∧ (stepK M K).sp ≤ 16 := by
  have turn : ∀ (K' : Lk) (x : Nat), K'.t = K.t → K'.a = K.a → x < 18446744073709551616 → 0 ≤ K'.sp → K'.sp ≤ 16 → (K'.turn x).t = K.t ∧ (K'.turn x).a = K.a ∧ (K'.turn x).st < 18446744073709551616 ∧ 0 ≤ (K'.turn x).sp ∧ (K'.turn x).sp ≤ 16 := fun K' x e1 e2 hx h1 h2 => by
    unfold Lk.turn
    split
    · exact ⟨e1, e2, hx, h1, h2⟩
    · split
      · split
        · refine ⟨e1, e2, hx, ?_, ?_⟩
          · show 0 ≤ K'.sp - 1; omega
          · show K'.sp - 1 ≤ 16; omega
        · exact ⟨e1, e2, hx, h1, h2⟩
      · exact ⟨e1, e2, hx, h1, h2⟩
  unfold stepK
  split
  · unfold Lk.cas
    split
    · exact ⟨rfl, rfl, hs, ms.1, ms.2⟩
    · exact turn _ _ rfl rfl hl ms.1 ms.2
  · unfold Lk.cas
    split
    · exact ⟨rfl, rfl, hs, hp.1, hp.2⟩
    · exact turn _ _ rfl rfl hl hp.1 hp.2
  · exact turn _ _ rfl rfl hl hp.1 hp.2
  · exact ⟨rfl, rfl, hs, hp.1, hp.2⟩
  · unfold Lk.cas
    split
    · exact ⟨rfl, rfl, hs, hp.1, hp.2⟩
    · exact turn _ _ rfl rfl hl hp.1 hp.2
  · split
    · exact ⟨rfl, rfl, hs, ms.1, ms.2⟩
    · exact ⟨rfl, rfl, hs, hp.1, hp.2⟩
  · exact ⟨rfl, rfl, hs, hp.1, hp.2⟩
section
variable {w0 w w' : World} {base WB : Nat} {M : Sd} {r : List Part} {j u U : Nat} {E : En} {Z : Wb} {X : Wm}
theorem Ew.look (h : Ew w0 w base WB M r j u E Z X) (a : Nat) : S2.look M.L a < 18446744073709551616 := h.wy.look a
theorem same_at (hu : u < r.length) : ∃ q, r.set u q = r := ⟨r[u], set_eq (List.getElem?_eq_getElem hu)⟩
end
end Go.Proofs.YtokplfkhpjcfcaaGreat.S15
set_option linter.unusedVariables false
set_option linter.unusedSimpArgs false
namespace Go.Proofs.YtokplfkhpjcfcaaGreat.S15
open Go.Proofs.YtokplfkhpjcfcaaGreat Go.Proofs.YtokplfkhpjcfcaaGreat.S11 Go.Proofs.YtokplfkhpjcfcaaGreat.S12 Go.Proofs.YtokplfkhpjcfcaaGreat.S13 Go.Proofs.YtokplfkhpjcfcaaGreat.S14
open Go.RowKit
section
variable {w0 w w' : World} {base WB : Nat} {M : Sd} {r : List Part} {j u U : Nat} {E : En} {Z : Wb} {X : Wm}
theorem stepM_n (M : Sd) (K : Lk) : (stepM M K).n ≤ M.n + 1 ∧ (stepM M K).pn ≤ M.pn + 1 ∧ (stepM M K).sp = M.sp := by
  unfold stepM
  split <;> simp [Sd.acc, Sd.link, Sd.prep, Sd.park, Sd.call]
theorem fstepM_sp (M : Sd) (K : Fr) : (fstepM M K).sp = M.sp := by
  unfold fstepM
  split <;> (try split) <;> simp [Sd.acc, Sd.link, Sd.unpark, Sd.call]
end
end Go.Proofs.YtokplfkhpjcfcaaGreat.S15
set_option linter.unusedVariables false
set_option linter.unusedSimpArgs false
namespace Go.Proofs.YtokplfkhpjcfcaaGreat.S15
open Go.Proofs.YtokplfkhpjcfcaaGreat Go.Proofs.YtokplfkhpjcfcaaGreat.S11 Go.Proofs.YtokplfkhpjcfcaaGreat.S12 Go.Proofs.YtokplfkhpjcfcaaGreat.S13 Go.Proofs.YtokplfkhpjcfcaaGreat.S14
open Go.RowKit
theorem alloc_lt {w : World} {ob : Obj} {B : Nat} (h : B < w.heap.size) : (w.alloc ob).heap[B]? = w.heap[B]? := Below.heap_alloc _ _ _ h
theorem alloc_size (w : World) (ob : Obj) : (w.alloc ob).heap.size = w.heap.size + 1 := by simp
theorem alloc_at {w : World} {ob : Obj} {B : Nat} (h : B = w.heap.size) : (w.alloc ob).heap[B]? = some ob := by
  subst h
  exact heap_alloc_new w ob
def noP : Part where
  ok _ := True
  fp _ := False
  lt _ _ _ e := e.elim
  kept _ _ _ _ _ _ := trivial
section
variable {w0 w w' : World} {base WB : Nat} {M : Sd} {r : List Part} {j u U : Nat} {o : Bool} {t kw tw : Nat} {Z : Wb} {X : Wm} {E : En}
theorem Pg.push1 (h : Pg w0 w base WB M r X) (q : Part) (b : Below w.heap.size w w') (hq : q.ok w') (hf : ∀ k, q.fp k → w.heap.size ≤ k) : Pg w0 w' base WB M (r ++ [q]) X := by
  have hp := h.ps.push q b hq hf
  rw [List.append_assoc] at hp
  exact ⟨hp, h.wB, h.xm, h.bl.trans (b.mono h.ps.size)⟩
end
end Go.Proofs.YtokplfkhpjcfcaaGreat.S15
set_option linter.unusedVariables false
set_option linter.unusedSimpArgs false
namespace Go.Proofs.YtokplfkhpjcfcaaGreat.S15
open Go.Proofs.YtokplfkhpjcfcaaGreat Go.Proofs.YtokplfkhpjcfcaaGreat.S11 Go.Proofs.YtokplfkhpjcfcaaGreat.S12 Go.Proofs.YtokplfkhpjcfcaaGreat.S13 Go.Proofs.YtokplfkhpjcfcaaGreat.S14
open Go.RowKit
theorem bring_low {a : Nat} (h : a < 1024) (v : Nat) : S2.bring a v = v := by
  have e1 : S2.oneB 1024 a = false := by unfold S2.oneB; rw [decide_eq_false (by omega)]; rfl
  have e2 : S2.oneB 1120 a = false := by unfold S2.oneB; rw [decide_eq_false (by omega)]; rfl
  unfold S2.bring S2.byteB
  rw [e1, e2]; rfl
theorem acc_same {M : Sd} {k a y : Nat} (h : a < 1024) : S2.look (M.acc k a y).L a = y := by
  show S2.look (S2.putL M.L a (S2.bring a y)) a = y
  rw [S2.look_put_same, bring_low h]
theorem acc_other {M : Sd} {k a y b : Nat} (h : b ≠ a) : S2.look (M.acc k a y).L b = S2.look M.L b := S2.look_put_other _ h _
theorem acc_load {M : Sd} {k a : Nat} (h : a < 1024) (b : Nat) : S2.look (M.acc k a (S2.look M.L a)).L b = S2.look M.L b := by
  by_cases e : b = a
  · subst e; exact acc_same h
  · exact acc_other e
structure Took (M M' : Sd) (a : Nat) : Prop where
  at_a : S2.look M'.L a = 1
  other : ∀ b, b ≠ a → S2.look M'.L b = S2.look M.L b
  n : M'.n ≤ M.n + 9
  pn : M'.pn ≤ M.pn + 9
  sp : M'.sp = M.sp
theorem lock1 {M : Sd} {t a : Nat} (ha : a < 1024) (h0 : S2.look M.L a = 0) : stepM M (lk1 t a) = M.acc 3 a 1 ∧ (stepK M (lk1 t a)).ln = 0 := by
  constructor
  · show M.acc 3 a (S2.casV (S2.look M.L a) 0 1) = _
    rw [h0]; rfl
  · show (Lk.cas _ (S2.look M.L a) 0 _).ln = 0
    unfold Lk.cas
    rw [if_pos h0]
section
variable {M : Sd} {t key x a : Nat}
theorem fr1 (ha : a < 1024) (h1 : S2.look M.L a = 1) : (fitn (M, fr0 a) 1).2.ln = 0 ∧ (fitn (M, fr0 a) 1).1 = M.acc 5 a 0 := by
  constructor
  · show (if idle (S2.look M.L a) = true then 0 else 2) = 0
    rw [h1, if_pos (by decide)]
  · show M.acc 5 a ((S2.look M.L a + 18446744073709551615) % 18446744073709551616) = _
    rw [h1]
end
section
variable {w0 w w' : World} {base WB : Nat} {M : Sd} {r : List Part} {t key x a : Nat} {Z : Wb} {X : Wm}
end
end Go.Proofs.YtokplfkhpjcfcaaGreat.S15
set_option linter.unusedVariables false
set_option linter.unusedSimpArgs false
namespace Go.Proofs.YtokplfkhpjcfcaaGreat.S15
open Go.Proofs.YtokplfkhpjcfcaaGreat Go.Proofs.YtokplfkhpjcfcaaGreat.S11 Go.Proofs.YtokplfkhpjcfcaaGreat.S12 Go.Proofs.YtokplfkhpjcfcaaGreat.S13 Go.Proofs.YtokplfkhpjcfcaaGreat.S14
open Go.RowKit
theorem look02 (b : Nat) : S2.look L02 b = if b = 0 then 2 else 0 := by
  have e : L02 = [(0, 2)] := by decide
  rw [e]
  by_cases h : b = 0
  · subst h; rfl
  · rw [if_neg h]
    unfold S2.look
    have : ((0 : Nat) == b) = false := by simp; omega
    simp [List.find?, this]
section
variable {w0 w w' : World} {base WB : Nat} {M : Sd} {r : List Part} {X : Wm}
end
end Go.Proofs.YtokplfkhpjcfcaaGreat.S15
set_option linter.unusedVariables false
set_option linter.unusedSimpArgs false
namespace Go.Proofs.YtokplfkhpjcfcaaGreat.S16
open Go.Proofs.YtokplfkhpjcfcaaGreat Go.Proofs.YtokplfkhpjcfcaaGreat.S11 Go.Proofs.YtokplfkhpjcfcaaGreat.S12 Go.Proofs.YtokplfkhpjcfcaaGreat.S13 Go.Proofs.YtokplfkhpjcfcaaGreat.S14 Go.Proofs.YtokplfkhpjcfcaaGreat.S15
open Go.RowKit
structure Pr where
  ln : Nat
  t : Nat
  a : Nat
  b : Nat
  tw : Nat
  K1 : Lk
  K2 : Lk
  F : Fr
def pr0 (t a b : Nat) : Pr := ⟨1, t, a, b, 0, lk0, lk0, fr0 0⟩
def loK (a b u : Nat) : Nat := if bktN b u < bktN a u then b else a
def hiK (a b u : Nat) : Nat := if bktN b u < bktN a u then a else b
def prM (M : Sd) (P : Pr) : Sd :=
  match P.ln with
  | 1 => M.acc 1 0 (S2.look M.L 0)
  | 2 => stepM M P.K1
  | 3 => M.acc 1 0 (S2.look M.L 0)
  | 4 => stepM M P.K2
  | 5 => fstepM M P.F
  | _ => M
def prE (M : Sd) (P : Pr) : Pr :=
  match P.ln with
  | 1 => { P with tw := S2.look M.L 0, ln := 2, K1 := lk1 P.t (lokN (loK P.a P.b (S2.look M.L 0)) (S2.look M.L 0)), K2 := lk1 P.t (lokN (hiK P.a P.b (S2.look M.L 0)) (S2.look M.L 0)) }
  | 2 => { P with K1 := stepK M P.K1, ln := if (stepK M P.K1).ln = 0 then 3 else 2 }
  | 3 => if S2.look M.L 0 = P.tw then { P with ln := if bktN P.a P.tw = bktN P.b P.tw then 0 else 4 } else { P with ln := 5, F := fr0 (lokN (loK P.a P.b P.tw) P.tw) }
  | 4 => { P with K2 := stepK M P.K2, ln := if (stepK M P.K2).ln = 0 then 0 else 4 }
  | 5 => { P with F := fstepK M P.F, ln := if (fstepK M P.F).ln = 0 then 1 else 5 }
  | _ => P
abbrev Rows := List (Nat × Obj)
def rowsP (l : Rows) : Part where
  ok w := (∀ x, x ∈ l → w.heap[x.1]? = some x.2) ∧ (l.map Prod.fst).Nodup
  fp k := ∃ ob, (k, ob) ∈ l
  lt w h k e := by
    obtain ⟨ob, he⟩ := e
    exact heap_lt (h.1 _ he)
  kept S w w' h t hs := ⟨fun x hx => (t.block x.1 (heap_lt (h.1 _ hx)) (hs _ ⟨x.2, hx⟩)).trans (h.1 _ hx), h.2⟩
theorem set_at2 {l : Rows} {k i : Nat} {x y : Nat × Obj} (h : l[k]? = some x) (hk : i ≠ k) : (l.set i y)[k]? = some x := (List.getElem?_set_ne hk).trans h
theorem at_end (l : Rows) (x : Nat × Obj) : (l ++ [x])[l.length]? = some x := by rw [List.getElem?_append_right (Nat.le_refl _), Nat.sub_self]; rfl
theorem app1 {l a : Rows} {k : Nat} {x : Nat × Obj} (h : l[k]? = some x) : (l ++ a)[k]? = some x := by
  rw [List.getElem?_append_left (List.getElem?_eq_some_iff.1 h).1]; exact h
theorem app2 {l a b : Rows} {k : Nat} {x : Nat × Obj} (h : l[k]? = some x) : (l ++ a ++ b)[k]? = some x := app1 (app1 h)
theorem app3 {l a b c : Rows} {k : Nat} {x : Nat × Obj} (h : l[k]? = some x) : (l ++ a ++ b ++ c)[k]? = some x := app1 (app2 h)
theorem app4 {l a b c d : Rows} {k : Nat} {x : Nat × Obj} (h : l[k]? = some x) : (l ++ a ++ b ++ c ++ d)[k]? = some x := app1 (app3 h)
section
variable {w0 w w' : World} {base WB : Nat} {M : Sd} {r : List Part} {j u U : Nat} {l l' : Rows} {X : Wm}
structure Wq (w0 w : World) (base WB : Nat) (M : Sd) (r : List Part) (j : Nat) (l : Rows) (X : Wm) : Prop where
  pg : Pg w0 w base WB M (r.set j (rowsP l)) X
  hj : j < r.length
theorem Wq.new (h : Wq w0 w base WB M r j l X) (b : Below w.heap.size w w') : Wq w0 w' base WB M r j l X := ⟨h.pg.new b, h.hj⟩
theorem Wq.part (h : Wq w0 w base WB M r j l X) : (r.set j (rowsP l))[j]? = some (rowsP l) := List.getElem?_set_self h.hj
theorem Wq.at (h : Wq w0 w base WB M r j l X) : (rowsP l).ok w := h.pg.ps.ok _ _ (h.pg.part h.part)
theorem Wq.blk (h : Wq w0 w base WB M r j l X) (k : Nat) {B : Nat} {ob : Obj} (e : l[k]? = some (B, ob)) : w.heap[B]? = some ob := h.at.1 _ (List.mem_of_getElem? e)
theorem Wq.lt (h : Wq w0 w base WB M r j l X) {x : Nat × Obj} (e : x ∈ l) : x.1 < w.heap.size := heap_lt (h.at.1 _ e)
theorem Wq.turn (h : Wq w0 w base WB M r j l X) (hq : (rowsP l').ok w') (tn : Turns (rowsP l).fp w w') (hf : ∀ k, (rowsP l').fp k → (rowsP l).fp k ∨ w.heap.size ≤ k) : Wq w0 w' base WB M r j l' X := by
  have := h.pg.turn h.part (rowsP l') hq tn hf
  rw [List.set_set] at this
  exact ⟨this, h.hj⟩
theorem Wq.only (h : Wq w0 w base WB M r j l X) (hs : ∀ x, x ∈ l' → x ∈ l) (hn : (l'.map Prod.fst).Nodup) : Wq w0 w base WB M r j l' X :=
  h.turn ⟨fun x hx => h.at.1 x (hs x hx), hn⟩ (Turns.refl _ w) (fun k hk => .inl (by obtain ⟨ob, he⟩ := hk; exact ⟨ob, hs _ he⟩))
theorem set_fst {l : Rows} {k B : Nat} {o1 o2 : Obj} (e : l[k]? = some (B, o1)) : (l.set k (B, o2)).map Prod.fst = l.map Prod.fst := by
  rw [List.map_set]
  refine List.ext_getElem? fun i => ?_
  by_cases hi : i = k
  · subst hi
    have hlt : i < l.length := (List.getElem?_eq_some_iff.1 e).1
    rw [List.getElem?_set_self (by rw [List.length_map]; exact hlt), List.getElem?_map, e]; rfl
  · rw [List.getElem?_set_ne (Ne.symm hi)]
theorem nodup_at {l : Rows} (hn : (l.map Prod.fst).Nodup) {i k : Nat} {x y : Nat × Obj} (hi : l[i]? = some x) (hk : l[k]? = some y) (e : x.1 = y.1) : i = k := by
  have h1 : (l.map Prod.fst)[i]? = some x.1 := by rw [List.getElem?_map, hi]; rfl
  have h2 : (l.map Prod.fst)[k]? = some x.1 := by rw [List.getElem?_map, hk, e]; rfl
  exact (List.getElem?_inj (List.getElem?_eq_some_iff.1 h1).1 hn).1 (h1.trans h2.symm)
theorem Wq.put (h : Wq w0 w base WB M r j l X) (k : Nat) {B T : Nat} {cs cs' : Array Value} (e : l[k]? = some (B, .cells cs T (0, 0))) (i : Nat) (v : Value) (ec : cs.setIfInBounds i v = cs') : Wq w0 (w.setCell ⟨B, i, none⟩ v) base WB M r j (l.set k (B, .cells cs' T (0, 0))) X := by
  have hb := h.blk k e
  have hm : (B, .cells cs T (0, 0)) ∈ l := List.mem_of_getElem? e
  refine h.turn ⟨fun x hx => ?_, by rw [set_fst e]; exact h.at.2⟩ ((Turns.refl _ w).setCell ⟨B, i, none⟩ _ ⟨_, hm⟩) (fun q hq => .inl ?_)
  · obtain ⟨n, hn⟩ := List.getElem?_of_mem hx
    by_cases hnk : n = k
    · subst hnk
      rw [List.getElem?_set_self (List.getElem?_eq_some_iff.1 e).1] at hn
      injection hn with hn
      rw [← hn]
      exact set_blk hb i v _ ec
    · rw [List.getElem?_set_ne (Ne.symm hnk)] at hn
      rw [heap_set_ne (fun he => hnk (nodup_at h.at.2 hn e he))]
      exact h.blk n hn
  · obtain ⟨ob, hx⟩ := hq
    have hx2 : q ∈ (l.set k (B, .cells cs' T (0, 0))).map Prod.fst := List.mem_map.2 ⟨_, hx, rfl⟩
    rw [set_fst e] at hx2
    obtain ⟨y, hy, rfl⟩ := List.mem_map.1 hx2
    exact ⟨y.2, hy⟩
theorem Wq.push (h : Wq w0 w base WB M r j l X) (ob : Obj) : Wq w0 (w.alloc ob) base WB M r j (l ++ [(w.heap.size, ob)]) X := by
  refine h.turn ⟨fun x hx => ?_, ?_⟩ ((Turns.refl _ w).alloc ob) (fun q hq => ?_)
  · rcases List.mem_append.1 hx with hx | hx
    · rw [alloc_lt (h.lt hx)]; exact h.at.1 x hx
    · rw [List.mem_singleton] at hx
      subst hx
      exact heap_alloc_new w ob
  · rw [List.map_append, List.nodup_append]
    refine ⟨h.at.2, by simp, fun a ha b hb e => ?_⟩
    obtain ⟨y, hy, rfl⟩ := List.mem_map.1 ha
    have := h.lt hy
    simp at hb
    omega
  · obtain ⟨ob', hx⟩ := hq
    rcases List.mem_append.1 hx with hx | hx
    · exact .inl ⟨ob', hx⟩
    · rw [List.mem_singleton] at hx
      injection hx with h1 h2
      exact .inr (by omega)
theorem Wq.keep {s : Rows} {k : Nat} {y : Nat × Obj} (h : Wq w0 w base WB M r j ((l ++ s).set k y) X) (hk : k < l.length) : Wq w0 w base WB M r j (y :: s) X := by
  have hs := h.at.2
  rw [List.set_append_left _ _ hk] at h hs
  refine h.only (fun x hx => ?_) ?_
  · rcases List.mem_cons.1 hx with rfl | hx
    · exact List.mem_append_left _ (List.mem_set hk x)
    · exact List.mem_append_right _ hx
  · rw [List.map_append, List.nodup_append] at hs
    rw [List.map_cons, List.nodup_cons]
    refine ⟨fun hm => hs.2.2 _ (List.mem_map.2 ⟨y, List.mem_set hk y, rfl⟩) _ hm rfl, hs.2.1⟩
theorem Wq.load (h : Wq w0 w base WB M r j l X) {a : Nat} (ha : a < 4294967296) (hn : M.n ≤ 1000000000) :
    Calls Tryz.prog 117 #[Pw X.cB, .int .u32 a] w fun e w' => e = .returned (.int .u64 (S2.look M.L a : Nat)) ∧ ∃ X', Wq w0 w' base WB (M.acc 1 a (S2.look M.L a)) r j l X' ∧ X'.cB = X.cB := by
  refine (h.pg.load ha hn).mono ?_
  rintro e w' ⟨rfl, X', h', e'⟩
  exact ⟨rfl, X', ⟨h', h.hj⟩, e'⟩
theorem Wq.look (h : Wq w0 w base WB M r j l X) (a : Nat) : S2.look M.L a < 18446744073709551616 := by
  have := S2.look_lt h.pg.pw.cells.good a
  rwa [show X.L = M.L from congrArg Sd.L h.pg.xm] at this
theorem Wq.newU (h : Wq w0 w base WB M r j l X) (hju : j ≠ u) (hu : u < r.length) (ob : Obj) : Wq w0 (w.alloc ob) base WB M (r.set u (blockP w.heap.size ob)) j l X := by
  have e : (r.set j (rowsP l))[u]? = r[u]? := List.getElem?_set_ne hju
  have hp : (r.set j (rowsP l))[u]? = some r[u] := by rw [e]; exact List.getElem?_eq_getElem hu
  have h2 := h.pg.turn hp (blockP w.heap.size ob) (heap_alloc_new w ob) ((Turns.refl _ w).alloc ob) (fun k e => .inr (Nat.le_of_eq (show k = w.heap.size from e).symm))
  rw [List.set_comm _ _ hju] at h2
  exact ⟨h2, by rw [List.length_set]; exact h.hj⟩
theorem Wq.lock {K : Lk} (h : Wq w0 w base WB M r j l X) (hju : j ≠ u) (hu : r[u]? = some (lockP U K)) : Wl w0 w base WB M (r.set j (rowsP l)) u U K X := by
  have e : (r.set j (rowsP l))[u]? = some (lockP U K) := (List.getElem?_set_ne hju).trans hu
  exact ⟨by rw [set_eq e]; exact h.pg, (List.getElem?_eq_some_iff.1 e).1⟩
theorem Wq.free {K : Fr} (h : Wq w0 w base WB M r j l X) (hju : j ≠ u) (hu : r[u]? = some (freeP U K)) : Wf w0 w base WB M (r.set j (rowsP l)) u U K X := by
  have e : (r.set j (rowsP l))[u]? = some (freeP U K) := (List.getElem?_set_ne hju).trans hu
  exact ⟨by rw [set_eq e]; exact h.pg, (List.getElem?_eq_some_iff.1 e).1⟩
theorem wq_lock {K : Lk} (h : Wl w0 w base WB M (r.set j (rowsP l)) u U K X) (hju : j ≠ u) (hj : j < r.length) : Wq w0 w base WB M (r.set u (lockP U K)) j l X := by
  have hp := h.pg
  rw [List.set_comm _ _ hju] at hp
  exact ⟨hp, by rw [List.length_set]; exact hj⟩
theorem wq_free {K : Fr} (h : Wf w0 w base WB M (r.set j (rowsP l)) u U K X) (hju : j ≠ u) (hj : j < r.length) : Wq w0 w base WB M (r.set u (freeP U K)) j l X := by
  have hp := h.pg
  rw [List.set_comm _ _ hju] at hp
  exact ⟨hp, by rw [List.length_set]; exact hj⟩
end
end Go.Proofs.YtokplfkhpjcfcaaGreat.S16
set_option linter.unusedVariables false
set_option linter.unusedSimpArgs false
namespace Go.Proofs.YtokplfkhpjcfcaaGreat.S16
set_option maxRecDepth 100000
set_option maxHeartbeats 16000000
open Go.Proofs.YtokplfkhpjcfcaaGreat Go.Proofs.YtokplfkhpjcfcaaGreat.S11 Go.Proofs.YtokplfkhpjcfcaaGreat.S12 Go.Proofs.YtokplfkhpjcfcaaGreat.S13 Go.Proofs.YtokplfkhpjcfcaaGreat.S14 Go.Proofs.YtokplfkhpjcfcaaGreat.S15
open Go.RowKit
abbrev takeF (V : Nat) : Value := .func (.func 145) #[] #[Pw V]
abbrev leaveF (V : Nat) : Value := .func (.func 122) #[] #[Pw V]
abbrev lookF (XB TB : Nat) : Value := .func (.func 116) #[] #[Pw XB, Pw TB]
abbrev askF (KB OB XB TB : Nat) : Value := .func (.func 147) #[] #[Pw KB, Pw OB, Pw XB, Pw TB]
section
variable {w0 w w' : World} {base WB : Nat} {M : Sd} {r : List Part} {j u U : Nat} {l l' : Rows} {X : Wm}
theorem look_new (B : Nat) (t : Int) (w : World) : Calls Tryz.prog 65 #[Pw B, .int .i64 t] w fun e w' => e = .returned (lookF w.heap.size (w.heap.size + 1)) ∧ w' = (w.alloc (.cells #[Pw B] 80)).alloc (.cells #[.int .i64 t] 3) := by
  go_enter Tryz.func65, Tryz.ntmps65
  go_wp2_with fail
  go_ret
  exact ⟨by simp, rfl⟩
theorem take_new (h : Wq w0 w base WB M r j l X) (hju : j ≠ u) (hu : u < r.length) {t key tw : Nat} (ht : t < 64) {pb pi : Int} (hpb : pb = (bitsN tw : Int)) (hpi : pi = (bktN key tw : Int)) :
    Calls Tryz.prog 119 #[.int .i64 (t : Int), .agg #[.int .i64 pb, .int .i64 pi]] w fun e w' => ∃ V U, e = .returned (takeF V) ∧ w.heap.size ≤ V ∧ Wq w0 w' base WB M (r.set u (lockP U (lk1 t (lokN key tw)))) j (l ++ [(V, .cells #[Pw U] 293 (0, 0))]) X := by
  have h1 := h.new (below1 w (.cells #[.int .i64 pb, .int .i64 pi] 27))
  obtain ⟨a, ha⟩ : ∃ a, a = lokN key tw := ⟨_, rfl⟩
  have hlk : ∀ W, Calls Tryz.prog 10 #[.agg #[.int .i64 pb, .int .i64 pi]] W fun e w' => e = .returned (.int .u32 (a : Int)) ∧ Below W.heap.size W w' := fun W => by
    have := lockOf_any pb pi W
    rwa [hpb, hpi, lok_lock, ← ha, ← hpb, ← hpi] at this
  have hnl : ∀ W, Calls Tryz.prog 144 #[.int .i64 (t : Int), .int .u32 (a : Int)] W fun e w' => e = .returned (Pw W.heap.size) ∧ w' = W.alloc (.cells (lk1 t a).cs 315) := fun W => by
    have := new_lock (t : Int) a W
    rwa [show newK (t : Int) a = lk1 t a by unfold newK; rw [if_pos ⟨by omega, by omega⟩]; rfl] at this
  rw [← ha]
  have HLK := Lib.hid hlk; have HNL := Lib.hid hnl; have H1 := Lib.hid h1; have HJU := Lib.hid hju; have HU := Lib.hid hu
  have hsz : w.heap.size ≤ (w.alloc (.cells #[.int .i64 pb, .int .i64 pi] 27)).heap.size := by rw [alloc_size]; omega
  have HSZ := Lib.hid hsz
  clear h h1 hju hu ht ha hlk hnl hpb hpi hsz
  have c0 : (w.alloc (.cells #[.int .i64 pb, .int .i64 pi] 27)).cell? ⟨w.heap.size, 0, none⟩ = some (.int .i64 pb) := cell_row (heap_alloc_new w _) 0
  have c1 : (w.alloc (.cells #[.int .i64 pb, .int .i64 pi] 27)).cell? ⟨w.heap.size, 1, none⟩ = some (.int .i64 pi) := cell_row (heap_alloc_new w _) 1
  obtain ⟨Q, hQ⟩ : ∃ Q, Q = w.heap.size := ⟨_, rfl⟩
  rw [← hQ] at c0 c1
  have HQ := Lib.hid hQ
  clear hQ
  go_enter Tryz.func119, Tryz.ntmps119
  go_upto_region 1 with (fail)
  rw [← HQ.out]
  generalize w.alloc (.cells #[.int .i64 pb, .int .i64 pi] 27) = w1 at *
  go_upto_region 2 with (first
    | (go_at_call 10; refine (HLK.out _).mono ?_; rintro e w2 ⟨rfl, hb2⟩; have H2 := Lib.hid (H1.out.new hb2); have HS2 := Lib.hid (Nat.le_trans HSZ.out hb2.size); clear hb2)
    | (go_at_call 144; refine (HNL.out _).mono ?_; rintro e w3 ⟨rfl, rfl⟩))
  have h3 := H2.out.newU HJU.out HU.out (.cells (lk1 t a).cs 315)
  have h4 := h3.push (.cells #[Pw w2.heap.size] 293)
  rw [alloc_size] at h4
  go_wp2_with fail
  go_ret
  refine ⟨_, w2.heap.size, rfl, ?_, h4⟩
  have := HS2.out; omega
theorem leave_new (h : Wq w0 w base WB M r j l X) (hju : j ≠ u) (hu : u < r.length) {a : Nat} {pb pi : Int} (hz : S10.lockZ pb pi = (a : Int)) :
    Calls Tryz.prog 67 #[.agg #[.int .i64 pb, .int .i64 pi]] w fun e w' => ∃ V U, e = .returned (leaveF V) ∧ w.heap.size ≤ V ∧ Wq w0 w' base WB M (r.set u (freeP U (fr0 a))) j (l ++ [(V, .cells #[Pw U] 270 (0, 0))]) X := by
  have h1 := h.new (below1 w (.cells #[.int .i64 pb, .int .i64 pi] 27))
  have hlk : ∀ W, Calls Tryz.prog 10 #[.agg #[.int .i64 pb, .int .i64 pi]] W fun e w' => e = .returned (.int .u32 (a : Int)) ∧ Below W.heap.size W w' := fun W => by
    have := lockOf_any pb pi W
    rwa [hz] at this
  have HLK := Lib.hid hlk; have HNL := Lib.hid (fun W => new_free a W); have H1 := Lib.hid h1; have HJU := Lib.hid hju; have HU := Lib.hid hu
  have hsz : w.heap.size ≤ (w.alloc (.cells #[.int .i64 pb, .int .i64 pi] 27)).heap.size := by rw [alloc_size]; omega
  have HSZ := Lib.hid hsz
  clear h h1 hju hu hz hlk hsz
  have c0 : (w.alloc (.cells #[.int .i64 pb, .int .i64 pi] 27)).cell? ⟨w.heap.size, 0, none⟩ = some (.int .i64 pb) := cell_row (heap_alloc_new w _) 0
  have c1 : (w.alloc (.cells #[.int .i64 pb, .int .i64 pi] 27)).cell? ⟨w.heap.size, 1, none⟩ = some (.int .i64 pi) := cell_row (heap_alloc_new w _) 1
  obtain ⟨Q, hQ⟩ : ∃ Q, Q = w.heap.size := ⟨_, rfl⟩
  rw [← hQ] at c0 c1
  have HQ := Lib.hid hQ
  clear hQ
  go_enter Tryz.func67, Tryz.ntmps67
  go_upto_region 1 with (fail)
  rw [← HQ.out]
  generalize w.alloc (.cells #[.int .i64 pb, .int .i64 pi] 27) = w1 at *
  go_upto_region 2 with (first
    | (go_at_call 10; refine (HLK.out _).mono ?_; rintro e w2 ⟨rfl, hb2⟩; have H2 := Lib.hid (H1.out.new hb2); have HS2 := Lib.hid (Nat.le_trans HSZ.out hb2.size); clear hb2)
    | (go_at_call 121; refine (HNL.out _).mono ?_; rintro e w3 ⟨rfl, rfl⟩))
  have h3 := H2.out.newU HJU.out HU.out (.cells (fr0 a).cs 301)
  have h4 := h3.push (.cells #[Pw w2.heap.size] 270)
  rw [alloc_size] at h4
  go_wp2_with fail
  go_ret
  refine ⟨_, w2.heap.size, rfl, ?_, h4⟩
  have := HS2.out; omega
def askL (n B t tw : Nat) (b1 i1 b2 i2 : Int) : Rows := [(n, .cells #[Pw B] 80 (0, 0)), (n + 1, .cells #[.int .i64 (t : Int)] 3 (0, 0)), (n + 2, .cells #[.int .u64 (tw : Int)] 22 (0, 0)), (n + 3, .cells #[.int .i64 b1, .int .i64 i1, .int .i64 b2, .int .i64 i2] 72 (0, 0))]
theorem ask_new (h : Wq w0 w base WB M r j l X) (B t tw : Nat) (b1 i1 b2 i2 : Int) :
    Calls Tryz.prog 120 #[Pw B, .int .i64 (t : Int), .int .u64 (tw : Int), .agg #[.int .i64 b1, .int .i64 i1, .int .i64 b2, .int .i64 i2]] w fun e w' => e = .returned (askF (w.heap.size + 2) (w.heap.size + 3) w.heap.size (w.heap.size + 1)) ∧ Wq w0 w' base WB M r j (l ++ askL w.heap.size B t tw b1 i1 b2 i2) X := by
  obtain ⟨n, hn⟩ : ∃ n, n = w.heap.size := ⟨_, rfl⟩
  have h1 := h.push (.cells #[Pw B] 80)
  have h2 := h1.push (.cells #[.int .i64 (t : Int)] 3)
  have h3 := h2.push (.cells #[.int .u64 (tw : Int)] 22)
  have h4 := h3.push (.cells #[.int .i64 b1, .int .i64 i1, .int .i64 b2, .int .i64 i2] 72)
  simp only [alloc_size, List.append_assoc, List.cons_append, List.nil_append] at h4
  have H4 := Lib.hid h4
  clear h h1 h2 h3 h4 hn
  go_enter Tryz.func120, Tryz.ntmps120
  go_wp2_with fail
  go_ret
  exact ⟨by simp, H4.out⟩
theorem take_step {K : Lk} (h : Wq w0 w base WB M r j l X) (hju : j ≠ u) (hu : r[u]? = some (lockP U K)) (k : Nat) {V : Nat} (hv : l[k]? = some (V, .cells #[Pw U] 293 (0, 0))) (ok : LkOk M K) (h6 : K.ln ≤ 6) :
    Calls Tryz.prog 145 #[Pw WB, Pw V] w fun e w' => e = .returned (.bool (decide ((stepK M K).ln = 0))) ∧ ∃ X', Wq w0 w' base WB (stepM M K) (r.set u (lockP U (stepK M K))) j l X' := by
  have hj := h.hj
  have c0 : w.cell? ⟨V, 0, none⟩ = some (Pw U) := cell_row (h.blk k hv) 0
  have HST := Lib.hid (step_any (h.lock hju hu) ok h6)
  have HJ := Lib.hid hj; have HJU := Lib.hid hju
  clear h hu hv ok h6 hj hju
  generalize decide ((stepK M K).ln = 0) = b at *
  go_enter Tryz.func145, Tryz.ntmps145
  go_wp2_with (go_at_call 146; refine HST.out.mono ?_; rintro e w2 ⟨rfl, hs⟩; have HS := Lib.hid hs; clear hs)
  go_ret
  obtain ⟨X', h'⟩ := HS.out
  exact ⟨rfl, X', wq_lock h' HJU.out HJ.out⟩
theorem leave_step {K : Fr} (h : Wq w0 w base WB M r j l X) (hju : j ≠ u) (hu : r[u]? = some (freeP U K)) (k : Nat) {V : Nat} (hv : l[k]? = some (V, .cells #[Pw U] 270 (0, 0))) (ok : FrOk M K) (h7 : K.ln ≤ 7) :
    Calls Tryz.prog 122 #[Pw WB, Pw V] w fun e w' => e = .returned (.bool (decide ((fstepK M K).ln = 0))) ∧ ∃ X', Wq w0 w' base WB (fstepM M K) (r.set u (freeP U (fstepK M K))) j l X' := by
  have hj := h.hj
  have c0 : w.cell? ⟨V, 0, none⟩ = some (Pw U) := cell_row (h.blk k hv) 0
  have HST := Lib.hid (step_f (h.free hju hu) ok h7)
  have HJ := Lib.hid hj; have HJU := Lib.hid hju
  clear h hu hv ok h7 hj hju
  generalize decide ((fstepK M K).ln = 0) = b at *
  go_enter Tryz.func122, Tryz.ntmps122
  go_wp2_with (go_at_call 123; refine HST.out.mono ?_; rintro e w2 ⟨rfl, hs⟩; have HS := Lib.hid hs; clear hs)
  go_ret
  obtain ⟨X', h'⟩ := HS.out
  exact ⟨rfl, X', wq_free h' HJU.out HJ.out⟩
end
end Go.Proofs.YtokplfkhpjcfcaaGreat.S16
