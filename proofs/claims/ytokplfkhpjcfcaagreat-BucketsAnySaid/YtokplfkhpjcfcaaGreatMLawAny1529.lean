/- Texts of this seat, one behind the other. -/
import Derived.Test.YtokplfkhpjcfcaaGreatMLawAny1528
set_option linter.unusedVariables false
set_option linter.unusedSimpArgs false
set_option linter.unusedVariables false
set_option linter.unusedSimpArgs false
namespace Go.Proofs.YtokplfkhpjcfcaaGreat.S10
open Go.Proofs.YtokplfkhpjcfcaaGreat
open Go.RowKit
theorem hash_no (a : Nat) (b : Int) (h : b < 2 ∨ 8 < b) (w : World) : Calls Tryz.prog 31 #[.int .u32 a, .int .i64 b] w fun e w' => e = .returned (.int .i64 (-1)) ∧ w = w' := by
  have q := is_any b w
  rw [tab_no h] at q
  have Q := Lib.hid q
  clear q h
  go_enter Tryz.func31, Tryz.ntmps31
  go_wp2_with fail
  refine Q.out.mono ?_
  rintro e w' ⟨rfl, rfl⟩
  go_wp2_with fail
  go_ret
  exact ⟨rfl, rfl⟩
def hashZ (a : Nat) (b : Int) : Int := if 2 ≤ b ∧ b ≤ 8 then (hsh a b.toNat : Nat) else -1
theorem size_le (b : Int) : sizeN b ≤ 256 := by
  unfold sizeN
  split
  · rename_i h
    calc 2 ^ b.toNat ≤ 2 ^ 8 := Nat.pow_le_pow_right (by omega) (by omega)
      _ = 256 := rfl
  · omega
theorem hash_any (a : Nat) (b : Int) (ha : a < 4294967296) (w : World) : Calls Tryz.prog 31 #[.int .u32 a, .int .i64 b] w fun e w' => e = .returned (.int .i64 (hashZ a b)) ∧ w = w' := by
  unfold hashZ
  by_cases h : 2 ≤ b ∧ b ≤ 8
  · obtain ⟨n, rfl⟩ := Int.eq_ofNat_of_zero_le (show 0 ≤ b by omega)
    rw [if_pos h]
    exact hash_yes a n ha (by omega) (by omega) w
  · rw [if_neg h]
    exact hash_no a b (by omega) w
def lockZ (b i : Int) : Int := if i < 0 ∨ (sizeN b : Int) ≤ i then 0 else 256 + ((sizeN b : Int) + i)
theorem lock_any (b i : Int) (w : World) : Calls Tryz.prog 33 #[.int .i64 b, .int .i64 i] w fun e w' => e = .returned (.int .u32 (lockZ b i)) ∧ w = w' := by
  have q := size_any b w
  have hn := size_le b
  unfold lockZ
  generalize sizeN b = n at *
  have Q := Lib.hid q
  clear q
  by_cases h0 : i < 0
  · rw [if_pos (Or.inl h0)]
    go_enter Tryz.func33, Tryz.ntmps33
    go_wp2_with fail
    refine Q.out.mono ?_
    rintro e w' ⟨rfl, rfl⟩
    go_wp2_with fail
    go_ret
    exact ⟨rfl, rfl⟩
  · by_cases h1 : (n : Int) ≤ i
    · rw [if_pos (Or.inr h1)]
      go_enter Tryz.func33, Tryz.ntmps33
      go_wp2_with fail
      refine Q.out.mono ?_
      rintro e w' ⟨rfl, rfl⟩
      go_wp2_with fail
      go_ret
      exact ⟨rfl, rfl⟩
    · rw [if_neg (by omega)]
      have h2 : 0 ≤ i := by omega
      have h3 : i < (n : Int) := by omega
      clear h1 h0
      go_enter Tryz.func33, Tryz.ntmps33
      go_wp2_with fail
      refine Q.out.mono ?_
      rintro e w' ⟨rfl, rfl⟩
      go_wp2_with fail
      go_ret
      exact ⟨rfl, rfl⟩
end Go.Proofs.YtokplfkhpjcfcaaGreat.S10
namespace Go.Proofs.YtokplfkhpjcfcaaGreat.S2
open Go.Maps
open Go.Proofs.YtokplfkhpjcfcaaGreat
theorem look_strike_other {a b : Nat} (h : b ≠ a) (L : LL) : look (strike a L) b = look L b := by
  unfold look strike
  rw [find_filter_keep (f := fun p : Nat × Nat => p.1 == b) (g := fun p : Nat × Nat => p.1 != a)]
  intro p hp
  simp at *
  omega
theorem look_ins_other {a b : Nat} (v : Nat) (h : b ≠ a) : ∀ L : LL, look (ins a v L) b = look L b
  | [] => by simp [look, ins, Ne.symm h]
  | q :: r => by
    unfold ins
    split
    · simp [look, Ne.symm h]
    · have ih := look_ins_other v h r
      unfold look at *
      rw [List.find?_cons, List.find?_cons]
      cases q.1 == b
      · exact ih
      · rfl
theorem look_put_other {a b : Nat} (v : Nat) (h : b ≠ a) (L : LL) : look (putL L a v) b = look L b := by
  unfold putL
  split
  · exact look_strike_other h L
  · rw [look_ins_other v h, look_strike_other h]
end Go.Proofs.YtokplfkhpjcfcaaGreat.S2
namespace Go.Proofs.YtokplfkhpjcfcaaGreat.S13
open Go.Proofs.YtokplfkhpjcfcaaGreat Go.RowKit
theorem meth_step (a : Addr) (w : World) : (method 468 293 (.pointer (some a)) "Step").run Tryz.prog w = .ok (146, .pointer (some a)) w := by kernel_rfl
end Go.Proofs.YtokplfkhpjcfcaaGreat.S13
set_option linter.unusedVariables false
set_option linter.unusedSimpArgs false
namespace Go.Proofs.YtokplfkhpjcfcaaGreat.S15
open Go.Proofs.YtokplfkhpjcfcaaGreat Go.Proofs.YtokplfkhpjcfcaaGreat.S11 Go.Proofs.YtokplfkhpjcfcaaGreat.S12 Go.Proofs.YtokplfkhpjcfcaaGreat.S13 Go.Proofs.YtokplfkhpjcfcaaGreat.S14
open Go.RowKit
def bitsN (u : Nat) : Nat := if 2 ≤ u ∧ u ≤ 8 then u else 2
theorem bits_in (u : Nat) : 2 ≤ bitsN u ∧ bitsN u ≤ 8 := by unfold bitsN; split <;> omega
def bktN (key u : Nat) : Nat := S10.hsh key (bitsN u)
theorem bkt_lt (key u : Nat) : bktN key u < 2 ^ bitsN u := S10.hsh_lt key (bitsN u) (by have := bits_in u; omega)
theorem bkt_hash (key u : Nat) : S10.hashZ key (bitsN u : Nat) = ((bktN key u : Nat) : Int) := by
  have := bits_in u
  unfold S10.hashZ
  rw [if_pos (by omega)]; rfl
def lokN (key u : Nat) : Nat := 256 + (2 ^ bitsN u + bktN key u)
theorem size_bits (u : Nat) : S10.sizeN (bitsN u : Nat) = 2 ^ bitsN u := by
  have := bits_in u
  unfold S10.sizeN
  rw [if_pos (by omega)]; rfl
theorem lok_lock (key u : Nat) : S10.lockZ (bitsN u : Nat) (bktN key u : Nat) = ((lokN key u : Nat) : Int) := by
  have h := bkt_lt key u
  unfold S10.lockZ lokN
  rw [size_bits]
  rw [if_neg (by omega)]
  omega
theorem pow_in (u : Nat) : 4 ≤ 2 ^ bitsN u ∧ 2 ^ bitsN u ≤ 256 := by
  have h := bits_in u
  rcases (show bitsN u = 2 ∨ bitsN u = 3 ∨ bitsN u = 4 ∨ bitsN u = 5 ∨ bitsN u = 6 ∨ bitsN u = 7 ∨ bitsN u = 8 by omega) with e | e | e | e | e | e | e <;> rw [e] <;> decide
theorem lok_in (key u : Nat) : 260 ≤ lokN key u ∧ lokN key u < 768 := by
  have := bkt_lt key u
  have := pow_in u
  unfold lokN
  omega
structure En where
  ow : Bool
  ln : Nat
  t : Nat
  kw : Nat
  tw : Nat
  K : Lk
  F : Fr
def en0 (t key : Nat) : En := ⟨false, 2, t, key, 0, lk0, fr0 0⟩
def En.a (E : En) : Nat := lokN (E.kw % 4294967296) E.tw
def enM (M : Sd) (E : En) : Sd :=
  match E.ln with
  | 1 => M.acc 1 (64 + E.t) (S2.look M.L (64 + E.t))
  | 2 => M.acc 1 0 (S2.look M.L 0)
  | 3 => stepM M E.K
  | 4 => M.acc 1 0 (S2.look M.L 0)
  | 5 => M.acc 1 (64 + E.t) (S2.look M.L (64 + E.t))
  | 6 => fstepM M E.F
  | _ => M
def enE (M : Sd) (E : En) : En :=
  match E.ln with
  | 1 => { E with kw := S2.look M.L (64 + E.t) % 4294967296, ln := 2 }
  | 2 => { E with tw := S2.look M.L 0, ln := 3, K := lk1 E.t (lokN (E.kw % 4294967296) (S2.look M.L 0)) }
  | 3 => { E with K := stepK M E.K, ln := if (stepK M E.K).ln = 0 then 4 else 3 }
  | 4 => if S2.look M.L 0 = E.tw then { E with ln := if E.ow then 5 else 0 } else { E with ln := 6, F := fr0 E.a }
  | 5 => if S2.look M.L (64 + E.t) % 4294967296 = E.kw then { E with ln := 0 } else { E with ln := 6, F := fr0 E.a }
  | 6 => { E with F := fstepK M E.F, ln := if (fstepK M E.F).ln = 0 then (if E.ow then 1 else 2) else 6 }
  | _ => E
def En.at (E : En) : Nat :=
  if E.ow then (match E.ln with | 1 => 0 | 2 => 1 | 3 => 2 | 4 => 3 | 5 => 4 | 6 => 5 | _ => 6)
  else (match E.ln with | 2 => 0 | 3 => 1 | 4 => 2 | 6 => 3 | _ => 4)
structure EnOk (E : En) : Prop where
  ln : E.ln ≤ 6
  en : E.ow = false → E.ln ≠ 1 ∧ E.ln ≠ 5
  t : E.t < 64
  kw : E.kw < 18446744073709551616
  tw : E.tw < 18446744073709551616
  k6 : E.K.ln ≤ 6
  kt : E.K.t < 64
  ka : E.K.a < 4294967296
  ks : E.K.st < 18446744073709551616
  kp : 0 ≤ E.K.sp ∧ E.K.sp ≤ 16
  f : FOk E.F
end Go.Proofs.YtokplfkhpjcfcaaGreat.S15
set_option linter.unusedVariables false
set_option linter.unusedSimpArgs false
namespace Go.Proofs.YtokplfkhpjcfcaaGreat.S15
open Go.Proofs.YtokplfkhpjcfcaaGreat Go.Proofs.YtokplfkhpjcfcaaGreat.S11 Go.Proofs.YtokplfkhpjcfcaaGreat.S12 Go.Proofs.YtokplfkhpjcfcaaGreat.S13 Go.Proofs.YtokplfkhpjcfcaaGreat.S14
open Go.RowKit
structure Wb where
  B : Nat
  PB : Nat
  KB : Nat
  TB : Nat
  i : Int
  st : Bool
  pb : Int
  pi : Int
  uv : Value
abbrev readV (B : Nat) : Value := .iface 134 (.agg #[Pw B])
abbrev askV (B : Nat) : Value := .iface 139 (.agg #[Pw B])
abbrev takeV : Value := .iface 138 (.agg #[])
abbrev leaveV : Value := .iface 140 (.agg #[])
abbrev lockU (U : Nat) : Value := .iface 293 (Pw U)
abbrev freeU (U : Nat) : Value := .iface 270 (Pw U)
def partsV (o : Bool) (KB TB : Nat) : Array Value :=
  if o then #[readV KB, readV TB, takeV, askV TB, askV KB, leaveV] else #[readV TB, takeV, askV TB, leaveV]
def nPart (o : Bool) : Nat := if o then 6 else 4
def tyE (o : Bool) : Nat := if o then 58 else 57
def wayC (o : Bool) (t : Nat) (Z : Wb) : Array Value :=
  #[.slice (some ⟨Z.PB, 0, none⟩) (nPart o) (nPart o), .int .i64 Z.i, .int .i64 (t : Int), Pw Z.KB, Pw Z.TB, .int .i64 Z.pb, .int .i64 Z.pi, .bool Z.st, Z.uv]
def wordC (a : Nat) (k : Bool) (u : Nat) : Array Value := #[.int .u32 (a : Int), .bool k, .int .u64 (u : Int)]
def kyA (o : Bool) (t : Nat) : Nat := if o then 64 + t else 0
structure WayAt (w : World) (o : Bool) (t kw tw : Nat) (Z : Wb) : Prop where
  b : w.heap[Z.B]? = some (.cells (wayC o t Z) (tyE o) (0, 0))
  p : ∃ T, w.heap[Z.PB]? = some (.cells (partsV o Z.KB Z.TB) T (0, 0))
  k : w.heap[Z.KB]? = some (.cells (wordC (kyA o t) o kw) 132 (0, 0))
  t : w.heap[Z.TB]? = some (.cells (wordC 0 false tw) 132 (0, 0))
  ne : Z.KB ≠ Z.TB
theorem heap_lt {w : World} {B : Nat} {o : Obj} (h : w.heap[B]? = some o) : B < w.heap.size := (Array.getElem?_eq_some_iff.1 h).1
def wayP (o : Bool) (t kw tw : Nat) (Z : Wb) : Part where
  ok w := WayAt w o t kw tw Z
  fp k := k = Z.B ∨ k = Z.PB ∨ k = Z.KB ∨ k = Z.TB
  lt w h k e := by
    rcases e with rfl | rfl | rfl | rfl
    · exact heap_lt h.b
    · obtain ⟨T, hp⟩ := h.p; exact heap_lt hp
    · exact heap_lt h.k
    · exact heap_lt h.t
  kept S w w' h t hs := by
    obtain ⟨T, hp⟩ := h.p
    exact ⟨(t.block _ (heap_lt h.b) (hs _ (.inl rfl))).trans h.b, ⟨T, (t.block _ (heap_lt hp) (hs _ (.inr (.inl rfl)))).trans hp⟩, (t.block _ (heap_lt h.k) (hs _ (.inr (.inr (.inl rfl))))).trans h.k, (t.block _ (heap_lt h.t) (hs _ (.inr (.inr (.inr rfl))))).trans h.t, h.ne⟩
section
variable {w w' : World} {o : Bool} {t kw tw : Nat} {Z : Wb}
theorem ty_ne (o : Bool) : tyE o ≠ 132 := by unfold tyE; cases o <;> decide
theorem WayAt.bk (h : WayAt w o t kw tw Z) : Z.B ≠ Z.KB := fun e => by
  have h1 := h.b; rw [e, h.k] at h1; injection h1 with h1; injection h1 with _ h1; exact ty_ne o h1.symm
theorem WayAt.bt (h : WayAt w o t kw tw Z) : Z.B ≠ Z.TB := fun e => by
  have h1 := h.b; rw [e, h.t] at h1; injection h1 with h1; injection h1 with _ h1; exact ty_ne o h1.symm
theorem parts_size (o : Bool) (KB TB : Nat) : (partsV o KB TB).size = nPart o := by unfold partsV nPart; cases o <;> rfl
theorem WayAt.pk (h : WayAt w o t kw tw Z) : Z.PB ≠ Z.KB := fun e => by
  obtain ⟨T, hp⟩ := h.p
  rw [e, h.k] at hp; injection hp with hp; injection hp with hp _
  have := parts_size o Z.KB Z.TB
  rw [← hp] at this
  unfold nPart at this
  cases o <;> simp [wordC] at this
theorem WayAt.pt (h : WayAt w o t kw tw Z) : Z.PB ≠ Z.TB := fun e => by
  obtain ⟨T, hp⟩ := h.p
  rw [e, h.t] at hp; injection hp with hp; injection hp with hp _
  have := parts_size o Z.KB Z.TB
  rw [← hp] at this
  unfold nPart at this
  cases o <;> simp [wordC] at this
theorem WayAt.pb (h : WayAt w o t kw tw Z) : Z.PB ≠ Z.B := fun e => by
  obtain ⟨T, hp⟩ := h.p
  rw [e, h.b] at hp; injection hp with hp; injection hp with hp _
  have := parts_size o Z.KB Z.TB
  rw [← hp] at this
  unfold nPart wayC at this
  cases o <;> simp at this
theorem heap_set_ne {w : World} {a : Addr} {v : Value} {B : Nat} (h : B ≠ a.block) : (w.setCell a v).heap[B]? = w.heap[B]? := Below.heap_setCell _ _ _ _ h
theorem WayAt.put (h : WayAt w o t kw tw Z) (i : Nat) (v : Value) (Z' : Wb) (e : (wayC o t Z).setIfInBounds i v = wayC o t Z') (e1 : Z'.B = Z.B) (e2 : Z'.PB = Z.PB) (e3 : Z'.KB = Z.KB) (e4 : Z'.TB = Z.TB) : WayAt (w.setCell ⟨Z.B, i, none⟩ v) o t kw tw Z' := by
  obtain ⟨T, hp⟩ := h.p
  refine ⟨?_, ⟨T, ?_⟩, ?_, ?_, ?_⟩
  · rw [e1]; exact set_blk h.b i v _ e
  · rw [e2, e3, e4, heap_set_ne h.pb]; exact hp
  · rw [e3, heap_set_ne (fun e => h.bk e.symm)]; exact h.k
  · rw [e4, heap_set_ne (fun e => h.bt e.symm)]; exact h.t
  · rw [e3, e4]; exact h.ne
theorem WayAt.putT (h : WayAt w o t kw tw Z) (v : Nat) : WayAt (w.setCell ⟨Z.TB, 2, none⟩ (.int .u64 (v : Int))) o t kw v Z := by
  obtain ⟨T, hp⟩ := h.p
  refine ⟨?_, ⟨T, ?_⟩, ?_, ?_, h.ne⟩
  · rw [heap_set_ne h.bt]; exact h.b
  · rw [heap_set_ne h.pt]; exact hp
  · rw [heap_set_ne h.ne]; exact h.k
  · exact set_blk h.t 2 _ _ rfl
theorem WayAt.putK (h : WayAt w o t kw tw Z) (v : Nat) : WayAt (w.setCell ⟨Z.KB, 2, none⟩ (.int .u64 (v : Int))) o t v tw Z := by
  obtain ⟨T, hp⟩ := h.p
  refine ⟨?_, ⟨T, ?_⟩, ?_, ?_, h.ne⟩
  · rw [heap_set_ne h.bk]; exact h.b
  · rw [heap_set_ne h.pk]; exact hp
  · exact set_blk h.k 2 _ _ rfl
  · rw [heap_set_ne (fun e => h.ne e.symm)]; exact h.t
end
end Go.Proofs.YtokplfkhpjcfcaaGreat.S15
set_option linter.unusedVariables false
set_option linter.unusedSimpArgs false
namespace Go.Proofs.YtokplfkhpjcfcaaGreat.S15
open Go.Proofs.YtokplfkhpjcfcaaGreat Go.Proofs.YtokplfkhpjcfcaaGreat.S11 Go.Proofs.YtokplfkhpjcfcaaGreat.S12 Go.Proofs.YtokplfkhpjcfcaaGreat.S13 Go.Proofs.YtokplfkhpjcfcaaGreat.S14
open Go.RowKit
abbrev sP (B : Nat) : Value := .pointer (some ⟨B, 2, none⟩)
theorem bits_any (u : Nat) (hu : u < 18446744073709551616) (w : World) : Calls Tryz.prog 5 #[.int .u64 (u : Int)] w fun e w' => e = .returned (.int .i64 (bitsN u : Int)) ∧ w = w' := by
  unfold bitsN
  by_cases h : 2 ≤ u
  · by_cases g : u ≤ 8
    · rw [if_pos ⟨h, g⟩]
      have d0 : decide ((u : Int) < 2) = false := decide_eq_false (by omega)
      have d1 : decide ((8 : Int) < (u : Int)) = false := decide_eq_false (by omega)
      have e1 : wrap64 (u : Int) = (u : Int) := by unfold wrap64; omega
      have e2 : IntKind.i64.wrap (u : Int) = (u : Int) := by rw [IntKind.wrap_i64]; omega
      clear h g hu
      go_enter Tryz.func5, Tryz.ntmps5
      go_wp2_with fail
      go_ret
      exact ⟨rfl, rfl⟩
    · rw [if_neg (by omega)]
      have d0 : decide ((u : Int) < 2) = false := decide_eq_false (by omega)
      have d1 : decide ((8 : Int) < (u : Int)) = true := decide_eq_true (by omega)
      clear h g hu
      go_enter Tryz.func5, Tryz.ntmps5
      go_wp2_with fail
      go_ret
      exact ⟨rfl, rfl⟩
  · rw [if_neg (by omega)]
    have d0 : decide ((u : Int) < 2) = true := decide_eq_true (by omega)
    clear h hu
    go_enter Tryz.func5, Tryz.ntmps5
    go_wp2_with fail
    go_ret
    exact ⟨rfl, rfl⟩
theorem isT_any (t : Int) (w : World) : Calls Tryz.prog 47 #[.int .i64 t] w fun e w' => e = .returned (.bool (decide (0 ≤ t ∧ t < 64))) ∧ w = w' := by
  by_cases h : 0 ≤ t
  · by_cases g : t < 64
    · rw [decide_eq_true (And.intro h g)]
      have d0 : decide ((0 : Int) ≤ t) = true := decide_eq_true h
      have d1 : decide (t < (64 : Int)) = true := decide_eq_true g
      clear h g
      go_enter Tryz.func47, Tryz.ntmps47
      go_wp2_with fail
      go_ret
      exact ⟨rfl, rfl⟩
    · rw [decide_eq_false (by omega)]
      have d0 : decide ((0 : Int) ≤ t) = true := decide_eq_true h
      have d1 : decide (t < (64 : Int)) = false := decide_eq_false g
      clear h g
      go_enter Tryz.func47, Tryz.ntmps47
      go_wp2_with fail
      go_ret
      exact ⟨rfl, rfl⟩
  · rw [decide_eq_false (by omega)]
    have d0 : decide ((0 : Int) ≤ t) = false := decide_eq_false h
    clear h
    go_enter Tryz.func47, Tryz.ntmps47
    go_wp2_with fail
    go_ret
    exact ⟨rfl, rfl⟩
def placeV (key u : Nat) : Value := .agg #[.int .i64 (bitsN u : Int), .int .i64 (bktN key u : Int)]
theorem place_any (key u : Nat) (hk : key < 4294967296) (hu : u < 18446744073709551616) (w : World) : Calls Tryz.prog 8 #[.int .u32 (key : Int), .int .u64 (u : Int)] w fun e w' => e = .returned (placeV key u) ∧ Below w.heap.size w w' := by
  have hb := fun W => bits_any u hu W
  have hh : ∀ W, Calls Tryz.prog 31 #[.int .u32 (key : Int), .int .i64 (bitsN u : Int)] W fun e w' => e = .returned (.int .i64 (bktN key u : Int)) ∧ W = w' := fun W => by
    have := S10.hash_any key (bitsN u : Nat) hk W
    rwa [bkt_hash] at this
  have HB := Lib.hid hb; have HH := Lib.hid hh
  unfold placeV
  generalize bitsN u = b at *
  generalize bktN key u = k at *
  clear hb hh hk hu
  go_enter Tryz.func8, Tryz.ntmps8
  go_wp2_with (first
    | (go_at_call 5; refine (HB.out _).mono ?_; rintro e w2 ⟨rfl, rfl⟩)
    | (go_at_call 31; refine (HH.out _).mono ?_; rintro e w3 ⟨rfl, rfl⟩))
  exact bodyPost_ret (v := .agg #[.int .i64 (b : Int), .int .i64 (k : Int)]) (by simp [results, Tryz.results8, go_sem]) rfl ⟨rfl, below1 w _⟩
theorem lockOf_any (b i : Int) (w : World) : Calls Tryz.prog 10 #[.agg #[.int .i64 b, .int .i64 i]] w fun e w' => e = .returned (.int .u32 (S10.lockZ b i)) ∧ Below w.heap.size w w' := by
  have HL := Lib.hid (fun W => S10.lock_any b i W)
  generalize S10.lockZ b i = a at *
  go_enter Tryz.func10, Tryz.ntmps10
  go_wp2_with (go_at_call 33; refine (HL.out _).mono ?_; rintro e w2 ⟨rfl, rfl⟩)
  go_ret
  exact ⟨rfl, below1 _ _⟩
theorem rbegin_any (p s : Value) (hp : ∃ B, p = Pw B) (w : World) : Calls Tryz.prog 230 #[.agg #[p], s] w fun e w' => e = .returned (.bool true) ∧ Below w.heap.size w w' := by
  obtain ⟨B, rfl⟩ := hp
  go_enter Tryz.func230, Tryz.ntmps230
  go_wp2_with fail
  go_ret
  exact ⟨rfl, below1 _ _⟩
theorem abegin_any {s : Bool} {w : World} {B Q : Nat} (c : w.cell? ⟨B, 7, none⟩ = some (.bool s)) : Calls Tryz.prog 234 #[.agg #[Pw Q], sP B] w fun e w' => e = .returned (.bool (!s)) ∧ Below w.heap.size w w' := by
  have hb := below1 w (.cells #[Pw Q] 139)
  have c1 : (w.alloc (.cells #[Pw Q] 139)).cell? ⟨B, 7, none⟩ = some (.bool s) := bcell hb c
  have HB := Lib.hid hb
  clear hb c
  go_enter Tryz.func234, Tryz.ntmps234
  go_upto_region 1 with (fail)
  generalize w.alloc (.cells #[Pw Q] 139) = w1 at *
  cases s
  all_goals
    go_wp2_with fail
    go_ret
    exact ⟨rfl, HB.out⟩
section
variable {w0 w w' : World} {base WB : Nat} {M : Sd} {r : List Part} {j : Nat} {o : Bool} {t kw tw : Nat} {Z : Wb} {X : Wm}
structure Wy (w0 w : World) (base WB : Nat) (M : Sd) (r : List Part) (j : Nat) (o : Bool) (t kw tw : Nat) (Z : Wb) (X : Wm) : Prop where
  pg : Pg w0 w base WB M (r.set j (wayP o t kw tw Z)) X
  hj : j < r.length
theorem Wy.new (h : Wy w0 w base WB M r j o t kw tw Z X) (b : Below w.heap.size w w') : Wy w0 w' base WB M r j o t kw tw Z X := ⟨h.pg.new b, h.hj⟩
theorem Wy.part (h : Wy w0 w base WB M r j o t kw tw Z X) : (r.set j (wayP o t kw tw Z))[j]? = some (wayP o t kw tw Z) := List.getElem?_set_self h.hj
theorem Wy.at (h : Wy w0 w base WB M r j o t kw tw Z X) : WayAt w o t kw tw Z := h.pg.ps.ok _ _ (h.pg.part h.part)
theorem Wy.turn (h : Wy w0 w base WB M r j o t kw tw Z X) {o' : Bool} {t' kw' tw' : Nat} {Z' : Wb} (hq : WayAt w' o' t' kw' tw' Z') (tn : Turns (wayP o t kw tw Z).fp w w') (hf : ∀ k, (wayP o' t' kw' tw' Z').fp k → (wayP o t kw tw Z).fp k ∨ w.heap.size ≤ k) : Wy w0 w' base WB M r j o' t' kw' tw' Z' X := by
  have := h.pg.turn h.part (wayP o' t' kw' tw' Z') hq tn hf
  rw [List.set_set] at this
  exact ⟨this, h.hj⟩
theorem Wy.put (h : Wy w0 w base WB M r j o t kw tw Z X) (i : Nat) (v : Value) (Z' : Wb) (e : (wayC o t Z).setIfInBounds i v = wayC o t Z') (e1 : Z'.B = Z.B) (e2 : Z'.PB = Z.PB) (e3 : Z'.KB = Z.KB) (e4 : Z'.TB = Z.TB) : Wy w0 (w.setCell ⟨Z.B, i, none⟩ v) base WB M r j o t kw tw Z' X :=
  h.turn (h.at.put i v Z' e e1 e2 e3 e4) ((Turns.refl _ w).setCell ⟨Z.B, i, none⟩ _ (.inl rfl)) (fun k hk => .inl (by
    rcases hk with e | e | e | e
    · exact .inl (e.trans e1)
    · exact .inr (.inl (e.trans e2))
    · exact .inr (.inr (.inl (e.trans e3)))
    · exact .inr (.inr (.inr (e.trans e4)))))
theorem Wy.putT (h : Wy w0 w base WB M r j o t kw tw Z X) (v : Nat) : Wy w0 (w.setCell ⟨Z.TB, 2, none⟩ (.int .u64 (v : Int))) base WB M r j o t kw v Z X :=
  h.turn (h.at.putT v) ((Turns.refl _ w).setCell ⟨Z.TB, 2, none⟩ _ (.inr (.inr (.inr rfl)))) (fun k hk => .inl hk)
theorem Wy.putK (h : Wy w0 w base WB M r j o t kw tw Z X) (v : Nat) : Wy w0 (w.setCell ⟨Z.KB, 2, none⟩ (.int .u64 (v : Int))) base WB M r j o t v tw Z X :=
  h.turn (h.at.putK v) ((Turns.refl _ w).setCell ⟨Z.KB, 2, none⟩ _ (.inr (.inr (.inl rfl)))) (fun k hk => .inl hk)
theorem Wy.c (h : Wy w0 w base WB M r j o t kw tw Z X) : w.cell? ⟨Z.B, 0, none⟩ = some (.slice (some ⟨Z.PB, 0, none⟩) (nPart o) (nPart o)) ∧ w.cell? ⟨Z.B, 1, none⟩ = some (.int .i64 Z.i) ∧ w.cell? ⟨Z.B, 2, none⟩ = some (.int .i64 (t : Int)) ∧ w.cell? ⟨Z.B, 3, none⟩ = some (Pw Z.KB) ∧ w.cell? ⟨Z.B, 4, none⟩ = some (Pw Z.TB) ∧ w.cell? ⟨Z.B, 5, none⟩ = some (.int .i64 Z.pb) ∧ w.cell? ⟨Z.B, 6, none⟩ = some (.int .i64 Z.pi) ∧ w.cell? ⟨Z.B, 7, none⟩ = some (.bool Z.st) ∧ w.cell? ⟨Z.B, 8, none⟩ = some Z.uv :=
  ⟨cell_row h.at.b 0, cell_row h.at.b 1, cell_row h.at.b 2, cell_row h.at.b 3, cell_row h.at.b 4, cell_row h.at.b 5, cell_row h.at.b 6, cell_row h.at.b 7, cell_row h.at.b 8⟩
theorem Wy.kc (h : Wy w0 w base WB M r j o t kw tw Z X) : w.cell? ⟨Z.KB, 0, none⟩ = some (.int .u32 (kyA o t : Int)) ∧ w.cell? ⟨Z.KB, 2, none⟩ = some (.int .u64 (kw : Int)) := ⟨cell_row h.at.k 0, cell_row h.at.k 2⟩
theorem Wy.tc (h : Wy w0 w base WB M r j o t kw tw Z X) : w.cell? ⟨Z.TB, 0, none⟩ = some (.int .u32 0) ∧ w.cell? ⟨Z.TB, 2, none⟩ = some (.int .u64 (tw : Int)) := ⟨cell_row h.at.t 0, cell_row h.at.t 2⟩
theorem Wy.ks (h : Wy w0 w base WB M r j o t kw tw Z X) : w.cell? ⟨Z.KB, 1, none⟩ = some (.bool o) ∧ w.cell? ⟨Z.TB, 1, none⟩ = some (.bool false) := ⟨cell_row h.at.k 1, cell_row h.at.t 1⟩
theorem Wy.fz (h : Wy w0 w base WB M r j o t kw tw Z X) (i : Nat) : w.frozen? ⟨Z.B, i, none⟩ = false ∧ w.frozen? ⟨Z.KB, i, none⟩ = false ∧ w.frozen? ⟨Z.TB, i, none⟩ = false := ⟨froz_row h.at.b i, froz_row h.at.k i, froz_row h.at.t i⟩
theorem Wy.load (h : Wy w0 w base WB M r j o t kw tw Z X) {a : Nat} (ha : a < 4294967296) (hn : M.n ≤ 1000000000) :
    Calls Tryz.prog 117 #[Pw X.cB, .int .u32 a] w fun e w' => e = .returned (.int .u64 (S2.look M.L a : Nat)) ∧ ∃ X', Wy w0 w' base WB (M.acc 1 a (S2.look M.L a)) r j o t kw tw Z X' ∧ X'.cB = X.cB := by
  refine (h.pg.load ha hn).mono ?_
  rintro e w' ⟨rfl, X', h', e'⟩
  exact ⟨rfl, X', ⟨h', h.hj⟩, e'⟩
end
end Go.Proofs.YtokplfkhpjcfcaaGreat.S15
set_option linter.unusedVariables false
set_option linter.unusedSimpArgs false
namespace Go.Proofs.YtokplfkhpjcfcaaGreat.S15
set_option maxRecDepth 100000
set_option maxHeartbeats 16000000
open Go.Proofs.YtokplfkhpjcfcaaGreat Go.Proofs.YtokplfkhpjcfcaaGreat.S11 Go.Proofs.YtokplfkhpjcfcaaGreat.S12 Go.Proofs.YtokplfkhpjcfcaaGreat.S13 Go.Proofs.YtokplfkhpjcfcaaGreat.S14
open Go.RowKit
section
variable {w0 w w' : World} {base WB : Nat} {M : Sd} {r : List Part} {j : Nat} {o : Bool} {t kw tw : Nat} {Z : Wb} {X : Wm}
theorem Wy.pushB (h : Wy w0 w base WB M r j o t kw tw Z X) (ob : Obj) : Wy w0 (w.alloc ob) base WB M (r ++ [blockP w.heap.size ob]) j o t kw tw Z X := by
  have hp := h.pg.ps.push (blockP w.heap.size ob) (below1 w ob) (heap_alloc_new w ob) (fun k e => Nat.le_of_eq (show k = w.heap.size from e).symm)
  rw [List.append_assoc] at hp
  refine ⟨⟨?_, h.pg.wB, h.pg.xm, h.pg.bl.alloc h.pg.size _⟩, by rw [List.length_append]; have := h.hj; simp; omega⟩
  rw [List.set_append_left _ _ h.hj]
  exact hp
theorem Wy.dropB {q : Part} (h : Wy w0 w base WB M (r ++ [q]) j o t kw tw Z X) (hj : j < r.length) : Wy w0 w base WB M r j o t kw tw Z X := by
  have hp := h.pg.ps
  rw [List.set_append_left _ _ hj, ← List.append_assoc] at hp
  exact ⟨⟨Parts.left hp, h.pg.wB, h.pg.xm, h.pg.bl⟩, hj⟩
theorem Wy.last {Q : Nat} {ob : Obj} (h : Wy w0 w base WB M (r ++ [blockP Q ob]) j o t kw tw Z X) (hj : j < r.length) : w.heap[Q]? = some ob := by
  have hp := h.pg.ps
  rw [List.set_append_left _ _ hj, ← List.append_assoc] at hp
  refine hp.ok (X.parts ++ r.set j (wayP o t kw tw Z)).length (blockP Q ob) ?_
  rw [List.getElem?_append_right (Nat.le_refl _), Nat.sub_self]; rfl
theorem look_t (h : Wy w0 w base WB M r j o t kw tw Z X) (hn : M.n ≤ 1000000000) {x : Nat} (hx : x = S2.look M.L (0)) : Calls Tryz.prog 223 #[Pw Z.TB, Pw WB] w fun e w' => e = .returned (.int .u64 (x : Int)) ∧ ∃ X', Wy w0 w' base WB (M.acc 1 0 x) r j o t kw tw Z X' := by
  obtain ⟨cb, hcb⟩ : ∃ cb, X.cB = cb := ⟨_, rfl⟩
  have HCB := Lib.hid hcb
  have hd := h.new (Below.refl _ _).drew
  have hld : ∀ W X', Wy w0 W base WB M r j o t kw tw Z X' → X'.cB = cb → Calls Tryz.prog 117 #[Pw cb, .int .u32 0] W fun e w' => e = .returned (.int .u64 (x : Int)) ∧ ∃ X5, Wy w0 w' base WB (M.acc 1 0 x) r j o t kw tw Z X5 ∧ X5.cB = cb := fun W X' hW hc => by
    subst hc
    rw [hx]
    skip
    exact hW.load (a := 0) (by omega) hn
  have hlx : x < 18446744073709551616 := by
    have := S2.look_lt h.pg.pw.cells.good (0)
    rw [show X.L = M.L from congrArg Sd.L h.pg.xm] at this
    rw [hx]; exact this
  have c1 : w.cell? ⟨WB, 0, none⟩ = some (Pw cb) := by rw [← hcb]; exact h.pg.c.1
  have c2 : w.cell? ⟨Z.TB, 0, none⟩ = some (.int .u32 0) := by exact h.tc.1
  have HLD := Lib.hid (hld _ X hd hcb)
  clear h hd hcb hld hn hx hlx
  go_enter Tryz.func223, Tryz.ntmps223
  go_upto_region 1 with (fail)
  go_still_tail 8, (by kernel_rfl)
  change wpList _ _ _ _ _ w.drew
  go_upto_region 2 with (go_at_call 117; refine HLD.out.mono ?_; rintro e w1 ⟨rfl, X1, h1, _⟩; have H1 := Lib.hid h1; clear h1)
  clear c1 c2 HLD
  have c3 : w1.cell? ⟨Z.TB, 1, none⟩ = some (.bool false) := H1.out.ks.2
  go_wp2_with fail
  go_ret
  exact ⟨rfl, X1, H1.out⟩
theorem look_k (h : Wy w0 w base WB M r j true t kw tw Z X) (hn : M.n ≤ 1000000000) {x : Nat} (hx : x = S2.look M.L (64 + t)) {y : Nat} (hy : y = x % 4294967296) (ht : t < 64) {ad : Nat} (had : ad = 64 + t) : Calls Tryz.prog 223 #[Pw Z.KB, Pw WB] w fun e w' => e = .returned (.int .u64 (y : Int)) ∧ ∃ X', Wy w0 w' base WB (M.acc 1 ad x) r j true t kw tw Z X' := by
  obtain ⟨cb, hcb⟩ : ∃ cb, X.cB = cb := ⟨_, rfl⟩
  have HCB := Lib.hid hcb
  have hd := h.new (Below.refl _ _).drew
  have hld : ∀ W X', Wy w0 W base WB M r j true t kw tw Z X' → X'.cB = cb → Calls Tryz.prog 117 #[Pw cb, .int .u32 (ad : Int)] W fun e w' => e = .returned (.int .u64 (x : Int)) ∧ ∃ X5, Wy w0 w' base WB (M.acc 1 ad x) r j true t kw tw Z X5 ∧ X5.cB = cb := fun W X' hW hc => by
    subst hc
    rw [hx]
    subst had
    exact hW.load (a := 64 + t) (by omega) hn
  have hlx : x < 18446744073709551616 := by
    have := S2.look_lt h.pg.pw.cells.good (64 + t)
    rw [show X.L = M.L from congrArg Sd.L h.pg.xm] at this
    rw [hx]; exact this
  have c1 : w.cell? ⟨WB, 0, none⟩ = some (Pw cb) := by rw [← hcb]; exact h.pg.c.1
  have c2 : w.cell? ⟨Z.KB, 0, none⟩ = some (.int .u32 (ad : Int)) := by rw [had]; exact h.kc.1
  have HLD := Lib.hid (hld _ X hd hcb)
  have e1 : IntKind.u32.wrap (x : Int) = (y : Int) := by rw [IntKind.wrap_u32]; omega
  have e2 : IntKind.u64.wrap (y : Int) = (y : Int) := by rw [IntKind.wrap_u64]; omega
  clear h hd hcb hld hn hx hlx hy ht had
  go_enter Tryz.func223, Tryz.ntmps223
  go_upto_region 1 with (fail)
  go_still_tail 8, (by kernel_rfl)
  change wpList _ _ _ _ _ w.drew
  go_upto_region 2 with (go_at_call 117; refine HLD.out.mono ?_; rintro e w1 ⟨rfl, X1, h1, _⟩; have H1 := Lib.hid h1; clear h1)
  clear c1 c2 HLD
  have c3 : w1.cell? ⟨Z.KB, 1, none⟩ = some (.bool true) := H1.out.ks.1
  go_wp2_with fail
  go_ret
  exact ⟨rfl, X1, H1.out⟩
theorem rstep_t (h : Wy w0 w base WB M r j o t kw tw Z X) (hn : M.n ≤ 1000000000) {x : Nat} (hx : x = S2.look M.L (0)) (s : Value) : Calls Tryz.prog 231 #[.agg #[Pw Z.TB], s, Pw WB] w fun e w' => e = .returned (.bool true) ∧ ∃ X', Wy w0 w' base WB (M.acc 1 0 x) r j o t kw x Z X' := by
  have hj := h.hj
  have hA := h.pushB (.cells #[Pw Z.TB] 134)
  obtain ⟨Q, hQ⟩ : ∃ Q, Q = w.heap.size := ⟨_, rfl⟩
  rw [← hQ] at hA
  obtain ⟨sd, hsd⟩ : ∃ sd, sd = tw := ⟨_, rfl⟩
  have HA := Lib.hid hA; have HJ := Lib.hid hj; have HQ := Lib.hid hQ; have HSD := Lib.hid hsd
  have HLD := Lib.hid (look_t (hA.new (Below.refl _ _).drew) hn hx)
  clear h hj hA hQ hx hn hsd
  go_enter Tryz.func231, Tryz.ntmps231
  go_upto_region 1 with (fail)
  rw [← HQ.out]
  generalize w.alloc (.cells #[Pw Z.TB] 134) = w1 at *
  refine wp_region_held_drew (S := fun w' => w'.cell? ⟨Q, 0, none⟩ = some (Pw Z.TB)) (by kernel_rfl) ?_ (fun hHeld => ?_)
  · exact cell_row ((HA.out.new (Below.refl _ _).drew).last HJ.out) 0
  refine tA 0 ⟨some 7, .fieldAddr 134 (.tmp 3) 0, 0, "parts.go:96", #[], none⟩ ?vrtm1 ?rrtm1
  (try simp only [Act.put, tC, tD, tE])
  refine tA 1 ⟨some 8, .load 49 (.tmp 7), 49, "parts.go:96", #[⟨0, .data⟩], none⟩ ?vrtm2 ?rrtm2
  (try simp only [Act.put, tC, tD, tE])
  refine tA 2 ⟨some 9, .fieldAddr 134 (.tmp 3) 0, 0, "parts.go:96", #[], none⟩ ?vrtm3 ?rrtm3
  (try simp only [Act.put, tC, tD, tE])
  refine tA 3 ⟨some 10, .load 49 (.tmp 9), 49, "parts.go:96", #[⟨2, .data⟩], none⟩ ?vrtm4 ?rrtm4
  (try simp only [Act.put, tC, tD, tE])
  refine tA 4 ⟨some 11, .move (.tmp 2), 35, "parts.go:96", #[], none⟩ ?vrtm5 ?rrtm5
  (try simp only [Act.put, tC, tD, tE])
  refine wpAnyH_ready (rs := [5]) (by kernel_rfl) (by simp) ?_
  refine AllReadyH.cons (o := ⟨some 12, .call ⟨.value (.func 223), #[.tmp 10, .tmp 11], #[49, 35]⟩, 22, "parts.go:96", #[⟨3, .data⟩, ⟨4, .data⟩], none⟩) rfl (fun Kq hKq => ?_) AllReadyH.nil
  go_simp
  (refine HLD.out.mono ?_; rintro e w5 ⟨rfl, X5, h5⟩; have H5 := Lib.hid h5; clear h5)
  refine hKq.out _ _ ?_ (fun hHeld => ?_)
  · exact cell_row (H5.out.last HJ.out) 0
  clear hKq Kq
  (try simp only [Act.put, tC, tD, tE])
  refine tA 6 ⟨some 13, .nilCheck (.tmp 8), 0, "parts.go:96", #[⟨1, .data⟩, ⟨0, .phase⟩, ⟨1, .phase⟩, ⟨2, .phase⟩, ⟨3, .phase⟩, ⟨4, .phase⟩, ⟨5, .phase⟩], none⟩ ?vrtm6 ?rrtm6
  (try simp only [Act.put, tC, tD, tE])
  refine tA 7 ⟨some 14, .fieldAddr 132 (.tmp 13) 2, 0, "parts.go:96", #[⟨6, .data⟩, ⟨0, .phase⟩, ⟨1, .phase⟩, ⟨2, .phase⟩, ⟨3, .phase⟩, ⟨4, .phase⟩, ⟨5, .phase⟩], none⟩ ?vrtm7 ?rrtm7
  (try simp only [Act.put, tC, tD, tE])
  refine wpAnyH_ready (rs := [8]) (by kernel_rfl) (by simp) ?_
  refine AllReadyH.cons (o := ⟨none, .store 22 (.tmp 14) (.tmp 12), 0, "parts.go:96", #[⟨7, .data⟩, ⟨5, .data⟩, ⟨5, .chain⟩, ⟨0, .phase⟩, ⟨1, .phase⟩, ⟨2, .phase⟩, ⟨3, .phase⟩, ⟨4, .phase⟩, ⟨5, .phase⟩], none⟩) rfl (fun Kq hKq => ?_) AllReadyH.nil
  (have y1 := H5.out.tc.2; have f1 := (H5.out.fz 2).2.2; go_simp; have h6 := H5.out.putT x; have H6 := Lib.hid h6; clear y1 f1 h6; generalize w5.setCell ⟨Z.TB, 2, none⟩ (.int .u64 (x : Int)) = w6 at *)
  refine hKq.out _ _ ?_ (fun hHeld => ?_)
  · exact cell_row (H6.out.last HJ.out) 0
  clear hKq Kq
  (try simp only [Act.put, tC, tD, tE])
  refine wpAnyH_done (by kernel_rfl) ?_ _
  clear hHeld HLD HA
  go_wp2_with fail
  go_ret
  exact ⟨rfl, X5, H6.out.dropB HJ.out⟩
theorem rstep_k (h : Wy w0 w base WB M r j true t kw tw Z X) (hn : M.n ≤ 1000000000) (ht : t < 64) {x : Nat} (hx : x = S2.look M.L (64 + t)) {y : Nat} (hy : y = x % 4294967296) {ad : Nat} (had : ad = 64 + t) (s : Value) : Calls Tryz.prog 231 #[.agg #[Pw Z.KB], s, Pw WB] w fun e w' => e = .returned (.bool true) ∧ ∃ X', Wy w0 w' base WB (M.acc 1 ad x) r j true t y tw Z X' := by
  have hj := h.hj
  have hA := h.pushB (.cells #[Pw Z.KB] 134)
  obtain ⟨Q, hQ⟩ : ∃ Q, Q = w.heap.size := ⟨_, rfl⟩
  rw [← hQ] at hA
  obtain ⟨sd, hsd⟩ : ∃ sd, sd = kw := ⟨_, rfl⟩
  have HA := Lib.hid hA; have HJ := Lib.hid hj; have HQ := Lib.hid hQ; have HSD := Lib.hid hsd
  have HLD := Lib.hid (look_k (hA.new (Below.refl _ _).drew) hn hx hy ht had)
  clear h hj hA hQ hx hn hsd ht hy had
  go_enter Tryz.func231, Tryz.ntmps231
  go_upto_region 1 with (fail)
  rw [← HQ.out]
  generalize w.alloc (.cells #[Pw Z.KB] 134) = w1 at *
  refine wp_region_held_drew (S := fun w' => w'.cell? ⟨Q, 0, none⟩ = some (Pw Z.KB)) (by kernel_rfl) ?_ (fun hHeld => ?_)
  · exact cell_row ((HA.out.new (Below.refl _ _).drew).last HJ.out) 0
  refine tA 0 ⟨some 7, .fieldAddr 134 (.tmp 3) 0, 0, "parts.go:96", #[], none⟩ ?vrkm1 ?rrkm1
  (try simp only [Act.put, tC, tD, tE])
  refine tA 1 ⟨some 8, .load 49 (.tmp 7), 49, "parts.go:96", #[⟨0, .data⟩], none⟩ ?vrkm2 ?rrkm2
  (try simp only [Act.put, tC, tD, tE])
  refine tA 2 ⟨some 9, .fieldAddr 134 (.tmp 3) 0, 0, "parts.go:96", #[], none⟩ ?vrkm3 ?rrkm3
  (try simp only [Act.put, tC, tD, tE])
  refine tA 3 ⟨some 10, .load 49 (.tmp 9), 49, "parts.go:96", #[⟨2, .data⟩], none⟩ ?vrkm4 ?rrkm4
  (try simp only [Act.put, tC, tD, tE])
  refine tA 4 ⟨some 11, .move (.tmp 2), 35, "parts.go:96", #[], none⟩ ?vrkm5 ?rrkm5
  (try simp only [Act.put, tC, tD, tE])
  refine wpAnyH_ready (rs := [5]) (by kernel_rfl) (by simp) ?_
  refine AllReadyH.cons (o := ⟨some 12, .call ⟨.value (.func 223), #[.tmp 10, .tmp 11], #[49, 35]⟩, 22, "parts.go:96", #[⟨3, .data⟩, ⟨4, .data⟩], none⟩) rfl (fun Kq hKq => ?_) AllReadyH.nil
  go_simp
  (refine HLD.out.mono ?_; rintro e w5 ⟨rfl, X5, h5⟩; have H5 := Lib.hid h5; clear h5)
  refine hKq.out _ _ ?_ (fun hHeld => ?_)
  · exact cell_row (H5.out.last HJ.out) 0
  clear hKq Kq
  (try simp only [Act.put, tC, tD, tE])
  refine tA 6 ⟨some 13, .nilCheck (.tmp 8), 0, "parts.go:96", #[⟨1, .data⟩, ⟨0, .phase⟩, ⟨1, .phase⟩, ⟨2, .phase⟩, ⟨3, .phase⟩, ⟨4, .phase⟩, ⟨5, .phase⟩], none⟩ ?vrkm6 ?rrkm6
  (try simp only [Act.put, tC, tD, tE])
  refine tA 7 ⟨some 14, .fieldAddr 132 (.tmp 13) 2, 0, "parts.go:96", #[⟨6, .data⟩, ⟨0, .phase⟩, ⟨1, .phase⟩, ⟨2, .phase⟩, ⟨3, .phase⟩, ⟨4, .phase⟩, ⟨5, .phase⟩], none⟩ ?vrkm7 ?rrkm7
  (try simp only [Act.put, tC, tD, tE])
  refine wpAnyH_ready (rs := [8]) (by kernel_rfl) (by simp) ?_
  refine AllReadyH.cons (o := ⟨none, .store 22 (.tmp 14) (.tmp 12), 0, "parts.go:96", #[⟨7, .data⟩, ⟨5, .data⟩, ⟨5, .chain⟩, ⟨0, .phase⟩, ⟨1, .phase⟩, ⟨2, .phase⟩, ⟨3, .phase⟩, ⟨4, .phase⟩, ⟨5, .phase⟩], none⟩) rfl (fun Kq hKq => ?_) AllReadyH.nil
  (have y1 := H5.out.kc.2; have f1 := (H5.out.fz 2).2.1; go_simp; have h6 := H5.out.putK y; have H6 := Lib.hid h6; clear y1 f1 h6; generalize w5.setCell ⟨Z.KB, 2, none⟩ (.int .u64 (y : Int)) = w6 at *)
  refine hKq.out _ _ ?_ (fun hHeld => ?_)
  · exact cell_row (H6.out.last HJ.out) 0
  clear hKq Kq
  (try simp only [Act.put, tC, tD, tE])
  refine wpAnyH_done (by kernel_rfl) ?_ _
  clear hHeld HLD HA
  go_wp2_with fail
  go_ret
  exact ⟨rfl, X5, H6.out.dropB HJ.out⟩
theorem astep_t (h : Wy w0 w base WB M r j o t kw tw Z X) (hn : M.n ≤ 1000000000) {x : Nat} (hx : x = S2.look M.L (0)) {b : Bool} (hb : b = !decide (x = tw)) : Calls Tryz.prog 235 #[.agg #[Pw Z.TB], sP Z.B, Pw WB] w fun e w' => e = .returned (.bool true) ∧ ∃ X', Wy w0 w' base WB (M.acc 1 0 x) r j o t kw tw { Z with st := b } X' := by
  have hj := h.hj
  have hA := h.pushB (.cells #[Pw Z.TB] 139)
  obtain ⟨Q, hQ⟩ : ∃ Q, Q = w.heap.size := ⟨_, rfl⟩
  rw [← hQ] at hA
  obtain ⟨sd, hsd⟩ : ∃ sd, sd = tw := ⟨_, rfl⟩
  have HA := Lib.hid hA; have HJ := Lib.hid hj; have HQ := Lib.hid hQ; have HSD := Lib.hid hsd
  have HLD := Lib.hid (look_t (hA.new (Below.refl _ _).drew) hn hx)
  have hne : ((x : Int) != (sd : Int)) = b := by
    rw [hb, hsd]
    by_cases e : x = tw
    · rw [e]; simp
    · rw [decide_eq_false e]; simp; omega
  have hne2 : (!decide ((x : Int) = (sd : Int))) = b := by
    rw [hb, hsd]
    by_cases e : x = tw
    · rw [e]; simp
    · rw [decide_eq_false e, decide_eq_false (by omega)]
  clear h hj hA hQ hx hn hsd hb
  go_enter Tryz.func235, Tryz.ntmps235
  go_upto_region 1 with (fail)
  rw [← HQ.out]
  generalize w.alloc (.cells #[Pw Z.TB] 139) = w1 at *
  refine wp_region_held_drew (S := fun w' => w'.cell? ⟨Q, 0, none⟩ = some (Pw Z.TB) ∧ w'.cell? ⟨Z.TB, 2, none⟩ = some (.int .u64 (sd : Int))) (by kernel_rfl) ?_ (fun hHeld => ?_)
  · exact ⟨cell_row ((HA.out.new (Below.refl _ _).drew).last HJ.out) 0, by rw [HSD.out]; exact (HA.out.new (Below.refl _ _).drew).tc.2⟩
  refine tA 0 ⟨some 7, .move (.tmp 1), 218, "parts.go:106", #[], none⟩ ?vatm1 ?ratm1
  (try simp only [Act.put, tC, tD, tE])
  refine tA 1 ⟨some 8, .fieldAddr 139 (.tmp 3) 0, 0, "parts.go:106", #[], none⟩ ?vatm2 ?ratm2
  (try simp only [Act.put, tC, tD, tE])
  refine tA 2 ⟨some 9, .load 49 (.tmp 8), 49, "parts.go:106", #[⟨1, .data⟩], none⟩ ?vatm3 ?ratm3
  (try simp only [Act.put, tC, tD, tE])
  refine tA 3 ⟨some 10, .move (.tmp 2), 35, "parts.go:106", #[], none⟩ ?vatm4 ?ratm4
  (try simp only [Act.put, tC, tD, tE])
  refine tA 5 ⟨some 12, .fieldAddr 139 (.tmp 3) 0, 0, "parts.go:106", #[], none⟩ ?vatm5 ?ratm5
  (try simp only [Act.put, tC, tD, tE])
  refine tA 6 ⟨some 13, .load 49 (.tmp 12), 49, "parts.go:106", #[⟨5, .data⟩], none⟩ ?vatm6 ?ratm6
  (try simp only [Act.put, tC, tD, tE])
  refine tA 7 ⟨some 14, .nilCheck (.tmp 13), 0, "parts.go:106", #[⟨6, .data⟩], none⟩ ?vatm7 ?ratm7
  (try simp only [Act.put, tC, tD, tE])
  refine tA 8 ⟨some 15, .fieldAddr 132 (.tmp 14) 2, 0, "parts.go:106", #[⟨7, .data⟩], none⟩ ?vatm8 ?ratm8
  (try simp only [Act.put, tC, tD, tE])
  refine tA 9 ⟨some 16, .load 22 (.tmp 15), 22, "parts.go:106", #[⟨8, .data⟩], none⟩ ?vatm9 ?ratm9
  (try simp only [Act.put, tC, tD, tE])
  refine wpAnyH_ready (rs := [4]) (by kernel_rfl) (by simp) ?_
  refine AllReadyH.cons (o := ⟨some 11, .call ⟨.value (.func 223), #[.tmp 9, .tmp 10], #[49, 35]⟩, 22, "parts.go:106", #[⟨2, .data⟩, ⟨3, .data⟩], none⟩) rfl (fun Kq hKq => ?_) AllReadyH.nil
  go_simp
  (refine HLD.out.mono ?_; rintro e w5 ⟨rfl, X5, h5⟩; have H5 := Lib.hid h5; clear h5)
  refine hKq.out _ _ ?_ (fun hHeld => ?_)
  · exact ⟨cell_row (H5.out.last HJ.out) 0, by rw [HSD.out]; exact H5.out.tc.2⟩
  clear hKq Kq
  (try simp only [Act.put, tC, tD, tE])
  refine tA 10 ⟨some 17, .binOp .neq 22 (.tmp 11) (.tmp 16) 22, 4, "parts.go:106", #[⟨4, .data⟩, ⟨9, .data⟩], none⟩ ?vatm10 ?ratm10
  (try simp only [Act.put, tC, tD, tE])
  refine tA 11 ⟨some 18, .nilCheck (.tmp 7), 0, "parts.go:106", #[⟨0, .data⟩, ⟨0, .phase⟩, ⟨1, .phase⟩, ⟨2, .phase⟩, ⟨3, .phase⟩, ⟨4, .phase⟩, ⟨5, .phase⟩, ⟨6, .phase⟩, ⟨7, .phase⟩, ⟨8, .phase⟩, ⟨9, .phase⟩, ⟨10, .phase⟩], none⟩ ?vatm11 ?ratm11
  (try simp only [Act.put, tC, tD, tE])
  refine tA 12 ⟨some 19, .fieldAddr 53 (.tmp 18) 4, 0, "parts.go:106", #[⟨11, .data⟩, ⟨0, .phase⟩, ⟨1, .phase⟩, ⟨2, .phase⟩, ⟨3, .phase⟩, ⟨4, .phase⟩, ⟨5, .phase⟩, ⟨6, .phase⟩, ⟨7, .phase⟩, ⟨8, .phase⟩, ⟨9, .phase⟩, ⟨10, .phase⟩], none⟩ ?vatm12 ?ratm12
  (try simp only [Act.put, tC, tD, tE])
  refine wpAnyH_ready (rs := [13]) (by kernel_rfl) (by simp) ?_
  refine AllReadyH.cons (o := ⟨none, .store 4 (.tmp 19) (.tmp 17), 0, "parts.go:106", #[⟨12, .data⟩, ⟨10, .data⟩, ⟨4, .chain⟩, ⟨0, .phase⟩, ⟨1, .phase⟩, ⟨2, .phase⟩, ⟨3, .phase⟩, ⟨4, .phase⟩, ⟨5, .phase⟩, ⟨6, .phase⟩, ⟨7, .phase⟩, ⟨8, .phase⟩, ⟨9, .phase⟩, ⟨10, .phase⟩], none⟩) rfl (fun Kq hKq => ?_) AllReadyH.nil
  (have y1 := H5.out.c.2.2.2.2.2.2.2.1; have f1 := (H5.out.fz 7).1; go_simp; have h6 := H5.out.put 7 (.bool b) { Z with st := b } rfl rfl rfl rfl rfl; have H6 := Lib.hid h6; clear y1 f1 h6; generalize w5.setCell ⟨Z.B, 7, none⟩ (.bool b) = w6 at *)
  refine hKq.out _ _ ?_ (fun hHeld => ?_)
  · exact ⟨cell_row (H6.out.last HJ.out) 0, by rw [HSD.out]; exact H6.out.tc.2⟩
  clear hKq Kq
  (try simp only [Act.put, tC, tD, tE])
  refine wpAnyH_done (by kernel_rfl) ?_ _
  clear hHeld HLD HA
  go_wp2_with fail
  go_ret
  exact ⟨rfl, X5, H6.out.dropB HJ.out⟩
theorem astep_k (h : Wy w0 w base WB M r j true t kw tw Z X) (hn : M.n ≤ 1000000000) (ht : t < 64) {x : Nat} (hx : x = S2.look M.L (64 + t)) {y : Nat} (hy : y = x % 4294967296) {ad : Nat} (had : ad = 64 + t) {b : Bool} (hb : b = !decide (y = kw)) : Calls Tryz.prog 235 #[.agg #[Pw Z.KB], sP Z.B, Pw WB] w fun e w' => e = .returned (.bool true) ∧ ∃ X', Wy w0 w' base WB (M.acc 1 ad x) r j true t kw tw { Z with st := b } X' := by
  have hj := h.hj
  have hA := h.pushB (.cells #[Pw Z.KB] 139)
  obtain ⟨Q, hQ⟩ : ∃ Q, Q = w.heap.size := ⟨_, rfl⟩
  rw [← hQ] at hA
  obtain ⟨sd, hsd⟩ : ∃ sd, sd = kw := ⟨_, rfl⟩
  have HA := Lib.hid hA; have HJ := Lib.hid hj; have HQ := Lib.hid hQ; have HSD := Lib.hid hsd
  have HLD := Lib.hid (look_k (hA.new (Below.refl _ _).drew) hn hx hy ht had)
  have hne : ((y : Int) != (sd : Int)) = b := by
    rw [hb, hsd]
    by_cases e : y = kw
    · rw [e]; simp
    · rw [decide_eq_false e]; simp; omega
  have hne2 : (!decide ((y : Int) = (sd : Int))) = b := by
    rw [hb, hsd]
    by_cases e : y = kw
    · rw [e]; simp
    · rw [decide_eq_false e, decide_eq_false (by omega)]
  clear h hj hA hQ hx hn hsd ht hy had hb
  go_enter Tryz.func235, Tryz.ntmps235
  go_upto_region 1 with (fail)
  rw [← HQ.out]
  generalize w.alloc (.cells #[Pw Z.KB] 139) = w1 at *
  refine wp_region_held_drew (S := fun w' => w'.cell? ⟨Q, 0, none⟩ = some (Pw Z.KB) ∧ w'.cell? ⟨Z.KB, 2, none⟩ = some (.int .u64 (sd : Int))) (by kernel_rfl) ?_ (fun hHeld => ?_)
  · exact ⟨cell_row ((HA.out.new (Below.refl _ _).drew).last HJ.out) 0, by rw [HSD.out]; exact (HA.out.new (Below.refl _ _).drew).kc.2⟩
  refine tA 0 ⟨some 7, .move (.tmp 1), 218, "parts.go:106", #[], none⟩ ?vakm1 ?rakm1
  (try simp only [Act.put, tC, tD, tE])
  refine tA 1 ⟨some 8, .fieldAddr 139 (.tmp 3) 0, 0, "parts.go:106", #[], none⟩ ?vakm2 ?rakm2
  (try simp only [Act.put, tC, tD, tE])
  refine tA 2 ⟨some 9, .load 49 (.tmp 8), 49, "parts.go:106", #[⟨1, .data⟩], none⟩ ?vakm3 ?rakm3
  (try simp only [Act.put, tC, tD, tE])
  refine tA 3 ⟨some 10, .move (.tmp 2), 35, "parts.go:106", #[], none⟩ ?vakm4 ?rakm4
  (try simp only [Act.put, tC, tD, tE])
  refine tA 5 ⟨some 12, .fieldAddr 139 (.tmp 3) 0, 0, "parts.go:106", #[], none⟩ ?vakm5 ?rakm5
  (try simp only [Act.put, tC, tD, tE])
  refine tA 6 ⟨some 13, .load 49 (.tmp 12), 49, "parts.go:106", #[⟨5, .data⟩], none⟩ ?vakm6 ?rakm6
  (try simp only [Act.put, tC, tD, tE])
  refine tA 7 ⟨some 14, .nilCheck (.tmp 13), 0, "parts.go:106", #[⟨6, .data⟩], none⟩ ?vakm7 ?rakm7
  (try simp only [Act.put, tC, tD, tE])
  refine tA 8 ⟨some 15, .fieldAddr 132 (.tmp 14) 2, 0, "parts.go:106", #[⟨7, .data⟩], none⟩ ?vakm8 ?rakm8
  (try simp only [Act.put, tC, tD, tE])
  refine tA 9 ⟨some 16, .load 22 (.tmp 15), 22, "parts.go:106", #[⟨8, .data⟩], none⟩ ?vakm9 ?rakm9
  (try simp only [Act.put, tC, tD, tE])
  refine wpAnyH_ready (rs := [4]) (by kernel_rfl) (by simp) ?_
  refine AllReadyH.cons (o := ⟨some 11, .call ⟨.value (.func 223), #[.tmp 9, .tmp 10], #[49, 35]⟩, 22, "parts.go:106", #[⟨2, .data⟩, ⟨3, .data⟩], none⟩) rfl (fun Kq hKq => ?_) AllReadyH.nil
  go_simp
  (refine HLD.out.mono ?_; rintro e w5 ⟨rfl, X5, h5⟩; have H5 := Lib.hid h5; clear h5)
  refine hKq.out _ _ ?_ (fun hHeld => ?_)
  · exact ⟨cell_row (H5.out.last HJ.out) 0, by rw [HSD.out]; exact H5.out.kc.2⟩
  clear hKq Kq
  (try simp only [Act.put, tC, tD, tE])
  refine tA 10 ⟨some 17, .binOp .neq 22 (.tmp 11) (.tmp 16) 22, 4, "parts.go:106", #[⟨4, .data⟩, ⟨9, .data⟩], none⟩ ?vakm10 ?rakm10
  (try simp only [Act.put, tC, tD, tE])
  refine tA 11 ⟨some 18, .nilCheck (.tmp 7), 0, "parts.go:106", #[⟨0, .data⟩, ⟨0, .phase⟩, ⟨1, .phase⟩, ⟨2, .phase⟩, ⟨3, .phase⟩, ⟨4, .phase⟩, ⟨5, .phase⟩, ⟨6, .phase⟩, ⟨7, .phase⟩, ⟨8, .phase⟩, ⟨9, .phase⟩, ⟨10, .phase⟩], none⟩ ?vakm11 ?rakm11
  (try simp only [Act.put, tC, tD, tE])
  refine tA 12 ⟨some 19, .fieldAddr 53 (.tmp 18) 4, 0, "parts.go:106", #[⟨11, .data⟩, ⟨0, .phase⟩, ⟨1, .phase⟩, ⟨2, .phase⟩, ⟨3, .phase⟩, ⟨4, .phase⟩, ⟨5, .phase⟩, ⟨6, .phase⟩, ⟨7, .phase⟩, ⟨8, .phase⟩, ⟨9, .phase⟩, ⟨10, .phase⟩], none⟩ ?vakm12 ?rakm12
  (try simp only [Act.put, tC, tD, tE])
  refine wpAnyH_ready (rs := [13]) (by kernel_rfl) (by simp) ?_
  refine AllReadyH.cons (o := ⟨none, .store 4 (.tmp 19) (.tmp 17), 0, "parts.go:106", #[⟨12, .data⟩, ⟨10, .data⟩, ⟨4, .chain⟩, ⟨0, .phase⟩, ⟨1, .phase⟩, ⟨2, .phase⟩, ⟨3, .phase⟩, ⟨4, .phase⟩, ⟨5, .phase⟩, ⟨6, .phase⟩, ⟨7, .phase⟩, ⟨8, .phase⟩, ⟨9, .phase⟩, ⟨10, .phase⟩], none⟩) rfl (fun Kq hKq => ?_) AllReadyH.nil
  (have y1 := H5.out.c.2.2.2.2.2.2.2.1; have f1 := (H5.out.fz 7).1; go_simp; have h6 := H5.out.put 7 (.bool b) { Z with st := b } rfl rfl rfl rfl rfl; have H6 := Lib.hid h6; clear y1 f1 h6; generalize w5.setCell ⟨Z.B, 7, none⟩ (.bool b) = w6 at *)
  refine hKq.out _ _ ?_ (fun hHeld => ?_)
  · exact ⟨cell_row (H6.out.last HJ.out) 0, by rw [HSD.out]; exact H6.out.kc.2⟩
  clear hKq Kq
  (try simp only [Act.put, tC, tD, tE])
  refine wpAnyH_done (by kernel_rfl) ?_ _
  clear hHeld HLD HA
  go_wp2_with fail
  go_ret
  exact ⟨rfl, X5, H6.out.dropB HJ.out⟩
end
end Go.Proofs.YtokplfkhpjcfcaaGreat.S15
set_option linter.unusedVariables false
set_option linter.unusedSimpArgs false
namespace Go.Proofs.YtokplfkhpjcfcaaGreat.S15
set_option maxRecDepth 100000
set_option maxHeartbeats 16000000
open Go.Proofs.YtokplfkhpjcfcaaGreat Go.Proofs.YtokplfkhpjcfcaaGreat.S11 Go.Proofs.YtokplfkhpjcfcaaGreat.S12 Go.Proofs.YtokplfkhpjcfcaaGreat.S13 Go.Proofs.YtokplfkhpjcfcaaGreat.S14
open Go.RowKit
theorem m_lover (a : Addr) (w : World) : (method 468 293 (.pointer (some a)) "Over").run Tryz.prog w = .ok (157, .pointer (some a)) w := by kernel_rfl
theorem m_fover (a : Addr) (w : World) : (method 468 270 (.pointer (some a)) "Over").run Tryz.prog w = .ok (148, .pointer (some a)) w := by kernel_rfl
theorem set_eq {l : List Part} {i : Nat} {p : Part} (h : l[i]? = some p) : l.set i p = l := by
  apply List.ext_getElem?
  intro k
  by_cases e : k = i
  · subst e
    rw [List.getElem?_set_self (List.getElem?_eq_some_iff.1 h).1, h]
  · rw [List.getElem?_set_ne (fun x => e x.symm)]
section
variable {w0 w w' : World} {base WB : Nat} {M : Sd} {r : List Part} {j u U : Nat} {o : Bool} {t kw tw : Nat} {Z : Wb} {X : Wm}
theorem Wy.newU (h : Wy w0 w base WB M r j o t kw tw Z X) (hju : j ≠ u) (hu : u < r.length) (ob : Obj) : Wy w0 (w.alloc ob) base WB M (r.set u (blockP w.heap.size ob)) j o t kw tw Z X := by
  have e : (r.set j (wayP o t kw tw Z))[u]? = r[u]? := List.getElem?_set_ne hju
  have hp : (r.set j (wayP o t kw tw Z))[u]? = some r[u] := by rw [e]; exact List.getElem?_eq_getElem hu
  have h2 := h.pg.turn hp (blockP w.heap.size ob) (heap_alloc_new w ob) ((Turns.refl _ w).alloc ob) (fun k e => .inr (Nat.le_of_eq (show k = w.heap.size from e).symm))
  rw [List.set_comm _ _ hju] at h2
  exact ⟨h2, by rw [List.length_set]; exact h.hj⟩
theorem Wy.lock {K : Lk} (h : Wy w0 w base WB M r j o t kw tw Z X) (hju : j ≠ u) (hu : r[u]? = some (lockP U K)) : Wl w0 w base WB M (r.set j (wayP o t kw tw Z)) u U K X := by
  have e : (r.set j (wayP o t kw tw Z))[u]? = some (lockP U K) := (List.getElem?_set_ne hju).trans hu
  exact ⟨by rw [set_eq e]; exact h.pg, (List.getElem?_eq_some_iff.1 e).1⟩
theorem Wy.free {K : Fr} (h : Wy w0 w base WB M r j o t kw tw Z X) (hju : j ≠ u) (hu : r[u]? = some (freeP U K)) : Wf w0 w base WB M (r.set j (wayP o t kw tw Z)) u U K X := by
  have e : (r.set j (wayP o t kw tw Z))[u]? = some (freeP U K) := (List.getElem?_set_ne hju).trans hu
  exact ⟨by rw [set_eq e]; exact h.pg, (List.getElem?_eq_some_iff.1 e).1⟩
theorem wy_lock {K : Lk} (h : Wl w0 w base WB M (r.set j (wayP o t kw tw Z)) u U K X) (hju : j ≠ u) (hj : j < r.length) : Wy w0 w base WB M (r.set u (lockP U K)) j o t kw tw Z X := by
  have hp := h.pg
  rw [List.set_comm _ _ hju] at hp
  exact ⟨hp, by rw [List.length_set]; exact hj⟩
theorem wy_free {K : Fr} (h : Wf w0 w base WB M (r.set j (wayP o t kw tw Z)) u U K X) (hju : j ≠ u) (hj : j < r.length) : Wy w0 w base WB M (r.set u (freeP U K)) j o t kw tw Z X := by
  have hp := h.pg
  rw [List.set_comm _ _ hju] at hp
  exact ⟨hp, by rw [List.length_set]; exact hj⟩
theorem Wy.held (h : Wy w0 w base WB M r j o t kw tw Z X) : w.cell? ⟨Z.B, 3, none⟩ = some (Pw Z.KB) ∧ w.cell? ⟨Z.KB, 2, none⟩ = some (.int .u64 (kw : Int)) ∧ w.cell? ⟨Z.B, 4, none⟩ = some (Pw Z.TB) ∧ w.cell? ⟨Z.TB, 2, none⟩ = some (.int .u64 (tw : Int)) := ⟨h.c.2.2.2.1, h.kc.2, h.c.2.2.2.2.1, h.tc.2⟩
theorem steps_lock {K : Lk} (h : Wy w0 w base WB M r j o t kw tw Z X) (hju : j ≠ u) (hu : r[u]? = some (lockP U K)) (huv : Z.uv = lockU U) (ok : LkOk M K) (h6 : K.ln ≤ 6) :
    Calls Tryz.prog 232 #[.agg #[], sP Z.B, Pw WB] w fun e w' => e = .returned (.bool (decide ((stepK M K).ln = 0))) ∧ ∃ X', Wy w0 w' base WB (stepM M K) (r.set u (lockP U (stepK M K))) j o t kw tw Z X' := by
  have hj := h.hj
  have h1 := h.new (below1 w (.cells #[] 136))
  have c8 := h1.c.2.2.2.2.2.2.2.2
  rw [huv] at c8
  have HST := Lib.hid (step_any (h1.lock hju hu) ok h6)
  have hm1 := meth_step ⟨U, 0, none⟩
  have HJ := Lib.hid hj; have HJU := Lib.hid hju
  clear h h1 hu huv ok h6 hj hju
  generalize decide ((stepK M K).ln = 0) = b at *
  go_enter Tryz.func232, Tryz.ntmps232
  go_upto_region 1 with (fail)
  generalize w.alloc (.cells #[] 136) = w1 at *
  go_wp2_with (go_at_call 146; refine HST.out.mono ?_; rintro e w2 ⟨rfl, hs⟩; have HS := Lib.hid hs; clear hs)
  go_ret
  obtain ⟨X', h'⟩ := HS.out
  exact ⟨rfl, X', wy_lock h' HJU.out HJ.out⟩
theorem steps_free {K : Fr} (h : Wy w0 w base WB M r j o t kw tw Z X) (hju : j ≠ u) (hu : r[u]? = some (freeP U K)) (huv : Z.uv = freeU U) (ok : FrOk M K) (h7 : K.ln ≤ 7) :
    Calls Tryz.prog 232 #[.agg #[], sP Z.B, Pw WB] w fun e w' => e = .returned (.bool (decide ((fstepK M K).ln = 0))) ∧ ∃ X', Wy w0 w' base WB (fstepM M K) (r.set u (freeP U (fstepK M K))) j o t kw tw Z X' := by
  have hj := h.hj
  have h1 := h.new (below1 w (.cells #[] 136))
  have c8 := h1.c.2.2.2.2.2.2.2.2
  rw [huv] at c8
  have HST := Lib.hid (step_f (h1.free hju hu) ok h7)
  have hm1 := meth_free ⟨U, 0, none⟩
  have HJ := Lib.hid hj; have HJU := Lib.hid hju
  clear h h1 hu huv ok h7 hj hju
  generalize decide ((fstepK M K).ln = 0) = b at *
  go_enter Tryz.func232, Tryz.ntmps232
  go_upto_region 1 with (fail)
  generalize w.alloc (.cells #[] 136) = w1 at *
  go_wp2_with (go_at_call 123; refine HST.out.mono ?_; rintro e w2 ⟨rfl, hs⟩; have HS := Lib.hid hs; clear hs)
  go_ret
  obtain ⟨X', h'⟩ := HS.out
  exact ⟨rfl, X', wy_free h' HJU.out HJ.out⟩
theorem tbegin_any (h : Wy w0 w base WB M r j o t kw tw Z X) (hju : j ≠ u) (hu : u < r.length) (ht : t < 64) (hk : kw < 18446744073709551616) (hw : tw < 18446744073709551616) :
    Calls Tryz.prog 233 #[.agg #[], sP Z.B] w fun e w' => e = .returned (.bool true) ∧ ∃ UB, Wy w0 w' base WB M (r.set u (lockP UB (lk1 t (lokN (kw % 4294967296) tw)))) j o t kw tw { Z with pb := (bitsN tw : Int), pi := (bktN (kw % 4294967296) tw : Int), uv := lockU UB } X := by
  have h1 := h.new (below1 w (.cells #[] 138))
  obtain ⟨key, hkey⟩ : ∃ key, key = kw % 4294967296 := ⟨_, rfl⟩
  rw [← hkey]
  have hk2 : key < 4294967296 := by rw [hkey]; omega
  have ew : IntKind.u32.wrap (kw : Int) = (key : Int) := by rw [IntKind.wrap_u32, hkey]; omega
  have hpl := fun W => place_any key tw hk2 hw W
  have hlk := fun W => lockOf_any (bitsN tw : Int) (bktN key tw : Int) W
  have hlo := lok_lock key tw
  rw [hlo] at hlk
  obtain ⟨a, ha⟩ : ∃ a, a = lokN key tw := ⟨_, rfl⟩
  rw [← ha] at hlk ⊢
  have hnl : ∀ W, Calls Tryz.prog 144 #[.int .i64 (t : Int), .int .u32 (a : Int)] W fun e w' => e = .returned (Pw W.heap.size) ∧ w' = W.alloc (.cells (lk1 t a).cs 315) := fun W => by
    have := new_lock (t : Int) a W
    rwa [show newK (t : Int) a = lk1 t a by unfold newK; rw [if_pos ⟨by omega, by omega⟩]; rfl] at this
  unfold placeV at hpl
  obtain ⟨b, hb⟩ : ∃ b, b = bitsN tw := ⟨_, rfl⟩
  obtain ⟨k, hkk⟩ : ∃ k, k = bktN key tw := ⟨_, rfl⟩
  rw [← hb, ← hkk] at hpl hlk
  rw [← hb, ← hkk]
  have HPL := Lib.hid hpl; have HLK := Lib.hid hlk; have HNL := Lib.hid hnl; have H1 := Lib.hid h1; have HJU := Lib.hid hju; have HU := Lib.hid hu
  clear h h1 hju hu ht hk hw hkey hk2 hpl hlk hlo hnl ha hb hkk
  go_enter Tryz.func233, Tryz.ntmps233
  go_upto_region 1 with (fail)
  generalize w.alloc (.cells #[] 138) = w1 at *
  refine wp_region_held_drew (S := fun w' => w'.cell? ⟨Z.B, 3, none⟩ = some (Pw Z.KB) ∧ w'.cell? ⟨Z.KB, 2, none⟩ = some (.int .u64 (kw : Int)) ∧ w'.cell? ⟨Z.B, 4, none⟩ = some (Pw Z.TB) ∧ w'.cell? ⟨Z.TB, 2, none⟩ = some (.int .u64 (tw : Int))) (by kernel_rfl) ?_ (fun hHeld => ?_)
  · exact (H1.out.new (Below.refl _ _).drew).held
  refine tA 0 ⟨some 5, .move (.tmp 1), 218, "parts.go:119", #[], none⟩ ?vt1m1 ?rt1m1
  (try simp only [Act.put, tC, tD, tE])
  refine tA 1 ⟨some 6, .move (.tmp 1), 218, "parts.go:119", #[], none⟩ ?vt1m2 ?rt1m2
  (try simp only [Act.put, tC, tD, tE])
  refine tA 2 ⟨some 7, .nilCheck (.tmp 6), 0, "parts.go:119", #[⟨1, .data⟩], none⟩ ?vt1m3 ?rt1m3
  (try simp only [Act.put, tC, tD, tE])
  refine tA 3 ⟨some 8, .fieldAddr 53 (.tmp 7) 1, 0, "parts.go:119", #[⟨2, .data⟩], none⟩ ?vt1m4 ?rt1m4
  (try simp only [Act.put, tC, tD, tE])
  refine tA 4 ⟨some 9, .load 49 (.tmp 8), 49, "parts.go:119", #[⟨3, .data⟩], none⟩ ?vt1m5 ?rt1m5
  (try simp only [Act.put, tC, tD, tE])
  refine tA 5 ⟨some 10, .nilCheck (.tmp 9), 0, "parts.go:119", #[⟨4, .data⟩], none⟩ ?vt1m6 ?rt1m6
  (try simp only [Act.put, tC, tD, tE])
  refine tA 6 ⟨some 11, .fieldAddr 132 (.tmp 10) 2, 0, "parts.go:119", #[⟨5, .data⟩], none⟩ ?vt1m7 ?rt1m7
  (try simp only [Act.put, tC, tD, tE])
  refine tA 7 ⟨some 12, .load 22 (.tmp 11), 22, "parts.go:119", #[⟨6, .data⟩], none⟩ ?vt1m8 ?rt1m8
  (try simp only [Act.put, tC, tD, tE])
  refine tA 8 ⟨some 13, .convert 22 24 (.tmp 12), 24, "parts.go:119", #[⟨7, .data⟩], none⟩ ?vt1m9 ?rt1m9
  (try simp only [Act.put, tC, tD, tE])
  refine tA 9 ⟨some 14, .move (.tmp 1), 218, "parts.go:119", #[], none⟩ ?vt1m10 ?rt1m10
  (try simp only [Act.put, tC, tD, tE])
  refine tA 10 ⟨some 15, .nilCheck (.tmp 14), 0, "parts.go:119", #[⟨9, .data⟩], none⟩ ?vt1m11 ?rt1m11
  (try simp only [Act.put, tC, tD, tE])
  refine tA 11 ⟨some 16, .fieldAddr 53 (.tmp 15) 2, 0, "parts.go:119", #[⟨10, .data⟩], none⟩ ?vt1m12 ?rt1m12
  (try simp only [Act.put, tC, tD, tE])
  refine tA 12 ⟨some 17, .load 49 (.tmp 16), 49, "parts.go:119", #[⟨11, .data⟩], none⟩ ?vt1m13 ?rt1m13
  (try simp only [Act.put, tC, tD, tE])
  refine tA 13 ⟨some 18, .nilCheck (.tmp 17), 0, "parts.go:119", #[⟨12, .data⟩], none⟩ ?vt1m14 ?rt1m14
  (try simp only [Act.put, tC, tD, tE])
  refine tA 14 ⟨some 19, .fieldAddr 132 (.tmp 18) 2, 0, "parts.go:119", #[⟨13, .data⟩], none⟩ ?vt1m15 ?rt1m15
  (try simp only [Act.put, tC, tD, tE])
  refine tA 15 ⟨some 20, .load 22 (.tmp 19), 22, "parts.go:119", #[⟨14, .data⟩], none⟩ ?vt1m16 ?rt1m16
  (try simp only [Act.put, tC, tD, tE])
  refine wpAnyH_ready (rs := [16]) (by kernel_rfl) (by simp) ?_
  refine AllReadyH.cons (o := ⟨some 21, .call ⟨.value (.func 8), #[.tmp 13, .tmp 20], #[24, 22]⟩, 27, "parts.go:119", #[⟨8, .data⟩, ⟨15, .data⟩], none⟩) rfl (fun Kq hKq => ?_) AllReadyH.nil
  go_simp
  (refine (HPL.out _).mono ?_; rintro e w4 ⟨rfl, hb4⟩; have H4 := Lib.hid (H1.out.new ((Below.refl _ _).drew.trans hb4)); clear hb4)
  refine hKq.out _ _ ?_ (fun hHeld => ?_)
  · exact H4.out.held
  clear hKq Kq
  (try simp only [Act.put, tC, tD, tE])
  refine tA 17 ⟨some 22, .nilCheck (.tmp 5), 0, "parts.go:119", #[⟨0, .data⟩, ⟨0, .phase⟩, ⟨1, .phase⟩, ⟨2, .phase⟩, ⟨3, .phase⟩, ⟨4, .phase⟩, ⟨5, .phase⟩, ⟨6, .phase⟩, ⟨7, .phase⟩, ⟨8, .phase⟩, ⟨9, .phase⟩, ⟨10, .phase⟩, ⟨11, .phase⟩, ⟨12, .phase⟩, ⟨13, .phase⟩, ⟨14, .phase⟩, ⟨15, .phase⟩, ⟨16, .phase⟩], none⟩ ?vt1m17 ?rt1m17
  (try simp only [Act.put, tC, tD, tE])
  refine tA 18 ⟨some 23, .fieldAddr 53 (.tmp 22) 3, 0, "parts.go:119", #[⟨17, .data⟩, ⟨0, .phase⟩, ⟨1, .phase⟩, ⟨2, .phase⟩, ⟨3, .phase⟩, ⟨4, .phase⟩, ⟨5, .phase⟩, ⟨6, .phase⟩, ⟨7, .phase⟩, ⟨8, .phase⟩, ⟨9, .phase⟩, ⟨10, .phase⟩, ⟨11, .phase⟩, ⟨12, .phase⟩, ⟨13, .phase⟩, ⟨14, .phase⟩, ⟨15, .phase⟩, ⟨16, .phase⟩], none⟩ ?vt1m18 ?rt1m18
  (try simp only [Act.put, tC, tD, tE])
  refine wpAnyH_ready (rs := [19]) (by kernel_rfl) (by simp) ?_
  refine AllReadyH.cons (o := ⟨none, .store 27 (.tmp 23) (.tmp 21), 0, "parts.go:119", #[⟨18, .data⟩, ⟨16, .data⟩, ⟨16, .chain⟩, ⟨0, .phase⟩, ⟨1, .phase⟩, ⟨2, .phase⟩, ⟨3, .phase⟩, ⟨4, .phase⟩, ⟨5, .phase⟩, ⟨6, .phase⟩, ⟨7, .phase⟩, ⟨8, .phase⟩, ⟨9, .phase⟩, ⟨10, .phase⟩, ⟨11, .phase⟩, ⟨12, .phase⟩, ⟨13, .phase⟩, ⟨14, .phase⟩, ⟨15, .phase⟩, ⟨16, .phase⟩], none⟩) rfl (fun Kq hKq => ?_) AllReadyH.nil
  (have y5 := H4.out.c.2.2.2.2.2.1; have y6 := H4.out.c.2.2.2.2.2.2.1; have f5 := (H4.out.fz 5).1; have f6 := (H4.out.fz 6).1; go_simp; have h5 := (H4.out.put 5 (.int .i64 (b : Int)) { Z with pb := (b : Int) } rfl rfl rfl rfl rfl).put 6 (.int .i64 (k : Int)) { Z with pb := (b : Int), pi := (k : Int) } rfl rfl rfl rfl rfl; have H5 := Lib.hid h5; clear y5 y6 f5 f6 h5; generalize (w4.setCell ⟨Z.B, 5, none⟩ (.int .i64 (b : Int))).setCell ⟨Z.B, 6, none⟩ (.int .i64 (k : Int)) = w5 at *)
  refine hKq.out _ _ ?_ (fun hHeld => ?_)
  · exact H5.out.held
  clear hKq Kq
  (try simp only [Act.put, tC, tD, tE])
  refine wpAnyH_done (by kernel_rfl) ?_ _
  clear hHeld HPL H4 H1
  go_upto_region 2 with (fail)
  refine wp_region_held_drew (S := fun w' => w'.cell? ⟨Z.B, 2, none⟩ = some (.int .i64 (t : Int)) ∧ w'.cell? ⟨Z.B, 5, none⟩ = some (.int .i64 (b : Int)) ∧ w'.cell? ⟨Z.B, 6, none⟩ = some (.int .i64 (k : Int))) (by kernel_rfl) ?_ (fun hHeld => ?_)
  · exact ⟨(H5.out.new (Below.refl _ _).drew).c.2.2.1, (H5.out.new (Below.refl _ _).drew).c.2.2.2.2.2.1, (H5.out.new (Below.refl _ _).drew).c.2.2.2.2.2.2.1⟩
  refine tA 0 ⟨some 24, .move (.tmp 1), 218, "parts.go:120", #[], none⟩ ?vt2m1 ?rt2m1
  (try simp only [Act.put, tC, tD, tE])
  refine tA 1 ⟨some 25, .move (.tmp 1), 218, "parts.go:120", #[], none⟩ ?vt2m2 ?rt2m2
  (try simp only [Act.put, tC, tD, tE])
  refine tA 2 ⟨some 26, .nilCheck (.tmp 25), 0, "parts.go:120", #[⟨1, .data⟩], none⟩ ?vt2m3 ?rt2m3
  (try simp only [Act.put, tC, tD, tE])
  refine tA 3 ⟨some 27, .fieldAddr 53 (.tmp 26) 0, 0, "parts.go:120", #[⟨2, .data⟩], none⟩ ?vt2m4 ?rt2m4
  (try simp only [Act.put, tC, tD, tE])
  refine tA 4 ⟨some 28, .load 3 (.tmp 27), 3, "parts.go:120", #[⟨3, .data⟩], none⟩ ?vt2m5 ?rt2m5
  (try simp only [Act.put, tC, tD, tE])
  refine tA 5 ⟨some 29, .move (.tmp 1), 218, "parts.go:120", #[], none⟩ ?vt2m6 ?rt2m6
  (try simp only [Act.put, tC, tD, tE])
  refine tA 6 ⟨some 30, .nilCheck (.tmp 29), 0, "parts.go:120", #[⟨5, .data⟩], none⟩ ?vt2m7 ?rt2m7
  (try simp only [Act.put, tC, tD, tE])
  refine tA 7 ⟨some 31, .fieldAddr 53 (.tmp 30) 3, 0, "parts.go:120", #[⟨6, .data⟩], none⟩ ?vt2m8 ?rt2m8
  (try simp only [Act.put, tC, tD, tE])
  refine tA 8 ⟨some 32, .load 27 (.tmp 31), 27, "parts.go:120", #[⟨7, .data⟩], none⟩ ?vt2m9 ?rt2m9
  (try simp only [Act.put, tC, tD, tE])
  refine wpAnyH_ready (rs := [9]) (by kernel_rfl) (by simp) ?_
  refine AllReadyH.cons (o := ⟨some 33, .call ⟨.value (.func 10), #[.tmp 32], #[27]⟩, 24, "parts.go:120", #[⟨8, .data⟩], none⟩) rfl (fun Kq hKq => ?_) AllReadyH.nil
  go_simp
  (refine (HLK.out _).mono ?_; rintro e w6 ⟨rfl, hb6⟩; have H6 := Lib.hid (H5.out.new ((Below.refl _ _).drew.trans hb6)); clear hb6)
  refine hKq.out _ _ ?_ (fun hHeld => ?_)
  · exact ⟨H6.out.c.2.2.1, H6.out.c.2.2.2.2.2.1, H6.out.c.2.2.2.2.2.2.1⟩
  clear hKq Kq
  (try simp only [Act.put, tC, tD, tE])
  refine wpAnyH_ready (rs := [10]) (by kernel_rfl) (by simp) ?_
  refine AllReadyH.cons (o := ⟨some 34, .call ⟨.value (.func 144), #[.tmp 28, .tmp 33], #[3, 24]⟩, 293, "parts.go:120", #[⟨4, .data⟩, ⟨9, .data⟩, ⟨9, .chain⟩], none⟩) rfl (fun Kq hKq => ?_) AllReadyH.nil
  go_simp
  (refine (HNL.out _).mono ?_; rintro e w7 ⟨rfl, rfl⟩; obtain ⟨UB, hUB⟩ : ∃ UB, UB = w6.heap.size := ⟨_, rfl⟩; rw [← hUB]; have h7 := H6.out.newU HJU.out HU.out (.cells (lk1 t a).cs 315); rw [← hUB] at h7; have H7 := Lib.hid h7; clear h7 hUB; generalize w6.alloc (.cells (lk1 t a).cs 315) = w7 at *)
  refine hKq.out _ _ ?_ (fun hHeld => ?_)
  · exact ⟨H7.out.c.2.2.1, H7.out.c.2.2.2.2.2.1, H7.out.c.2.2.2.2.2.2.1⟩
  clear hKq Kq
  (try simp only [Act.put, tC, tD, tE])
  refine tA 11 ⟨some 35, .makeInterface 293 (.tmp 34), 51, "parts.go:120", #[⟨10, .data⟩], none⟩ ?vt2m10 ?rt2m10
  (try simp only [Act.put, tC, tD, tE])
  refine tA 12 ⟨some 36, .nilCheck (.tmp 24), 0, "parts.go:120", #[⟨0, .data⟩, ⟨0, .phase⟩, ⟨1, .phase⟩, ⟨2, .phase⟩, ⟨3, .phase⟩, ⟨4, .phase⟩, ⟨5, .phase⟩, ⟨6, .phase⟩, ⟨7, .phase⟩, ⟨8, .phase⟩, ⟨9, .phase⟩, ⟨10, .phase⟩, ⟨11, .phase⟩], none⟩ ?vt2m11 ?rt2m11
  (try simp only [Act.put, tC, tD, tE])
  refine tA 13 ⟨some 37, .fieldAddr 53 (.tmp 36) 5, 0, "parts.go:120", #[⟨12, .data⟩, ⟨0, .phase⟩, ⟨1, .phase⟩, ⟨2, .phase⟩, ⟨3, .phase⟩, ⟨4, .phase⟩, ⟨5, .phase⟩, ⟨6, .phase⟩, ⟨7, .phase⟩, ⟨8, .phase⟩, ⟨9, .phase⟩, ⟨10, .phase⟩, ⟨11, .phase⟩], none⟩ ?vt2m12 ?rt2m12
  (try simp only [Act.put, tC, tD, tE])
  refine wpAnyH_ready (rs := [14]) (by kernel_rfl) (by simp) ?_
  refine AllReadyH.cons (o := ⟨none, .store 51 (.tmp 37) (.tmp 35), 0, "parts.go:120", #[⟨13, .data⟩, ⟨11, .data⟩, ⟨10, .chain⟩, ⟨0, .phase⟩, ⟨1, .phase⟩, ⟨2, .phase⟩, ⟨3, .phase⟩, ⟨4, .phase⟩, ⟨5, .phase⟩, ⟨6, .phase⟩, ⟨7, .phase⟩, ⟨8, .phase⟩, ⟨9, .phase⟩, ⟨10, .phase⟩, ⟨11, .phase⟩], none⟩) rfl (fun Kq hKq => ?_) AllReadyH.nil
  (have y8 := H7.out.c.2.2.2.2.2.2.2.2; have f8 := (H7.out.fz 8).1; go_simp; have h8 := H7.out.put 8 (lockU UB) { Z with pb := (b : Int), pi := (k : Int), uv := lockU UB } rfl rfl rfl rfl rfl; have H8 := Lib.hid h8; clear y8 f8 h8; generalize w7.setCell ⟨Z.B, 8, none⟩ (lockU UB) = w8 at *)
  refine hKq.out _ _ ?_ (fun hHeld => ?_)
  · exact ⟨H8.out.c.2.2.1, H8.out.c.2.2.2.2.2.1, H8.out.c.2.2.2.2.2.2.1⟩
  clear hKq Kq
  (try simp only [Act.put, tC, tD, tE])
  refine wpAnyH_done (by kernel_rfl) ?_ _
  clear hHeld HLK HNL H5 H6 H7
  have y8 := H8.out.c.2.2.2.2.2.2.2.2
  have hov := over_any (w := w8) (B := UB) (K := lk1 t a) (by
    have := (H8.out.lock (u := u) (U := UB) (K := lk1 t a) HJU.out (by exact List.getElem?_set_self HU.out)).at
    exact this) (by show 1 ≤ 6; omega)
  rw [show decide ((lk1 t a).ln = 0) = false from rfl] at hov
  have HOV := Lib.hid hov
  have hm1 := m_lover ⟨UB, 0, none⟩
  clear hov
  go_upto_region 3 with (fail)
  go_wp2_with (go_at_call 157; refine HOV.out.mono ?_; rintro e w9 ⟨rfl, rfl⟩)
  go_ret
  exact ⟨rfl, UB, H8.out⟩
theorem lbegin_no (h : Wy w0 w base WB M r j o t kw tw Z X) (hs : Z.st = false) : Calls Tryz.prog 236 #[.agg #[], sP Z.B] w fun e w' => e = .returned (.bool false) ∧ Below w.heap.size w w' := by
  have hb := below1 w (.cells #[] 140)
  have h1 := h.new hb
  have c7 := h1.c.2.2.2.2.2.2.2.1
  rw [hs] at c7
  have HB := Lib.hid hb
  clear h h1 hb hs
  go_enter Tryz.func236, Tryz.ntmps236
  go_upto_region 1 with (fail)
  generalize w.alloc (.cells #[] 140) = w1 at *
  go_wp2_with fail
  go_ret
  exact ⟨rfl, HB.out⟩
theorem lbegin_yes (h : Wy w0 w base WB M r j o t kw tw Z X) (hju : j ≠ u) (hu : u < r.length) (hs : Z.st = true) {a : Nat} (ha : S10.lockZ Z.pb Z.pi = (a : Int)) :
    Calls Tryz.prog 236 #[.agg #[], sP Z.B] w fun e w' => e = .returned (.bool true) ∧ ∃ UB, Wy w0 w' base WB M (r.set u (freeP UB (fr0 a))) j o t kw tw { Z with uv := freeU UB } X := by
  have h1 := h.new (below1 w (.cells #[] 140))
  have c7 := h1.c.2.2.2.2.2.2.2.1
  rw [hs] at c7
  have c5 := h1.c.2.2.2.2.2.1; have c6 := h1.c.2.2.2.2.2.2.1
  have hlk := fun W => lockOf_any Z.pb Z.pi W
  rw [ha] at hlk
  obtain ⟨b, hb⟩ : ∃ b, b = Z.pb := ⟨_, rfl⟩
  obtain ⟨k, hkk⟩ : ∃ k, k = Z.pi := ⟨_, rfl⟩
  rw [← hb] at c5; rw [← hkk] at c6
  rw [← hb, ← hkk] at hlk
  have HLK := Lib.hid hlk; have HNF := Lib.hid (fun W => new_free a W); have H1 := Lib.hid h1; have HJU := Lib.hid hju; have HU := Lib.hid hu
  clear h h1 hju hu hs ha hlk hb hkk
  go_enter Tryz.func236, Tryz.ntmps236
  go_upto_region 1 with (fail)
  generalize w.alloc (.cells #[] 140) = w1 at *
  go_upto_region 3 with (fail)
  go_upto_region 4 with (first
    | (go_at_call 10; refine (HLK.out _).mono ?_; rintro e w2 ⟨rfl, hb2⟩; have H2 := Lib.hid (H1.out.new hb2); clear hb2)
    | (go_at_call 121; refine (HNF.out _).mono ?_; rintro e w3 ⟨rfl, rfl⟩; obtain ⟨UB, hUB⟩ : ∃ UB, UB = w2.heap.size := ⟨_, rfl⟩; rw [← hUB]; have h3 := H2.out.newU HJU.out HU.out (.cells (fr0 a).cs 301); rw [← hUB] at h3; have H3 := Lib.hid h3; have y8 := h3.c.2.2.2.2.2.2.2.2; have f8 := (h3.fz 8).1; clear h3 hUB; generalize w2.alloc (.cells (fr0 a).cs 301) = w3 at *))
  have h4 := H3.out.put 8 (freeU UB) { Z with uv := freeU UB } rfl rfl rfl rfl rfl
  have y8b := h4.c.2.2.2.2.2.2.2.2
  have H4 := Lib.hid h4
  clear y8 f8 h4 c5 c6 c7
  generalize w3.setCell ⟨Z.B, 8, none⟩ (freeU UB) = w4 at *
  have hov := over_f (w := w4) (B := UB) (n := 1) (H4.out.free (u := u) (U := UB) (K := fr0 a) HJU.out (by exact List.getElem?_set_self HU.out)).b0
  rw [show decide (1 = 0) = false from rfl] at hov
  have HOV := Lib.hid hov
  have hm1 := m_fover ⟨UB, 0, none⟩
  clear hov
  go_wp2_with (go_at_call 148; refine HOV.out.mono ?_; rintro e w9 ⟨rfl, rfl⟩)
  go_ret
  exact ⟨rfl, UB, H4.out⟩
end
end Go.Proofs.YtokplfkhpjcfcaaGreat.S15
