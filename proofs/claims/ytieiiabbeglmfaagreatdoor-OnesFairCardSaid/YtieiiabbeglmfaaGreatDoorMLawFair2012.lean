/- Texts of this seat, one behind the other. -/
import Derived.Test.YtieiiabbeglmfaaGreatDoorMLawFair2011
set_option linter.unusedVariables false
set_option linter.unusedSimpArgs false
set_option linter.unusedVariables false
set_option linter.unusedSimpArgs false
namespace Go.Proofs.YtieiiabbeglmfaaGreatDoor.S10
open Go.Proofs.YtieiiabbeglmfaaGreatDoor
open Go.RowKit
def hsh (a b : Nat) : Nat := a * 11400714819323198485 % 18446744073709551616 / 2 ^ (64 - b)
theorem hsh_lt (a b : Nat) (h : b ≤ 64) : hsh a b < 2 ^ b := by
  unfold hsh
  have e : 2 ^ 64 = 2 ^ (64 - b) * 2 ^ b := by rw [← Nat.pow_add]; congr 1; omega
  apply Nat.div_lt_of_lt_mul
  rw [← e]
  exact Nat.mod_lt _ (by omega)
theorem wrap_hash (a P : Nat) (hp : 2 ≤ P) : wrap64 (IntKind.u64.wrap ((a : Int) * 11400714819323198485) / (P : Int)) = ((a * 11400714819323198485 % 18446744073709551616 / P : Nat) : Int) := by
  have e : IntKind.u64.wrap ((a : Int) * 11400714819323198485) = ((a * 11400714819323198485 % 18446744073709551616 : Nat) : Int) := by
    rw [IntKind.wrap_u64]; omega
  rw [e]
  have hm := Nat.mod_lt (a * 11400714819323198485) (by omega : 0 < 18446744073709551616)
  generalize a * 11400714819323198485 % 18446744073709551616 = m at *
  have hq : m / P < 9223372036854775808 := by
    apply Nat.div_lt_of_lt_mul
    calc m < 18446744073709551616 := hm
      _ = 2 * 9223372036854775808 := by omega
      _ ≤ P * 9223372036854775808 := Nat.mul_le_mul_right _ hp
  rw [← Int.natCast_ediv]
  generalize m / P = x at *
  unfold wrap64
  omega
theorem hash_no (a : Nat) (b : Int) (h : b < 2 ∨ 8 < b) (w : World) : Calls Tryz.prog 90 #[.int .u32 a, .int .i64 b] w fun e w' => e = .returned (.int .i64 (-1)) ∧ w = w' := by
  have q := is_any b w
  rw [tab_no h] at q
  have Q := Lib.hid q
  clear q h
  go_enter Tryz.func90, Tryz.ntmps90
  go_wp2_with fail
  refine Q.out.mono ?_
  rintro e w' ⟨rfl, rfl⟩
  go_wp2_with fail
  go_ret
  exact ⟨rfl, rfl⟩
theorem hash_yes (a b : Nat) (ha : a < 4294967296) (h : 2 ≤ b) (g : b ≤ 8) (w : World) : Calls Tryz.prog 90 #[.int .u32 a, .int .i64 b] w fun e w' => e = .returned (.int .i64 (hsh a b : Nat)) ∧ w = w' := by
  have q := is_any b w
  rw [tab_yes (by omega) (by omega)] at q
  have Q := Lib.hid q
  clear q
  have hb : b = 2 ∨ b = 3 ∨ b = 4 ∨ b = 5 ∨ b = 6 ∨ b = 7 ∨ b = 8 := by omega
  unfold hsh
  rcases hb with rfl | rfl | rfl | rfl | rfl | rfl | rfl
  · have f : wrap64 (IntKind.u64.wrap ((a : Int) * 11400714819323198485) / 4611686018427387904) = ((a * 11400714819323198485 % 18446744073709551616 / 2 ^ (64 - 2) : Nat) : Int) := wrap_hash a 4611686018427387904 (by omega)
    generalize a * 11400714819323198485 % 18446744073709551616 / 2 ^ (64 - 2) = r at *
    clear h g
    go_enter Tryz.func90, Tryz.ntmps90
    go_wp2_with fail
    refine Q.out.mono ?_
    rintro e w' ⟨rfl, rfl⟩
    go_wp2_with fail
    rw [f]
    go_ret
    exact ⟨rfl, rfl⟩
  · have f : wrap64 (IntKind.u64.wrap ((a : Int) * 11400714819323198485) / 2305843009213693952) = ((a * 11400714819323198485 % 18446744073709551616 / 2 ^ (64 - 3) : Nat) : Int) := wrap_hash a 2305843009213693952 (by omega)
    generalize a * 11400714819323198485 % 18446744073709551616 / 2 ^ (64 - 3) = r at *
    clear h g
    go_enter Tryz.func90, Tryz.ntmps90
    go_wp2_with fail
    refine Q.out.mono ?_
    rintro e w' ⟨rfl, rfl⟩
    go_wp2_with fail
    rw [f]
    go_ret
    exact ⟨rfl, rfl⟩
  · have f : wrap64 (IntKind.u64.wrap ((a : Int) * 11400714819323198485) / 1152921504606846976) = ((a * 11400714819323198485 % 18446744073709551616 / 2 ^ (64 - 4) : Nat) : Int) := wrap_hash a 1152921504606846976 (by omega)
    generalize a * 11400714819323198485 % 18446744073709551616 / 2 ^ (64 - 4) = r at *
    clear h g
    go_enter Tryz.func90, Tryz.ntmps90
    go_wp2_with fail
    refine Q.out.mono ?_
    rintro e w' ⟨rfl, rfl⟩
    go_wp2_with fail
    rw [f]
    go_ret
    exact ⟨rfl, rfl⟩
  · have f : wrap64 (IntKind.u64.wrap ((a : Int) * 11400714819323198485) / 576460752303423488) = ((a * 11400714819323198485 % 18446744073709551616 / 2 ^ (64 - 5) : Nat) : Int) := wrap_hash a 576460752303423488 (by omega)
    generalize a * 11400714819323198485 % 18446744073709551616 / 2 ^ (64 - 5) = r at *
    clear h g
    go_enter Tryz.func90, Tryz.ntmps90
    go_wp2_with fail
    refine Q.out.mono ?_
    rintro e w' ⟨rfl, rfl⟩
    go_wp2_with fail
    rw [f]
    go_ret
    exact ⟨rfl, rfl⟩
  · have f : wrap64 (IntKind.u64.wrap ((a : Int) * 11400714819323198485) / 288230376151711744) = ((a * 11400714819323198485 % 18446744073709551616 / 2 ^ (64 - 6) : Nat) : Int) := wrap_hash a 288230376151711744 (by omega)
    generalize a * 11400714819323198485 % 18446744073709551616 / 2 ^ (64 - 6) = r at *
    clear h g
    go_enter Tryz.func90, Tryz.ntmps90
    go_wp2_with fail
    refine Q.out.mono ?_
    rintro e w' ⟨rfl, rfl⟩
    go_wp2_with fail
    rw [f]
    go_ret
    exact ⟨rfl, rfl⟩
  · have f : wrap64 (IntKind.u64.wrap ((a : Int) * 11400714819323198485) / 144115188075855872) = ((a * 11400714819323198485 % 18446744073709551616 / 2 ^ (64 - 7) : Nat) : Int) := wrap_hash a 144115188075855872 (by omega)
    generalize a * 11400714819323198485 % 18446744073709551616 / 2 ^ (64 - 7) = r at *
    clear h g
    go_enter Tryz.func90, Tryz.ntmps90
    go_wp2_with fail
    refine Q.out.mono ?_
    rintro e w' ⟨rfl, rfl⟩
    go_wp2_with fail
    rw [f]
    go_ret
    exact ⟨rfl, rfl⟩
  · have f : wrap64 (IntKind.u64.wrap ((a : Int) * 11400714819323198485) / 72057594037927936) = ((a * 11400714819323198485 % 18446744073709551616 / 2 ^ (64 - 8) : Nat) : Int) := wrap_hash a 72057594037927936 (by omega)
    generalize a * 11400714819323198485 % 18446744073709551616 / 2 ^ (64 - 8) = r at *
    clear h g
    go_enter Tryz.func90, Tryz.ntmps90
    go_wp2_with fail
    refine Q.out.mono ?_
    rintro e w' ⟨rfl, rfl⟩
    go_wp2_with fail
    rw [f]
    go_ret
    exact ⟨rfl, rfl⟩
def hashZ (a : Nat) (b : Int) : Int := if 2 ≤ b ∧ b ≤ 8 then (hsh a b.toNat : Nat) else -1
theorem hash_any (a : Nat) (b : Int) (ha : a < 4294967296) (w : World) : Calls Tryz.prog 90 #[.int .u32 a, .int .i64 b] w fun e w' => e = .returned (.int .i64 (hashZ a b)) ∧ w = w' := by
  unfold hashZ
  by_cases h : 2 ≤ b ∧ b ≤ 8
  · obtain ⟨n, rfl⟩ := Int.eq_ofNat_of_zero_le (show 0 ≤ b by omega)
    rw [if_pos h]
    exact hash_yes a n ha (by omega) (by omega) w
  · rw [if_neg h]
    exact hash_no a b (by omega) w
theorem size_le (b : Int) : sizeN b ≤ 256 := by
  unfold sizeN
  split
  · rename_i h
    calc 2 ^ b.toNat ≤ 2 ^ 8 := Nat.pow_le_pow_right (by omega) (by omega)
      _ = 256 := rfl
  · omega
end Go.Proofs.YtieiiabbeglmfaaGreatDoor.S10
namespace Go.Proofs.YtieiiabbeglmfaaGreatDoor.S10
open Go.Proofs.YtieiiabbeglmfaaGreatDoor
open Go.RowKit
structure Turns (S : Nat → Prop) (w w' : World) : Prop where
  os : w'.os = w.os
  tape : w'.tape = w.tape
  output : w'.output = w.output
  size : w.heap.size ≤ w'.heap.size
  block : ∀ k, k < w.heap.size → ¬ S k → w'.heap[k]? = w.heap[k]?
theorem Turns.refl (S : Nat → Prop) (w : World) : Turns S w w := ⟨rfl, rfl, rfl, Nat.le_refl _, fun _ _ _ => rfl⟩
theorem Turns.trans {S T : Nat → Prop} {a b c : World} (h : Turns S a b) (g : Turns T b c) (hs : ∀ k, k < a.heap.size → T k → S k) : Turns S a c :=
  ⟨g.os.trans h.os, g.tape.trans h.tape, g.output.trans h.output, Nat.le_trans h.size g.size, fun k hk hn => (g.block k (Nat.lt_of_lt_of_le hk h.size) (fun ht => hn (hs k hk ht))).trans (h.block k hk hn)⟩
theorem Turns.mono {S T : Nat → Prop} {a b : World} (h : Turns S a b) (hs : ∀ k, k < a.heap.size → S k → T k) : Turns T a b :=
  (Turns.refl T a).trans h hs
theorem Turns.of_below {S : Nat → Prop} {a b : World} (h : Below a.heap.size a b) : Turns S a b :=
  ⟨h.os, h.tape, h.output, h.size, fun k hk _ => h.block k hk⟩
theorem Turns.below {S : Nat → Prop} {a b : World} {B : Nat} (h : Turns S a b) (hB : B ≤ a.heap.size) (hs : ∀ k, k < B → ¬ S k) : Below B a b :=
  ⟨h.os, h.tape, h.output, h.size, fun k hk => h.block k (by omega) (hs k hk)⟩
theorem Turns.alloc {S : Nat → Prop} {a b : World} (h : Turns S a b) (o : Obj) : Turns S a (b.alloc o) :=
  h.trans (T := fun _ => False) ⟨rfl, rfl, rfl, by simp, fun k hk _ => Below.heap_alloc _ _ _ hk⟩ (fun _ _ h => h.elim)
theorem Turns.drew {S : Nat → Prop} {a b : World} (h : Turns S a b) : Turns S a b.drew :=
  ⟨h.os, h.tape, h.output, h.size, h.block⟩
theorem Turns.setCell {S : Nat → Prop} {a b : World} (h : Turns S a b) (p : Addr) (u : Value) (hp : S p.block) : Turns S a (b.setCell p u) :=
  h.trans (T := fun k => k = p.block) ⟨rfl, rfl, rfl, by simp [World.setCell], fun k _ hn => Below.heap_setCell _ _ _ _ hn⟩ (fun k _ e => e ▸ hp)
theorem Turns.setCells {S : Nat → Prop} {a b : World} (h : Turns S a b) (g : Nat) (hg : S g) : ∀ (vs : List Value) (o : Nat), Turns S a (b.setCells g o vs)
  | [], _ => h
  | v :: r, o => by
    have h1 := h.setCell ⟨g, o, none⟩ v hg
    exact Turns.setCells h1 g hg r (o + 1)
theorem Turns.cell {S : Nat → Prop} {a b : World} (h : Turns S a b) {g o : Nat} (hg : g < a.heap.size) (hn : ¬ S g) : b.cell? ⟨g, o, none⟩ = a.cell? ⟨g, o, none⟩ :=
  World.cell?_of_block (a := ⟨g, o, none⟩) (h.block g hg hn)
theorem Turns.frozen {S : Nat → Prop} {a b : World} (h : Turns S a b) {g o : Nat} (hg : g < a.heap.size) (hn : ¬ S g) : b.frozen? ⟨g, o, none⟩ = a.frozen? ⟨g, o, none⟩ :=
  World.frozen?_of_block (a := ⟨g, o, none⟩) (h.block g hg hn)
theorem cell_row {w : World} {B : Nat} {cs : Array Value} {T : TypeId} (h : w.heap[B]? = some (.cells cs T (0, 0))) (o : Nat) : w.cell? ⟨B, o, none⟩ = cs[o]? := by
  simp [World.cell?, h]
theorem froz_row {w : World} {B : Nat} {cs : Array Value} {T : TypeId} (h : w.heap[B]? = some (.cells cs T (0, 0))) (o : Nat) : w.frozen? ⟨B, o, none⟩ = false := by
  simp [World.frozen?, h]
theorem row_set {w : World} {B : Nat} {cs : Array Value} {T : TypeId} (h : w.heap[B]? = some (.cells cs T (0, 0))) (o : Nat) (v : Value) : (w.setCell ⟨B, o, none⟩ v).heap[B]? = some (.cells (cs.setIfInBounds o v) T (0, 0)) := by
  simp [World.setCell, Array.getElem?_modify, h]
structure Lay (S E sz bt : Nat) (z : Value) : Prop where
  und : Tryz.prog.underlying S = some (.slice E)
  info : ∃ i, Tryz.prog.info? E = some i ∧ i.zero = some z ∧ i.size = sz ∧ i.bytes = bt
  zc : z.cells.size = sz
  pos : 0 < sz
  few : bt ≤ 1000
def Lies (w : World) (g o : Nat) (cs : List Value) : Prop := ∀ j u, cs[j]? = some u → w.cell? ⟨g, o + j, none⟩ = some u
def Rd (w : World) (base : Nat) (A : Option Addr) (cs : List Value) : Prop := 0 < cs.length → ∃ g o, A = some ⟨g, o, none⟩ ∧ g < base ∧ Lies w g o cs
def Row (w : World) (base sz : Nat) (s : Value) (n : Nat) (cs : List Value) : Prop :=
  ∃ A cap, s = .slice A n cap ∧ cs.length = n * sz ∧ n ≤ cap ∧ cap ≤ maxLen ∧ (A = none → cap = 0) ∧
    ∀ ad, A = some ad → ∃ g o, ad = ⟨g, o, none⟩ ∧ base ≤ g ∧ g < w.heap.size ∧ Lies w g o cs ∧ ∀ j, j < cap * sz → (w.cell? ⟨g, o + j, none⟩).isSome = true ∧ w.frozen? ⟨g, o + j, none⟩ = false
theorem Lies.of {w w' : World} {g o : Nat} {cs : List Value} (h : Lies w g o cs) (e : ∀ j, w'.cell? ⟨g, o + j, none⟩ = w.cell? ⟨g, o + j, none⟩) : Lies w' g o cs := fun j u hj => (e j).trans (h j u hj)
theorem Rd.below {w w' : World} {base b : Nat} {A : Option Addr} {cs : List Value} (h : Rd w base A cs) (hb : Below b w w') (hbb : base ≤ b) : Rd w' base A cs := fun hp => by
  obtain ⟨g, o, e, hg, hl⟩ := h hp
  exact ⟨g, o, e, hg, hl.of fun j => hb.cell (p := ⟨g, o + j, none⟩) (by show g < b; omega)⟩
theorem Rd.more {w : World} {base b : Nat} {A : Option Addr} {cs : List Value} (h : Rd w base A cs) (hb : base ≤ b) : Rd w b A cs := fun hp => by
  obtain ⟨g, o, e, hg, hl⟩ := h hp
  exact ⟨g, o, e, by omega, hl⟩
theorem Rd.nil {w : World} {base : Nat} {A : Option Addr} : Rd w base A [] := fun h => by simp at h
theorem Rd.drew {w : World} {base : Nat} {A : Option Addr} {cs : List Value} (h : Rd w base A cs) : Rd w.drew base A cs := h
theorem Row.drew {w : World} {base sz n : Nat} {s : Value} {cs : List Value} (h : Row w base sz s n cs) : Row w.drew base sz s n cs := h
theorem row_nil (w : World) (base sz : Nat) : Row w base sz (.slice none 0 0) 0 [] :=
  ⟨none, 0, rfl, by simp, Nat.le_refl _, Nat.zero_le _, fun _ => rfl, fun _ e => by cases e⟩
theorem Row.keep {S : Nat → Prop} {w w' : World} {base sz n : Nat} {s : Value} {cs : List Value} (h : Row w base sz s n cs) (t : Turns S w w') (hs : ∀ g, s.ownBlock = some g → ¬ S g) : Row w' base sz s n cs := by
  obtain ⟨A, cap, rfl, h0, h1, h2, h3, h4⟩ := h
  refine ⟨A, cap, rfl, h0, h1, h2, h3, fun ad e => ?_⟩
  obtain ⟨g, o, rfl, hb, hg, hl, hc⟩ := h4 ad e
  have hn := hs g (by rw [e]; rfl)
  exact ⟨g, o, rfl, hb, Nat.lt_of_lt_of_le hg t.size, hl.of fun j => t.cell hg hn, fun j hj => ⟨by rw [t.cell hg hn]; exact (hc j hj).1, (t.frozen hg hn).trans (hc j hj).2⟩⟩
theorem Row.lt {w : World} {base sz n : Nat} {s : Value} {cs : List Value} (h : Row w base sz s n cs) : ∀ g, s.ownBlock = some g → base ≤ g ∧ g < w.heap.size := by
  obtain ⟨A, cap, rfl, h0, h1, h2, h3, h4⟩ := h
  intro g hg
  cases A with
  | none => simp [Value.ownBlock] at hg
  | some ad =>
    obtain ⟨g', o, rfl, hb, hlt, _⟩ := h4 ad rfl
    have : g' = g := by simpa [Value.ownBlock] using hg
    subst this
    exact ⟨hb, hlt⟩
theorem Row.new {w w' : World} {base sz n : Nat} {s : Value} {cs : List Value} (h : Row w base sz s n cs) (hb : Below w.heap.size w w') : Row w' base sz s n cs :=
  h.keep (Turns.of_below (S := fun _ => False) hb) (fun _ _ e => e)
theorem Row.base {w : World} {base b sz n : Nat} {s : Value} {cs : List Value} (h : Row w base sz s n cs) (hb : b ≤ base) : Row w b sz s n cs := by
  obtain ⟨A, cap, rfl, h0, h1, h2, h3, h4⟩ := h
  refine ⟨A, cap, rfl, h0, h1, h2, h3, fun ad e => ?_⟩
  obtain ⟨g, o, rfl, hb', hg, hl, hc⟩ := h4 ad e
  exact ⟨g, o, rfl, by omega, hg, hl, hc⟩
theorem Row.len {w : World} {base sz n : Nat} {s : Value} {cs : List Value} (h : Row w base sz s n cs) : cs.length = n * sz := let ⟨_, _, _, h0, _⟩ := h; h0
theorem Row.shape {w : World} {base sz n : Nat} {s : Value} {cs : List Value} (h : Row w base sz s n cs) : ∃ A cap, s = .slice A n cap ∧ n ≤ cap ∧ cap ≤ 9223372036854775807 := let ⟨A, cap, e, _, h1, h2, _⟩ := h; ⟨A, cap, e, h1, by unfold maxLen at h2; omega⟩
theorem Row.rd {w : World} {base sz n cap : Nat} {A : Option Addr} {cs : List Value} (h : Row w base sz (.slice A n cap) n cs) : Rd w w.heap.size A cs := fun hp => by
  obtain ⟨A', cap', e, h0, h1, h2, h3, h4⟩ := h
  cases e
  cases A with
  | none =>
    have := h3 rfl
    have : n = 0 := by omega
    subst this
    simp at h0
    simp [h0] at hp
  | some ad =>
    obtain ⟨g, o, rfl, hb, hlt, hl, _⟩ := h4 ad rfl
    exact ⟨g, o, rfl, hlt, hl⟩
theorem Row.clip {w : World} {base sz n cap : Nat} {A : Option Addr} {cs : List Value} (h : Row w base sz (.slice A n cap) n cs) : Row w base sz (.slice A n n) n cs := by
  obtain ⟨A', cap', e, h0, h1, h2, h3, h4⟩ := h
  cases e
  refine ⟨A, n, rfl, h0, Nat.le_refl _, by omega, fun e => by have := h3 e; omega, fun ad e => ?_⟩
  obtain ⟨g, o, rfl, hb, hlt, hl, hc⟩ := h4 ad e
  exact ⟨g, o, rfl, hb, hlt, hl, fun j hj => hc j (Nat.lt_of_lt_of_le hj (Nat.mul_le_mul_right _ h1))⟩
theorem add_none (b o n : Nat) : (⟨b, o, none⟩ : Addr).add n = ⟨b, o + n, none⟩ := by unfold Addr.add; split <;> simp_all
theorem Rd.src {S E sz bt : Nat} {z : Value} (L : Lay S E sz bt z) {w : World} {base : Nat} {A : Option Addr} {es : List Value} (h : Rd w base A es) {m : Nat} (hl : es.length = m * sz) (h1 : ∀ u ∈ es, u.oneCell' = true) (c : Nat) : Src Tryz.prog sz S (.slice A m c) m es w := by
  by_cases hm : m = 0
  · subst hm
    obtain rfl : es = [] := List.eq_nil_of_length_eq_zero (by simpa using hl)
    cases A with
    | none => exact Src.ofNil w L.und c
    | some ad => exact Src.ofSlice w L.und ad 0 c [] (by simp) (fun j u e => by simp at e) (fun u hu => by cases hu)
  · have hp : 0 < es.length := by rw [hl]; exact Nat.mul_pos (by omega) L.pos
    obtain ⟨g, o, rfl, _, hc⟩ := h hp
    refine Src.ofSlice w L.und _ m c _ hl (fun j u e => ?_) h1
    rw [add_none]
    exact hc j u e
theorem Lies.app {w : World} {g o : Nat} {cs es : List Value} (h : Lies w g o cs) (h2 : Lies w g (o + cs.length) es) : Lies w g o (cs ++ es) := fun j u e => by
  by_cases hj : j < cs.length
  · rw [List.getElem?_append_left hj] at e
    exact h j u e
  · rw [List.getElem?_append_right (by omega)] at e
    have := h2 _ u e
    rwa [show o + cs.length + (j - cs.length) = o + j by omega] at this
theorem some_setCells (b : Nat) : ∀ (vs : List Value) (o : Nat) (w : World) (x : Addr), (w.cell? x).isSome = true → ((w.setCells b o vs).cell? x).isSome = true
  | [], _, _, _, h => h
  | v :: r, o, w, x, h => by
    refine some_setCells b r (o + 1) _ x ?_
    by_cases e : (⟨b, o, none⟩ : Addr) = x
    · subst e
      obtain ⟨u, hu⟩ := Option.isSome_iff_exists.1 h
      rw [World.cell?_setCell_same _ _ _ hu]; rfl
    · rw [World.cell?_setCell_other _ _ _ _ (fun e' => e (by rw [e']))]; exact h
theorem size_setCells' (b : Nat) : ∀ (vs : List Value) (o : Nat) (w : World), (w.setCells b o vs).heap.size = w.heap.size
  | [], _, _ => rfl
  | v :: r, o, w => by rw [World.setCells, size_setCells' b r]; simp [World.setCell]
theorem row_append {S E sz bt : Nat} {z : Value} (L : Lay S E sz bt z) {w : World} {base n : Nat} {s : Value} {cs : List Value} (h : Row w base sz s n cs) (h1c : ∀ u ∈ cs, u.oneCell' = true) (hbase : base ≤ w.heap.size) {b2 : Nat} {A : Option Addr} {m : Nat} {es : List Value} (c : Nat) (hr : Rd w b2 A es) (hm : es.length = m * sz) (h1e : ∀ u ∈ es, u.oneCell' = true) (hlen : n + m ≤ 1000000) (ty : TypeId) :
    ∃ s' w', (Builtin.append_ #[S, S] ty #[s, .slice A m c]).run Tryz.prog w = .ok s' w' ∧ Row w' base sz s' (n + m) (cs ++ es) ∧ Turns (fun k => s.ownBlock = some k) w w' ∧ (s'.ownBlock = s.ownBlock ∨ s'.ownBlock = some w.heap.size) := by
  obtain ⟨i, hi, hz, hsz, hby⟩ := L.info
  have hf := L.few
  have hsrow := h
  obtain ⟨B, cap, rfl, h0, h1, h2, h3, h4⟩ := h
  have hs := hr.src L hm h1e c
  rw [← hsz] at hs
  have hlen2 : (cs ++ es).length = (n + m) * sz := by rw [List.length_append, h0, hm, Nat.add_mul]
  by_cases hE : m = 0
  · subst hE
    obtain rfl : es = [] := List.eq_nil_of_length_eq_zero (by simpa using hm)
    refine ⟨_, w, run_append_nothing w S S ty E i L.und hi B n cap h1 _ hs, ?_, Turns.refl _ _, .inl rfl⟩
    rw [List.append_nil]
    exact hsrow
  · have hmax : n + m ≤ maxLen := by unfold maxLen; omega
    by_cases hroom : n + m ≤ cap
    · cases B with
      | none => have := h3 rfl; omega
      | some ad =>
        obtain ⟨g, o, rfl, hb, hlt, hl, hc⟩ := h4 ad rfl
        have hin : ∀ j, j < es.length → n * sz + j < cap * sz := fun j hj => by
          have : (n + m) * sz ≤ cap * sz := Nat.mul_le_mul_right _ hroom
          rw [Nat.add_mul] at this
          omega
        have hrun := run_append_room_src (P := Tryz.prog) w S S ty E i L.und hi g o n cap _ m es hs hroom
          (fun j hj => by rw [hsz, Nat.add_assoc]; exact (hc _ (hin j hj)).1) (fun j hj => by rw [hsz, Nat.add_assoc]; exact (hc _ (hin j hj)).2)
        rw [hsz] at hrun
        refine ⟨_, _, hrun, ?_, Turns.setCells (S := fun k => (Value.slice (some ⟨g, o, none⟩) n cap).ownBlock = some k) (Turns.refl _ w) g rfl _ _, .inl rfl⟩
        refine ⟨some ⟨g, o, none⟩, cap, rfl, hlen2, hroom, h2, (fun e => by cases e), fun ad e => ?_⟩
        cases e
        refine ⟨g, o, rfl, hb, by rw [size_setCells']; exact hlt, ?_, fun j hj => ⟨some_setCells _ _ _ _ _ (hc j hj).1, by rw [World.frozen?_setCells]; exact (hc j hj).2⟩⟩
        refine Lies.app (fun j u e => ?_) (fun j u e => ?_)
        · have hj : j < cs.length := (List.getElem?_eq_some_iff.1 e).1
          rw [World.cell?_setCells_out _ _ _ _ _ (fun _ _ => .inl (by show o + j < _; omega))]
          exact hl j u e
        · have hj : j < es.length := (List.getElem?_eq_some_iff.1 e).1
          have hin2 := World.cell?_setCells_in g es (o + n * sz) w (fun j hj => by rw [Nat.add_assoc]; exact (hc _ (hin j hj)).1) j hj
          rw [h0, hin2]
          exact (List.getElem?_eq_getElem hj).symm.trans e
    · have hold : (Builtin.firstCells i.size n (.slice B n cap)).run Tryz.prog w.drew = .ok cs.toArray w.drew := by
        have hr2 : Rd w.drew w.heap.size B cs := Row.rd (w := w.drew) (base := base) (cap := cap) hsrow
        have := (hr2.src L h0 h1c cap).cells
        rwa [hsz]
      have hge := grownCap_ge w (n + m) cap E
      have hcm := grownCap_le_maxLen w (n + m) cap E hmax
      have hbig : (n + m) * bt ≤ 140737488355328 := by
        have := Nat.mul_le_mul hlen hf
        omega
      have hrun := run_append_grow_src (P := Tryz.prog) w S S ty E i z L.und hi hz B n cap cs hold _ m es hs (by omega) (by omega) (growslice_fits (by omega) (by rw [hby]; exact hbig))
      have hnew := heap_alloc_new w.drew (.cells ((cs ++ es).toArray ++ Builtin.zeroCells z.cells (grownCap w (n + m) cap E - (n + m))) E)
      rw [show w.drew.heap.size = w.heap.size from rfl] at hnew
      refine ⟨_, _, hrun, ?_, ((Turns.refl _ w).drew).alloc _, .inr rfl⟩
      generalize grownCap w (n + m) cap E = cc at *
      have hzs : (Builtin.zeroCells z.cells (cc - (n + m))).size = (cc - (n + m)) * sz := by rw [size_zeroCells, L.zc]
      refine ⟨_, cc, rfl, hlen2, hge, hcm, (fun e => by cases e), fun ad e => ?_⟩
      cases e
      refine ⟨w.heap.size, 0, rfl, hbase, by simp, fun j u e => ?_, fun j hj => ⟨?_, froz_row hnew _⟩⟩
      · have hj : j < (cs ++ es).length := (List.getElem?_eq_some_iff.1 e).1
        rw [cell_row hnew, Nat.zero_add]
        rw [Array.getElem?_append_left (by simpa using hj)]
        simpa using e
      · rw [cell_row hnew, Nat.zero_add]
        have : j < ((cs ++ es).toArray ++ Builtin.zeroCells z.cells (cc - (n + m))).size := by
          rw [Array.size_append, hzs, List.size_toArray, hlen2, ← Nat.add_mul, show n + m + (cc - (n + m)) = cc by omega]
          exact hj
        rw [Array.getElem?_eq_getElem this]; rfl
end Go.Proofs.YtieiiabbeglmfaaGreatDoor.S10
namespace Go.Proofs.YtieiiabbeglmfaaGreatDoor.S10
open Go.Proofs.YtieiiabbeglmfaaGreatDoor
open Go.RowKit
section
variable {w : World} {S E sz bt : Nat} {z : Value}
theorem wp_append_row (L : Lay S E sz bt z) {o : Oper} {a : Act} {K : Act → World → Prop} {Q : Exit → Act → World → Prop} (s x : Operand)
    (ho : o.op = .call { callee := .builtin .append, args := #[s, x], argTypes := #[S, S] }) {base n : Nat} {v : Value} {cs : List Value} (hs : a.eval s = v) (h : Row w base sz v n cs) (h1c : ∀ u ∈ cs, u.oneCell' = true) (hbase : base ≤ w.heap.size)
    {b2 : Nat} {A : Option Addr} {m : Nat} {es : List Value} (c : Nat) (hx : a.eval x = .slice A m c) (hr : Rd w b2 A es) (hm : es.length = m * sz) (h1e : ∀ u ∈ es, u.oneCell' = true) (hlen : n + m ≤ 1000000)
    (hK : ∀ v' w', Row w' base sz v' (n + m) (cs ++ es) → Turns (fun k => v.ownBlock = some k) w w' → (v'.ownBlock = v.ownBlock ∨ v'.ownBlock = some w.heap.size) → K (a.put o.dst v') w') : o.wp Tryz.prog a w K Q := by
  obtain ⟨v', w', hrun, h2, h3, h4⟩ := row_append L h h1c hbase c hr hm h1e hlen o.type
  unfold Oper.wp execOp
  simp only [ho, resolve, invoke, builtin, Sem.run_bind, Sem.run_pure, Result.andThen_ok, List.map_toArray, List.map_cons, List.map_nil, hs, hx, hrun]
  exact hK v' w' h2 h3 h4
theorem wpList_append_row (L : Lay S E sz bt z) {ops : Array Oper} {rest : List Oper} {o : Oper} {a : Act} {Q : Exit → Act → World → Prop} (hgd : o.guard = none) (s x : Operand)
    (ho : o.op = .call { callee := .builtin .append, args := #[s, x], argTypes := #[S, S] }) {base n : Nat} {v : Value} {cs : List Value} (hs : a.eval s = v) (h : Row w base sz v n cs) (h1c : ∀ u ∈ cs, u.oneCell' = true) (hbase : base ≤ w.heap.size)
    {b2 : Nat} {A : Option Addr} {m : Nat} {es : List Value} (c : Nat) (hx : a.eval x = .slice A m c) (hr : Rd w b2 A es) (hm : es.length = m * sz) (h1e : ∀ u ∈ es, u.oneCell' = true) (hlen : n + m ≤ 1000000)
    (hK : ∀ v' w', Row w' base sz v' (n + m) (cs ++ es) → Turns (fun k => v.ownBlock = some k) w w' → (v'.ownBlock = v.ownBlock ∨ v'.ownBlock = some w.heap.size) → wpList Tryz.prog ops Q rest (a.put o.dst v') w') : wpList Tryz.prog ops Q (o :: rest) a w :=
  wpList_plain hgd fun _ hK' => wp_append_row L s x ho hs h h1c hbase c hx hr hm h1e hlen fun v' w' h2 h3 h4 => hK' _ _ (hK v' w' h2 h3 h4)
end
theorem info_of {E sz bt : Nat} {z : Value} (h : (Tryz.prog.info? E).map (fun i => (i.zero, i.size, i.bytes)) = some (some z, sz, bt)) : ∃ i, Tryz.prog.info? E = some i ∧ i.zero = some z ∧ i.size = sz ∧ i.bytes = bt := by
  cases e : Tryz.prog.info? E with
  | none => rw [e] at h; cases h
  | some i =>
    rw [e] at h
    simp at h
    exact ⟨i, rfl, h.1, h.2.1, h.2.2⟩
theorem layE : Lay 106 121 3 24 (.agg #[.int .i64 0, .int .u32 0, .int .u64 0]) := ⟨Tryz.underlying106, info_of (by kernel_rfl), rfl, by decide, by decide⟩
structure Ent where
  t : Int
  k : Int
  z : Int
deriving DecidableEq
instance : Inhabited Ent := ⟨⟨0, 0, 0⟩⟩
def Ent.cs (e : Ent) : List Value := [.int .i64 e.t, .int .u32 e.k, .int .u64 e.z]
abbrev ag (e : Ent) : Value := .agg #[.int .i64 e.t, .int .u32 e.k, .int .u64 e.z]
def flat (D : List Ent) : List Value := D.flatMap Ent.cs
theorem flat_one (e : Ent) : flat [e] = [.int .i64 e.t, .int .u32 e.k, .int .u64 e.z] := rfl
theorem flat_app (D F : List Ent) : flat (D ++ F) = flat D ++ flat F := by simp [flat]
theorem flat_len (D : List Ent) : (flat D).length = D.length * 3 := by
  induction D with
  | nil => rfl
  | cons e r ih =>
    have : flat (e :: r) = e.cs ++ flat r := rfl
    rw [this, List.length_append, ih]
    simp [Ent.cs]
    omega
theorem flat_one' (D : List Ent) : ∀ u ∈ flat D, u.oneCell' = true := fun u hu => by
  simp only [flat, List.mem_flatMap] at hu
  obtain ⟨e, _, hu⟩ := hu
  simp [Ent.cs] at hu
  rcases hu with rfl | rfl | rfl <;> rfl
theorem flat_get : ∀ (D : List Ent) (i : Nat), i < D.length → (flat D)[i * 3]? = some (.int .i64 D[i]!.t) ∧ (flat D)[i * 3 + 1]? = some (.int .u32 D[i]!.k) ∧ (flat D)[i * 3 + 2]? = some (.int .u64 D[i]!.z)
  | [], i, h => by simp at h
  | e :: r, 0, _ => ⟨rfl, rfl, rfl⟩
  | e :: r, i + 1, h => by
    have hr := flat_get r i (by simpa using h)
    have e3 : flat (e :: r) = .int .i64 e.t :: .int .u32 e.k :: .int .u64 e.z :: flat r := rfl
    have e4 : (e :: r)[i + 1]! = r[i]! := by simp
    rw [e3, e4, show (i + 1) * 3 = i * 3 + 3 by omega, show i * 3 + 3 + 1 = i * 3 + 1 + 3 by omega, show i * 3 + 3 + 2 = i * 3 + 2 + 3 by omega]
    exact hr
theorem Lies.ent {w : World} {g o : Nat} {D : List Ent} (h : Lies w g o (flat D)) {i : Nat} (hi : i < D.length) :
    w.cell? ⟨g, o + i * 3, none⟩ = some (.int .i64 D[i]!.t) ∧ w.cell? ⟨g, o + i * 3 + 1, none⟩ = some (.int .u32 D[i]!.k) ∧ w.cell? ⟨g, o + i * 3 + 2, none⟩ = some (.int .u64 D[i]!.z) := by
  obtain ⟨h0, h1, h2⟩ := flat_get D i hi
  exact ⟨h _ _ h0, by have := h _ _ h1; rwa [← Nat.add_assoc] at this, by have := h _ _ h2; rwa [← Nat.add_assoc] at this⟩
theorem Rd.ent {w : World} {base : Nat} {A : Option Addr} {D : List Ent} (h : Rd w base A (flat D)) {i : Nat} (hi : i < D.length) : ∃ g o, A = some ⟨g, o, none⟩ ∧ g < base ∧
    w.cell? ⟨g, o + i * 3, none⟩ = some (.int .i64 D[i]!.t) ∧ w.cell? ⟨g, o + i * 3 + 1, none⟩ = some (.int .u32 D[i]!.k) ∧ w.cell? ⟨g, o + i * 3 + 2, none⟩ = some (.int .u64 D[i]!.z) := by
  obtain ⟨g, o, e, hg, hl⟩ := h (by rw [flat_len]; omega)
  obtain ⟨h0, h1, h2⟩ := hl.ent hi
  exact ⟨g, o, e, hg, h0, h1, h2⟩
theorem Rd.more_ent {w : World} {base : Nat} {A : Option Addr} {D : List Ent} (h : Rd w base A (flat D)) (hp : 0 < D.length) : ∃ g o, A = some ⟨g, o, none⟩ ∧ g < base ∧ Lies w g o (flat D) := h (by rw [flat_len]; omega)
end Go.Proofs.YtieiiabbeglmfaaGreatDoor.S10
namespace Go.Proofs.YtieiiabbeglmfaaGreatDoor.S10
open Go.Proofs.YtieiiabbeglmfaaGreatDoor
open Go.RowKit
theorem clip_any (A : Option Addr) (n cap : Nat) (w : World) (h : n ≤ cap) (hc : cap ≤ 9223372036854775807) : Calls Tryz.prog 154 #[.slice A n cap] w fun e w' => e = .returned (.slice A n n) ∧ w = w' := by
  go_enter Tryz.func154, Tryz.ntmps154
  go_wp2
  go_ret
  exact ⟨by simp, rfl⟩
theorem below1 (w : World) (o : Obj) : Below w.heap.size w (w.alloc o) := (Below.refl _ w).alloc (Nat.le_refl _) o
theorem Row.alloc {w : World} {base sz n : Nat} {s : Value} {cs : List Value} (h : Row w base sz s n cs) (o : Obj) : Row (w.alloc o) base sz s n cs := h.new (below1 w o)
theorem rd_one (w : World) (d : Ent) (T : TypeId) : Rd (w.alloc (.cells #[.int .i64 d.t, .int .u32 d.k, .int .u64 d.z] T)) (w.heap.size + 1) (some ⟨w.heap.size, 0, none⟩) (flat [d]) := fun _ => by
  refine ⟨w.heap.size, 0, rfl, by omega, fun j u e => ?_⟩
  have hnew := heap_alloc_new w (.cells #[.int .i64 d.t, .int .u32 d.k, .int .u64 d.z] T)
  rw [cell_row hnew, Nat.zero_add]
  simpa [flat_one] using e
theorem rd_one1 (w : World) (v : Value) (T : TypeId) : Rd (w.alloc (.cells #[v] T)) (w.heap.size + 1) (some ⟨w.heap.size, 0, none⟩) [v] := fun _ => by
  refine ⟨w.heap.size, 0, rfl, by omega, fun j u e => ?_⟩
  have hnew := heap_alloc_new w (.cells #[v] T)
  rw [cell_row hnew, Nat.zero_add]
  simpa using e
theorem take_snoc {α : Type} [Inhabited α] {D : List α} {k : Nat} (h : k < D.length) : D.take (k + 1) = D.take k ++ [D[k]!] := by
  rw [List.take_add_one, List.getElem?_eq_getElem h, getElem!_pos D k h]; rfl
abbrev RowE (w : World) (base : Nat) (s : Value) (D : List Ent) : Prop := Row w base 3 s D.length (flat D)
def Wr (w : World) (g o m : Nat) : Prop := ∀ j, j < m → ∃ v, w.cell? ⟨g, o + j, none⟩ = some v ∧ w.frozen? ⟨g, o + j, none⟩ = false
theorem Wr.set {w : World} {g o m : Nat} (h : Wr w g o m) (x : Nat) (v : Value) : Wr (w.setCell ⟨g, x, none⟩ v) g o m := by
  intro j hj
  obtain ⟨u, hu, hf⟩ := h j hj
  by_cases e : o + j = x
  · subst e
    exact ⟨v, World.cell?_setCell_same _ _ _ hu, (World.frozen?_setCell _ _ _ _).trans hf⟩
  · exact ⟨u, (World.cell?_setCell_other _ _ _ _ (by simp; (try omega))).trans hu, (World.frozen?_setCell _ _ _ _).trans hf⟩
end Go.Proofs.YtieiiabbeglmfaaGreatDoor.S10
namespace Go.Proofs.YtieiiabbeglmfaaGreatDoor.S10
open Go.Proofs.YtieiiabbeglmfaaGreatDoor
def bk (h : Nat → Nat) (i : Nat) (E : List Ent) : List Ent := E.filter fun e => h e.k.toNat == i
end Go.Proofs.YtieiiabbeglmfaaGreatDoor.S10
namespace Go.Proofs.YtieiiabbeglmfaaGreatDoor.S10
open Go.Proofs.YtieiiabbeglmfaaGreatDoor
open Go.RowKit
def Qs (w : World) (base : Nat) (A : Option Addr) (Ls : List (List Ent)) : Prop :=
  ∃ ss : List Value, ss.length = Ls.length ∧ Rd w base A ss ∧ ∀ i, i < Ls.length → ∃ A' c, ss[i]? = some (.slice A' Ls[i]!.length c) ∧ Ls[i]!.length ≤ c ∧ c ≤ 9223372036854775807 ∧ Rd w base A' (flat Ls[i]!)
theorem Qs.below {w w' : World} {base b : Nat} {A : Option Addr} {Ls : List (List Ent)} (h : Qs w base A Ls) (hb : Below b w w') (hbb : base ≤ b) : Qs w' base A Ls := by
  obtain ⟨ss, h0, h1, h2⟩ := h
  refine ⟨ss, h0, h1.below hb hbb, fun i hi => ?_⟩
  obtain ⟨A', c, e, hc, hc', hr⟩ := h2 i hi
  exact ⟨A', c, e, hc, hc', hr.below hb hbb⟩
theorem Qs.more {w : World} {base b : Nat} {A : Option Addr} {Ls : List (List Ent)} (h : Qs w base A Ls) (hb : base ≤ b) : Qs w b A Ls := by
  obtain ⟨ss, h0, h1, h2⟩ := h
  refine ⟨ss, h0, h1.more hb, fun i hi => ?_⟩
  obtain ⟨A', c, e, hc, hc', hr⟩ := h2 i hi
  exact ⟨A', c, e, hc, hc', hr.more hb⟩
theorem Qs.nil {w : World} {base : Nat} {A : Option Addr} : Qs w base A [] := ⟨[], rfl, Rd.nil, fun i hi => by simp at hi⟩
def CB (w : World) (v : Value) : Prop := ∀ g, v.ownBlock = some g → ∃ cs t m, w.heap[g]? = some (.cells cs t m)
theorem CB.turn {S : Nat → Prop} {w w' : World} {v : Value} (h : CB w v) (t : Turns S w w') (hs : ∀ g, v.ownBlock = some g → ¬ S g) : CB w' v := fun g e => by
  obtain ⟨cs, ty, m, h1⟩ := h g e
  exact ⟨cs, ty, m, (t.block g (Array.getElem?_eq_some_iff.1 h1).1 (hs g e)).trans h1⟩
theorem CB.set {w : World} {v : Value} (h : CB w v) (p : Addr) (x : Value) : CB (w.setCell p x) v := fun g e => by
  obtain ⟨cs, ty, m, h1⟩ := h g e
  by_cases hg : g = p.block
  · subst hg
    obtain ⟨hlt, hk⟩ := Array.getElem?_eq_some_iff.1 h1
    have : (w.setCell p x).heap[p.block]? = (w.heap.modify p.block _)[p.block]? := rfl
    rw [this, Array.getElem?_eq_getElem (by rw [Array.size_modify]; exact hlt), Array.getElem_modify_self, hk]
    exact ⟨_, _, _, rfl⟩
  · exact ⟨cs, ty, m, (Below.heap_setCell w p x g hg).trans h1⟩
theorem cells_at {w : World} {g o : Nat} (h : (w.cell? ⟨g, o, none⟩).isSome = true) : ∃ cs t m, w.heap[g]? = some (.cells cs t m) := by
  unfold World.cell? at h
  cases ho : w.heap[g]? with
  | none => simp [ho] at h
  | some ob => cases ob <;> simp_all
structure Tab (w : World) (base : Nat) (s : Value) (ss : List Value) (Ls : List (List Ent)) : Prop where
  row : Row w base 1 s Ls.length ss
  qs : ∀ i, i < Ls.length → ∃ v, ss[i]? = some v ∧ RowE w base v Ls[i]! ∧ CB w v
  out : CB w s
  off : ∀ (i : Nat) (v : Value) (g : Nat), ss[i]? = some v → v.ownBlock = some g → s.ownBlock ≠ some g
  apart : ∀ (i j : Nat) (v u : Value) (g : Nat), ss[i]? = some v → ss[j]? = some u → v.ownBlock = some g → u.ownBlock = some g → i = j
theorem Tab.len {w : World} {base : Nat} {s : Value} {ss : List Value} {Ls : List (List Ent)} (h : Tab w base s ss Ls) : ss.length = Ls.length := by
  have := h.row.len
  omega
theorem Tab.lt {w : World} {base : Nat} {s : Value} {ss : List Value} {Ls : List (List Ent)} (h : Tab w base s ss Ls) {i : Nat} {v : Value} {g : Nat} (hv : ss[i]? = some v) (e : v.ownBlock = some g) : base ≤ g ∧ g < w.heap.size := by
  have hi : i < Ls.length := by rw [← h.len]; exact (List.getElem?_eq_some_iff.1 hv).1
  obtain ⟨u, hu, hr, _⟩ := h.qs i hi
  rw [hv] at hu
  cases hu
  exact hr.lt g e
theorem Tab.keep {S : Nat → Prop} {w w' : World} {base : Nat} {s : Value} {ss : List Value} {Ls : List (List Ent)} (h : Tab w base s ss Ls) (t : Turns S w w') (h0 : ∀ g, s.ownBlock = some g → ¬ S g) (h1 : ∀ (i : Nat) (v : Value) (g : Nat), ss[i]? = some v → v.ownBlock = some g → ¬ S g) : Tab w' base s ss Ls :=
  ⟨h.row.keep t h0, fun i hi => by
    obtain ⟨v, hv, hr, hc⟩ := h.qs i hi
    exact ⟨v, hv, hr.keep t (fun g e => h1 i v g hv e), hc.turn t (fun g e => h1 i v g hv e)⟩, h.out.turn t h0, h.off, h.apart⟩
theorem Tab.new {w w' : World} {base : Nat} {s : Value} {ss : List Value} {Ls : List (List Ent)} (h : Tab w base s ss Ls) (hb : Below w.heap.size w w') : Tab w' base s ss Ls :=
  h.keep (Turns.of_below (S := fun _ => False) hb) (fun _ _ e => e) (fun _ _ _ _ _ e => e)
theorem Tab.base {w : World} {base b : Nat} {s : Value} {ss : List Value} {Ls : List (List Ent)} (h : Tab w base s ss Ls) (hb : b ≤ base) : Tab w b s ss Ls :=
  ⟨h.row.base hb, fun i hi => by
    obtain ⟨v, hv, hr, hc⟩ := h.qs i hi
    exact ⟨v, hv, hr.base hb, hc⟩, h.out, h.off, h.apart⟩
theorem get_set {α : Type} [Inhabited α] {l : List α} {x : α} {i j : Nat} (h : i < l.length) : (l.set i x)[j]! = if j = i then x else l[j]! := by
  rw [List.getElem!_eq_getElem?_getD, List.getElem!_eq_getElem?_getD, List.getElem?_set]
  by_cases e : i = j
  · subst e; simp [h]
  · rw [if_neg e, if_neg (fun e' => e e'.symm)]
theorem Row.set1 {w : World} {base g o n m cap : Nat} {cs : List Value} (h : Row w base 1 (.slice (some ⟨g, o, none⟩) m cap) n cs) {i : Nat} (hi : i < n) (v : Value) : Row (w.setCell ⟨g, o + i, none⟩ v) base 1 (.slice (some ⟨g, o, none⟩) m cap) n (cs.set i v) := by
  obtain ⟨A, cap', e, h0, h1, h2, h3, h4⟩ := h
  cases e
  refine ⟨_, cap, rfl, by rw [List.length_set]; exact h0, h1, h2, h3, fun ad e => ?_⟩
  cases e
  obtain ⟨g', o', e, hb, hlt, hl, hc⟩ := h4 _ rfl
  cases e
  refine ⟨g, o, rfl, hb, by simpa [World.setCell] using hlt, fun j u e => ?_, fun j hj => ⟨?_, ?_⟩⟩
  · by_cases ej : j = i
    · subst ej
      have hj : j < cs.length := by omega
      rw [List.getElem?_set_self hj] at e
      cases e
      obtain ⟨x, hx⟩ := Option.isSome_iff_exists.1 (hc j (by omega)).1
      exact World.cell?_setCell_same _ _ _ hx
    · rw [List.getElem?_set_ne (fun e => ej e.symm)] at e
      rw [World.cell?_setCell_other _ _ _ _ (by simp <;> omega)]
      exact hl j u e
  · by_cases ej : j = i
    · subst ej
      obtain ⟨x, hx⟩ := Option.isSome_iff_exists.1 (hc j (by omega)).1
      rw [World.cell?_setCell_same _ _ _ hx]; rfl
    · rw [World.cell?_setCell_other _ _ _ _ (by simp <;> omega)]
      exact (hc j hj).1
  · rw [World.frozen?_setCell]
    exact (hc j hj).2
theorem Tab.app {w w1 w2 : World} {base g0 o m c : Nat} {v v' : Value} {ss : List Value} {Ls : List (List Ent)} {D : List Ent} (h : Tab w base (.slice (some ⟨g0, o, none⟩) m c) ss Ls) (hb : Below w.heap.size w w1) {i : Nat} (hi : i < Ls.length) (hv : ss[i]? = some v)
    (hr : RowE w2 base v' D) (hcb : CB w2 v') (ht : Turns (fun k => v.ownBlock = some k) w1 w2) (hs : v'.ownBlock = v.ownBlock ∨ v'.ownBlock = some w1.heap.size) :
    Tab (w2.setCell ⟨g0, o + i, none⟩ v') base (.slice (some ⟨g0, o, none⟩) m c) (ss.set i v') (Ls.set i D) := by
  have h1 := h.new hb
  have hlen := h.len
  have hg0 : (Value.slice (some ⟨g0, o, none⟩) m c).ownBlock = some g0 := rfl
  have hlt0 : g0 < w.heap.size := (h.row.lt g0 hg0).2
  have hne0 : ∀ (j : Nat) (u : Value) (g : Nat), ss[j]? = some u → u.ownBlock = some g → g ≠ g0 := fun j u g hu e e' => h.off j u g hu e (by rw [hg0, e'])
  have hvlt : ∀ g, v.ownBlock = some g → g < w.heap.size := fun g e => (h.lt hv e).2
  have hv'0 : ∀ g, v'.ownBlock = some g → g ≠ g0 := fun g e => by
    rcases hs with hs | hs
    · exact hne0 i v g hv (by rw [← hs]; exact e)
    · rw [hs] at e; cases e; have := hb.size; omega
  have hSo : ∀ g, (Value.slice (some ⟨g0, o, none⟩) m c).ownBlock = some g → ¬ v.ownBlock = some g := fun g e e' => h.off i v g hv e' e
  have tset : Turns (fun k => k = g0) w2 (w2.setCell ⟨g0, o + i, none⟩ v') := (Turns.refl _ w2).setCell _ _ rfl
  have hcase : ∀ (j : Nat) (u : Value), (ss.set i v')[j]? = some u → (j ≠ i ∧ ss[j]? = some u) ∨ (j = i ∧ u = v') := fun j u e => by
    by_cases ej : j = i
    · subst ej
      rw [List.getElem?_set_self (by omega)] at e
      cases e
      exact .inr ⟨rfl, rfl⟩
    · rw [List.getElem?_set_ne (fun e => ej e.symm)] at e
      exact .inl ⟨ej, e⟩
  have hvv : ∀ (j : Nat) (u : Value) (g : Nat), j ≠ i → ss[j]? = some u → u.ownBlock = some g → v.ownBlock ≠ some g := fun j u g hj hu e e' => hj (h.apart j i u v g hu hv e e')
  refine ⟨by rw [List.length_set]; exact (h1.row.keep ht hSo).set1 hi v', fun j hj => ?_, (h1.out.turn ht hSo).set _ _, fun j u g hu e => ?_, fun j k u u' g hu hu' e e' => ?_⟩
  · rw [List.length_set] at hj
    rw [get_set hi]
    by_cases ej : j = i
    · subst ej
      rw [if_pos rfl]
      exact ⟨v', List.getElem?_set_self (by omega), hr.keep tset hv'0, hcb.set _ _⟩
    · rw [if_neg ej]
      obtain ⟨u, hu, hru, hcu⟩ := h1.qs j hj
      exact ⟨u, by rw [List.getElem?_set_ne (fun e => ej e.symm)]; exact hu, (hru.keep ht (fun g e => hvv j u g ej hu e)).keep tset (fun g e => hne0 j u g hu e), (hcu.turn ht (fun g e => hvv j u g ej hu e)).set _ _⟩
  · rw [hg0]
    rcases hcase j u hu with ⟨_, hu⟩ | ⟨_, rfl⟩
    · intro e2; exact hne0 j u g hu e (by simpa using e2.symm)
    · intro e2; exact hv'0 g e (by simpa using e2.symm)
  · have hx : ∀ (j : Nat) (u : Value), j ≠ i → ss[j]? = some u → u.ownBlock = some g → v'.ownBlock = some g → False := fun j u ej hu e e' => by
      rcases hs with hs | hs
      · exact hvv j u g ej hu e (by rw [← hs]; exact e')
      · rw [hs] at e'; cases e'; have := (h.lt hu e).2; have := hb.size; omega
    rcases hcase j u hu with ⟨ej, q1⟩ | ⟨ej, q1⟩
    · rcases hcase k u' hu' with ⟨ek, q2⟩ | ⟨ek, q2⟩
      · exact h.apart j k u u' g q1 q2 e e'
      · rw [q2] at e'
        exact (hx j u ej q1 e e').elim
    · rw [q1] at e
      rcases hcase k u' hu' with ⟨ek, q2⟩ | ⟨ek, q2⟩
      · exact (hx k u' ek q2 e' e).elim
      · omega
theorem Tab.rd {w : World} {base m c : Nat} {A : Option Addr} {ss : List Value} {Ls : List (List Ent)} (h : Tab w base (.slice A m c) ss Ls) : m = Ls.length ∧ Qs w w.heap.size A Ls := by
  have hlen := h.len
  have hm : m = Ls.length := by obtain ⟨A', cap', e, _⟩ := h.row; cases e; rfl
  subst hm
  refine ⟨rfl, ss, hlen, h.row.rd, fun i hi => ?_⟩
  obtain ⟨v, hv, hr, _⟩ := h.qs i hi
  obtain ⟨A', c', rfl, h1, h2⟩ := hr.shape
  exact ⟨A', c', hv, h1, h2, hr.rd⟩
theorem Tab.shape {w : World} {base : Nat} {s : Value} {ss : List Value} {Ls : List (List Ent)} (h : Tab w base s ss Ls) : ∃ A c, s = .slice A Ls.length c ∧ Ls.length ≤ c ∧ c ≤ 9223372036854775807 := h.row.shape
end Go.Proofs.YtieiiabbeglmfaaGreatDoor.S10
