import Derived.Test.YtopkdnjploipaaaDoorW5
import Derived.Test.YtopkdnjploipaaaDoorP1
namespace Go.Proofs.YtopkdnjploipaaaDoor
open Go.RowKit Go.Sort Go.Lib

abbrev sLocked : ByteArray := ⟨#[108, 111, 99, 107, 101, 100]⟩
abbrev sParked : ByteArray := ⟨#[112, 97, 114, 107, 101, 100]⟩
abbrev sWaits : ByteArray := ⟨#[119, 97, 105, 116, 115]⟩
abbrev sUpgr : ByteArray := ⟨#[117, 112, 103, 114]⟩
abbrev sWriter : ByteArray := ⟨#[119, 114, 105, 116, 101, 114]⟩
abbrev sDone : ByteArray := ⟨#[100, 111, 110, 101]⟩
abbrev sPoison : ByteArray := ⟨#[112, 111, 105, 115, 111, 110]⟩
abbrev sEmpty : ByteArray := ⟨#[]⟩
def m4 : Nat → Int | 0 => 1 | 1 => 2 | 2 => 4 | 3 => 8 | _ => 0
def m2 : Nat → Int | 0 => 1 | 1 => 2 | _ => 0
def sMu : Nat → ByteArray | 0 => sLocked | 1 => sParked | _ => sEmpty
def sRw : Nat → ByteArray | 0 => sParked | 1 => sWaits | 2 => sUpgr | 3 => sWriter | _ => sEmpty
def sOn : Nat → ByteArray | 0 => sDone | 1 => sPoison | 2 => sLocked | 3 => sParked | _ => sEmpty

/-- A row of the program's table of names, as it lies in memory. -/
def RowAt (w : World) (o : Nat) (M : Nat → Int) (S : Nat → ByteArray) : Prop :=
  (∀ k, k < 4 → w.cell? ⟨0, o + 2 * k, none⟩ = some (.int .u64 (M k))) ∧ (∀ k, k < 4 → w.cell? ⟨0, o + 2 * k + 1, none⟩ = some (.string (S k)))
/-- What the program's tables hold. -/
structure Tabs (w : World) : Prop where
  mu : RowAt w 0 m2 sMu
  rw' : RowAt w 8 m4 sRw
  on : RowAt w 16 m4 sOn
  size : 0 < w.heap.size
  pow : TabIs Tryd.prog w "internal/strconv.uint64pow10" .u64 pow10Tab
theorem RowAt.below {w w' : World} {o : Nat} {M : Nat → Int} {S : Nat → ByteArray} (h : RowAt w o M S) (hs : 0 < w.heap.size) (hb : Below w.heap.size w w') : RowAt w' o M S :=
  ⟨fun k hk => (hb.cell hs).trans (h.1 k hk), fun k hk => (hb.cell hs).trans (h.2 k hk)⟩
theorem tabIs_below {w w' : World} {n : String} {k : IntKind} {zs : List Int} (h : TabIs Tryd.prog w n k zs) (hb : Below w.heap.size w w') : TabIs Tryd.prog w' n k zs := by
  unfold TabIs World.var? at *
  cases hg : Tryd.prog.globalNamed n with
  | none => simp [hg] at h
  | some g =>
    simp only [hg, Option.bind_some] at h ⊢
    have hlt : g < w.heap.size := by
      rcases Nat.lt_or_ge g w.heap.size with h' | h'
      · exact h'
      · rw [Array.getElem?_eq_none h'] at h; simp at h
    rw [hb.block g hlt]
    exact h
theorem Tabs.below {w w' : World} (h : Tabs w) (hb : Below w.heap.size w w') : Tabs w' :=
  ⟨h.mu.below h.size hb, h.rw'.below h.size hb, h.on.below h.size hb, Nat.lt_of_lt_of_le h.size hb.size, tabIs_below h.pow hb⟩

/-- The text of names, and of what is last, if anything is. -/
def txt (N : List ByteArray) (last : Option ByteArray) : ByteArray := outJ (N ++ last.toList)
theorem dec_ne (u : Nat) : decDigits u ≠ [] := by
  intro h
  by_cases h1 : u < 10
  · rw [decDigits_one h1] at h; simp at h
  · rw [decDigits_step u h1] at h; simp at h
theorem cnt_ne (s : ByteArray) (u : Nat) : (cnt s u).toList.isEmpty = false := by
  have : (cnt s u).toList = s.toList ++ decDigits u := by
    rw [ByteArray.toList_eq, ByteArray.toList_eq]; simp [cnt]
  rw [this]
  cases h : decDigits u with
  | nil => exact absurd h (dec_ne u)
  | cons a r => simp
theorem lens_cons (y : List UInt8) (s : List (List UInt8)) : lens (y :: s) = y.length + lens s := by simp [lens]
theorem lens_b (b : Nat) : ∀ (L : List ByteArray), (∀ x ∈ L, x.size ≤ b) → lens (L.map (·.data.toList)) ≤ L.length * b
  | [], _ => by simp [lens]
  | y :: s, h => by
    have h1 : y.data.toList.length ≤ b := by have := h y (List.mem_cons_self ..); rw [Array.length_toList]; exact this
    have h2 := lens_b b s (fun z hz => h z (List.mem_cons_of_mem _ hz))
    rw [List.map_cons, lens_cons, List.length_cons, Nat.add_mul]
    omega
theorem lens_le (L : List ByteArray) (b : Nat) (h : ∀ x ∈ L, x.size ≤ b) : (join (L.map (·.data.toList)) [43]).length ≤ L.length * (b + 1) := by
  cases L with
  | nil => simp [join_nil]
  | cons x r =>
    have h1 := lens_b b (x :: r) h
    rw [List.map_cons] at h1
    have e1 : (x :: r).length = r.length + 1 := rfl
    have e2 : ([43] : List UInt8).length = 1 := rfl
    rw [List.map_cons, join_length, List.length_map, e1, e2]
    rw [e1] at h1
    have h3 : (r.length + 1) * (b + 1) = (r.length + 1) * b + (r.length + 1) := by rw [Nat.mul_add]; omega
    omega
theorem mem4 (u : Int) (M : Nat → Int) (S : Nat → ByteArray) (b : Nat) (hS : ∀ k, (S k).size ≤ b) : ∀ k, ∀ x ∈ nmsK u M S k, x.size ≤ b
  | 0 => by simp [nmsK]
  | k + 1 => by
    intro x hx
    unfold nmsK at hx
    split at hx
    · rcases List.mem_append.1 hx with h | h
      · exact mem4 u M S b hS k x h
      · rw [List.mem_singleton.1 h]; exact hS k
    · exact mem4 u M S b hS k x hx
theorem cnt_size (s : ByteArray) (u : Nat) (h : u < 18446744073709551616) : (cnt s u).size ≤ s.size + 20 := by
  have := nDigits_le u h
  have h2 : (ByteArray.mk (decDigits u).toArray).size = (decDigits u).length := by show (decDigits u).toArray.size = _; simp
  rw [cnt, ByteArray.size_append, h2]
  omega
theorem sMu_size (k : Nat) : (sMu k).size ≤ 6 := by unfold sMu; split <;> decide
theorem sRw_size (k : Nat) : (sRw k).size ≤ 6 := by unfold sRw; split <;> decide
theorem sOn_size (k : Nat) : (sOn k).size ≤ 6 := by unfold sOn; split <;> decide
theorem len_txt (N : List ByteArray) (h : ∀ x ∈ N, x.size ≤ 21) (hn : N.length ≤ 5) : (join (N.map (·.data.toList)) [43]).length ≤ 140737488355328 := by
  have h1 := lens_le N 21 h
  have : N.length * (21 + 1) ≤ 5 * 22 := Nat.mul_le_mul_right _ hn
  omega

/-- Names, a number behind them: joined. -/
theorem tail0 (u : Int) (M : Nat → Int) (S : Nat → ByteArray) (hS : ∀ k, (S k).size ≤ 6) (B : Nat) (v : Value) (w : World) (hown : w.ownsRow B 9 1 v (nmsK u M S 4).length ((nmsK u M S 4).map Value.string)) (hB : B ≤ w.heap.size) :
    Calls Tryd.prog 26 #[.string ⟨#[]⟩, v] w fun e w' => e = .returned (.string (txt (nmsK u M S 4) none)) ∧ Below B w w' := by
  have h := joined0 (nmsK u M S 4) v B w hown hB (nmsK_len u M S 4) (len_txt _ (fun x hx => Nat.le_trans (mem4 u M S 6 hS 4 x hx) (by omega)) (by have := nmsK_len u M S 4; omega))
  refine h.mono fun e w' ⟨h1, h2⟩ => ⟨?_, h2.mono hB⟩
  rw [h1]
  simp [txt]
theorem tail1 (u : Int) (M : Nat → Int) (S : Nat → ByteArray) (hS : ∀ k, (S k).size ≤ 6) (s : ByteArray) (hs : s.size ≤ 1) (r : Nat) (hr : r < 18446744073709551616) (B : Nat) (v : Value) (w : World) (hown : w.ownsRow B 9 1 v (nmsK u M S 4).length ((nmsK u M S 4).map Value.string)) (hB : B ≤ w.heap.size) :
    Calls Tryd.prog 26 #[.string (cnt s r), v] w fun e w' => e = .returned (.string (txt (nmsK u M S 4) (some (cnt s r)))) ∧ Below B w w' := by
  have hl := nmsK_len u M S 4
  have h := joined1 (cnt s r) (cnt_ne s r) (nmsK u M S 4) v B w hown hB hl (len_txt _ (fun x hx => by
    rcases List.mem_append.1 hx with h | h
    · exact Nat.le_trans (mem4 u M S 6 hS 4 x h) (by omega)
    · rw [List.mem_singleton.1 h]
      exact Nat.le_trans (cnt_size s r hr) (by omega)) (by simp; omega))
  refine h.mono fun e w' ⟨h1, h2⟩ => ⟨?_, h2⟩
  rw [h1]
  simp [txt]
end Go.Proofs.YtopkdnjploipaaaDoor
