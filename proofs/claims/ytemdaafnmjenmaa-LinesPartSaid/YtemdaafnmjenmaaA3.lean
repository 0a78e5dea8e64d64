/- The first one that is asked for: IndexFunc, First, Has, Of, and the document's; entries turned into the document's. -/
import Derived.Test.YtemdaafnmjenmaaA2
namespace Go.Proofs.Ytemdaafnmjenmaa
open Go.RowKit

/-- The place of the first one, or -1. -/
def idx (p : Ent → Bool) (D : List Ent) : Int := match D.findIdx? p with | some i => (i : Int) | none => -1
theorem idx_hit {p : Ent → Bool} {D : List Ent} {k : Nat} (hk : k < D.length) (h : ∀ j, j < k → p D[j]! = false) (hp : p D[k]! = true) : idx p D = k := by
  have : D.findIdx? p = some k := by
    rw [List.findIdx?_eq_some_iff_getElem]
    refine ⟨hk, by rwa [getElem!_pos D k hk] at hp, fun j hj => ?_⟩
    have := h j hj
    rw [getElem!_pos D j (by omega)] at this
    simp [this]
  unfold idx; rw [this]
theorem idx_miss {p : Ent → Bool} {D : List Ent} (h : ∀ j, j < D.length → p D[j]! = false) : idx p D = -1 := by
  have : D.findIdx? p = none := by
    rw [List.findIdx?_eq_none_iff]
    intro x hx
    obtain ⟨j, hj, rfl⟩ := List.getElem_of_mem hx
    have := h j hj
    rwa [getElem!_pos D j hj] at this
  unfold idx; rw [this]
theorem idx_range (p : Ent → Bool) (D : List Ent) : -1 ≤ idx p D ∧ idx p D < (D.length : Int) := by
  unfold idx
  cases h : D.findIdx? p with
  | none => simp; omega
  | some i =>
    rw [List.findIdx?_eq_some_iff_getElem] at h
    obtain ⟨hi, _⟩ := h
    simp; omega
theorem other_any (e : Ent) (w : World) : Calls Try.prog 17 #[ag e] w fun e' w' => e' = .returned (ag e) ∧ Below w.heap.size w w' := by
  go_enter Try.func17, Try.ntmps17
  go_wp2
  exact bodyPost_ret (v := ag e) (by simp [results, Try.results17, go_sem]) rfl ⟨rfl, ((Below.refl _ w).alloc (Nat.le_refl _) _).alloc (by simp) _⟩
theorem tight_any (A B : Option Addr) (n m : Nat) (w : World) : Calls Try.prog 19 #[.slice A n n, .slice B m m] w fun e w' => e = .returned (.bool true) ∧ w = w' := by
  go_enter Try.func19, Try.ntmps19
  go_wp2
  go_ret
  exact ⟨by simp, rfl⟩
theorem eg29 : ∀ args w, (callFunc 29 args).run Try.prog w = .ok (.enter 29 args) w := enters_of Try.func29 (by kernel_rfl) rfl
theorem eg30 : ∀ args w, (callFunc 30 args).run Try.prog w = .ok (.enter 30 args) w := enters_of Try.func30 (by kernel_rfl) rfl
def byKey (key : Int) (e : Ent) : Bool := decide (e.k = key)
def byThread (t : Int) (e : Ent) : Bool := decide (e.t = t)
theorem first1_any (key : Int) (B : Nat) (w : World) (hB : w.cell? ⟨B, 0, none⟩ = some (.int .u32 key)) (hlt : B < w.heap.size) (W : World) (e : Ent) (hb : Below w.heap.size w W) :
    Calls Try.prog 29 #[ag e, .pointer (some ⟨B, 0, none⟩)] W fun e' W' => e' = .returned (.bool (byKey key e)) ∧ Below w.heap.size w W' := by
  have c0 : W.cell? ⟨B, 0, none⟩ = some (.int .u32 key) := (hb.cell (p := ⟨B, 0, none⟩) hlt).trans hB
  have hBW : B < W.heap.size := Nat.lt_of_lt_of_le hlt hb.size
  have hne : B ≠ W.heap.size := by omega
  have HB := Lib.hid hb
  clear hb hB
  go_enter Try.func29, Try.ntmps29
  go_wp2
  go_ret
  exact ⟨rfl, HB.out.alloc HB.out.size _⟩
theorem of1_any (t : Int) (B : Nat) (w : World) (hB : w.cell? ⟨B, 0, none⟩ = some (.int .i64 t)) (hlt : B < w.heap.size) (W : World) (e : Ent) (hb : Below w.heap.size w W) :
    Calls Try.prog 30 #[ag e, .pointer (some ⟨B, 0, none⟩)] W fun e' W' => e' = .returned (.bool (byThread t e)) ∧ Below w.heap.size w W' := by
  have c0 : W.cell? ⟨B, 0, none⟩ = some (.int .i64 t) := (hb.cell (p := ⟨B, 0, none⟩) hlt).trans hB
  have hBW : B < W.heap.size := Nat.lt_of_lt_of_le hlt hb.size
  have hne : B ≠ W.heap.size := by omega
  have HB := Lib.hid hb
  clear hb hB
  go_enter Try.func30, Try.ntmps30
  go_wp2
  go_ret
  exact ⟨rfl, HB.out.alloc HB.out.size _⟩
set_option maxHeartbeats 1000000 in
theorem index_any {w : World} {base : Nat} {A : Option Addr} {D : List Ent} (c : Nat) (g : Nat) (lb : Array Value) (p : Ent → Bool) (eg : ∀ args w, (callFunc g args).run Try.prog w = .ok (.enter g args) w) (hr : Rd w base A (flat D)) (hbase : base ≤ w.heap.size) (hlen : D.length ≤ 1000000)
    (hp : ∀ W e, Below w.heap.size w W → Calls Try.prog g (#[ag e] ++ lb) W fun e' W' => e' = .returned (.bool (p e)) ∧ Below w.heap.size w W') :
    Calls Try.prog 28 #[.slice A D.length c, .func (.func g) #[] lb] w fun e w' => e = .returned (.int .i64 (idx p D)) ∧ Below w.heap.size w w' := by
  have HR := Lib.hid hr; have HP := Lib.hid hp; have HBS := Lib.hid hbase
  clear hr hp hbase
  obtain ⟨n, hn⟩ : ∃ n, n = D.length := ⟨_, rfl⟩
  rw [← hn]
  have HN := Lib.hid hn
  have hn6 : n ≤ 1000000 := by omega
  clear hn hlen
  go_enter Try.func28, Try.ntmps28
  go_wp2_with fail
  go_loopg [5, 8] n (fun q s5 s8 wx => ∃ k : Nat, k ≤ n ∧ q = n - k ∧ s8 = .int .i64 (k : Int) ∧ Below w.heap.size w wx ∧ ∀ j, j < k → p D[j]! = false)
  case atStart => exact ⟨0, by omega, rfl, rfl, Below.refl _ _, fun j hj => by omega⟩
  case round =>
    obtain ⟨k, hk, rfl, rfl, hb, hj⟩ := hrel
    have HJ := Lib.hid hj; have HB := Lib.hid hb
    clear hj hb
    by_cases hkn : k < n
    · obtain ⟨lb', lo, rfl, hlb, c0, c1, c2⟩ := (HR.out.below HB.out HBS.out).ent (i := k) (by have := HN.out; omega)
      have hcall := HP.out wr D[k]! HB.out
      have HD : Hid (∃ e, D[k]! = e) := ⟨_, rfl⟩
      generalize hd : D[k]! = d at *
      have HE := Lib.hid hd
      clear hd HD
      have hlt : (k : Int) < (n : Int) := by omega
      cases hq : p d with
      | true =>
        rw [hq] at hcall
        have HQ := Lib.hid hq
        clear hq
        go_wp2_with (go_at_fn g; refine hcall.mono ?_; rintro e w' ⟨rfl, hb'⟩)
        go_ret
        rw [idx_hit (by have := HN.out; omega) HJ.out (by rw [HE.out]; exact HQ.out)]
        exact ⟨rfl, hb'⟩
      | false =>
        rw [hq] at hcall
        have HQ := Lib.hid hq
        clear hq
        go_wp2_with (go_at_fn g; refine hcall.mono ?_; rintro e w' ⟨rfl, hb'⟩)
        go_roundg (n - (k + 1))
        case measure => omega
        case rel =>
          refine ⟨k + 1, by omega, rfl, by go_num, hb', fun j hj => ?_⟩
          by_cases e : j = k
          · subst e; rw [HE.out]; exact HQ.out
          · exact HJ.out j (by omega)
    · obtain rfl : k = n := by omega
      go_wp2_with fail
      go_ret
      rw [idx_miss (by rw [← HN.out]; exact HJ.out)]
      exact ⟨rfl, HB.out⟩
end Go.Proofs.Ytemdaafnmjenmaa
