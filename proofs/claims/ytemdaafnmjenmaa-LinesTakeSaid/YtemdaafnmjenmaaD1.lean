/- A list parted by a function value that has a state of its own. -/
import Derived.Test.YtemdaafnmjenmaaC3
namespace Go.Proofs.Ytemdaafnmjenmaa
open Go.RowKit

/-- What is asked of a function value: behind k calls it is in a state, over blocks of its own; a call tells as f does; it stays while its own blocks do. -/
structure Clo {σ : Type} (g : Nat) (lb : Array Value) (f : σ → Ent → Bool × σ) (base n : Nat) (I : Nat → σ → (Nat → Prop) → World → Prop) : Prop where
  call : ∀ k st F W e, k < n → I k st F W → base ≤ W.heap.size → Calls Try.prog g (#[ag e] ++ lb) W fun e' W' => e' = .returned (.bool (f st e).1) ∧ ∃ F', I (k + 1) (f st e).2 F' W' ∧ Turns F W W' ∧ ∀ b, F' b → F b ∨ W.heap.size ≤ b
  keep : ∀ k st F W W' S, I k st F W → Turns S W W' → (∀ b, S b → base ≤ b ∧ ¬ F b) → I k st F W'
  lt : ∀ k st F W b, I k st F W → F b → b < W.heap.size
/-- Two lists of a call's own, and a state over blocks of its own. -/
structure Ph (w : World) (F0 : Nat → Prop) (J : (Nat → Prop) → World → Prop) (F : Nat → Prop) (s1 s2 : Value) (T L : List Ent) (wx : World) : Prop where
  inv : J F wx
  two : Two wx w.heap.size s1 s2 T L
  ap : ∀ b, s1.ownBlock = some b ∨ s2.ownBlock = some b → ¬ F b
  turn : Turns F0 w wx
  sub : ∀ b, F b → F0 b ∨ w.heap.size ≤ b
section
variable {w wx w' : World} {F0 F F' : Nat → Prop} {J J' : (Nat → Prop) → World → Prop} {s1 s2 s' : Value} {T L : List Ent} {e : Ent}
theorem Ph.alloc (h : Ph w F0 J F s1 s2 T L wx) (o : Obj) (hk : ∀ W', Turns (fun _ => False) wx W' → J F W') : Ph w F0 J F s1 s2 T L (wx.alloc o) :=
  ⟨hk _ ((Turns.refl _ _).alloc _), h.two.alloc o, h.ap, h.turn.alloc o, h.sub⟩
theorem Ph.call (h : Ph w F0 J F s1 s2 T L wx) (hJ : J' F' w') (t : Turns F wx w') (hs : ∀ b, F' b → F b ∨ wx.heap.size ≤ b) : Ph w F0 J' F' s1 s2 T L w' := by
  refine ⟨hJ, h.two.keep t (fun g hg => h.ap g (.inl hg)) (fun g hg => h.ap g (.inr hg)), fun b hb hf => ?_, h.turn.trans t (fun k hk hf => ?_), fun b hb => ?_⟩
  · rcases hs b hf with hf | hf
    · exact h.ap b hb hf
    · rcases hb with hb | hb
      · have := (h.two.r1.lt b hb).2; omega
      · have := (h.two.r2.lt b hb).2; omega
  · rcases h.sub k hf with h0 | h0
    · exact h0
    · omega
  · rcases hs b hb with hb | hb
    · exact h.sub b hb
    · exact .inr (Nat.le_trans h.turn.size hb)
theorem Ph.left (h : Ph w F0 J F s1 s2 T L wx) (hr : Row w' w.heap.size 3 s' (T.length + 1) (flat T ++ flat [e])) (t : Turns (fun k => s1.ownBlock = some k) wx w') (o : s'.ownBlock = s1.ownBlock ∨ s'.ownBlock = some wx.heap.size)
    (hk : ∀ W' S, Turns S wx W' → (∀ b, S b → w.heap.size ≤ b ∧ ¬ F b) → J F W') (hlt : ∀ b, F b → b < wx.heap.size) : Ph w F0 J F s' s2 (T ++ [e]) L w' := by
  refine ⟨hk _ _ t (fun b hb => ⟨(h.two.r1.lt b hb).1, h.ap b (.inl hb)⟩), h.two.left hr t o, fun b hb hf => ?_, h.turn.trans t (fun k hk e => by have := (h.two.r1.lt k e).1; omega), h.sub⟩
  rcases hb with hb | hb
  · rcases o with o | o
    · exact h.ap b (.inl (o ▸ hb)) hf
    · rw [o] at hb
      injection hb with hb
      have := hlt b hf
      omega
  · exact h.ap b (.inr hb) hf
theorem Ph.right (h : Ph w F0 J F s1 s2 T L wx) (hr : Row w' w.heap.size 3 s' (L.length + 1) (flat L ++ flat [e])) (t : Turns (fun k => s2.ownBlock = some k) wx w') (o : s'.ownBlock = s2.ownBlock ∨ s'.ownBlock = some wx.heap.size)
    (hk : ∀ W' S, Turns S wx W' → (∀ b, S b → w.heap.size ≤ b ∧ ¬ F b) → J F W') (hlt : ∀ b, F b → b < wx.heap.size) : Ph w F0 J F s1 s' T (L ++ [e]) w' := by
  refine ⟨hk _ _ t (fun b hb => ⟨(h.two.r2.lt b hb).1, h.ap b (.inr hb)⟩), h.two.right hr t o, fun b hb hf => ?_, h.turn.trans t (fun k hk e => by have := (h.two.r2.lt k e).1; omega), h.sub⟩
  rcases hb with hb | hb
  · exact h.ap b (.inl hb) hf
  · rcases o with o | o
    · exact h.ap b (.inr (o ▸ hb)) hf
    · rw [o] at hb
      injection hb with hb
      have := hlt b hf
      omega
theorem own_cap (A : Option Addr) (n c n' c' : Nat) : (Value.slice A n c).ownBlock = (Value.slice A n' c').ownBlock := by cases A <;> rfl
theorem Ph.clip {A1 A2 : Option Addr} {c1 c2 : Nat} (h : Ph w F0 J F (.slice A1 T.length c1) (.slice A2 L.length c2) T L wx) : Ph w F0 J F (.slice A1 T.length T.length) (.slice A2 L.length L.length) T L wx :=
  ⟨h.inv, ⟨h.two.r1.clip, h.two.r2.clip, fun g h1 h2 => h.two.ne g ((own_cap ..).trans h1) ((own_cap ..).trans h2)⟩, fun b hb => h.ap b (hb.imp (fun e => (own_cap ..).trans e) (fun e => (own_cap ..).trans e)), h.turn, h.sub⟩
theorem Ph.mono (h : Ph w F0 J F s1 s2 T L wx) (hj : ∀ F W, J F W → J' F W) : Ph w F0 J' F s1 s2 T L wx := ⟨hj _ _ h.inv, h.two, h.ap, h.turn, h.sub⟩
end
/-- How a list was parted. -/
def Parts {σ : Type} (w : World) (F0 : Nat → Prop) (J : σ → (Nat → Prop) → World → Prop) (f : σ → Ent → Bool × σ) (st : σ) (D : List Ent) (e : Ending) (w' : World) : Prop :=
  ∃ A1 A2 F, e = .returned (.tuple #[.slice A1 (part f st D).1.length (part f st D).1.length, .slice A2 (part f st D).2.1.length (part f st D).2.1.length]) ∧
    Ph w F0 (J (part f st D).2.2) F (.slice A1 (part f st D).1.length (part f st D).1.length) (.slice A2 (part f st D).2.1.length (part f st D).2.1.length) (part f st D).1 (part f st D).2.1 w'
set_option maxHeartbeats 2000000 in
theorem parted_any {σ : Type} {w : World} {b1 : Nat} {A : Option Addr} {D : List Ent} (c : Nat) {g : Nat} {lb : Array Value} {f : σ → Ent → Bool × σ} {I : Nat → σ → (Nat → Prop) → World → Prop} (eg : ∀ args w, (callFunc g args).run Try.prog w = .ok (.enter g args) w)
    (hclo : Clo g lb f w.heap.size D.length I) (st : σ) (F0 : Nat → Prop) (hI : I 0 st F0 w) (hr : Rd w b1 A (flat D)) (hb1 : b1 ≤ w.heap.size) (hF : ∀ b, b < b1 → ¬ F0 b) (hlen : D.length ≤ 1000) :
    Calls Try.prog 32 #[.slice A D.length c, .func (.func g) #[] lb] w (Parts w F0 (I D.length) f st D) := by
  have HC := Lib.hid hclo; have HI := Lib.hid hI; have HR := Lib.hid hr; have HB1 := Lib.hid hb1; have HF := Lib.hid hF
  clear hclo hI hr hb1 hF
  obtain ⟨n, hn⟩ : ∃ n, n = D.length := ⟨_, rfl⟩
  rw [← hn] at HC ⊢
  have HN := Lib.hid hn
  have hn6 : n ≤ 1000 := by omega
  clear hn hlen
  go_enter Try.func32, Try.ntmps32
  go_wp2_with fail
  go_loopg [4, 5, 10] n (fun q s4 s5 s10 wx => ∃ k : Nat, k ≤ n ∧ q = n - k ∧ s10 = .int .i64 (k : Int) ∧ ∃ F, Ph w F0 (I k (part f st (D.take k)).2.2) F s4 s5 (part f st (D.take k)).1 (part f st (D.take k)).2.1 wx)
  case atStart => exact ⟨0, by omega, rfl, rfl, F0, HI.out, two_nil _ _, fun b hb => by simp [Value.ownBlock] at hb, Turns.refl _ _, fun b hb => .inl hb⟩
  case round =>
    obtain ⟨k, hk, rfl, rfl, F, hph⟩ := hrel
    have HPH := Lib.hid hph
    by_cases hkn : k < n
    · obtain ⟨lb', lo, rfl, hlb, c0, c1, c2⟩ := (HR.out.kept hph.turn HB1.out HF.out).ent (i := k) (by have := HN.out; omega)
      clear hph
      have hsn := part_snoc (f := f) (st := st) (D := D) (k := k) (by have := HN.out; omega)
      have hle := part_len f st (D.take k)
      rw [List.length_take] at hle
      obtain ⟨y, hy⟩ : ∃ y, y = part f st (D.take (k + 1)) := ⟨_, rfl⟩
      rw [← hy] at hsn
      have HY := Lib.hid hy
      clear hy
      generalize part f st (D.take k) = x at *
      obtain ⟨T, L, s⟩ := x
      generalize hd : D[k]! = d at *
      clear hd
      dsimp only at hle HPH
      unfold step at hsn
      dsimp only at hsn
      have hlT : T.length ≤ 1000 := by have := Nat.min_le_left k D.length; omega
      have hlL : L.length ≤ 1000 := by have := Nat.min_le_left k D.length; omega
      obtain ⟨A1, cap1, rfl, _, _⟩ := HPH.out.two.r1.shape
      obtain ⟨A2, cap2, rfl, _, _⟩ := HPH.out.two.r2.shape
      have hs : w.heap.size ≤ wr.heap.size := HPH.out.turn.size
      have hal := HPH.out.alloc (.cells #[.int .i64 d.t, .int .u32 d.k, .int .u64 d.z] 36) (fun W' t => HC.out.keep _ _ _ _ _ _ HPH.out.inv t (fun b hb => hb.elim))
      have hnew := heap_alloc_new wr (.cells #[.int .i64 d.t, .int .u32 d.k, .int .u64 d.z] 36)
      have hszn : (wr.alloc (.cells #[.int .i64 d.t, .int .u32 d.k, .int .u64 d.z] 36)).heap.size = wr.heap.size + 1 := by simp
      have hFlt : ¬ F wr.heap.size := fun h => by have := HC.out.lt _ _ _ _ _ HPH.out.inv h; omega
      have hcall := HC.out.call k s F _ d hkn hal.inv (by rw [hszn]; omega)
      have HAL := Lib.hid hal; have HNEW := Lib.hid hnew; have HSZ := Lib.hid hszn; have HFL := Lib.hid hFlt
      clear hle hal hnew hszn hFlt
      cases hq : (f s d).1 with
      | true =>
        rw [hq] at hcall hsn
        simp only [if_true] at hsn
        have HSN := Lib.hid hsn
        clear hq hsn
        go_wp2_with (first
          | (go_at_fn g; refine hcall.mono ?_; rintro e w2 ⟨rfl, F2, hI2, ht2, hs2⟩; (have x0 : w2.cell? ⟨wr.heap.size, 0, none⟩ = some (.int .i64 d.t) := (ht2.cell (by rw [HSZ.out]; omega) HFL.out).trans (cell_row HNEW.out 0)); (have x1 : w2.cell? ⟨wr.heap.size, 1, none⟩ = some (.int .u32 d.k) := (ht2.cell (by rw [HSZ.out]; omega) HFL.out).trans (cell_row HNEW.out 1)); (have x2 : w2.cell? ⟨wr.heap.size, 2, none⟩ = some (.int .u64 d.z) := (ht2.cell (by rw [HSZ.out]; omega) HFL.out).trans (cell_row HNEW.out 2)); (have h2 := HAL.out.call hI2 ht2 hs2); (have H2 := Lib.hid (h2.alloc (.cells #[.int .i64 d.t, .int .u32 d.k, .int .u64 d.z] 36) (fun W' t => HC.out.keep _ _ _ _ _ _ h2.inv t (fun b hb => hb.elim)))); (clear h2 hI2 ht2 hs2))
          | (at_builtin; refine wpList_append_row lay36 rfl _ _ rfl rfl H2.out.two.r1 (flat_one' _) H2.out.turn.size 1 rfl (rd_one w2 d 36) rfl (flat_one' _) (by omega) ?_; intro v' w3 hr3 ht3 ho3; (have HR3 := Lib.hid hr3); (have HT3 := Lib.hid ht3); (have HO3 := Lib.hid ho3); (clear hr3 ht3 ho3)))
        go_roundg (n - (k + 1))
        case measure => omega
        case rel =>
          refine ⟨k + 1, by omega, rfl, by go_num, F2, ?_⟩
          rw [← HY.out, HSN.out]
          exact H2.out.left HR3.out HT3.out HO3.out (fun W' S t hS => HC.out.keep _ _ _ _ _ _ H2.out.inv t hS) (fun b hb => HC.out.lt _ _ _ _ _ H2.out.inv hb)
      | false =>
        rw [hq] at hcall hsn
        simp only [Bool.false_eq_true, if_false] at hsn
        have HSN := Lib.hid hsn
        clear hq hsn
        go_wp2_with (first
          | (go_at_fn g; refine hcall.mono ?_; rintro e w2 ⟨rfl, F2, hI2, ht2, hs2⟩; (have x0 : w2.cell? ⟨wr.heap.size, 0, none⟩ = some (.int .i64 d.t) := (ht2.cell (by rw [HSZ.out]; omega) HFL.out).trans (cell_row HNEW.out 0)); (have x1 : w2.cell? ⟨wr.heap.size, 1, none⟩ = some (.int .u32 d.k) := (ht2.cell (by rw [HSZ.out]; omega) HFL.out).trans (cell_row HNEW.out 1)); (have x2 : w2.cell? ⟨wr.heap.size, 2, none⟩ = some (.int .u64 d.z) := (ht2.cell (by rw [HSZ.out]; omega) HFL.out).trans (cell_row HNEW.out 2)); (have h2 := HAL.out.call hI2 ht2 hs2); (have H2 := Lib.hid (h2.alloc (.cells #[.int .i64 d.t, .int .u32 d.k, .int .u64 d.z] 36) (fun W' t => HC.out.keep _ _ _ _ _ _ h2.inv t (fun b hb => hb.elim)))); (clear h2 hI2 ht2 hs2))
          | (at_builtin; refine wpList_append_row lay36 rfl _ _ rfl rfl H2.out.two.r2 (flat_one' _) H2.out.turn.size 1 rfl (rd_one w2 d 36) rfl (flat_one' _) (by omega) ?_; intro v' w3 hr3 ht3 ho3; (have HR3 := Lib.hid hr3); (have HT3 := Lib.hid ht3); (have HO3 := Lib.hid ho3); (clear hr3 ht3 ho3)))
        go_roundg (n - (k + 1))
        case measure => omega
        case rel =>
          refine ⟨k + 1, by omega, rfl, by go_num, F2, ?_⟩
          rw [← HY.out, HSN.out]
          exact H2.out.right HR3.out HT3.out HO3.out (fun W' S t hS => HC.out.keep _ _ _ _ _ _ H2.out.inv t hS) (fun b hb => HC.out.lt _ _ _ _ _ H2.out.inv hb)
    · obtain rfl : k = n := by omega
      clear hph
      have hDn : D.take k = D := by rw [HN.out, List.take_length]
      rw [hDn] at HPH
      unfold Parts
      obtain ⟨A1, cap1, rfl, h11, h12⟩ := HPH.out.two.r1.shape
      obtain ⟨A2, cap2, rfl, h21, h22⟩ := HPH.out.two.r2.shape
      have hc1 := fun W => clip_any A1 (part f st D).1.length cap1 W h11 h12
      have hc2 := fun W => clip_any A2 (part f st D).2.1.length cap2 W h21 h22
      have HC1 := Lib.hid hc1; have HC2 := Lib.hid hc2
      clear hc1 hc2 hDn
      go_wp2_with fail
      refine (HC1.out _).mono ?_
      rintro e w4 ⟨rfl, rfl⟩
      go_wp2_with fail
      refine (HC2.out _).mono ?_
      rintro e w5 ⟨rfl, rfl⟩
      go_wp2_with fail
      go_ret2
      exact ⟨A1, A2, F, rfl, HPH.out.clip⟩
end Go.Proofs.Ytemdaafnmjenmaa
