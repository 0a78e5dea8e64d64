/- Who is taken and who is left: plain; two lists of a call's own; the document's Some. -/
import Derived.Test.YtemdaafnmjenmaaA6
namespace Go.Proofs.Ytemdaafnmjenmaa
open Go.RowKit

section
variable {σ : Type}
/-- One entry more: taken, or left. -/
def step (f : σ → Ent → Bool × σ) (x : List Ent × List Ent × σ) (e : Ent) : List Ent × List Ent × σ :=
  if (f x.2.2 e).1 then (x.1 ++ [e], x.2.1, (f x.2.2 e).2) else (x.1, x.2.1 ++ [e], (f x.2.2 e).2)
def part (f : σ → Ent → Bool × σ) (st : σ) (D : List Ent) : List Ent × List Ent × σ := D.foldl (step f) ([], [], st)
theorem part_app (f : σ → Ent → Bool × σ) (st : σ) (D F : List Ent) : part f st (D ++ F) = F.foldl (step f) (part f st D) := List.foldl_append ..
theorem part_snoc {f : σ → Ent → Bool × σ} {st : σ} {D : List Ent} {k : Nat} (h : k < D.length) : part f st (D.take (k + 1)) = step f (part f st (D.take k)) D[k]! := by
  rw [take_snoc h, part_app]; rfl
theorem part_len (f : σ → Ent → Bool × σ) (st : σ) (D : List Ent) : (part f st D).1.length + (part f st D).2.1.length = D.length := by
  have H : ∀ (F : List Ent) (x : List Ent × List Ent × σ), (F.foldl (step f) x).1.length + (F.foldl (step f) x).2.1.length = x.1.length + x.2.1.length + F.length := by
    intro F
    induction F with
    | nil => intro x; simp
    | cons e r ih =>
      intro x
      rw [List.foldl_cons, ih]
      unfold step
      split <;> simp <;> omega
  have := H D ([], [], st)
  simpa [part] using this
/-- Who is taken of some is taken of all, and so who is left. -/
theorem part_mono (f : σ → Ent → Bool × σ) (F : List Ent) : ∀ x : List Ent × List Ent × σ, x.1 <+: (F.foldl (step f) x).1 ∧ x.2.1 <+: (F.foldl (step f) x).2.1 := by
  induction F with
  | nil => intro x; exact ⟨List.prefix_rfl, List.prefix_rfl⟩
  | cons e r ih =>
    intro x
    rw [List.foldl_cons]
    obtain ⟨h1, h2⟩ := ih (step f x e)
    refine ⟨List.IsPrefix.trans ?_ h1, List.IsPrefix.trans ?_ h2⟩
    · unfold step; split
      · exact List.prefix_append _ _
      · exact List.prefix_rfl
    · unfold step; split
      · exact List.prefix_rfl
      · exact List.prefix_append _ _
end
/-- Some of a key: how many may still be taken. -/
def fsome (key : Int) (m : Int) (e : Ent) : Bool × Int := if e.k = key ∧ 0 < m then (true, m - 1) else (false, m)
theorem some_left (key most : Int) (D : List Ent) : (part (fsome key) most D).2.2 = most - (part (fsome key) most D).1.length := by
  have H : ∀ (F : List Ent) (x : List Ent × List Ent × Int), x.2.2 = most - x.1.length → (F.foldl (step (fsome key)) x).2.2 = most - (F.foldl (step (fsome key)) x).1.length := by
    intro F
    induction F with
    | nil => intro x h; exact h
    | cons e r ih =>
      intro x h
      rw [List.foldl_cons]
      refine ih _ ?_
      unfold step fsome
      by_cases c : e.k = key ∧ 0 < x.2.2
      · rw [if_pos c]
        simp only [if_true, List.length_append, List.length_singleton]
        omega
      · rw [if_neg c]
        simpa using h
  exact H D ([], [], most) (by simp)
/-- Two lists of a call's own, side by side. -/
structure Two (w : World) (base : Nat) (s1 s2 : Value) (T L : List Ent) : Prop where
  r1 : RowE w base s1 T
  r2 : RowE w base s2 L
  ne : ∀ g, s1.ownBlock = some g → s2.ownBlock ≠ some g
section
variable {w w' : World} {base : Nat} {s1 s2 s' : Value} {T L : List Ent} {e : Ent}
theorem two_nil (w : World) (base : Nat) : Two w base (.slice none 0 0) (.slice none 0 0) [] [] := ⟨row_nil _ _ _, row_nil _ _ _, fun g e => by simp [Value.ownBlock] at e⟩
theorem Two.new (h : Two w base s1 s2 T L) (hb : Below w.heap.size w w') : Two w' base s1 s2 T L := ⟨h.r1.new hb, h.r2.new hb, h.ne⟩
theorem Two.keep {S : Nat → Prop} (h : Two w base s1 s2 T L) (t : Turns S w w') (h1 : ∀ g, s1.ownBlock = some g → ¬ S g) (h2 : ∀ g, s2.ownBlock = some g → ¬ S g) : Two w' base s1 s2 T L := ⟨h.r1.keep t h1, h.r2.keep t h2, h.ne⟩
theorem Two.alloc (h : Two w base s1 s2 T L) (o : Obj) : Two (w.alloc o) base s1 s2 T L := h.new (below1 w o)
theorem Two.left (h : Two w base s1 s2 T L) (hr : Row w' base 3 s' (T.length + 1) (flat T ++ flat [e])) (t : Turns (fun k => s1.ownBlock = some k) w w') (o : s'.ownBlock = s1.ownBlock ∨ s'.ownBlock = some w.heap.size) : Two w' base s' s2 (T ++ [e]) L := by
  refine ⟨?_, h.r2.keep t (fun g hg e => h.ne g e hg), fun g hg hg2 => ?_⟩
  · rw [← flat_app] at hr
    show Row w' base 3 s' (T ++ [e]).length _
    rw [List.length_append]
    exact hr
  · rcases o with o | o
    · exact h.ne g (o ▸ hg) hg2
    · rw [o] at hg
      have := (h.r2.lt g hg2).2
      injection hg with hg
      omega
theorem Two.right (h : Two w base s1 s2 T L) (hr : Row w' base 3 s' (L.length + 1) (flat L ++ flat [e])) (t : Turns (fun k => s2.ownBlock = some k) w w') (o : s'.ownBlock = s2.ownBlock ∨ s'.ownBlock = some w.heap.size) : Two w' base s1 s' T (L ++ [e]) := by
  refine ⟨h.r1.keep t (fun g hg e => h.ne g hg e), ?_, fun g hg hg2 => ?_⟩
  · rw [← flat_app] at hr
    show Row w' base 3 s' (L ++ [e]).length _
    rw [List.length_append]
    exact hr
  · rcases o with o | o
    · exact h.ne g hg (o ▸ hg2)
    · rw [o] at hg2
      have := (h.r1.lt g hg).2
      injection hg2 with hg2
      omega
end
theorem Row.below_of {w w' : World} {base sz n : Nat} {s : Value} {cs : List Value} (h : Row w base sz s n cs) (t : Turns (fun k => s.ownBlock = some k) w w') (hb : base ≤ w.heap.size) : Below base w w' :=
  t.below hb (fun k hk e => by have := (h.lt k e).1; omega)
set_option maxHeartbeats 2000000 in
theorem rsome_any {w : World} {b1 : Nat} {A : Option Addr} {D : List Ent} (c : Nat) (key most : Int) (hr : Rd w b1 A (flat D)) (hb1 : b1 ≤ w.heap.size) (hlen : D.length ≤ 1000) :
    Calls Try.prog 22 #[.slice A D.length c, .int .u32 key, .int .i64 most] w fun e w' => ∃ s1 s2, e = .returned (.tuple #[s1, s2]) ∧ Two w' w.heap.size s1 s2 (part (fsome key) most D).1 (part (fsome key) most D).2.1 ∧ Below w.heap.size w w' := by
  have HR := Lib.hid hr; have HBS := Lib.hid hb1
  clear hr hb1
  obtain ⟨n, hn⟩ : ∃ n, n = D.length := ⟨_, rfl⟩
  rw [← hn]
  have HN := Lib.hid hn
  have hn6 : n ≤ 1000 := by omega
  clear hn hlen
  go_enter Try.func22, Try.ntmps22
  go_wp2_with fail
  go_loopg [8, 9, 10] n (fun q s8 s9 s10 wx => ∃ k : Nat, k ≤ n ∧ q = n - k ∧ s10 = .int .i64 (k : Int) ∧ Below w.heap.size w wx ∧ Two wx w.heap.size s8 s9 (part (fsome key) most (D.take k)).1 (part (fsome key) most (D.take k)).2.1)
  case atStart => exact ⟨0, by omega, rfl, rfl, Below.refl _ _, two_nil _ _⟩
  case round =>
    obtain ⟨k, hk, rfl, rfl, hb, htw⟩ := hrel
    have HB := Lib.hid hb; have HTW := Lib.hid htw
    clear hb htw
    by_cases hkn : k < n
    · obtain ⟨lb', lo, rfl, hlb, c0, c1, c2⟩ := (HR.out.below HB.out HBS.out).ent (i := k) (by have := HN.out; omega)
      have hsn := part_snoc (f := fsome key) (st := most) (D := D) (k := k) (by have := HN.out; omega)
      have hle := part_len (fsome key) most (D.take k)
      rw [List.length_take] at hle
      have hml := some_left key most (D.take k)
      obtain ⟨y, hy⟩ : ∃ y, y = part (fsome key) most (D.take (k + 1)) := ⟨_, rfl⟩
      rw [← hy] at hsn
      have HY := Lib.hid hy
      clear hy
      generalize part (fsome key) most (D.take k) = x at *
      obtain ⟨T, L, m⟩ := x
      generalize hd : D[k]! = d at *
      clear hd
      dsimp only at hml hle HTW
      unfold step fsome at hsn
      dsimp only at hsn
      have hlT : T.length ≤ 1000 := by have := Nat.min_le_left k D.length; omega
      have hlL : L.length ≤ 1000 := by have := Nat.min_le_left k D.length; omega
      obtain ⟨A1, cap1, rfl, _, _⟩ := HTW.out.r1.shape
      obtain ⟨A2, cap2, rfl, _, _⟩ := HTW.out.r2.shape
      have hs : w.heap.size ≤ wr.heap.size := HB.out.size
      by_cases hq : d.k = key
      · subst hq
        by_cases hm : (T.length : Int) < most
        · rw [if_pos (show d.k = d.k ∧ 0 < m from ⟨rfl, by omega⟩)] at hsn
          simp only [if_true] at hsn
          have HSN := Lib.hid hsn
          clear hsn hml hle
          go_wp2_with (at_builtin; refine wpList_append_row lay39 rfl _ _ rfl rfl (HTW.out.r1.alloc _) (flat_one' _) (by simp; omega) 1 rfl (rd_one wr d 39) rfl (flat_one' _) (by omega) ?_; intro v' w2 hr2 ht2 ho2; (have HR2 := Lib.hid hr2); (have HT2 := Lib.hid ht2); (have HO2 := Lib.hid ho2); (clear hr2 ht2 ho2))
          go_roundg (n - (k + 1))
          case measure => omega
          case rel =>
            exact ⟨k + 1, by omega, rfl, by go_num, HB.out.trans (((below1 wr _).mono hs).trans ((HTW.out.r1.alloc _).below_of HT2.out (by simp; omega))), by rw [← HY.out, HSN.out]; exact (HTW.out.alloc _).left HR2.out HT2.out HO2.out⟩
        · rw [if_neg (show ¬ (d.k = d.k ∧ 0 < m) from fun h => by omega)] at hsn
          simp only [Bool.false_eq_true, if_false] at hsn
          have HSN := Lib.hid hsn
          clear hsn hml hle
          go_wp2_with (at_builtin; refine wpList_append_row lay39 rfl _ _ rfl rfl (HTW.out.r2.alloc _) (flat_one' _) (by simp; omega) 1 rfl (rd_one wr d 39) rfl (flat_one' _) (by omega) ?_; intro v' w2 hr2 ht2 ho2; (have HR2 := Lib.hid hr2); (have HT2 := Lib.hid ht2); (have HO2 := Lib.hid ho2); (clear hr2 ht2 ho2))
          go_roundg (n - (k + 1))
          case measure => omega
          case rel =>
            exact ⟨k + 1, by omega, rfl, by go_num, HB.out.trans (((below1 wr _).mono hs).trans ((HTW.out.r2.alloc _).below_of HT2.out (by simp; omega))), by rw [← HY.out, HSN.out]; exact (HTW.out.alloc _).right HR2.out HT2.out HO2.out⟩
      · rw [if_neg (show ¬ (d.k = key ∧ 0 < m) from fun h => by omega)] at hsn
        simp only [Bool.false_eq_true, if_false] at hsn
        have HSN := Lib.hid hsn
        clear hsn hml hle
        go_wp2_with (at_builtin; refine wpList_append_row lay39 rfl _ _ rfl rfl (HTW.out.r2.alloc _) (flat_one' _) (by simp; omega) 1 rfl (rd_one wr d 39) rfl (flat_one' _) (by omega) ?_; intro v' w2 hr2 ht2 ho2; (have HR2 := Lib.hid hr2); (have HT2 := Lib.hid ht2); (have HO2 := Lib.hid ho2); (clear hr2 ht2 ho2))
        go_roundg (n - (k + 1))
        case measure => omega
        case rel =>
          exact ⟨k + 1, by omega, rfl, by go_num, HB.out.trans (((below1 wr _).mono hs).trans ((HTW.out.r2.alloc _).below_of HT2.out (by simp; omega))), by rw [← HY.out, HSN.out]; exact (HTW.out.alloc _).right HR2.out HT2.out HO2.out⟩
    · obtain rfl : k = n := by omega
      go_wp2_with fail
      go_ret2
      have := HTW.out
      rw [HN.out, List.take_length] at this
      exact ⟨_, _, rfl, this, HB.out⟩
end Go.Proofs.Ytemdaafnmjenmaa
