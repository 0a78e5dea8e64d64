/- Texts of this seat, one behind the other. -/
import Derived.Test.YtdodloannlfnlaaGreatE16
import Derived.Great.Walk
import Derived.Deep.MidRow
import Derived.Laws.CopyOwn
set_option linter.unusedVariables false
set_option linter.unusedSimpArgs false
namespace Go.Proofs.YtdodloannlfnlaaGreat.S11
open Go.Proofs.YtdodloannlfnlaaGreat
open Go.RowKit

theorem results_cell {P : Program} {fn : Func} {tmps : Array Value} {a : Tmp} {t : TypeId} {ad : Addr} {v : Value} {w w' : World} (hr : fn.results = #[ResultVar.cell a t]) (ha : tmps.getD a undef = .pointer (some ad)) (hl : (loadVar t ad).run P w = .ok v w') :
    (results fn tmps).run P w = .ok v w' := by
  unfold results
  rw [hr]
  have ha' : tmps[a]?.getD undef = .pointer (some ad) := by simpa using ha
  simp [ha', asAddr, hl]
end Go.Proofs.YtdodloannlfnlaaGreat.S11
namespace Go.Proofs.YtdodloannlfnlaaGreat.S11
open Go.Proofs.YtdodloannlfnlaaGreat
open Go.RowKit

abbrev Pt (B : Nat) : Value := .pointer (some ⟨B, 0, none⟩)
structure LAt (T : Nat) (K : IntKind) (w : World) (base p : Nat) (s : Value) (D : List Nt) : Prop where
  box : w.heap[p]? = some (.cells #[s] T (0, 0))
  own : Row w base 7 s D.length (flat K D)
  ne : s.ownBlock ≠ some p
  low : base ≤ p
section
variable {T : Nat} {K : IntKind} {w w' : World} {base p : Nat} {s : Value} {D : List Nt}
theorem LAt.lt (h : LAt T K w base p s D) : p < w.heap.size := (Array.getElem?_eq_some_iff.1 h.box).1
theorem LAt.kept {S : Nat → Prop} (h : LAt T K w base p s D) (t : Turns S w w') (hp : ¬ S p) (hs : ∀ g, s.ownBlock = some g → ¬ S g) : LAt T K w' base p s D :=
  ⟨(t.block p h.lt hp).trans h.box, h.own.keep t hs, h.ne, h.low⟩
theorem LAt.drew (h : LAt T K w base p s D) : LAt T K w.drew base p s D := ⟨h.box, h.own.drew, h.ne, h.low⟩
theorem LAt.cell (h : LAt T K w base p s D) : w.cell? ⟨p, 0, none⟩ = some s := cell_row h.box 0
theorem LAt.first (T : Nat) (K : IntKind) (w : World) : LAt T K (w.alloc (.cells #[.slice none 0 0] T)) w.heap.size w.heap.size (.slice none 0 0) [] :=
  ⟨heap_alloc_new _ _, row_nil _ _ _, by simp [Value.ownBlock], Nat.le_refl _⟩
end
theorem new_any (w : World) : Calls Tryz.prog 46 #[] w fun e w' => e = .returned (Pt w.heap.size) ∧ LAt 218 .u8 w' w.heap.size w.heap.size (.slice none 0 0) [] ∧ Below w.heap.size w w' := by
  go_enter Tryz.func46, Tryz.ntmps46
  go_wp2
  go_ret
  exact ⟨rfl, LAt.first _ _ _, (Below.refl _ _).alloc (Nat.le_refl _) _⟩
theorem count_any {w : World} {base p : Nat} {s : Value} {D : List Nt} (h : LAt 218 .u8 w base p s D) : Calls Tryz.prog 66 #[Pt p] w fun e w' => e = .returned (.int .i64 (D.length : Nat)) ∧ w = w' := by
  have c0 := h.cell
  obtain ⟨A, cap, rfl, _⟩ := h.own
  clear h
  go_enter Tryz.func66, Tryz.ntmps66
  go_wp2
  go_ret
  exact ⟨rfl, rfl⟩
end Go.Proofs.YtdodloannlfnlaaGreat.S11
namespace Go.Proofs.YtdodloannlfnlaaGreat.S11
open Go.Proofs.YtdodloannlfnlaaGreat
open Go.RowKit

section
variable {T : Nat} {K : IntKind} {w w' : World} {base p : Nat} {s : Value} {D : List Nt}
end
abbrev nb (K : IntKind) (n : Nt) : Array Value := #[.int .i64 n.s, .int .i64 n.t, .int K (n.k : Int), .int .u32 n.a, .int .i64 n.o, .int .u32 n.b, .int .u64 n.v]
theorem below1 (w : World) (o : Obj) : Below w.heap.size w (w.alloc o) := (Below.refl _ _).alloc (Nat.le_refl _) _
end Go.Proofs.YtdodloannlfnlaaGreat.S11
namespace Go.Proofs.YtdodloannlfnlaaGreat.S11
open Go.Proofs.YtdodloannlfnlaaGreat
open Go.RowKit

end Go.Proofs.YtdodloannlfnlaaGreat.S11
namespace Go.Proofs.YtdodloannlfnlaaGreat.S11
open Go.Proofs.YtdodloannlfnlaaGreat
open Go.RowKit

theorem clip_any (A : Option Addr) (n cap : Nat) (w : World) (h : n ≤ cap) (hc : cap ≤ 9223372036854775807) : Calls Tryz.prog 104 #[.slice A n cap] w fun e w' => e = .returned (.slice A n n) ∧ w = w' := by
  go_enter Tryz.func104, Tryz.ntmps104
  go_wp2
  go_ret
  exact ⟨by simp, rfl⟩
def fromN (D : List Nt) (x : Int) : Nat := min x.toNat D.length
def Told (w w' : World) (F : List Nt) (e : Ending) : Prop := ∃ A, e = .returned (.slice A F.length F.length) ∧ Row w' w.heap.size 7 (.slice A F.length F.length) F.length (flat .u8 F) ∧ Below w.heap.size w w'
theorem told_done {w : World} {D : List Nt} {k : Nat} (hl : (D.drop k).length = D.length - k) {w2 : World} {A2 : Option Addr} {c2 : Nat} (hr : Row w2 w.heap.size 7 (.slice A2 (D.length - k) c2) (0 + (D.length - k)) ([] ++ flat .u8 (D.drop k))) (ht : Turns (fun g => (Value.slice none 0 0).ownBlock = some g) w w2) :
    Told w w2 (D.drop k) (.returned (.slice A2 (D.length - k) (D.length - k))) := by
  rw [Nat.zero_add, List.nil_append] at hr
  refine ⟨A2, by rw [hl], by rw [hl]; exact hr.clip, ht.below (Nat.le_refl _) (fun g _ e => by simp [Value.ownBlock] at e)⟩
set_option maxHeartbeats 1000000 in
theorem since_any {w : World} {base p : Nat} {s : Value} {D : List Nt} (h : LAt 218 .u8 w base p s D) (hlen : D.length ≤ 2999999) (x : Int) :
    Calls Tryz.prog 71 #[Pt p, .int .i64 x] w fun e w' => Told w w' (D.drop (fromN D x)) e := by
  have c0 := h.cell
  obtain ⟨A, cap, hs, hcap, hc9⟩ := h.own.shape
  subst hs
  have hrow := h.own
  have hrd := hrow.rd
  have HRD := Lib.hid hrd; have HROW := Lib.hid hrow
  clear hrd hrow h
  obtain ⟨k, hk⟩ : ∃ k, k = fromN D x := ⟨_, rfl⟩
  rw [← hk]
  have hkn : k ≤ D.length := by rw [hk]; unfold fromN; omega
  have hxk : min (max x 0) (D.length : Int) = (k : Int) := by rw [hk]; unfold fromN; omega
  clear hk
  go_enter Tryz.func71, Tryz.ntmps71
  go_upto_region 4 with (fail)
  clear hxk
  have hki : (k : Int) ≤ (D.length : Int) := by omega
  have hlen2 : (D.drop k).length = D.length - k := List.length_drop
  have HEND := Lib.hid (fun (w2 : World) (A2 : Option Addr) (c2 : Nat) => told_done (w := w) (k := k) hlen2 (w2 := w2) (A2 := A2) (c2 := c2))
  by_cases hck : cap = k
  · subst hck
    have hn0 : D.length - cap = 0 := by omega
    have hR : Rd w 0 A (flat .u8 (D.drop cap)) := fun hp => by rw [flat_len, hlen2, hn0] at hp; simp at hp
    have HR := Lib.hid hR
    clear hR
    have hfl : (flat .u8 (D.drop cap)).length = 0 * 7 := by rw [flat_len, hlen2, hn0]
    have HFL := Lib.hid hfl
    clear hfl hlen2
    rw [hn0] at HEND
    go_wp2_with (first
      | (at_builtin; refine wpList_append_row layP rfl _ _ rfl rfl (row_nil w w.heap.size 7) (fun u hu => by cases hu) (Nat.le_refl _) 0 rfl HR.out HFL.out (flat_one' _ _) (by omega) ?_; intro v2 w2 hr2 ht2 ho2; (obtain ⟨A2, c2, hv2, hn2, hm2⟩ := hr2.shape); (rw [Nat.zero_add] at hv2 hn2); subst hv2; (have HR2 := Lib.hid hr2); (have HT2 := Lib.hid ht2); (clear hr2 ht2 ho2))
      | (go_at_call 104; refine (clip_any _ _ _ _ hn2 hm2).mono ?_; rintro e w' ⟨rfl, rfl⟩))
    go_ret
    exact HEND.out _ _ _ HR2.out HT2.out
  · cases A with
    | none =>
      exfalso
      obtain ⟨A', cap', e, h0, h1, h2, h3, h4⟩ := HROW.out
      cases e
      have := h3 rfl
      omega
    | some ad =>
      obtain ⟨A', cap', e, h0, h1, h2, h3, h4⟩ := HROW.out
      cases e
      obtain ⟨g, o, rfl, hb, hlt, hl, hc⟩ := h4 _ rfl
      have hR : Rd w w.heap.size (some ⟨g, o + k * 7, none⟩) (flat .u8 (D.drop k)) := fun _ => ⟨g, o + k * 7, rfl, hlt, hl.from k⟩
      have HR := Lib.hid hR
      obtain ⟨m, hm⟩ : ∃ m, D.length - k = m := ⟨_, rfl⟩
      obtain ⟨cc, hcc⟩ : ∃ cc, cap - k = cc := ⟨_, rfl⟩
      have hfl : (flat .u8 (D.drop k)).length = m * 7 := by rw [flat_len, hlen2, hm]
      have hml : 0 + m ≤ 3000000 := by omega
      have HFL := Lib.hid hfl; have HML := Lib.hid hml
      rw [hm] at HEND
      clear hR hfl hlen2 hb hlt hl hc h0 h1 h2 h3 h4 hml
      go_wp2_with (first
        | (at_builtin; refine wpList_append_row (es := flat .u8 (D.drop k)) (m := m) (b2 := w.heap.size) (A := some ⟨g, o + k * 7, none⟩) layP rfl _ _ rfl rfl (row_nil w w.heap.size 7) (fun u hu => by cases hu) (Nat.le_refl _) cc rfl HR.out HFL.out (flat_one' _ _) HML.out ?_; intro v2 w2 hr2 ht2 ho2; (obtain ⟨A2, c2, hv2, hn2, hm2⟩ := hr2.shape); (rw [Nat.zero_add] at hv2 hn2); subst hv2; (have HR2 := Lib.hid hr2); (have HT2 := Lib.hid ht2); (clear hr2 ht2 ho2))
        | (go_at_call 104; refine (clip_any _ _ _ _ hn2 hm2).mono ?_; rintro e w' ⟨rfl, rfl⟩))
      go_ret
      exact HEND.out _ _ _ HR2.out HT2.out
theorem all_any {w : World} {base p : Nat} {s : Value} {D : List Nt} (h : LAt 218 .u8 w base p s D) (hlen : D.length ≤ 2999999) : Calls Tryz.prog 26 #[Pt p] w fun e w' => Told w w' D e := by
  have hq := since_any h hlen 0
  have e : fromN D 0 = 0 := by simp [fromN]
  rw [e, List.drop_zero] at hq
  have HQ := Lib.hid hq
  clear hq h
  go_enter Tryz.func26, Tryz.ntmps26
  go_wp2_with (go_at_call 71; refine HQ.out.mono ?_; rintro e w' ⟨A, rfl, h1, h2⟩; (have H1 := Lib.hid (And.intro h1 h2)); (clear h1 h2))
  go_ret
  exact ⟨_, rfl, H1.out.1, H1.out.2⟩
theorem other_any (n : Nt) (hk : n.k < 256) (w : World) : Calls Tryz.prog 70 #[ag .u8 n] w fun e w' => e = .returned (ag .i64 n) ∧ Below w.heap.size w w' := by
  have hwr : IntKind.i64.wrap (n.k : Int) = n.k := by rw [IntKind.wrap_i64]; omega
  go_enter Tryz.func70, Tryz.ntmps70
  go_wp2
  exact bodyPost_ret (v := ag .i64 n) (results_cell Tryz.results70 rfl (run_loadVar_row (P := Tryz.prog) _ (w.heap.size + 1) 180 180 (nb .i64 n) (0, 0) _ (by rw [show w.heap.size + 1 = (w.alloc (.cells (nb .u8 n) 184)).heap.size by simp]; exact heap_alloc_new _ _) Tryz.underlying180 rfl (by kernel_rfl))) rfl ⟨rfl, ((Below.refl _ _).alloc (Nat.le_refl _) _).alloc (by simp) _⟩
end Go.Proofs.YtdodloannlfnlaaGreat.S11
