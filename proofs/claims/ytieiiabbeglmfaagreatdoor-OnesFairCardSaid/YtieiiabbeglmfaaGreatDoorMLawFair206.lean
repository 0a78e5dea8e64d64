/- Texts of this seat, one behind the other. -/
import Derived.Maps.Ext
set_option linter.unusedVariables false
set_option linter.unusedSimpArgs false
set_option linter.unusedVariables false
set_option linter.unusedSimpArgs false
namespace Go.Proofs.YtieiiabbeglmfaaGreatDoor.S2
open Go.Proofs.YtieiiabbeglmfaaGreatDoor
open Go.Maps
abbrev LL := List (Nat × Nat)
def Srt (L : LL) : Prop := L.Pairwise (fun p q => p.1 < q.1)
def Good (L : LL) : Prop := Srt L ∧ ∀ p ∈ L, p.1 < 4294967296 ∧ 0 < p.2 ∧ p.2 < 18446744073709551616
def look (L : LL) (a : Nat) : Nat := match L.find? (fun p => p.1 == a) with | some p => p.2 | none => 0
def strike (a : Nat) (L : LL) : LL := L.filter (fun p => p.1 != a)
def ins (a v : Nat) : LL → LL
  | [] => [(a, v)]
  | p :: r => if a < p.1 then (a, v) :: p :: r else p :: ins a v r
def putL (L : LL) (a v : Nat) : LL := if v = 0 then strike a L else ins a v (strike a L)
def ent (p : Nat × Nat) : Lit × DataW Unit := (.int .u32 p.1, .lit (.int .u64 p.2))
def DL (L : LL) : DataW Unit := .map (L.map ent)
theorem before_u32 (a b : Nat) : (Lit.int .u32 (a : Int)).before (.int .u32 (b : Int)) = decide (a < b) := by
  simp [Lit.before]
theorem wfA {a : Nat} (h : a < 4294967296) : (Lit.int .u32 (a : Int)).wf = true := by
  simp [Lit.wf, IntKind.min, IntKind.max, IntKind.bits, IntKind.signed]; omega
theorem wfV {v : Nat} (h : v < 18446744073709551616) : (Lit.int .u64 (v : Int)).wf = true := by
  simp [Lit.wf, IntKind.min, IntKind.max, IntKind.bits, IntKind.signed]; omega
theorem same_u32 (a b : Nat) : (Lit.int .u32 (a : Int)).sameKey (.int .u32 (b : Int)) = decide (a = b) := by
  simp [Lit.sameKey]
  omega
theorem good_nil : Good [] := ⟨List.Pairwise.nil, by simp⟩
theorem Good.strike {L : LL} (h : Good L) (a : Nat) : Good (strike a L) := ⟨h.1.filter _, fun p hp => h.2 p (List.mem_filter.1 hp).1⟩
theorem mem_ins {a v : Nat} {p : Nat × Nat} : ∀ {L : LL}, p ∈ ins a v L ↔ p = (a, v) ∨ p ∈ L
  | [] => by simp [ins]
  | q :: r => by
    unfold ins
    split
    · simp
    · simp [mem_ins (L := r)]
      constructor
      · rintro (h | h | h) <;> simp [h]
      · rintro (h | h | h) <;> simp [h]
theorem srt_ins {a v : Nat} : ∀ {L : LL}, Srt L → (∀ p ∈ L, p.1 ≠ a) → Srt (ins a v L)
  | [], _, _ => List.pairwise_singleton _ _
  | q :: r, h, hn => by
    obtain ⟨h1, h2⟩ := List.pairwise_cons.1 h
    unfold ins
    split
    · rename_i hlt
      refine List.pairwise_cons.2 ⟨fun p hp => ?_, h⟩
      rcases List.mem_cons.1 hp with rfl | hp
      · exact hlt
      · have := h1 p hp; show a < p.1; omega
    · rename_i hlt
      have hq := hn q (by simp)
      refine List.pairwise_cons.2 ⟨fun p hp => ?_, srt_ins h2 (fun p hp => hn p (by simp [hp]))⟩
      rcases mem_ins.1 hp with rfl | hp
      · show q.1 < a; omega
      · exact h1 p hp
theorem mem_strike {a : Nat} {L : LL} {p : Nat × Nat} : p ∈ strike a L ↔ p ∈ L ∧ p.1 ≠ a := by simp [strike]
theorem Good.put {L : LL} (h : Good L) {a v : Nat} (ha : a < 4294967296) (hv : v < 18446744073709551616) : Good (putL L a v) := by
  unfold putL
  split
  · exact h.strike a
  · rename_i h0
    refine ⟨srt_ins (h.strike a).1 (fun p hp => (mem_strike.1 hp).2), fun p hp => ?_⟩
    rcases mem_ins.1 hp with rfl | hp
    · exact ⟨ha, by simp; omega, hv⟩
    · exact (h.strike a).2 p hp
theorem map_ins (a v : Nat) : ∀ L : LL, (ins a v L).map ent = DataW.insert (ent (a, v)) (L.map ent)
  | [] => rfl
  | q :: r => by
    simp only [List.map_cons, DataW.insert, ins]
    rw [show (ent (a, v)).1.before (ent q).1 = decide (a < q.1) from before_u32 a q.1]
    by_cases h : a < q.1
    · simp [h]
    · simp [h, map_ins a v r]
theorem map_strike (a : Nat) (L : LL) : (strike a L).map ent = (L.map ent).filter (fun p => !p.1.sameKey (.int .u32 (a : Int))) := by
  unfold strike
  rw [List.filter_map]
  congr 1
  apply List.filter_congr
  intro p _
  show (p.1 != a) = !(Lit.int .u32 (p.1 : Int)).sameKey (.int .u32 (a : Int))
  rw [same_u32]
  by_cases h : p.1 = a <;> simp [h]
theorem DL_del (a : Nat) (L : LL) : (DL L).del (.int .u32 (a : Int)) = DL (strike a L) := by
  show DataW.map _ = DataW.map _
  rw [map_strike]
theorem DL_put (a v : Nat) (L : LL) : (DL L).put (.int .u32 (a : Int)) (.lit (.int .u64 (v : Int))) = DL (ins a v (strike a L)) := by
  show DataW.map _ = DataW.map _
  rw [map_ins, map_strike]
  rfl
theorem DL_size (L : LL) : Maps.size (DL L) = L.length := by simp [DL, Maps.size]
theorem DL_at (a : Nat) : ∀ L : LL, (DL L).atKey (.int .u32 (a : Int)) (.lit (.int .u64 0)) = .lit (.int .u64 (look L a : Nat))
  | [] => rfl
  | q :: r => by
    have ih := DL_at a r
    unfold DL DataW.atKey at *
    unfold look at *
    simp only [List.map_cons, List.find?_cons]
    rw [show (ent q).1.sameKey (.int .u32 (a : Int)) = decide (q.1 = a) from same_u32 q.1 a]
    by_cases h : q.1 = a
    · simp [h, ent]
    · simp only [h, decide_false, show (q.1 == a) = false by simp [h]]
      exact ih
theorem look_strike_same (a : Nat) (L : LL) : look (strike a L) a = 0 := by
  unfold look strike
  rw [List.find?_eq_none.2 (fun p hp => by simpa using (List.mem_filter.1 hp).2)]
theorem look_strike_other {a b : Nat} (h : b ≠ a) (L : LL) : look (strike a L) b = look L b := by
  unfold look strike
  rw [find_filter_keep (f := fun p : Nat × Nat => p.1 == b) (g := fun p : Nat × Nat => p.1 != a)]
  intro p hp
  simp at *
  omega
theorem look_ins_same (a v : Nat) : ∀ L : LL, (∀ p ∈ L, p.1 ≠ a) → look (ins a v L) a = v
  | [], _ => by simp [look, ins]
  | q :: r, h => by
    unfold ins
    split
    · simp [look]
    · have := h q (by simp)
      have ih := look_ins_same a v r (fun p hp => h p (by simp [hp]))
      unfold look at *
      rw [List.find?_cons, show (q.1 == a) = false by simp [this]]
      exact ih
theorem look_ins_other {a b : Nat} (v : Nat) (h : b ≠ a) : ∀ L : LL, look (ins a v L) b = look L b
  | [] => by simp [look, ins, Ne.symm h]
  | q :: r => by
    unfold ins
    split
    · simp [look, Ne.symm h]
    · have ih := look_ins_other v h r
      unfold look at *
      rw [List.find?_cons, List.find?_cons]
      cases q.1 == b
      · exact ih
      · rfl
theorem look_put_same (a v : Nat) (L : LL) : look (putL L a v) a = v := by
  unfold putL
  split
  · rename_i h; rw [look_strike_same, h]
  · exact look_ins_same a v _ (fun p hp => (mem_strike.1 hp).2)
theorem look_put_other {a b : Nat} (v : Nat) (h : b ≠ a) (L : LL) : look (putL L a v) b = look L b := by
  unfold putL
  split
  · exact look_strike_other h L
  · rw [look_ins_other v h, look_strike_other h]
theorem look_lt {L : LL} (h : Good L) (a : Nat) : look L a < 18446744073709551616 := by
  unfold look
  split
  · rename_i p hp; exact (h.2 p (List.mem_of_find?_eq_some hp)).2.2
  · omega
theorem length_le_of_srt : ∀ {L : LL} {lo hi : Nat}, Srt L → (∀ p ∈ L, lo ≤ p.1 ∧ p.1 < hi) → lo ≤ hi → L.length ≤ hi - lo
  | [], _, _, _, _, _ => by simp
  | q :: r, lo, hi, h, hb, _ => by
    obtain ⟨h1, h2⟩ := List.pairwise_cons.1 h
    have hq := hb q (by simp)
    have := length_le_of_srt (L := r) (lo := q.1 + 1) (hi := hi) h2 (fun p hp => ⟨h1 p hp, (hb p (by simp [hp])).2⟩) (by omega)
    simp; omega
theorem Good.length {L : LL} (h : Good L) : L.length ≤ 4294967296 := by
  have := length_le_of_srt h.1 (lo := 0) (hi := 4294967296) (fun p hp => ⟨Nat.zero_le _, (h.2 p hp).1⟩) (by omega)
  omega
/-! Which addresses have bytes. -/
def oneB (f a : Nat) : Bool := decide (f ≤ a) && decide (a < f + 32) && decide ((a - f) % 4 = 0)
def byteB (a : Nat) : Bool := oneB 1024 a || oneB 1120 a
def bring (a v : Nat) : Nat := if byteB a then v % 256 else v
theorem bring_lt {a v : Nat} (h : v < 18446744073709551616) : bring a v < 18446744073709551616 := by unfold bring; split <;> omega
end Go.Proofs.YtieiiabbeglmfaaGreatDoor.S2
