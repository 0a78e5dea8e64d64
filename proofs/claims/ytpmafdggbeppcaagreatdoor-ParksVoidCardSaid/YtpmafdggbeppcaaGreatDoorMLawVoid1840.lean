/- Texts of this seat, one behind the other. -/
import Derived.Test.YtpmafdggbeppcaaGreatDoorMLawVoid1815
import Derived.Test.YtpmafdggbeppcaaGreatDoorMLawVoid1830
import Derived.Test.YtpmafdggbeppcaaGreatDoorMLawVoid1837
import Derived.Test.YtpmafdggbeppcaaGreatDoorMLawVoid1839
set_option linter.unusedVariables false
set_option linter.unusedSimpArgs false
namespace Go.Proofs.YtpmafdggbeppcaaGreatDoor.S12
open Go.Proofs.YtpmafdggbeppcaaGreatDoor Go.Proofs.YtpmafdggbeppcaaGreatDoor.S11
open Go.RowKit
def rcellsP (base R : Nat) (s : Value) (L : S2.LL) (n k a was is : Nat) : Part where
  ok w := S2.RefAt w base R s L n k a was is
  fp k := k = R ∨ s.ownBlock = some k
  lt w h k e := by
    rcases e with rfl | e
    · exact h.lt
    · exact (h.own.lt k e).2
  kept S w w' h t hs := h.kept (S := S) ⟨t.os, t.tape, t.output, t.size, t.block⟩ (hs R (.inl rfl)) (fun g e => hs g (.inr e))
def rclockP (base B T most : Nat) (s : Value) (D : List Nat) : Part where
  ok w := S3.RefAt w base B T most s D
  fp k := k = B ∨ s.ownBlock = some k
  lt w h k e := by
    rcases e with rfl | e
    · exact h.lt
    · exact (h.own.lt k e).2
  kept S w w' h t hs := h.kept (S := S) ⟨t.os, t.tape, t.output, t.size, t.block⟩ (hs B (.inl rfl)) (fun g e => hs g (.inr e))
def rtablesP (base : Nat) (own : Nat → Option S10.Role) (s : Value) (M : Int → List S10.Bk) : Part where
  ok w := S10.Rt w base own s M
  fp k := S10.Mine own k
  lt w h k e := (h.fp e).2
  kept S w w' h t hs := h.keep (S := S) ⟨t.os, t.tape, t.output, t.size, t.block⟩ hs
section
variable {w w' : World} {base b0 i : Nat} {l : List Part}
theorem t_rcells {R : Nat} {s s' : Value} {L L' : S2.LL} {n k a was is n' k' a' was' is' : Nat} (h : Parts w base l) (hi : l[i]? = some (rcellsP b0 R s L n k a was is)) (c : S2.RefAt w' b0 R s' L' n' k' a' was' is') (ho : ∀ g, s'.ownBlock = some g → s.ownBlock = some g ∨ w.heap.size ≤ g) (t : S2.Turns (fun k => k = R ∨ s.ownBlock = some k) w w') :
    Parts w' base (l.set i (rcellsP b0 R s' L' n' k' a' was' is')) ∧ Below base w w' := by
  refine h.turn hi (rcellsP b0 R s' L' n' k' a' was' is') c ⟨t.os, t.tape, t.output, t.size, t.block⟩ (fun k e => ?_)
  rcases e with e | e
  · exact .inl (.inl e)
  · rcases ho k e with e | e
    · exact .inl (.inr e)
    · exact .inr e
theorem t_rclock {B T most T' most' : Nat} {s s' : Value} {D D' : List Nat} (h : Parts w base l) (hi : l[i]? = some (rclockP b0 B T most s D)) (c : S3.RefAt w' b0 B T' most' s' D') (ho : ∀ g, s'.ownBlock = some g → s.ownBlock = some g ∨ w.heap.size ≤ g) (t : S3.Turns (fun k => k = B ∨ s.ownBlock = some k) w w') :
    Parts w' base (l.set i (rclockP b0 B T' most' s' D')) ∧ Below base w w' := by
  refine h.turn hi (rclockP b0 B T' most' s' D') c ⟨t.os, t.tape, t.output, t.size, t.block⟩ (fun k e => ?_)
  rcases e with e | e
  · exact .inl (.inl e)
  · rcases ho k e with e | e
    · exact .inl (.inr e)
    · exact .inr e
theorem t_rtables {own own' : Nat → Option S10.Role} {s : Value} {M M' : Int → List S10.Bk} (h : Parts w base l) (hi : l[i]? = some (rtablesP b0 own s M)) (c : S10.Rt w' b0 own' s M') (t : S10.Turns (S10.Mine own) w w') (f : S10.Fresh own own' w) :
    Parts w' base (l.set i (rtablesP b0 own' s M')) ∧ Below base w w' :=
  h.turn hi (rtablesP b0 own' s M') c ⟨t.os, t.tape, t.output, t.size, t.block⟩ (fun k ⟨r, e⟩ => f k r e)
end
end Go.Proofs.YtpmafdggbeppcaaGreatDoor.S12
namespace Go.Proofs.YtpmafdggbeppcaaGreatDoor.S12
open Go.Proofs.YtpmafdggbeppcaaGreatDoor
section
variable {P : Program} {ops : Array Oper} {Q : Exit → Act → World → Prop} {md : Region.Mode} {S : World → Prop}
def openN (L : Array Bool) : Nat := L.toList.count false
theorem openN_set {L : Array Bool} {i : Nat} (h : L[i]? = some false) : openN (L.setIfInBounds i true) + 1 = openN L := by
  obtain ⟨l⟩ := L
  simp only [openN, List.setIfInBounds_toArray] at *
  simp only [List.getElem?_toArray] at h
  induction l generalizing i with
  | nil => simp at h
  | cons x r ih =>
    cases i with
    | zero => simp at h; subst h; simp
    | succ i =>
      simp at h
      have := ih (i := i) h
      cases x <;> simp <;> omega
theorem ready_open {L : Array Bool} {i : Nat} (h : i ∈ Region.ready md ops L) : L[i]? = some false := by
  have h0 := (mem_ready.1 h).1
  rw [Array.getD_eq_getD_getElem?] at h0
  cases e : L[i]? with
  | none => rw [e] at h0; cases h0
  | some x => rw [e] at h0; simp at h0; rw [h0]
theorem ready_full {L : Array Bool} (h : openN L = 0) : Region.ready md ops L = [] := by
  cases e : Region.ready md ops L with
  | nil => rfl
  | cons i r =>
    have hi : i ∈ Region.ready md ops L := by rw [e]; simp
    have := openN_set (ready_open hi)
    omega
theorem wpAnyH_inv (I : Array Bool → Act → World → Prop)
    (step : ∀ L a w, I L a w → ∀ i ∈ Region.ready md ops L, wpOp P ops Q i (fun a' w' => S w' ∧ I (L.setIfInBounds i true) a' w') a w)
    (done : ∀ L a w, I L a w → Region.ready md ops L = [] → Q .normal a w) :
    ∀ (fuel : Nat) (L : Array Bool) (a : Act) (w : World), openN L ≤ fuel → I L a w → wpAnyH P md ops Q S fuel L a w
  | 0, L, a, w, hf, h => ⟨ready_full (by omega), done L a w h (ready_full (by omega))⟩
  | fuel + 1, L, a, w, hf, h => ⟨fun h0 => done L a w h h0, fun i hi => wpOp_mono (fun a' w' h' => ⟨h'.1, wpAnyH_inv I step done fuel _ a' w' (by have := openN_set (ready_open hi); omega) h'.2⟩) (step L a w h i hi)⟩
theorem wpAnyH_inv2 (I : Array Bool → Act → World → Prop)
    (step : ∀ fuel L a w, I L a w → openN L ≤ fuel → wpAnyH P md ops Q S fuel L a w ∨ (Region.ready md ops L ≠ [] ∧ ∀ i ∈ Region.ready md ops L, wpOp P ops Q i (fun a' w' => S w' ∧ I (L.setIfInBounds i true) a' w') a w)) :
    ∀ (fuel : Nat) (L : Array Bool) (a : Act) (w : World), openN L ≤ fuel → I L a w → wpAnyH P md ops Q S fuel L a w
  | 0, L, a, w, hf, h => by
    rcases step 0 L a w h hf with hs | ⟨hne, _⟩
    · exact hs
    · exact absurd (ready_full (by omega)) hne
  | fuel + 1, L, a, w, hf, h => by
    rcases step (fuel + 1) L a w h hf with hs | ⟨hne, hs⟩
    · exact hs
    · exact ⟨fun h0 => absurd h0 hne, fun i hi => wpOp_mono (fun a' w' h' => ⟨h'.1, wpAnyH_inv2 I step fuel _ a' w' (by have := openN_set (ready_open hi); omega) h'.2⟩) (hs i hi)⟩
end
end Go.Proofs.YtpmafdggbeppcaaGreatDoor.S12
namespace Go.Proofs.YtpmafdggbeppcaaGreatDoor.S2
open Go.Proofs.YtpmafdggbeppcaaGreatDoor
open Go.RowKit Go.Maps
theorem turns_drew (S : Nat → Prop) (w : World) : Turns S w w.drew := Turns.of_below ((Below.refl _ _).drew)
end Go.Proofs.YtpmafdggbeppcaaGreatDoor.S2
namespace Go.Proofs.YtpmafdggbeppcaaGreatDoor.S2
set_option maxRecDepth 100000
set_option maxHeartbeats 16000000
open Go.Proofs.YtpmafdggbeppcaaGreatDoor
open Go.RowKit Go.Maps
theorem neq50 (k a x y : Int) (w : World) : (binOp .neq 198 (.agg #[.int .u8 k, .int .u32 a, .int .u64 x, .int .u64 y]) (.agg #[.int .u8 k, .int .u32 a, .int .u64 x, .int .u64 y])).run Tryz.prog w = .ok (.bool false) w := by
  simp [go_sem, Tryz.underlying198]
theorem Both.new {w w' : World} {base B R : Nat} {L : LL} {n k a was is : Nat} (h : Both w base B R L n k a was is) (b : Below w.heap.size w w') : Both w' base B R L n k a was is := by
  obtain ⟨h1, h2, h3, h4, h5, M, s, c, r, hm, hs⟩ := h
  exact ⟨Nat.le_trans h1 b.size, h2, h3, h4, h5, M, s, c.kept (Turns.of_below (S := fun _ => False) b) (fun _ _ e => e), r.kept (Turns.of_below (S := fun _ => False) b) (fun e => e) (fun _ _ e => e), hm, hs⟩
def Told2 (w : World) (L : LL) (e : Ending) (w' : World) : Prop := ∃ p, e = .returned (.slice p L.length L.length) ∧ (0 < L.length → ∃ g, p = some ⟨g, 0, none⟩ ∧ w.heap.size ≤ g ∧ g < w'.heap.size ∧ Go.Sort.HoldsK encW 2 w' g 0 L.toArray) ∧ Below w.heap.size w w'
theorem tells_2 {w w' : World} {L : LL} {e : Ending} (h : Tells w L e w') : Told2 w L e w' := by
  rcases h with ⟨rfl, rfl, rfl⟩ | ⟨hp, g, rfl, h1, h2, h3, h4⟩
  · exact ⟨none, rfl, fun h => by simp at h, Below.refl _ _⟩
  · exact ⟨_, rfl, fun _ => ⟨g, rfl, h1, h2, h3⟩, h4⟩
theorem holds_pair {w : World} {g : Nat} {L : LL} (h : Go.Sort.HoldsK encW 2 w g 0 L.toArray) (i : Nat) (hi : i < L.length) : w.cell? ⟨g, i * 2, none⟩ = some (.int .u32 (L[i]!).1) ∧ w.cell? ⟨g, i * 2 + 1, none⟩ = some (.int .u64 (L[i]!).2) := by
  have h0 := (h.cell (i := i) (c := 0) (by simpa using hi) (by omega)).1
  have h1 := (h.cell (i := i) (c := 1) (by simpa using hi) (by omega)).1
  simp only [Nat.zero_add, Nat.add_zero] at h0 h1
  have e : L.toArray[i]! = L[i]! := by simp
  rw [e] at h0 h1
  exact ⟨h0, h1⟩
theorem keepR {w1 w w' : World} {R n k a was is len cap : Nat} {p0 : Option Addr} (hb : Below w.heap.size w w') (hR : R < w1.heap.size)
    (h : w.cell? ⟨R, 0, none⟩ = some (.slice p0 len cap) ∧ w.cell? ⟨R, 1, none⟩ = some (.int .i64 n) ∧ w.cell? ⟨R, 2, none⟩ = some (.int .u8 k) ∧ w.cell? ⟨R, 3, none⟩ = some (.int .u32 a) ∧ w.cell? ⟨R, 4, none⟩ = some (.int .u64 was) ∧ w.cell? ⟨R, 5, none⟩ = some (.int .u64 is) ∧ Below w1.heap.size w1 w) :
    w'.cell? ⟨R, 0, none⟩ = some (.slice p0 len cap) ∧ w'.cell? ⟨R, 1, none⟩ = some (.int .i64 n) ∧ w'.cell? ⟨R, 2, none⟩ = some (.int .u8 k) ∧ w'.cell? ⟨R, 3, none⟩ = some (.int .u32 a) ∧ w'.cell? ⟨R, 4, none⟩ = some (.int .u64 was) ∧ w'.cell? ⟨R, 5, none⟩ = some (.int .u64 is) ∧ Below w1.heap.size w1 w' := by
  obtain ⟨c0, c1, c2, c3, c4, c5, hl⟩ := h
  have hr : R < w.heap.size := Nat.lt_of_lt_of_le hR hl.size
  exact ⟨(hb.cell (by exact hr)).trans c0, (hb.cell (by exact hr)).trans c1, (hb.cell (by exact hr)).trans c2, (hb.cell (by exact hr)).trans c3, (hb.cell (by exact hr)).trans c4, (hb.cell (by exact hr)).trans c5, hl.trans (hb.mono hl.size)⟩
theorem same_any (w : World) (base B R : Nat) (L : LL) (n k a was is : Nat) (hb : Both w base B R L n k a was is) : Calls Tryz.prog 58 #[Pt B, Pt R] w fun e w' => e = .returned (.bool true) ∧ Below w.heap.size w w' := by
  obtain ⟨hbase, fb, fr, hne, byt, M, s, c0, r0, hm, hs⟩ := hb
  have hwd := (words_any w B M L n k a was is c0).mono fun _ _ h => tells_2 h
  have hlen := c0.good.length
  have HWD := Lib.hid hwd; have C0 := Lib.hid c0; have R0 := Lib.hid r0
  clear hm hs c0 r0 byt hne fb fr hwd
  go_enter Tryz.func58, Tryz.ntmps58
  go_wp2_with fail
  refine HWD.out.mono ?_
  rintro e w1 ⟨p, rfl, hp, hb1⟩
  have cW := C0.out.kept (Turns.of_below (S := fun _ => False) hb1) (fun _ _ e => e)
  have rW := R0.out.kept (Turns.of_below (S := fun _ => False) hb1) (fun e => e) (fun _ _ e => e)
  have hR := rW.lt
  obtain ⟨p0, cap, rfl, hp0⟩ := row_slice rW.own
  have e0 : w1.cell? ⟨R, 0, none⟩ = some (.slice p0 L.length cap) := cell_row rW.row 0
  have e1 : w1.cell? ⟨R, 1, none⟩ = some (.int .i64 n) := cell_row rW.row 1
  have e2 : w1.cell? ⟨R, 2, none⟩ = some (.int .u8 k) := cell_row rW.row 2
  have e3 : w1.cell? ⟨R, 3, none⟩ = some (.int .u32 a) := cell_row rW.row 3
  have e4 : w1.cell? ⟨R, 4, none⟩ = some (.int .u64 was) := cell_row rW.row 4
  have e5 : w1.cell? ⟨R, 5, none⟩ = some (.int .u64 is) := cell_row rW.row 5
  have HB1 := Lib.hid hb1; have HPP := Lib.hid hp; have HP0 := Lib.hid hp0; have CW := Lib.hid cW; have RW := Lib.hid rW; have E0 := Lib.hid e0
  have hn50 := neq50 k a was is
  clear hb1 hp hp0 cW rW
  go_upto_region 2 with (fail)
  refine wp_region_held_drew (S := fun w' => w'.cell? ⟨R, 0, none⟩ = some (.slice p0 L.length cap) ∧ w'.cell? ⟨R, 1, none⟩ = some (.int .i64 n) ∧ w'.cell? ⟨R, 2, none⟩ = some (.int .u8 k) ∧ w'.cell? ⟨R, 3, none⟩ = some (.int .u32 a) ∧ w'.cell? ⟨R, 4, none⟩ = some (.int .u64 was) ∧ w'.cell? ⟨R, 5, none⟩ = some (.int .u64 is) ∧ Below w1.heap.size w1 w') (by kernel_rfl) ?_ (fun hHeld => ?_)
  · exact ⟨e0, e1, e2, e3, e4, e5, (Below.refl _ _).drew⟩
  refine tA 0 ⟨some 9, .move (.tmp 0), 66, "law.go:93", #[], none⟩ ?vs0 ?rs0
  (try simp only [Act.put, tC, tD, tE])
  refine tA 2 ⟨some 11, .move (.tmp 1), 75, "law.go:93", #[], none⟩ ?vs2 ?rs2
  (try simp only [Act.put, tC, tD, tE])
  refine tA 3 ⟨some 12, .nilCheck (.tmp 11), 0, "law.go:93", #[⟨2, .data⟩], none⟩ ?vs3 ?rs3
  (try simp only [Act.put, tC, tD, tE])
  refine tA 4 ⟨some 13, .fieldAddr 242 (.tmp 12) 1, 0, "law.go:93", #[⟨3, .data⟩], none⟩ ?vs4 ?rs4
  (try simp only [Act.put, tC, tD, tE])
  refine tA 5 ⟨some 14, .load 3 (.tmp 13), 3, "law.go:93", #[⟨4, .data⟩], none⟩ ?vs5 ?rs5
  (try simp only [Act.put, tC, tD, tE])
  refine wpAnyH_ready (rs := [1]) (by kernel_rfl) (by simp) ?_
  refine AllReadyH.cons (o := ⟨some 10, .call ⟨.value (.func 106), #[.tmp 9], #[66]⟩, 3, "law.go:93", #[⟨0, .data⟩], none⟩) rfl (fun K hK => ?_) AllReadyH.nil
  go_simp
  (refine (count_any _ B M L n k a was is (CW.out.kept (Turns.of_below (S := fun _ => False) hHeld.2.2.2.2.2.2) (fun _ _ e => e))).mono ?_; rintro e w2 ⟨rfl, rfl⟩)
  refine hK.out _ _ ?_ (fun hHeld => ?_)
  · exact hHeld
  clear hK K
  (try simp only [Act.put, tC, tD, tE])
  refine tA 6 ⟨some 15, .binOp .neq 3 (.tmp 10) (.tmp 14) 3, 4, "law.go:93", #[⟨1, .data⟩, ⟨5, .data⟩], none⟩ ?vs6 ?rs6
  (try simp only [Act.put, tC, tD, tE])
  refine tA 7 ⟨some 16, .move (.tmp 15), 4, "law.go:93", #[⟨6, .data⟩, ⟨1, .chain⟩], none⟩ ?vs7 ?rs7
  (try simp only [Act.put, tC, tD, tE])
  refine tA 8 ⟨some 17, .move (.tmp 0), 66, "law.go:93", #[⟨7, .guard⟩], some (7, false)⟩ ?vs8 ?rs8
  (try simp only [Act.put, tC, tD, tE])
  refine tA 10 ⟨some 19, .move (.tmp 1), 75, "law.go:93", #[⟨7, .guard⟩], some (7, false)⟩ ?vs10 ?rs10
  (try simp only [Act.put, tC, tD, tE])
  refine tA 11 ⟨some 20, .nilCheck (.tmp 19), 0, "law.go:93", #[⟨10, .data⟩, ⟨7, .guard⟩], some (7, false)⟩ ?vs11 ?rs11
  (try simp only [Act.put, tC, tD, tE])
  refine tA 12 ⟨some 21, .fieldAddr 242 (.tmp 20) 2, 0, "law.go:93", #[⟨11, .data⟩, ⟨7, .guard⟩], some (7, false)⟩ ?vs12 ?rs12
  (try simp only [Act.put, tC, tD, tE])
  refine tA 13 ⟨some 22, .load 198 (.tmp 21), 198, "law.go:93", #[⟨12, .data⟩, ⟨7, .guard⟩], some (7, false)⟩ ?vs13 ?rs13
  (try simp only [Act.put, tC, tD, tE])
  refine wpAnyH_ready (rs := [9]) (by kernel_rfl) (by simp) ?_
  refine AllReadyH.cons (o := ⟨some 18, .call ⟨.value (.func 102), #[.tmp 17], #[66]⟩, 198, "law.go:93", #[⟨8, .data⟩, ⟨7, .chain⟩, ⟨7, .guard⟩], some (7, false)⟩) rfl (fun K hK => ?_) AllReadyH.nil
  go_simp
  (refine (last_any _ B M L n k a was is (CW.out.kept (Turns.of_below (S := fun _ => False) hHeld.2.2.2.2.2.2) (fun _ _ e => e))).mono ?_; rintro e w2 ⟨rfl, hb2⟩)
  refine hK.out _ _ ?_ (fun hHeld => ?_)
  · exact keepR hb2 hR hHeld
  clear hK K
  (try simp only [Act.put, tC, tD, tE])
  refine tA 14 ⟨some 23, .binOp .neq 198 (.tmp 18) (.tmp 22) 198, 4, "law.go:93", #[⟨9, .data⟩, ⟨13, .data⟩, ⟨7, .guard⟩], some (7, false)⟩ ?vs14 ?rs14
  (try simp only [Act.put, tC, tD, tE])
  refine tA 15 ⟨some 24, .pick (.tmp 16) (.const (.bool true)) (.tmp 23), 4, "law.go:93", #[⟨7, .data⟩, ⟨14, .data⟩], none⟩ ?vs15 ?rs15
  (try simp only [Act.put, tC, tD, tE])
  refine tA 16 ⟨some 25, .move (.tmp 24), 4, "law.go:93", #[⟨15, .data⟩, ⟨9, .chain⟩], none⟩ ?vs16 ?rs16
  (try simp only [Act.put, tC, tD, tE])
  refine tA 17 ⟨some 26, .move (.tmp 5), 243, "law.go:93", #[⟨16, .guard⟩], some (16, false)⟩ ?vs17 ?rs17
  (try simp only [Act.put, tC, tD, tE])
  refine tA 18 ⟨some 27, .call ⟨.builtin .len, #[.tmp 26], #[243]⟩, 3, "law.go:93", #[⟨17, .data⟩, ⟨16, .guard⟩], some (16, false)⟩ ?vs18 ?rs18
  (try simp only [Act.put, tC, tD, tE])
  refine tA 19 ⟨some 28, .move (.tmp 1), 75, "law.go:93", #[⟨16, .guard⟩], some (16, false)⟩ ?vs19 ?rs19
  (try simp only [Act.put, tC, tD, tE])
  refine tA 20 ⟨some 29, .nilCheck (.tmp 28), 0, "law.go:93", #[⟨19, .data⟩, ⟨16, .guard⟩], some (16, false)⟩ ?vs20 ?rs20
  (try simp only [Act.put, tC, tD, tE])
  refine tA 21 ⟨some 30, .fieldAddr 242 (.tmp 29) 0, 0, "law.go:93", #[⟨20, .data⟩, ⟨16, .guard⟩], some (16, false)⟩ ?vs21 ?rs21
  (try simp only [Act.put, tC, tD, tE])
  refine tA 22 ⟨some 31, .load 203 (.tmp 30), 203, "law.go:93", #[⟨21, .data⟩, ⟨16, .guard⟩], some (16, false)⟩ ?vs22 ?rs22
  (try simp only [Act.put, tC, tD, tE])
  refine tA 23 ⟨some 32, .call ⟨.builtin .len, #[.tmp 31], #[203]⟩, 3, "law.go:93", #[⟨22, .data⟩, ⟨16, .guard⟩], some (16, false)⟩ ?vs23 ?rs23
  (try simp only [Act.put, tC, tD, tE])
  refine tA 24 ⟨some 33, .binOp .neq 3 (.tmp 27) (.tmp 32) 3, 4, "law.go:93", #[⟨18, .data⟩, ⟨23, .data⟩, ⟨16, .guard⟩], some (16, false)⟩ ?vs24 ?rs24
  (try simp only [Act.put, tC, tD, tE])
  refine tA 25 ⟨some 34, .pick (.tmp 25) (.const (.bool true)) (.tmp 33), 4, "law.go:93", #[⟨16, .data⟩, ⟨24, .data⟩], none⟩ ?vs25 ?rs25
  (try simp only [Act.put, tC, tD, tE])
  refine wpAnyH_done (by kernel_rfl) ?_ _
  have hb2 := hHeld.2.2.2.2.2.2
  have HB2 := Lib.hid hb2
  clear e0 e1 e2 e3 e4 e5 hn50 hb2
  go_wp2_with fail
  go_loopg [6] L.length (fun q s6 wx => ∃ t : Nat, t ≤ L.length ∧ q = L.length - t ∧ s6 = .int .i64 t ∧ Below w1.heap.size w1 wx)
  case atStart => exact ⟨0, by omega, rfl, rfl, HB2.out⟩
  case round =>
    obtain ⟨t, ht, rfl, rfl, hbx⟩ := hrel
    have HBX := Lib.hid hbx
    clear hbx
    by_cases htl : t < L.length
    · obtain ⟨g, rfl, hg1, hg2, hH⟩ := HPP.out (by omega)
      obtain ⟨g', rfl⟩ := HP0.out (by omega)
      have hg'l : g' < w1.heap.size := (RW.out.own.lt g' rfl).2
      obtain ⟨l1, l2⟩ := holds_pair hH t htl
      obtain ⟨m1, m2⟩ := row_pair RW.out.own t htl
      have x0 := (HBX.out.cell (p := ⟨R, 0, none⟩) (by exact hR)).trans E0.out
      have x1 := (HBX.out.cell (p := ⟨g, t * 2, none⟩) (by exact hg2)).trans l1
      have x2 := (HBX.out.cell (p := ⟨g, t * 2 + 1, none⟩) (by exact hg2)).trans l2
      have x3 := (HBX.out.cell (p := ⟨g', t * 2, none⟩) (by exact hg'l)).trans m1
      have x4 := (HBX.out.cell (p := ⟨g', t * 2 + 1, none⟩) (by exact hg'l)).trans m2
      generalize (L[t]!).1 = y1 at *
      generalize (L[t]!).2 = y2 at *
      have z1 : ((y1 : Int) != (y1 : Int)) = false := by simp
      clear l1 l2 m1 m2 hH
      go_upto_region 7 with (fail)
      go_quiet (fail)
      go_wp2_with fail
      go_roundg (L.length - (t + 1))
      case measure => omega
      case rel => exact ⟨t + 1, by omega, rfl, by go_num, HBX.out.trans ⟨rfl, rfl, rfl, Nat.le_refl _, fun _ _ => rfl⟩⟩
    · go_wp2_with fail
      go_ret
      exact ⟨rfl, HB1.out.trans (HBX.out.mono HB1.out.size)⟩
end Go.Proofs.YtpmafdggbeppcaaGreatDoor.S2
namespace Go.Proofs.YtpmafdggbeppcaaGreatDoor.S2
set_option maxRecDepth 100000
set_option maxHeartbeats 16000000
open Go.Proofs.YtpmafdggbeppcaaGreatDoor
open Go.RowKit Go.Maps
def RNew (w : World) (L : LL) (e : Ending) (w' : World) : Prop := ∃ R s, e = .returned (Pt R) ∧ w.heap.size ≤ R ∧ RefAt w' w.heap.size R s L 0 0 0 0 0 ∧ Below w.heap.size w w'
theorem rnew_any (p : Option Addr) (n c : Nat) (A V : Nat → Nat) (hn : n ≤ 100) (hok : WOk n A V) (w : World) (hin : WIn w w.heap.size p n A V) :
    Calls Tryz.prog 73 #[.slice p n c] w (RNew w (newL A V n)) := by
  have s0 : RefAt (w.alloc (.cells #[.slice none 0 0, .int .i64 0, .int .u8 0, .int .u32 0, .int .u64 0, .int .u64 0] 242)) w.heap.size w.heap.size (.slice none 0 0) [] 0 0 0 0 0 := ⟨good_nil, heap_alloc_new w _, World.ownsRow_nil _ _ _ _, by simp [Value.ownBlock]⟩
  have hb0 : Below w.heap.size w (w.alloc (.cells #[.slice none 0 0, .int .i64 0, .int .u8 0, .int .u32 0, .int .u64 0, .int .u64 0] 242)) := (Below.refl _ _).alloc (Nat.le_refl _) _
  have S0 := Lib.hid s0; have B0 := Lib.hid hb0; have HIN := Lib.hid hin; have HOK := Lib.hid hok
  clear s0 hb0 hin hok
  go_enter Tryz.func73, Tryz.ntmps73
  go_wp2_with fail
  go_loopg [4] n (fun q s4 wx => ∃ (k : Nat) (s : Value) (kd a was is : Nat), k ≤ n ∧ q = n - k ∧ s4 = .int .i64 k ∧ RefAt wx w.heap.size w.heap.size s (newL A V k) k kd a was is ∧ Below w.heap.size w wx)
  case atStart => exact ⟨0, _, 0, 0, 0, 0, by omega, rfl, rfl, S0.out, B0.out⟩
  case round =>
    obtain ⟨k, s, kd, a, was, is, hk, rfl, rfl, hst, hb⟩ := hrel
    have HST := Lib.hid hst; have HB := Lib.hid hb
    clear hst
    by_cases hkn : k < n
    · obtain ⟨lb, lo, rfl, hlb, hc⟩ := HIN.out.below hb (Nat.le_refl _) (by omega)
      obtain ⟨d0, d1⟩ := hc k hkn
      obtain ⟨hA, hV⟩ := HOK.out k hkn
      have hsz := hb.size
      clear hc hb
      have hL : newL A V (k + 1) = putL (newL A V k) (A k) (bring (A k) (V k)) := rfl
      have HL := Lib.hid hL
      have RD := Lib.hid (HST.out.kept (turns_drew (fun _ => False) _) (fun h => h) (fun _ _ h => h))
      have hlbR : lb ≠ w.heap.size := by omega
      have LBR := Lib.hid hlbR
      clear hL hlbR
      go_upto_region 5 with (fail)
      refine wp_region_held_drew (S := fun w' => w'.cell? ⟨lb, lo + k * 2, none⟩ = some (.int .u32 (A k)) ∧ w'.cell? ⟨lb, lo + k * 2 + 1, none⟩ = some (.int .u64 (V k))) (by kernel_rfl) ?_ (fun hHeld => ?_)
      · exact ⟨d0, d1⟩
      refine tA 0 ⟨some 13, .move (.tmp 3), 75, "ref.go:23", #[], none⟩ ?vm0 ?rm0
      (try simp only [Act.put, tC, tD, tE])
      refine tA 1 ⟨some 14, .move (.tmp 0), 203, "ref.go:23", #[], none⟩ ?vm1 ?rm1
      (try simp only [Act.put, tC, tD, tE])
      refine tA 2 ⟨some 15, .move (.tmp 4), 3, "ref.go:23", #[], none⟩ ?vm2 ?rm2
      (try simp only [Act.put, tC, tD, tE])
      refine tA 3 ⟨some 16, .indexAddr 203 (.tmp 14) (.tmp 15), 0, "ref.go:23", #[⟨1, .data⟩, ⟨2, .data⟩], none⟩ ?vm3 ?rm3
      (try simp only [Act.put, tC, tD, tE])
      refine tA 4 ⟨some 17, .fieldAddr 202 (.tmp 16) 0, 0, "ref.go:23", #[⟨3, .data⟩], none⟩ ?vm4 ?rm4
      (try simp only [Act.put, tC, tD, tE])
      refine tA 5 ⟨some 18, .load 23 (.tmp 17), 23, "ref.go:23", #[⟨4, .data⟩], none⟩ ?vm5 ?rm5
      (try simp only [Act.put, tC, tD, tE])
      refine tA 6 ⟨some 19, .move (.tmp 0), 203, "ref.go:23", #[], none⟩ ?vm6 ?rm6
      (try simp only [Act.put, tC, tD, tE])
      refine tA 7 ⟨some 20, .move (.tmp 4), 3, "ref.go:23", #[], none⟩ ?vm7 ?rm7
      (try simp only [Act.put, tC, tD, tE])
      refine tA 8 ⟨some 21, .indexAddr 203 (.tmp 19) (.tmp 20), 0, "ref.go:23", #[⟨6, .data⟩, ⟨7, .data⟩], none⟩ ?vm8 ?rm8
      (try simp only [Act.put, tC, tD, tE])
      refine tA 9 ⟨some 22, .fieldAddr 202 (.tmp 21) 1, 0, "ref.go:23", #[⟨8, .data⟩], none⟩ ?vm9 ?rm9
      (try simp only [Act.put, tC, tD, tE])
      refine tA 10 ⟨some 23, .load 29 (.tmp 22), 29, "ref.go:23", #[⟨9, .data⟩], none⟩ ?vm10 ?rm10
      (try simp only [Act.put, tC, tD, tE])
      refine wpAnyH_ready (rs := [11]) (by kernel_rfl) (by simp) ?_
      refine AllReadyH.cons (o := ⟨some 24, .call ⟨.value (.func 115), #[.tmp 13, .tmp 18, .tmp 23], #[75, 23, 29]⟩, 29, "ref.go:23", #[⟨0, .data⟩, ⟨5, .data⟩, ⟨10, .data⟩], none⟩) rfl (fun K hK => ?_) AllReadyH.nil
      go_simp
      (refine (rstore_any _ w.heap.size w.heap.size s (newL A V k) k kd a was is (A k) (V k) RD.out hsz hA (by omega) hV).mono ?_; rintro e w2 ⟨rfl, hr2⟩)
      refine hK.out _ _ ?_ (fun hHeld => ?_)
      · exact ⟨cell_turns hHeld.1 (show Turns (fun j => j = w.heap.size) _ _ from hr2.choose_spec.2.2) LBR.out, cell_turns hHeld.2 (show Turns (fun j => j = w.heap.size) _ _ from hr2.choose_spec.2.2) LBR.out⟩
      clear hK K
      (try simp only [Act.put, tC, tD, tE])
      refine wpAnyH_done (by kernel_rfl) ?_ _
      obtain ⟨s', hr3, _, ht3⟩ := hr2
      have hbb : Below w.heap.size w w2 := (HB.out.drew).trans (ht3.below hsz (fun j hj e => by omega))
      have HR3 := Lib.hid hr3; have HBB := Lib.hid hbb
      clear hr3 ht3 hbb d0 d1
      go_wp2_with fail
      go_roundg (n - (k + 1))
      case measure => omega
      case rel => exact ⟨k + 1, s', _, _, _, _, by omega, rfl, by go_num, by rw [HL.out]; exact HR3.out, HBB.out⟩
    · obtain rfl : k = n := by omega
      obtain ⟨p0, cap, rfl, _⟩ := row_slice HST.out.own
      have e0 : wr.cell? ⟨w.heap.size, 0, none⟩ = some (.slice p0 (newL A V k).length cap) := cell_row HST.out.row 0
      go_wp2_with fail
      go_ret
      refine ⟨wr.heap.size, .slice p0 (newL A V k).length cap, rfl, HB.out.size, ⟨HST.out.good, heap_alloc_new wr _, HST.out.own.alloc _, fun e => ?_⟩, HB.out.alloc HB.out.size _⟩
      have := (HST.out.own.lt _ e).2
      omega
end Go.Proofs.YtpmafdggbeppcaaGreatDoor.S2
namespace Go.Proofs.YtpmafdggbeppcaaGreatDoor.S12
open Go.Proofs.YtpmafdggbeppcaaGreatDoor Go.Proofs.YtpmafdggbeppcaaGreatDoor.S11
open Go.RowKit
def emptyP : Part := ⟨fun _ => True, fun _ => False, fun _ _ _ h => h.elim, fun _ _ _ _ _ _ => trivial⟩
def R7 : Array Oper := #[{ dst := some 19, op := Op.build 202 #[(0, Operand.const (Value.int IntKind.u32 0)), (1, Operand.const (Value.int IntKind.u64 2))], type := 202, pos := "ref.go:40", after := #[], guard := none }, { dst := some 20, op := Op.buildSlice 203 1 #[(0, Operand.tmp 19)], type := 203, pos := "ref.go:40", after := #[{ on := 0, ground := Ground.data }], guard := none }, { dst := some 21, op := Op.call { callee := Callee.value (Operand.func 73), args := #[Operand.tmp 20], argTypes := #[203] }, type := 75, pos := "ref.go:40", after := #[{ on := 1, ground := Ground.data }], guard := none }, { dst := some 22, op := Op.fieldAddr 115 (Operand.tmp 1) 2, type := 0, pos := "ref.go:40", after := #[], guard := none }, { dst := some 23, op := Op.load 30 (Operand.tmp 22), type := 30, pos := "ref.go:40", after := #[{ on := 3, ground := Ground.data }], guard := none }, { dst := some 24, op := Op.fieldAddr 115 (Operand.tmp 1) 1, type := 0, pos := "ref.go:40", after := #[], guard := none }, { dst := some 25, op := Op.load 29 (Operand.tmp 24), type := 29, pos := "ref.go:40", after := #[{ on := 5, ground := Ground.data }], guard := none }, { dst := some 26, op := Op.call { callee := Callee.value (Operand.func 74), args := #[Operand.tmp 23, Operand.tmp 25], argTypes := #[30, 29] }, type := 76, pos := "ref.go:40", after := #[{ on := 4, ground := Ground.data }, { on := 6, ground := Ground.data }, { on := 2, ground := Ground.chain }], guard := none }, { dst := some 27, op := Op.build 165 #[], type := 165, pos := "ref.go:40", after := #[], guard := none }, { dst := some 28, op := Op.box 165 (Operand.tmp 27), type := 77, pos := "ref.go:40", after := #[{ on := 8, ground := Ground.data }], guard := none }, { dst := some 29, op := Op.build 208 #[], type := 208, pos := "ref.go:40", after := #[], guard := none }, { dst := some 30, op := Op.box 208 (Operand.tmp 29), type := 78, pos := "ref.go:40", after := #[{ on := 10, ground := Ground.data }], guard := none }, { dst := some 31, op := Op.call { callee := Callee.value (Operand.func 75), args := #[Operand.const (Value.int IntKind.u64 0)], argTypes := #[29] }, type := 79, pos := "ref.go:40", after := #[{ on := 7, ground := Ground.chain }], guard := none }, { dst := some 32, op := Op.build 158 #[], type := 158, pos := "ref.go:40", after := #[], guard := none }, { dst := some 33, op := Op.box 158 (Operand.tmp 32), type := 80, pos := "ref.go:40", after := #[{ on := 13, ground := Ground.data }], guard := none }, { dst := some 34, op := Op.fieldAddr 115 (Operand.tmp 1) 0, type := 0, pos := "ref.go:40", after := #[], guard := none }, { dst := some 35, op := Op.load 3 (Operand.tmp 34), type := 3, pos := "ref.go:40", after := #[{ on := 15, ground := Ground.data }], guard := none }, { dst := some 36, op := Op.build 82 #[(0, Operand.tmp 21), (1, Operand.tmp 26), (2, Operand.tmp 28), (3, Operand.tmp 30), (4, Operand.tmp 31), (5, Operand.tmp 33), (6, Operand.tmp 35)], type := 82, pos := "ref.go:40", after := #[{ on := 2, ground := Ground.data }, { on := 7, ground := Ground.data }, { on := 9, ground := Ground.data }, { on := 11, ground := Ground.data }, { on := 12, ground := Ground.data }, { on := 14, ground := Ground.data }, { on := 16, ground := Ground.data }], guard := none }, { dst := some 37, op := Op.box 82 (Operand.tmp 36), type := 25, pos := "ref.go:40", after := #[{ on := 17, ground := Ground.data }], guard := none }, { dst := some 4, op := Op.assign (Operand.tmp 37), type := 25, pos := "ref.go:40", after := #[{ on := 18, ground := Ground.data }, { on := 12, ground := Ground.chain }, { on := 0, ground := Ground.phase }, { on := 1, ground := Ground.phase }, { on := 2, ground := Ground.phase }, { on := 3, ground := Ground.phase }, { on := 4, ground := Ground.phase }, { on := 5, ground := Ground.phase }, { on := 6, ground := Ground.phase }, { on := 7, ground := Ground.phase }, { on := 8, ground := Ground.phase }, { on := 9, ground := Ground.phase }, { on := 10, ground := Ground.phase }, { on := 11, ground := Ground.phase }, { on := 12, ground := Ground.phase }, { on := 13, ground := Ground.phase }, { on := 14, ground := Ground.phase }, { on := 15, ground := Ground.phase }, { on := 16, ground := Ground.phase }, { on := 17, ground := Ground.phase }, { on := 18, ground := Ground.phase }], guard := none }]
def L7 (c : Nat) (b0 b1 b2 : Bool) : Array Bool := #[true, decide (1 ≤ c), decide (2 ≤ c), true, true, true, true, decide (3 ≤ c), true, b0, true, b1, decide (4 ≤ c), true, b2, true, true, decide (5 ≤ c), decide (6 ≤ c), decide (7 ≤ c)]
noncomputable def F7 (spin : Int) (most n c : Nat) (A : Option Addr) (X : Nat) (x4 x20 x21 x26 x28 x30 x31 x33 x36 x37 : Value) : Act := { tmps := #[.agg #[.int .i64 spin, .int .u64 (most : Int), .slice A n c], .pointer (some ⟨X, 0, none⟩), .pointer none, .int .i64 0, x4, .pointer (some ⟨X, 0, none⟩), .int .i64 spin, .bool false, .bool false, .pointer (some ⟨X, 0, none⟩), .int .i64 spin, .bool false, .bool false, .bool false, .pointer (some ⟨X, 2, none⟩), .slice A n c, .int .i64 (n : Int), .bool false, .bool false, .agg #[.int .u32 0, .int .u64 2], x20, x21, .pointer (some ⟨X, 2, none⟩), .slice A n c, .pointer (some ⟨X, 1, none⟩), .int .u64 (most : Int), x26, .agg Tryz.zeroCells165, x28, .agg Tryz.zeroCells208, x30, x31, .agg #[.slice none 0 0], x33, .pointer (some ⟨X, 0, none⟩), .int .i64 spin, x36, x37, undef], defers := [] }
section
variable (c : Nat) (b0 b1 b2 : Bool)
theorem ready7 (hc : c ≤ 4) : Region.ready .any R7 (L7 c b0 b1 b2) = (if c = 0 then [1] else []) ++ (if c = 1 then [2] else []) ++ (if c = 2 then [7] else []) ++ (if b0 then [] else [9]) ++ (if b1 then [] else [11]) ++ (if c = 3 then [12] else []) ++ (if b2 then [] else [14]) ++ (if c = 4 ∧ b0 = true ∧ b1 = true ∧ b2 = true then [17] else []) := by
  have h : c = 0 ∨ c = 1 ∨ c = 2 ∨ c = 3 ∨ c = 4 := by omega
  rcases h with rfl | rfl | rfl | rfl | rfl <;> cases b0 <;> cases b1 <;> cases b2 <;> decide +kernel
theorem set1 : (L7 0 b0 b1 b2).setIfInBounds 1 true = L7 1 b0 b1 b2 := rfl
theorem set2 : (L7 1 b0 b1 b2).setIfInBounds 2 true = L7 2 b0 b1 b2 := rfl
theorem set7 : (L7 2 b0 b1 b2).setIfInBounds 7 true = L7 3 b0 b1 b2 := rfl
theorem set12 : (L7 3 b0 b1 b2).setIfInBounds 12 true = L7 4 b0 b1 b2 := rfl
theorem set9 : (L7 c false b1 b2).setIfInBounds 9 true = L7 c true b1 b2 := rfl
theorem set11 : (L7 c b0 false b2).setIfInBounds 11 true = L7 c b0 true b2 := rfl
theorem set14 : (L7 c b0 b1 false).setIfInBounds 14 true = L7 c b0 b1 true := rfl
end
def wordsO : Obj := .cells #[.int .u32 0, .int .u64 2] 202
def sW (on : Bool) (x : Value) (q : Part) : Prop := if on then (∃ B, x = .slice (some ⟨B, 0, none⟩) 1 1 ∧ q = blockP B wordsO) else q = emptyP
def sC (on : Bool) (x : Value) (q : Part) : Prop := if on then (∃ b B s, x = .pointer (some ⟨B, 0, none⟩) ∧ q = rcellsP b B s L02 0 0 0 0 0) else q = emptyP
def sK (most : Nat) (D : List Nat) (on : Bool) (x : Value) (q : Part) : Prop := if on then (∃ b B s, x = .pointer (some ⟨B, 0, none⟩) ∧ q = rclockP b B 0 most s (D.take 65536)) else q = emptyP
def sT (on : Bool) (x : Value) (q : Part) : Prop := if on then (∃ b own, q = rtablesP b own x (S10.M0 0)) else q = emptyP
def sB (T : Nat) (cs : Array Value) (on : Bool) (x : Value) (q : Part) : Prop := if on then (∃ B, x = .pointer (some ⟨B, 0, none⟩) ∧ q = blockP B (.cells cs T)) else q = emptyP
structure G7 (w : World) (X : Nat) (cfg : Obj) (most : Nat) (D : List Nat) (c : Nat) (b0 b1 b2 : Bool) (x20 x21 x26 x28 x30 x31 x33 : Value) (q0 qc qk qt qp ql qn : Part) : Prop where
  ps : Parts w X [blockP X cfg, q0, qc, qk, qt, qp, ql, qn]
  h0 : sW (decide (1 ≤ c)) x20 q0
  hc : sC (decide (2 ≤ c)) x21 qc
  hk : sK most D (decide (3 ≤ c)) x26 qk
  ht : sT (decide (4 ≤ c)) x31 qt
  hp : sB 165 Tryz.zeroCells165 b0 x28 qp
  hl : sB 208 Tryz.zeroCells208 b1 x30 ql
  hn : sB 158 #[.slice none 0 0] b2 x33 qn
theorem Parts.fill {w w' : World} {base i : Nat} {l : List Part} (h : Parts w base l) (hi : l[i]? = some emptyP) (q : Part) (b : Below w.heap.size w w') (hq : q.ok w') (hf : ∀ k, q.fp k → w.heap.size ≤ k) : Parts w' base (l.set i q) :=
  (h.turn hi q hq (Turns.of_below b) (fun k e => .inr (hf k e))).1
end Go.Proofs.YtpmafdggbeppcaaGreatDoor.S12
namespace Go.Proofs.YtpmafdggbeppcaaGreatDoor.S10
open Go.Proofs.YtpmafdggbeppcaaGreatDoor
open Go.RowKit
section
variable {M : Int → List Bk} {N : Nat}
theorem grow_all2 (g : Good M N) (hN : N ≤ 100000) {fr tg : Int} (hf : InI fr) (ht : InI tg) (now : Int) : ∃ (a : Bool) (M' : Int → List Bk), Good M' N ∧ (a = false → M' = M) ∧ (a = true → 2 ≤ tg ∧ tg ≤ 8) ∧
    (∀ W base own s n, n < 1000000 → St W base own s n M → Calls Tryz.prog 38 #[s, .int .i64 fr, .int .i64 tg, .int .u64 now] W fun e w' => e = .returned (.bool a) ∧ ∃ own', St w' base own' s (n + 1) M' ∧ Turns (Mine own) W w' ∧ Fresh own own' W) ∧
    (∀ W base own s, Rt W base own s M → Calls Tryz.prog 37 #[s, .int .i64 fr, .int .i64 tg, .int .u64 now] W fun e w' => e = .returned (.bool a) ∧ ∃ own', Rt w' base own' s M' ∧ Turns (Mine own) W w' ∧ Fresh own own' W) := by
  by_cases hno : M fr = [] ∨ tg ≤ fr ∨ 8 < tg ∨ M tg ≠ []
  · refine ⟨false, M, g, fun _ => rfl, (fun h => by cases h), fun W base own s n _ hs => ?_, fun W base own s hs => ?_⟩
    · obtain ⟨F, hr⟩ := hs.rs
      refine (grow_no hr hf ht now hno).mono ?_
      rintro e w' ⟨rfl, rfl⟩
      exact ⟨rfl, own, hs.mono (by omega), Turns.refl _ _, Fresh.refl _ _⟩
    · refine (rgrow_no hs now hno).mono ?_
      rintro e w' ⟨rfl, rfl⟩
      exact ⟨rfl, own, hs, Turns.refl _ _, Fresh.refl _ _⟩
  · have h0 : M fr ≠ [] := fun e => hno (.inl e)
    have h1 : fr < tg := by
      by_cases h : tg ≤ fr
      · exact absurd (.inr (.inl h)) hno
      · omega
    have h2 : tg ≤ 8 := by
      by_cases h : 8 < tg
      · exact absurd (.inr (.inr (.inl h))) hno
      · omega
    have h3 : M tg = [] := by
      by_cases h : M tg = []
      · exact h
      · exact absurd (.inr (.inr (.inr h))) hno
    have h4 : 2 ≤ fr := by
      by_cases h : fr < 2 ∨ 8 < fr
      · exact absurd (g.no fr h) h0
      · omega
    obtain ⟨h, hk, -⟩ := kits
    have K := hk tg.toNat (by omega) (by omega)
    have Kf := hk fr.toNat (by omega) (by omega)
    rw [Int.toNat_of_nonneg (by omega)] at K Kf
    have hlt : ∀ k, k < 4294967296 → h tg.toNat k < 2 ^ tg.toNat := K.lt (Nat.pow_pos (by omega))
    have hl := g.size fr h0
    have hfew := g.few fr
    have hle := g.len fr
    exact ⟨true, _, g.grow now h4 h1 h2 hlt, (fun h => by cases h), fun _ => ⟨by omega, h2⟩, fun W base own s n hn hs => grow_yes hs hf ht now h0 h1 h2 h3 K hle (g.keys fr) (by omega) hn, fun W base own s hs => rgrow_yes hs now h0 h1 h2 h3 K Kf hl (g.keys fr) (by omega)⟩
end
end Go.Proofs.YtpmafdggbeppcaaGreatDoor.S10
namespace Go.Proofs.YtpmafdggbeppcaaGreatDoor.S4
open Go.Proofs.YtpmafdggbeppcaaGreatDoor Go.Proofs.YtpmafdggbeppcaaGreatDoor.S11
open Go.RowKit
structure RPkAt (w : World) (B : Nat) (f : Nat → Pk) (n kd pk : Int) : Prop where
  lt : B < w.heap.size
  c0 : ∀ i, i < 128 → w.cell? ⟨B, i * 4, none⟩ = some (.bool (f i).p)
  c1 : ∀ i, i < 128 → w.cell? ⟨B, i * 4 + 1, none⟩ = some (.bool (f i).a)
  c2 : ∀ i, i < 128 → w.cell? ⟨B, i * 4 + 2, none⟩ = some (.bool (f i).o)
  c3 : ∀ i, i < 128 → w.cell? ⟨B, i * 4 + 3, none⟩ = some (.int .u64 ((f i).t : Int))
  cn : w.cell? ⟨B, 512, none⟩ = some (.int .i64 n)
  ck : w.cell? ⟨B, 513, none⟩ = some (.int .i64 kd)
  cp : w.cell? ⟨B, 514, none⟩ = some (.int .i64 pk)
  fz : ∀ i, w.frozen? ⟨B, i, none⟩ = false
section
variable {w w' : World} {B : Nat} {f : Nat → Pk} {n kd pk : Int}
theorem RPkAt.kept {T : Nat → Prop} (h : RPkAt w B f n kd pk) (t : Turns T w w') (hB : ¬ T B) : RPkAt w' B f n kd pk :=
  ⟨Nat.lt_of_lt_of_le h.lt t.size, fun i hi => (t.cell h.lt hB).trans (h.c0 i hi), fun i hi => (t.cell h.lt hB).trans (h.c1 i hi), fun i hi => (t.cell h.lt hB).trans (h.c2 i hi), fun i hi => (t.cell h.lt hB).trans (h.c3 i hi), (t.cell h.lt hB).trans h.cn, (t.cell h.lt hB).trans h.ck, (t.cell h.lt hB).trans h.cp, fun i => (t.frozen h.lt hB).trans (h.fz i)⟩
theorem RPkAt.new (h : RPkAt w B f n kd pk) (b : Below w.heap.size w w') : RPkAt w' B f n kd pk := h.kept (Turns.of_below (S := fun _ => False) b) (fun e => e)
end
theorem RPkAt.setN {w : World} {B : Nat} {f : Nat → Pk} {n kd pk : Int} (h : RPkAt w B f n kd pk) (m : Int) : RPkAt (w.setCell ⟨B, 512, none⟩ (.int .i64 m)) B f m kd pk :=
  ⟨by simpa [World.setCell] using h.lt, fun i hi => (cset (by omega)).trans (h.c0 i hi), fun i hi => (cset (by omega)).trans (h.c1 i hi), fun i hi => (cset (by omega)).trans (h.c2 i hi), fun i hi => (cset (by omega)).trans (h.c3 i hi), World.cell?_setCell_same _ _ _ h.cn, (cset (by omega)).trans h.ck, (cset (by omega)).trans h.cp, fun i => by rw [World.frozen?_setCell]; exact h.fz i⟩
theorem RPkAt.setK {w : World} {B : Nat} {f : Nat → Pk} {n kd pk : Int} (h : RPkAt w B f n kd pk) (m : Int) : RPkAt (w.setCell ⟨B, 513, none⟩ (.int .i64 m)) B f n m pk :=
  ⟨by simpa [World.setCell] using h.lt, fun i hi => (cset (by omega)).trans (h.c0 i hi), fun i hi => (cset (by omega)).trans (h.c1 i hi), fun i hi => (cset (by omega)).trans (h.c2 i hi), fun i hi => (cset (by omega)).trans (h.c3 i hi), (cset (by omega)).trans h.cn, World.cell?_setCell_same _ _ _ h.ck, (cset (by omega)).trans h.cp, fun i => by rw [World.frozen?_setCell]; exact h.fz i⟩
theorem RPkAt.setP {w : World} {B : Nat} {f : Nat → Pk} {n kd pk : Int} (h : RPkAt w B f n kd pk) (m : Int) : RPkAt (w.setCell ⟨B, 514, none⟩ (.int .i64 m)) B f n kd m :=
  ⟨by simpa [World.setCell] using h.lt, fun i hi => (cset (by omega)).trans (h.c0 i hi), fun i hi => (cset (by omega)).trans (h.c1 i hi), fun i hi => (cset (by omega)).trans (h.c2 i hi), fun i hi => (cset (by omega)).trans (h.c3 i hi), (cset (by omega)).trans h.cn, (cset (by omega)).trans h.ck, World.cell?_setCell_same _ _ _ h.cp, fun i => by rw [World.frozen?_setCell]; exact h.fz i⟩
theorem RPkAt.setPermit {w : World} {B : Nat} {f : Nat → Pk} {n kd pk : Int} (h : RPkAt w B f n kd pk) {i : Nat} (hi : i < 128) (b : Bool) : RPkAt (w.setCell ⟨B, i * 4, none⟩ (.bool b)) B (updP f i { f i with p := b }) n kd pk := by
  have hj : ∀ j, j ≠ i → updP f i { f i with p := b } j = f j := fun j e => by simp [updP, e]
  have he : updP f i { f i with p := b } i = { f i with p := b } := by simp [updP]
  refine ⟨by simpa [World.setCell] using h.lt, fun j hl => ?_, fun j hl => (cset (by omega)).trans ?_, fun j hl => (cset (by omega)).trans ?_, fun j hl => (cset (by omega)).trans ?_, (cset (by omega)).trans h.cn, (cset (by omega)).trans h.ck, (cset (by omega)).trans h.cp, fun j => by rw [World.frozen?_setCell]; exact h.fz j⟩
  · by_cases e : j = i
    · subst e; rw [he]; exact World.cell?_setCell_same _ _ _ (h.c0 j hl)
    · rw [hj j e]; exact (cset (by omega)).trans (h.c0 j hl)
  · rw [h.c1 j hl]; by_cases e : j = i
    · subst e; rw [he]
    · rw [hj j e]
  · rw [h.c2 j hl]; by_cases e : j = i
    · subst e; rw [he]
    · rw [hj j e]
  · rw [h.c3 j hl]; by_cases e : j = i
    · subst e; rw [he]
    · rw [hj j e]
theorem RPkAt.setAll {w : World} {B : Nat} {f : Nat → Pk} {n kd pk : Int} (h : RPkAt w B f n kd pk) {i : Nat} (hi : i < 128) (x : Pk) :
    RPkAt ((((w.setCell ⟨B, i * 4, none⟩ (.bool x.p)).setCell ⟨B, i * 4 + 1, none⟩ (.bool x.a)).setCell ⟨B, i * 4 + 2, none⟩ (.bool x.o)).setCell ⟨B, i * 4 + 3, none⟩ (.int .u64 (x.t : Int))) B (updP f i x) n kd pk := by
  have hj : ∀ j, j ≠ i → updP f i x j = f j := fun j e => by simp [updP, e]
  have he : updP f i x i = x := by simp [updP]
  have far : ∀ k v, (k ≠ i * 4 ∧ k ≠ i * 4 + 1 ∧ k ≠ i * 4 + 2 ∧ k ≠ i * 4 + 3) → w.cell? ⟨B, k, none⟩ = some v → ((((w.setCell ⟨B, i * 4, none⟩ (.bool x.p)).setCell ⟨B, i * 4 + 1, none⟩ (.bool x.a)).setCell ⟨B, i * 4 + 2, none⟩ (.bool x.o)).setCell ⟨B, i * 4 + 3, none⟩ (.int .u64 (x.t : Int))).cell? ⟨B, k, none⟩ = some v := fun k v hk e => by
    rw [cset (by omega), cset (by omega), cset (by omega), cset (by omega)]; exact e
  refine ⟨by simpa [World.setCell] using h.lt, fun j hl => ?_, fun j hl => ?_, fun j hl => ?_, fun j hl => ?_, far _ _ (by omega) h.cn, far _ _ (by omega) h.ck, far _ _ (by omega) h.cp, fun j => by rw [World.frozen?_setCell, World.frozen?_setCell, World.frozen?_setCell, World.frozen?_setCell]; exact h.fz j⟩
  · by_cases e : j = i
    · subst e; rw [he, cset (by omega), cset (by omega), cset (by omega)]; exact World.cell?_setCell_same _ _ _ (h.c0 j hl)
    · rw [hj j e]; exact far _ _ (by omega) (h.c0 j hl)
  · by_cases e : j = i
    · subst e; rw [he, cset (by omega), cset (by omega)]; exact World.cell?_setCell_same _ _ _ ((cset (by omega)).trans (h.c1 j hl))
    · rw [hj j e]; exact far _ _ (by omega) (h.c1 j hl)
  · by_cases e : j = i
    · subst e; rw [he, cset (by omega)]; exact World.cell?_setCell_same _ _ _ ((cset (by omega)).trans ((cset (by omega)).trans (h.c2 j hl)))
    · rw [hj j e]; exact far _ _ (by omega) (h.c2 j hl)
  · by_cases e : j = i
    · subst e; rw [he]; exact World.cell?_setCell_same _ _ _ ((cset (by omega)).trans ((cset (by omega)).trans ((cset (by omega)).trans (h.c3 j hl))))
    · rw [hj j e]; exact far _ _ (by omega) (h.c3 j hl)
def RZPn (n : Nat) : Array Value := ((List.replicate n blkP).flatten ++ [Value.int .i64 0, Value.int .i64 0, Value.int .i64 0]).toArray
def RZP : Array Value := RZPn 128
theorem rzero140 : Tryz.zeroCells165 = RZP := by kernel_rfl
theorem rzpn_get (n i j : Nat) (hi : i < n) (hj : j < 4) : (RZPn n)[i * 4 + j]? = blkP[j]? := by
  unfold RZPn
  rw [List.getElem?_toArray]
  exact rep_get blkP rfl _ n i j hi hj
theorem rzpn_end (n j : Nat) : (RZPn n)[n * 4 + j]? = [Value.int .i64 0, Value.int .i64 0, Value.int .i64 0][j]? := by
  unfold RZPn
  rw [List.getElem?_toArray, List.getElem?_append_right (by rw [rep_len _ rfl]; omega), rep_len _ rfl]
  congr 1; omega
theorem rzp_get (i j : Nat) (hi : i < 128) (hj : j < 4) : RZP[i * 4 + j]? = blkP[j]? := rzpn_get 128 i j hi hj
theorem rzp_end (j : Nat) : RZP[512 + j]? = [Value.int .i64 0, Value.int .i64 0, Value.int .i64 0][j]? := rzpn_end 128 j
theorem rpk_row {w : World} {B : Nat} {T : TypeId} (h : w.heap[B]? = some (.cells RZP T (0, 0))) : RPkAt w B (fun _ => pk0) 0 0 0 :=
  ⟨(Array.getElem?_eq_some_iff.1 h).1, fun i hi => (cell_row h _).trans (rzp_get i 0 hi (by omega)), fun i hi => (cell_row h _).trans (rzp_get i 1 hi (by omega)), fun i hi => (cell_row h _).trans (rzp_get i 2 hi (by omega)), fun i hi => (cell_row h _).trans (rzp_get i 3 hi (by omega)), (cell_row h _).trans (rzp_end 0), (cell_row h _).trans (rzp_end 1), (cell_row h _).trans (rzp_end 2), fun i => froz_row h i⟩
end Go.Proofs.YtpmafdggbeppcaaGreatDoor.S4
