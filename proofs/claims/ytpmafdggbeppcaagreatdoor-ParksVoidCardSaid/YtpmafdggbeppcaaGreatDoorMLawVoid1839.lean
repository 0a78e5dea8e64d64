/- Texts of this seat, one behind the other. -/
import Derived.Test.YtpmafdggbeppcaaGreatDoorMLawVoid1830
import Derived.Test.YtpmafdggbeppcaaGreatDoorMLawVoid1838
set_option linter.unusedVariables false
set_option linter.unusedSimpArgs false
namespace Go.Proofs.YtpmafdggbeppcaaGreatDoor.S11
set_option maxRecDepth 100000
set_option maxHeartbeats 16000000
open Go.Proofs.YtpmafdggbeppcaaGreatDoor
open Go.RowKit
theorem clip_any (A : Option Addr) (n cap : Nat) (w : World) (h : n ≤ cap) (hc : cap ≤ 9223372036854775807) : Calls Tryz.prog 135 #[.slice A n cap] w fun e w' => e = .returned (.slice A n n) ∧ w = w' := by
  go_enter Tryz.func135, Tryz.ntmps135
  go_wp2
  go_ret
  exact ⟨by simp, rfl⟩
def fromN (D : List Nt) (x : Int) : Nat := min x.toNat D.length
def Told (w w' : World) (F : List Nt) (e : Ending) : Prop := ∃ A, e = .returned (.slice A F.length F.length) ∧ Row w' w.heap.size 7 (.slice A F.length F.length) F.length (flat .u8 F) ∧ Below w.heap.size w w'
theorem told_done {w : World} {D : List Nt} {k : Nat} (hl : (D.drop k).length = D.length - k) {w2 : World} {A2 : Option Addr} {c2 : Nat} (hr : Row w2 w.heap.size 7 (.slice A2 (D.length - k) c2) (0 + (D.length - k)) ([] ++ flat .u8 (D.drop k))) (ht : Turns (fun g => (Value.slice none 0 0).ownBlock = some g) w w2) :
    Told w w2 (D.drop k) (.returned (.slice A2 (D.length - k) (D.length - k))) := by
  rw [Nat.zero_add, List.nil_append] at hr
  refine ⟨A2, by rw [hl], by rw [hl]; exact hr.clip, ht.below (Nat.le_refl _) (fun g _ e => by simp [Value.ownBlock] at e)⟩
theorem since_any {w : World} {base p : Nat} {s : Value} {D : List Nt} (h : LAt 264 .u8 w base p s D) (hlen : D.length ≤ 2999999) (x : Int) :
    Calls Tryz.prog 108 #[Pt p, .int .i64 x] w fun e w' => Told w w' (D.drop (fromN D x)) e := by
  have c0 := h.cell
  obtain ⟨A, cap, hs, hcap, hc9⟩ := h.own.shape
  subst hs
  have hrow := h.own
  have hrd := hrow.rd
  have HRD := Lib.hid hrd; have HROW := Lib.hid hrow
  clear hrd hrow h
  obtain ⟨k, hk⟩ : ∃ k, k = fromN D x := ⟨_, rfl⟩
  rw [← hk]
  have hkn : k ≤ D.length := by rw [hk]; unfold fromN; omega
  have hxk : min (max x 0) (D.length : Int) = (k : Int) := by rw [hk]; unfold fromN; omega
  clear hk
  go_enter Tryz.func108, Tryz.ntmps108
  go_upto_region 4 with (fail)
  clear hxk
  have hki : (k : Int) ≤ (D.length : Int) := by omega
  have hlen2 : (D.drop k).length = D.length - k := List.length_drop
  have HEND := Lib.hid (fun (w2 : World) (A2 : Option Addr) (c2 : Nat) => told_done (w := w) (k := k) hlen2 (w2 := w2) (A2 := A2) (c2 := c2))
  by_cases hck : cap = k
  · subst hck
    have hn0 : D.length - cap = 0 := by omega
    have hR : Rd w 0 A (flat .u8 (D.drop cap)) := fun hp => by rw [flat_len, hlen2, hn0] at hp; simp at hp
    have HR := Lib.hid hR
    clear hR
    have hfl : (flat .u8 (D.drop cap)).length = 0 * 7 := by rw [flat_len, hlen2, hn0]
    have HFL := Lib.hid hfl
    clear hfl hlen2
    rw [hn0] at HEND
    go_wp2_with (first
      | (at_builtin; refine wpList_append_row layP rfl _ _ rfl rfl (row_nil w w.heap.size 7) (fun u hu => by cases hu) (Nat.le_refl _) 0 rfl HR.out HFL.out (flat_one' _ _) (by omega) ?_; intro v2 w2 hr2 ht2 ho2; (obtain ⟨A2, c2, hv2, hn2, hm2⟩ := hr2.shape); (rw [Nat.zero_add] at hv2 hn2); subst hv2; (have HR2 := Lib.hid hr2); (have HT2 := Lib.hid ht2); (clear hr2 ht2 ho2))
      | (go_at_call 135; refine (clip_any _ _ _ _ hn2 hm2).mono ?_; rintro e w' ⟨rfl, rfl⟩))
    go_ret
    exact HEND.out _ _ _ HR2.out HT2.out
  · cases A with
    | none =>
      exfalso
      obtain ⟨A', cap', e, h0, h1, h2, h3, h4⟩ := HROW.out
      cases e
      have := h3 rfl
      omega
    | some ad =>
      obtain ⟨A', cap', e, h0, h1, h2, h3, h4⟩ := HROW.out
      cases e
      obtain ⟨g, o, rfl, hb, hlt, hl, hc⟩ := h4 _ rfl
      have hR : Rd w w.heap.size (some ⟨g, o + k * 7, none⟩) (flat .u8 (D.drop k)) := fun _ => ⟨g, o + k * 7, rfl, hlt, hl.from k⟩
      have HR := Lib.hid hR
      obtain ⟨m, hm⟩ : ∃ m, D.length - k = m := ⟨_, rfl⟩
      obtain ⟨cc, hcc⟩ : ∃ cc, cap - k = cc := ⟨_, rfl⟩
      have hfl : (flat .u8 (D.drop k)).length = m * 7 := by rw [flat_len, hlen2, hm]
      have hml : 0 + m ≤ 3000000 := by omega
      have HFL := Lib.hid hfl; have HML := Lib.hid hml
      rw [hm] at HEND
      clear hR hfl hlen2 hb hlt hl hc h0 h1 h2 h3 h4 hml
      go_wp2_with (first
        | (at_builtin; refine wpList_append_row (es := flat .u8 (D.drop k)) (m := m) (b2 := w.heap.size) (A := some ⟨g, o + k * 7, none⟩) layP rfl _ _ rfl rfl (row_nil w w.heap.size 7) (fun u hu => by cases hu) (Nat.le_refl _) cc rfl HR.out HFL.out (flat_one' _ _) HML.out ?_; intro v2 w2 hr2 ht2 ho2; (obtain ⟨A2, c2, hv2, hn2, hm2⟩ := hr2.shape); (rw [Nat.zero_add] at hv2 hn2); subst hv2; (have HR2 := Lib.hid hr2); (have HT2 := Lib.hid ht2); (clear hr2 ht2 ho2))
        | (go_at_call 135; refine (clip_any _ _ _ _ hn2 hm2).mono ?_; rintro e w' ⟨rfl, rfl⟩))
      go_ret
      exact HEND.out _ _ _ HR2.out HT2.out
theorem all_any {w : World} {base p : Nat} {s : Value} {D : List Nt} (h : LAt 264 .u8 w base p s D) (hlen : D.length ≤ 2999999) : Calls Tryz.prog 60 #[Pt p] w fun e w' => Told w w' D e := by
  have hq := since_any h hlen 0
  have e : fromN D 0 = 0 := by simp [fromN]
  rw [e, List.drop_zero] at hq
  have HQ := Lib.hid hq
  clear hq h
  go_enter Tryz.func60, Tryz.ntmps60
  go_wp2_with (go_at_call 108; refine HQ.out.mono ?_; rintro e w' ⟨A, rfl, h1, h2⟩; (have H1 := Lib.hid (And.intro h1 h2)); (clear h1 h2))
  go_ret
  exact ⟨_, rfl, H1.out.1, H1.out.2⟩
theorem other_any (n : Nt) (hk : n.k < 256) (w : World) : Calls Tryz.prog 107 #[ag .u8 n] w fun e w' => e = .returned (ag .i64 n) ∧ Below w.heap.size w w' := by
  have hwr : IntKind.i64.wrap (n.k : Int) = n.k := by rw [IntKind.wrap_i64]; omega
  go_enter Tryz.func107, Tryz.ntmps107
  go_wp2
  exact bodyPost_ret (v := ag .i64 n) (results_cell Tryz.results107 rfl (run_loadVar_row (P := Tryz.prog) _ (w.heap.size + 1) 246 246 (nb .i64 n) (0, 0) _ (by rw [show w.heap.size + 1 = (w.alloc (.cells (nb .u8 n) 250)).heap.size by simp]; exact heap_alloc_new _ _) Tryz.underlying246 rfl (by kernel_rfl))) rfl ⟨rfl, ((Below.refl _ _).alloc (Nat.le_refl _) _).alloc (by simp) _⟩
end Go.Proofs.YtpmafdggbeppcaaGreatDoor.S11
namespace Go.Proofs.YtpmafdggbeppcaaGreatDoor.S11
set_option maxRecDepth 100000
set_option maxHeartbeats 16000000
open Go.Proofs.YtpmafdggbeppcaaGreatDoor
open Go.RowKit
theorem keep7 {w w' : World} {K : IntKind} {base g o : Nat} {d : Nt} (hb : Below base w w') (hg : g < base) (h : w.cell? ⟨g, o, none⟩ = some (.int .i64 d.s) ∧ w.cell? ⟨g, o + 1, none⟩ = some (.int .i64 d.t) ∧ w.cell? ⟨g, o + 2, none⟩ = some (.int K (d.k : Int)) ∧ w.cell? ⟨g, o + 3, none⟩ = some (.int .u32 d.a) ∧ w.cell? ⟨g, o + 4, none⟩ = some (.int .i64 d.o) ∧ w.cell? ⟨g, o + 5, none⟩ = some (.int .u32 d.b) ∧ w.cell? ⟨g, o + 6, none⟩ = some (.int .u64 d.v)) : w'.cell? ⟨g, o, none⟩ = some (.int .i64 d.s) ∧ w'.cell? ⟨g, o + 1, none⟩ = some (.int .i64 d.t) ∧ w'.cell? ⟨g, o + 2, none⟩ = some (.int K (d.k : Int)) ∧ w'.cell? ⟨g, o + 3, none⟩ = some (.int .u32 d.a) ∧ w'.cell? ⟨g, o + 4, none⟩ = some (.int .i64 d.o) ∧ w'.cell? ⟨g, o + 5, none⟩ = some (.int .u32 d.b) ∧ w'.cell? ⟨g, o + 6, none⟩ = some (.int .u64 d.v) :=
  ⟨(hb.cell (by exact hg)).trans h.1, (hb.cell (by exact hg)).trans h.2.1, (hb.cell (by exact hg)).trans h.2.2.1, (hb.cell (by exact hg)).trans h.2.2.2.1, (hb.cell (by exact hg)).trans h.2.2.2.2.1, (hb.cell (by exact hg)).trans h.2.2.2.2.2.1, (hb.cell (by exact hg)).trans h.2.2.2.2.2.2⟩
theorem NtAt.all {w : World} {K : IntKind} {g o : Nat} {d : Nt} (h : NtAt w K g o d) : w.cell? ⟨g, o, none⟩ = some (.int .i64 d.s) ∧ w.cell? ⟨g, o + 1, none⟩ = some (.int .i64 d.t) ∧ w.cell? ⟨g, o + 2, none⟩ = some (.int K (d.k : Int)) ∧ w.cell? ⟨g, o + 3, none⟩ = some (.int .u32 d.a) ∧ w.cell? ⟨g, o + 4, none⟩ = some (.int .i64 d.o) ∧ w.cell? ⟨g, o + 5, none⟩ = some (.int .u32 d.b) ∧ w.cell? ⟨g, o + 6, none⟩ = some (.int .u64 d.v) := ⟨h.c0, h.c1, h.c2, h.c3, h.c4, h.c5, h.c6⟩
theorem same_any {w : World} {b1 b2 : Nat} {A B : Option Addr} {D : List Nt} (c c' : Nat) (hr1 : Rd w b1 A (flat .u8 D)) (hr2 : Rd w b2 B (flat .i64 D)) (hb1 : b1 ≤ w.heap.size) (hb2 : b2 ≤ w.heap.size) (hlen : D.length ≤ 3000000) (hks : ∀ d ∈ D, d.k < 256) :
    Calls Tryz.prog 59 #[.slice A D.length c, .slice B D.length c'] w fun e w' => e = .returned (.bool true) ∧ Below w.heap.size w w' := by
  have H1 := Lib.hid hr1; have H2 := Lib.hid hr2; have HS1 := Lib.hid hb1; have HS2 := Lib.hid hb2; have HKS := Lib.hid hks
  clear hr1 hr2 hb1 hb2 hks
  obtain ⟨n, hn⟩ : ∃ n, n = D.length := ⟨_, rfl⟩
  rw [← hn]
  have HN := Lib.hid hn
  have hn6 : n ≤ 3000000 := by omega
  clear hn hlen
  go_enter Tryz.func59, Tryz.ntmps59
  go_wp2_with fail
  go_loopg [5] n (fun q s5 wx => ∃ k : Nat, k ≤ n ∧ q = n - k ∧ s5 = .int .i64 (k : Int) ∧ Below w.heap.size w wx)
  case atStart => exact ⟨0, by omega, rfl, rfl, Below.refl _ _⟩
  case round =>
    obtain ⟨k, hk, rfl, rfl, hb⟩ := hrel
    have HB := Lib.hid hb
    clear hb
    by_cases hkn : k < n
    · obtain ⟨g1, o1, rfl, hg1, hN1⟩ := (H1.out.below HB.out HS1.out).note (i := k) (by have := HN.out; omega)
      obtain ⟨g2, o2, rfl, hg2, hN2⟩ := (H2.out.below HB.out HS2.out).note (i := k) (by have := HN.out; omega)
      have hl1 : g1 < wr.heap.size := by have := HB.out.size; have := HS1.out; omega
      have hl2 : g2 < wr.heap.size := by have := HB.out.size; have := HS2.out; omega
      have hdk : D[k]!.k < 256 := HKS.out _ (by have := HN.out; rw [getElem!_pos D k (by omega)]; exact List.getElem_mem _)
      generalize hd : D[k]! = d at *
      clear hd
      have hne := fun W => neq40 d d W
      simp only [decide_true, Bool.not_true] at hne
      go_upto_region 6 with (fail)
      refine wp_region_held_drew (S := fun w' => (w'.cell? ⟨g1, o1 + k * 7, none⟩ = some (.int .i64 d.s) ∧ w'.cell? ⟨g1, o1 + k * 7 + 1, none⟩ = some (.int .i64 d.t) ∧ w'.cell? ⟨g1, o1 + k * 7 + 2, none⟩ = some (.int .u8 (d.k : Int)) ∧ w'.cell? ⟨g1, o1 + k * 7 + 3, none⟩ = some (.int .u32 d.a) ∧ w'.cell? ⟨g1, o1 + k * 7 + 4, none⟩ = some (.int .i64 d.o) ∧ w'.cell? ⟨g1, o1 + k * 7 + 5, none⟩ = some (.int .u32 d.b) ∧ w'.cell? ⟨g1, o1 + k * 7 + 6, none⟩ = some (.int .u64 d.v)) ∧ (w'.cell? ⟨g2, o2 + k * 7, none⟩ = some (.int .i64 d.s) ∧ w'.cell? ⟨g2, o2 + k * 7 + 1, none⟩ = some (.int .i64 d.t) ∧ w'.cell? ⟨g2, o2 + k * 7 + 2, none⟩ = some (.int .i64 (d.k : Int)) ∧ w'.cell? ⟨g2, o2 + k * 7 + 3, none⟩ = some (.int .u32 d.a) ∧ w'.cell? ⟨g2, o2 + k * 7 + 4, none⟩ = some (.int .i64 d.o) ∧ w'.cell? ⟨g2, o2 + k * 7 + 5, none⟩ = some (.int .u32 d.b) ∧ w'.cell? ⟨g2, o2 + k * 7 + 6, none⟩ = some (.int .u64 d.v)) ∧ Below wr.heap.size wr w') (by kernel_rfl) ?_ (fun hHeld => ?_)
      · exact ⟨hN1.all, hN2.all, (Below.refl _ wr).drew⟩
      refine tA 0 ⟨some 17, .move (.tmp 0), 154, "law.go:60", #[], none⟩ ?v0 ?r0
      (try simp only [Act.put, tC, tD, tE])
      refine tA 1 ⟨some 18, .move (.tmp 5), 3, "law.go:60", #[], none⟩ ?v1 ?r1
      (try simp only [Act.put, tC, tD, tE])
      refine tA 2 ⟨some 19, .indexAddr 154 (.tmp 17) (.tmp 18), 0, "law.go:60", #[⟨0, .data⟩, ⟨1, .data⟩], none⟩ ?v2 ?r2
      (try simp only [Act.put, tC, tD, tE])
      refine tA 3 ⟨some 20, .load 250 (.tmp 19), 250, "law.go:60", #[⟨2, .data⟩], none⟩ ?v3 ?r3
      (try simp only [Act.put, tC, tD, tE])
      refine tA 5 ⟨some 22, .move (.tmp 1), 156, "law.go:60", #[], none⟩ ?v5 ?r5
      (try simp only [Act.put, tC, tD, tE])
      refine tA 6 ⟨some 23, .move (.tmp 5), 3, "law.go:60", #[], none⟩ ?v6 ?r6
      (try simp only [Act.put, tC, tD, tE])
      refine tA 7 ⟨some 24, .indexAddr 156 (.tmp 22) (.tmp 23), 0, "law.go:60", #[⟨5, .data⟩, ⟨6, .data⟩], none⟩ ?v7 ?r7
      (try simp only [Act.put, tC, tD, tE])
      refine tA 8 ⟨some 25, .load 246 (.tmp 24), 246, "law.go:60", #[⟨7, .data⟩], none⟩ ?v8 ?r8
      (try simp only [Act.put, tC, tD, tE])
      refine wpAnyH_ready (rs := [4]) (by kernel_rfl) (by simp) ?_
      refine AllReadyH.cons (o := ⟨some 21, .call ⟨.value (.func 107), #[.tmp 20], #[250]⟩, 246, "law.go:60", #[⟨3, .data⟩], none⟩) rfl (fun Kq hKq => ?_) AllReadyH.nil
      go_simp
      (refine (other_any d hdk _).mono ?_; rintro e w1 ⟨rfl, hb1⟩)
      refine hKq.out _ _ ?_ (fun hHeld => ?_)
      · exact ⟨keep7 hb1 (by have := hHeld.2.2.size; omega) hHeld.1, keep7 hb1 (by have := hHeld.2.2.size; omega) hHeld.2.1, hHeld.2.2.trans (hb1.mono hHeld.2.2.size)⟩
      clear hKq Kq
      (try simp only [Act.put, tC, tD, tE])
      refine tA 9 ⟨some 26, .binOp .neq 246 (.tmp 21) (.tmp 25) 246, 4, "law.go:60", #[⟨4, .data⟩, ⟨8, .data⟩], none⟩ ?v9 ?r9
      (try simp only [Act.put, tC, tD, tE])
      refine wpAnyH_done (by kernel_rfl) ?_ _
      have HH := Lib.hid hHeld.2.2
      clear hHeld
      go_wp2_with fail
      go_roundg (n - (k + 1))
      case measure => omega
      case rel => exact ⟨k + 1, by omega, rfl, by go_num, HB.out.trans (HH.out.mono HB.out.size)⟩
    · obtain rfl : k = n := by omega
      go_wp2_with fail
      go_ret
      exact ⟨rfl, HB.out⟩
end Go.Proofs.YtpmafdggbeppcaaGreatDoor.S11
