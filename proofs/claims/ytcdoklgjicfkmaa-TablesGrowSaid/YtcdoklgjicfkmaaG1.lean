/- placed. -/
import Derived.Test.YtcdoklgjicfkmaaG0
namespace Go.Proofs.Ytcdoklgjicfkmaa
open Go.RowKit

set_option maxHeartbeats 4000000 in
set_option maxRecDepth 100000 in
theorem placed_any {w : World} {A : Option Addr} {D : List Ent} (c : Nat) (hr : Rd w w.heap.size A (flat D)) (hkeys : Keys D) (hlen : D.length ≤ 60) {h2 : Nat → Nat} (K : Kit 2 4 h2) :
    Calls Try.prog 21 #[.slice A D.length c] w fun e w' => ∃ s own, e = .returned s ∧ St w' w.heap.size own s 1 (Mp h2 D) ∧ Below w.heap.size w w' := by
  have HR := Lib.hid hr; have HK := Lib.hid hkeys; have HKIT := Lib.hid K
  obtain ⟨n, hn⟩ : ∃ n, n = D.length := ⟨_, rfl⟩
  rw [← hn] at hlen ⊢
  have HN := Lib.hid hn
  have hI2 : InI 2 := by unfold InI; omega
  clear hr hkeys K hn
  go_enter Try.func21, Try.ntmps21
  go_wp2_with fail
  refine (new_any 0 w).mono ?_
  rintro e w0 ⟨s, own, rfl, hs0, hb0⟩
  rw [mp_first h2] at hs0
  have HS0 := Lib.hid hs0; have HB0 := Lib.hid hb0
  clear hs0 hb0
  go_wp2_with fail
  go_loopg [4] n (fun q s4 wx => ∃ (k : Nat) (own' : Nat → Option Role), k ≤ n ∧ q = n - k ∧ s4 = .int .i64 (k : Int) ∧ St wx w.heap.size own' s 1 (Mp h2 (D.take k)) ∧ Below w.heap.size w wx)
  case atStart => exact ⟨0, own, by omega, rfl, rfl, HS0.out, HB0.out⟩
  case round =>
    obtain ⟨k, own', hk, rfl, rfl, hs, hb⟩ := hrel
    have HS := Lib.hid hs; have HB := Lib.hid hb
    clear hs hb
    by_cases hkn : k < n
    · obtain ⟨g, o, rfl, hg, c0, c1, c2⟩ := (HR.out.below HB.out (Nat.le_refl _)).ent (i := k) (by have := HN.out; omega)
      obtain ⟨kk, hkk, hkk2⟩ := HK.out.get k
      have htk := take_snoc (D := D) (k := k) (by have := HN.out; omega)
      obtain ⟨d, hd⟩ : ∃ d, d = D[k]! := ⟨_, rfl⟩
      rw [← hd] at c0 c1 c2 hkk htk
      rw [hkk] at c1
      have hi4 := HKIT.out.lt (by omega) kk hkk2
      have hnat : d.k.toNat = kk := by rw [hkk]; rfl
      obtain ⟨i, hi⟩ : ∃ i, i = h2 kk := ⟨_, rfl⟩
      have hhash := HKIT.out.hash (by omega) kk wr hkk2
      rw [← hi] at hhash hi4
      have hlen2 : (Mp h2 (D.take k) 2).length = 4 := by rw [mp2, fresh_len, reh_len]
      obtain ⟨q, hq⟩ : ∃ q, q = (Mp h2 (D.take k) 2)[i]!.q := ⟨_, rfl⟩
      have hql : q.length ≤ 60 := by
        rw [hq, mp2, fresh_at 0 _ (by rw [reh_len]; exact hi4)]
        show (reh h2 4 (D.take k))[i]!.length ≤ 60
        rw [reh_at h2 _ hi4]
        have := bk_le h2 i (D.take k)
        rw [List.length_take] at this
        omega
      obtain ⟨nq, hnq⟩ : ∃ nq, nq = q.length := ⟨_, rfl⟩
      have hnq60 : nq ≤ 60 := by omega
      have hqc : ∀ W own1, St W w.heap.size own1 s 1 (Mp h2 (D.take k)) → Calls Try.prog 19 #[s, .agg #[.int .i64 2, .int .i64 (i : Int)]] W fun e w' => ∃ A', e = .returned (.slice A' nq nq) ∧ RowE w' W.heap.size (.slice A' nq nq) q ∧ Below W.heap.size W w' := fun W own1 hst => by
        obtain ⟨F, hr⟩ := hst.rs
        have := queue_yes hr hI2 (i := i) (by rw [hlen2]; exact hi4) (by rw [← hq]; omega)
        rw [← hq, ← hnq] at this
        exact this
      have hput : ∀ W own1 A1 c1, St W w.heap.size own1 s 1 (Mp h2 (D.take k)) → Rd W W.heap.size A1 (flat (q ++ [d])) → Calls Try.prog 15 #[s, .agg #[.int .i64 2, .int .i64 (i : Int)], .slice A1 (nq + 1) c1] W fun e w' => e = .returned (.bool true) ∧ ∃ own2, St w' w.heap.size own2 s 1 (Mp h2 (D.take (k + 1))) ∧ Turns (Mine own1) W w' ∧ Fresh own1 own2 W := fun W own1 A1 c1 hst hrd => by
        have hp := put_yes (c0 := c1) hst hI2 (i := i) (by rw [hlen2]; exact hi4) hrd (Nat.le_refl _) (by rw [List.length_append]; simp; omega)
        have hm := mp_put h2 (D.take k) d (by rw [hnat, ← hi]; exact hi4)
        rw [hnat, ← hi, ← hq, ← htk] at hm
        rw [hm, List.length_append, ← hnq] at hp
        exact hp
      have hdk : d.k = (kk : Int) := hkk
      have HQ := Lib.hid hqc; have HPUT := Lib.hid hput; have HNQ := Lib.hid hnq; have HH := Lib.hid hhash; have HDK := Lib.hid hdk
      clear hd htk hkk hnat hi hhash hlen2 hq hql hnq hqc hput hdk
      go_upto_region 6 with (go_at_call 45; refine HH.out.mono ?_; rintro e w' ⟨rfl, rfl⟩)
      have hnw := heap_alloc_new wr (.cells #[.int .i64 2, .int .i64 (i : Int)] 30)
      have hbn := below1 wr (.cells #[.int .i64 2, .int .i64 (i : Int)] 30)
      have hsz : (wr.alloc (.cells #[.int .i64 2, .int .i64 (i : Int)] 30)).heap.size = wr.heap.size + 1 := by simp
      generalize wr.alloc (.cells #[.int .i64 2, .int .i64 (i : Int)] 30) = w1 at *
      have hglt : g < wr.heap.size := Nat.lt_of_lt_of_le hg HB.out.size
      have y0 : w1.drew.cell? ⟨g, o + k * 3, none⟩ = some (.int .i64 d.t) := (hbn.cell (p := ⟨g, o + k * 3, none⟩) hglt).trans c0
      have y1 : w1.drew.cell? ⟨g, o + k * 3 + 1, none⟩ = some (.int .u32 d.k) := by rw [HDK.out]; exact (hbn.cell (p := ⟨g, o + k * 3 + 1, none⟩) hglt).trans c1
      have y2 : w1.drew.cell? ⟨g, o + k * 3 + 2, none⟩ = some (.int .u64 d.z) := (hbn.cell (p := ⟨g, o + k * 3 + 2, none⟩) hglt).trans c2
      have HS1 : Hid (St w1.drew w.heap.size own' s 1 (Mp h2 (D.take k))) := Lib.hid (HS.out.new hbn.drew)
      have HB1 : Hid (Below w.heap.size w w1.drew) := Lib.hid (HB.out.trans (hbn.mono HB.out.size)).drew
      obtain ⟨X5, hX5⟩ : ∃ X, X = wr.heap.size := ⟨_, rfl⟩
      have hlx1 : X5 < w1.drew.heap.size := by show X5 < w1.heap.size; omega
      have hlg1 : g < w1.drew.heap.size := by show g < w1.heap.size; omega
      have HNX5 : Hid (¬ Mine own' X5) := Lib.hid (fun hm => by have := (HS.out.fp hm).2; omega)
      have HNG5 : Hid (¬ Mine own' g) := Lib.hid (fun hm => by have := (HS.out.fp hm).1; omega)
      rw [← hX5] at hnw ⊢
      have x0 : w1.drew.cell? ⟨X5, 0, none⟩ = some (.int .i64 2) := cell_row hnw 0
      have x1 : w1.drew.cell? ⟨X5, 1, none⟩ = some (.int .i64 (i : Int)) := cell_row hnw 1
      clear hnw hbn hsz hX5 c0 c1 c2 hglt
      refine wp_region_held_drew (S := fun w' => (w'.cell? ⟨X5, 0, none⟩ = some (.int .i64 2) ∧ w'.cell? ⟨X5, 1, none⟩ = some (.int .i64 (i : Int))) ∧ w'.cell? ⟨g, o + k * 3, none⟩ = some (.int .i64 d.t) ∧ w'.cell? ⟨g, o + k * 3 + 1, none⟩ = some (.int .u32 d.k) ∧ w'.cell? ⟨g, o + k * 3 + 2, none⟩ = some (.int .u64 d.z)) (by kernel_rfl) ⟨⟨x0, x1⟩, y0, y1, y2⟩ (fun hHeld => ?_)
      refine wpAnyH_take (i := 0) (oi := ({ dst := some 20, op := Op.move (Operand.tmp 3), type := 25, pos := "outright.go:31", after := #[], guard := none } : Oper)) (v := ?va0) rfl (by kernel_rfl) (by kernel_rfl) (by kernel_rfl) (fun _ _ _ h => h) (Or.inl ⟨by rfl, fun w hSw => ?hya0⟩) (by assumption) ?ra0
      case hya0 => (try dsimp only at hSw); go_simp; (try with_reducible rfl)
      (try simp only [Act.put, List.setIfInBounds_toArray, List.set_cons_zero, List.set_cons_succ])
      refine wpAnyH_take (i := 1) (oi := ({ dst := some 21, op := Op.load 30 (Operand.tmp 5), type := 30, pos := "outright.go:31", after := #[], guard := none } : Oper)) (v := ?va1) rfl (by kernel_rfl) (by kernel_rfl) (by kernel_rfl) (fun _ _ _ h => h) (Or.inl ⟨by rfl, fun w hSw => ?hya1⟩) (by assumption) ?ra1
      case hya1 => (try dsimp only at hSw); go_simp; (try with_reducible rfl)
      (try simp only [Act.put, List.setIfInBounds_toArray, List.set_cons_zero, List.set_cons_succ])
      refine wpAnyH_take (i := 2) (oi := ({ dst := some 22, op := Op.move (Operand.tmp 3), type := 25, pos := "outright.go:31", after := #[], guard := none } : Oper)) (v := ?va2) rfl (by kernel_rfl) (by kernel_rfl) (by kernel_rfl) (fun _ _ _ h => h) (Or.inl ⟨by rfl, fun w hSw => ?hya2⟩) (by assumption) ?ra2
      case hya2 => (try dsimp only at hSw); go_simp; (try with_reducible rfl)
      (try simp only [Act.put, List.setIfInBounds_toArray, List.set_cons_zero, List.set_cons_succ])
      refine wpAnyH_take (i := 3) (oi := ({ dst := some 23, op := Op.load 30 (Operand.tmp 5), type := 30, pos := "outright.go:31", after := #[], guard := none } : Oper)) (v := ?va3) rfl (by kernel_rfl) (by kernel_rfl) (by kernel_rfl) (fun _ _ _ h => h) (Or.inl ⟨by rfl, fun w hSw => ?hya3⟩) (by assumption) ?ra3
      case hya3 => (try dsimp only at hSw); go_simp; (try with_reducible rfl)
      (try simp only [Act.put, List.setIfInBounds_toArray, List.set_cons_zero, List.set_cons_succ])
      refine wpAnyH_take (i := 5) (oi := ({ dst := some 25, op := Op.move (Operand.tmp 0), type := 31, pos := "outright.go:31", after := #[], guard := none } : Oper)) (v := ?va5) rfl (by kernel_rfl) (by kernel_rfl) (by kernel_rfl) (fun _ _ _ h => h) (Or.inl ⟨by rfl, fun w hSw => ?hya5⟩) (by assumption) ?ra5
      case hya5 => (try dsimp only at hSw); go_simp; (try with_reducible rfl)
      (try simp only [Act.put, List.setIfInBounds_toArray, List.set_cons_zero, List.set_cons_succ])
      refine wpAnyH_take (i := 6) (oi := ({ dst := some 26, op := Op.move (Operand.tmp 4), type := 3, pos := "outright.go:31", after := #[], guard := none } : Oper)) (v := ?va6) rfl (by kernel_rfl) (by kernel_rfl) (by kernel_rfl) (fun _ _ _ h => h) (Or.inl ⟨by rfl, fun w hSw => ?hya6⟩) (by assumption) ?ra6
      case hya6 => (try dsimp only at hSw); go_simp; (try with_reducible rfl)
      (try simp only [Act.put, List.setIfInBounds_toArray, List.set_cons_zero, List.set_cons_succ])
      refine wpAnyH_take (i := 7) (oi := ({ dst := some 27, op := Op.indexAddr 31 (Operand.tmp 25) (Operand.tmp 26), type := 0, pos := "outright.go:31", after := #[{ on := 5, ground := Ground.data }, { on := 6, ground := Ground.data }], guard := none } : Oper)) (v := ?va7) rfl (by kernel_rfl) (by kernel_rfl) (by kernel_rfl) (fun _ _ _ h => h) (Or.inl ⟨by rfl, fun w hSw => ?hya7⟩) (by assumption) ?ra7
      case hya7 => (try dsimp only at hSw); go_simp; (try with_reducible rfl)
      (try simp only [Act.put, List.setIfInBounds_toArray, List.set_cons_zero, List.set_cons_succ])
      refine wpAnyH_take (i := 8) (oi := ({ dst := some 28, op := Op.load 65 (Operand.tmp 27), type := 65, pos := "outright.go:31", after := #[{ on := 7, ground := Ground.data }], guard := none } : Oper)) (v := ?va8) rfl (by kernel_rfl) (by kernel_rfl) (by kernel_rfl) (fun _ _ _ h => h) (Or.inl ⟨by rfl, fun w hSw => ?hya8⟩) (by assumption) ?ra8
      case hya8 => (try dsimp only at hSw); go_simp; (try with_reducible rfl)
      (try simp only [Act.put, List.setIfInBounds_toArray, List.set_cons_zero, List.set_cons_succ])
      refine wpAnyH_ready (rs := [4, 9]) (by kernel_rfl) (by simp) ?_
      refine AllReadyH.cons (o := ({ dst := some 24, op := Op.call { callee := Callee.value (Operand.func 19), args := #[Operand.tmp 22, Operand.tmp 23], argTypes := #[25, 30] }, type := 31, pos := "outright.go:31", after := #[{ on := 2, ground := Ground.data }, { on := 3, ground := Ground.data }], guard := none } : Oper)) rfl (fun Kq hKq => ?_) (AllReadyH.cons (o := ({ dst := some 29, op := Op.buildSlice 31 1 #[(0, Operand.tmp 28)], type := 31, pos := "outright.go:31", after := #[{ on := 8, ground := Ground.data }], guard := none } : Oper)) rfl (fun Kq hKq => ?_) AllReadyH.nil)
      · go_simp
        (refine (HQ.out _ own' HS1.out).mono ?_; rintro e wa ⟨Aq, rfl, hrq, hba⟩)
        refine hKq.out _ _ ?_ (fun hHeld => ?_)
        · exact ⟨⟨(hba.cell (p := ⟨X5, 0, none⟩) hlx1).trans hHeld.1.1, (hba.cell (p := ⟨X5, 1, none⟩) hlx1).trans hHeld.1.2⟩, (hba.cell (p := ⟨g, o + k * 3, none⟩) hlg1).trans hHeld.2.1, (hba.cell (p := ⟨g, o + k * 3 + 1, none⟩) hlg1).trans hHeld.2.2.1, (hba.cell (p := ⟨g, o + k * 3 + 2, none⟩) hlg1).trans hHeld.2.2.2⟩
        clear hKq Kq
        (try simp only [Act.put, List.setIfInBounds_toArray, List.set_cons_zero, List.set_cons_succ])
        have hlxa := Nat.lt_of_lt_of_le hlx1 hba.size
        have hlga := Nat.lt_of_lt_of_le hlg1 hba.size
        refine wpAnyH_ready (rs := [9]) (by kernel_rfl) (by simp) ?_
        refine AllReadyH.cons (o := ({ dst := some 29, op := Op.buildSlice 31 1 #[(0, Operand.tmp 28)], type := 31, pos := "outright.go:31", after := #[{ on := 8, ground := Ground.data }], guard := none } : Oper)) rfl (fun Kq hKq => ?_) AllReadyH.nil
        go_simp
        refine hKq.out _ _ ?_ (fun hHeld => ?_)
        · exact ⟨⟨((below1 wa _).cell (p := ⟨X5, 0, none⟩) hlxa).trans hHeld.1.1, ((below1 wa _).cell (p := ⟨X5, 1, none⟩) hlxa).trans hHeld.1.2⟩, ((below1 wa _).cell (p := ⟨g, o + k * 3, none⟩) hlga).trans hHeld.2.1, ((below1 wa _).cell (p := ⟨g, o + k * 3 + 1, none⟩) hlga).trans hHeld.2.2.1, ((below1 wa _).cell (p := ⟨g, o + k * 3 + 2, none⟩) hlga).trans hHeld.2.2.2⟩
        clear hKq Kq
        (try simp only [Act.put, List.setIfInBounds_toArray, List.set_cons_zero, List.set_cons_succ])
        have hq3 : Row wa w1.drew.heap.size 3 (.slice Aq nq nq) nq (flat q) := by
          have h := hrq
          unfold RowE at h
          rw [← HNQ.out] at h
          exact h
        have hnew := hq3.alloc (.cells #[.int .i64 d.t, .int .u32 d.k, .int .u64 d.z] 65)
        have hrdd := rd_one wa d 65
        have hbe := below1 wa (.cells #[.int .i64 d.t, .int .u32 d.k, .int .u64 d.z] 65)
        have hlx := Nat.lt_of_lt_of_le hlxa hbe.size
        have hlg := Nat.lt_of_lt_of_le hlga hbe.size
        have hbq : w1.drew.heap.size ≤ (wa.alloc (.cells #[.int .i64 d.t, .int .u32 d.k, .int .u64 d.z] 65)).heap.size := Nat.le_trans hba.size hbe.size
        have HST := Lib.hid ((HS1.out.new hba).new hbe)
        have HBC := Lib.hid ((HB1.out.trans (hba.mono HB1.out.size)).trans (hbe.mono (Nat.le_trans HB1.out.size hba.size)))
        generalize wa.alloc (.cells #[.int .i64 d.t, .int .u32 d.k, .int .u64 d.z] 65) = wc at *
        have HROW := Lib.hid hnew
        have HRDD := Lib.hid hrdd
        have hown : ∀ x, (Value.slice Aq nq nq).ownBlock = some x → w1.drew.heap.size ≤ x := fun x e => (hnew.lt x e).1
        have HLO : Hid (∀ x, (Value.slice Aq nq nq).ownBlock = some x → w.heap.size ≤ x) := Lib.hid (fun x e => Nat.le_trans HB1.out.size (hown x e))
        have HNO : Hid (∀ x, Mine own' x → ¬ (Value.slice Aq nq nq).ownBlock = some x) := Lib.hid (fun x hm e => by have := (HS1.out.fp hm).2; have := hown x e; omega)
        have HNX : Hid (¬ (Value.slice Aq nq nq).ownBlock = some X5) := Lib.hid (fun e => by have := hown X5 e; omega)
        have HNG : Hid (¬ (Value.slice Aq nq nq).ownBlock = some g) := Lib.hid (fun e => by have := hown g e; omega)
        clear hown hnew hrdd
        refine wpAnyH_ready (rs := [10]) (by kernel_rfl) (by simp) ?_
        refine AllReadyH.cons (o := ({ dst := some 30, op := Op.call { callee := Callee.builtin Builtin.append, args := #[Operand.tmp 24, Operand.tmp 29], argTypes := #[31, 31] }, type := 31, pos := "outright.go:31", after := #[{ on := 4, ground := Ground.data }, { on := 9, ground := Ground.data }, { on := 4, ground := Ground.chain }], guard := none } : Oper)) rfl (fun Kq hKq => ?_) AllReadyH.nil
        (refine step_append_row layE rfl _ _ rfl rfl HROW.out (flat_one' _) hbq 1 rfl HRDD.out rfl (flat_one' _) (by omega) ?_; intro v2 w2 hr2 ht2 ho2; obtain ⟨A2, cap2, hv2, hn2, hm2⟩ := hr2.shape; subst hv2)
        refine hKq.out _ _ ?_ (fun hHeld => ?_)
        · exact ⟨⟨(ht2.cell hlx HNX.out).trans hHeld.1.1, (ht2.cell hlx HNX.out).trans hHeld.1.2⟩, (ht2.cell hlg HNG.out).trans hHeld.2.1, (ht2.cell hlg HNG.out).trans hHeld.2.2.1, (ht2.cell hlg HNG.out).trans hHeld.2.2.2⟩
        clear hKq Kq
        (try simp only [Act.put, List.setIfInBounds_toArray, List.set_cons_zero, List.set_cons_succ])
        have HPP := Lib.hid (HPUT.out w2 own' A2 cap2 (HST.out.keep ht2 HNO.out) (by rw [← flat_app] at hr2; exact hr2.rd))
        have hB2 : Below w.heap.size w w2 := HBC.out.trans (ht2.below HBC.out.size (fun x hx e => by have := HLO.out x e; omega))
        have HB2 := Lib.hid hB2
        have hlx2 := Nat.lt_of_lt_of_le hlx ht2.size
        have hlg2 := Nat.lt_of_lt_of_le hlg ht2.size
        have HST2 := Lib.hid (HST.out.keep ht2 HNO.out)
        have hnx2 : ¬ Mine own' X5 := HNX5.out
        have hng2 : ¬ Mine own' g := HNG5.out
        clear hr2 ht2 ho2 hB2
        refine wpAnyH_ready (rs := [11]) (by kernel_rfl) (by simp) ?_
        refine AllReadyH.cons (o := ({ dst := some 31, op := Op.call { callee := Callee.value (Operand.func 15), args := #[Operand.tmp 20, Operand.tmp 21, Operand.tmp 30], argTypes := #[25, 30, 31] }, type := 4, pos := "outright.go:31", after := #[{ on := 0, ground := Ground.data }, { on := 1, ground := Ground.data }, { on := 10, ground := Ground.data }, { on := 10, ground := Ground.chain }], guard := none } : Oper)) rfl (fun Kq hKq => ?_) AllReadyH.nil
        go_simp
        (refine HPP.out.mono ?_; rintro e w4 ⟨rfl, own4, hs4, ht4, hf4⟩)
        refine hKq.out _ _ ?_ (fun hHeld => ?_)
        · exact ⟨⟨(ht4.cell hlx2 hnx2).trans hHeld.1.1, (ht4.cell hlx2 hnx2).trans hHeld.1.2⟩, (ht4.cell hlg2 hng2).trans hHeld.2.1, (ht4.cell hlg2 hng2).trans hHeld.2.2.1, (ht4.cell hlg2 hng2).trans hHeld.2.2.2⟩
        clear hKq Kq
        (try simp only [Act.put, List.setIfInBounds_toArray, List.set_cons_zero, List.set_cons_succ])
        refine wpAnyH_done (by kernel_rfl) ?_ _
        have HS4 := Lib.hid hs4
        have HB4 := Lib.hid (HB2.out.trans (ht4.below HB2.out.size (fun x hx hm => by have := (HST2.out.fp hm).1; omega)))
        clear hs4 ht4 hf4 hHeld
        go_wp2_with fail
        go_roundg (n - (k + 1))
        case measure => omega
        case rel => exact ⟨k + 1, own4, by omega, rfl, by go_num, HS4.out, HB4.out⟩
      · go_simp
        refine hKq.out _ _ ?_ (fun hHeld => ?_)
        · exact ⟨⟨((below1 w1.drew _).cell (p := ⟨X5, 0, none⟩) hlx1).trans hHeld.1.1, ((below1 w1.drew _).cell (p := ⟨X5, 1, none⟩) hlx1).trans hHeld.1.2⟩, ((below1 w1.drew _).cell (p := ⟨g, o + k * 3, none⟩) hlg1).trans hHeld.2.1, ((below1 w1.drew _).cell (p := ⟨g, o + k * 3 + 1, none⟩) hlg1).trans hHeld.2.2.1, ((below1 w1.drew _).cell (p := ⟨g, o + k * 3 + 2, none⟩) hlg1).trans hHeld.2.2.2⟩
        clear hKq Kq
        (try simp only [Act.put, List.setIfInBounds_toArray, List.set_cons_zero, List.set_cons_succ])
        have hbe0 := below1 w1 (.cells #[.int .i64 d.t, .int .u32 d.k, .int .u64 d.z] 65)
        have hbe : Below w1.drew.heap.size w1.drew (w1.alloc (.cells #[.int .i64 d.t, .int .u32 d.k, .int .u64 d.z] 65)).drew := ⟨hbe0.os, hbe0.tape, hbe0.output, hbe0.size, hbe0.block⟩
        have hrd0 := (rd_one w1 d 65).drew
        have hse : (w1.alloc (.cells #[.int .i64 d.t, .int .u32 d.k, .int .u64 d.z] 65)).drew.heap.size = w1.heap.size + 1 := by show (w1.alloc _).heap.size = _; simp
        clear hbe0
        have hlxa := Nat.lt_of_lt_of_le hlx1 hbe.size
        have hlga := Nat.lt_of_lt_of_le hlg1 hbe.size
        have HSE := Lib.hid (HS1.out.new hbe)
        have HBE := Lib.hid (HB1.out.trans (hbe.mono HB1.out.size))
        generalize (w1.alloc (.cells #[.int .i64 d.t, .int .u32 d.k, .int .u64 d.z] 65)).drew = we at *
        refine wpAnyH_ready (rs := [4]) (by kernel_rfl) (by simp) ?_
        refine AllReadyH.cons (o := ({ dst := some 24, op := Op.call { callee := Callee.value (Operand.func 19), args := #[Operand.tmp 22, Operand.tmp 23], argTypes := #[25, 30] }, type := 31, pos := "outright.go:31", after := #[{ on := 2, ground := Ground.data }, { on := 3, ground := Ground.data }], guard := none } : Oper)) rfl (fun Kq hKq => ?_) AllReadyH.nil
        go_simp
        (refine (HQ.out _ own' HSE.out).mono ?_; rintro e wc ⟨Aq, rfl, hrq, hba⟩)
        refine hKq.out _ _ ?_ (fun hHeld => ?_)
        · exact ⟨⟨(hba.cell (p := ⟨X5, 0, none⟩) hlxa).trans hHeld.1.1, (hba.cell (p := ⟨X5, 1, none⟩) hlxa).trans hHeld.1.2⟩, (hba.cell (p := ⟨g, o + k * 3, none⟩) hlga).trans hHeld.2.1, (hba.cell (p := ⟨g, o + k * 3 + 1, none⟩) hlga).trans hHeld.2.2.1, (hba.cell (p := ⟨g, o + k * 3 + 2, none⟩) hlga).trans hHeld.2.2.2⟩
        clear hKq Kq
        (try simp only [Act.put, List.setIfInBounds_toArray, List.set_cons_zero, List.set_cons_succ])
        have hnew : Row wc w1.drew.heap.size 3 (.slice Aq nq nq) nq (flat q) := by
          have h := hrq
          unfold RowE at h
          rw [← HNQ.out] at h
          exact h.base (by rw [hse]; exact Nat.le_succ _)
        have hrdd := hrd0.below hba (by rw [hse]; exact Nat.le_refl _)
        have hlx := Nat.lt_of_lt_of_le hlxa hba.size
        have hlg := Nat.lt_of_lt_of_le hlga hba.size
        have hbq : w1.drew.heap.size ≤ wc.heap.size := Nat.le_trans (by rw [hse]; exact Nat.le_succ _) hba.size
        have HST := Lib.hid (HSE.out.new hba)
        have HBC := Lib.hid (HBE.out.trans (hba.mono HBE.out.size))
        have HROW := Lib.hid hnew
        have HRDD := Lib.hid hrdd
        have hown : ∀ x, (Value.slice Aq nq nq).ownBlock = some x → w1.drew.heap.size ≤ x := fun x e => (hnew.lt x e).1
        have HLO : Hid (∀ x, (Value.slice Aq nq nq).ownBlock = some x → w.heap.size ≤ x) := Lib.hid (fun x e => Nat.le_trans HB1.out.size (hown x e))
        have HNO : Hid (∀ x, Mine own' x → ¬ (Value.slice Aq nq nq).ownBlock = some x) := Lib.hid (fun x hm e => by have := (HS1.out.fp hm).2; have := hown x e; omega)
        have HNX : Hid (¬ (Value.slice Aq nq nq).ownBlock = some X5) := Lib.hid (fun e => by have := hown X5 e; omega)
        have HNG : Hid (¬ (Value.slice Aq nq nq).ownBlock = some g) := Lib.hid (fun e => by have := hown g e; omega)
        clear hown hnew hrdd
        refine wpAnyH_ready (rs := [10]) (by kernel_rfl) (by simp) ?_
        refine AllReadyH.cons (o := ({ dst := some 30, op := Op.call { callee := Callee.builtin Builtin.append, args := #[Operand.tmp 24, Operand.tmp 29], argTypes := #[31, 31] }, type := 31, pos := "outright.go:31", after := #[{ on := 4, ground := Ground.data }, { on := 9, ground := Ground.data }, { on := 4, ground := Ground.chain }], guard := none } : Oper)) rfl (fun Kq hKq => ?_) AllReadyH.nil
        (refine step_append_row layE rfl _ _ rfl rfl HROW.out (flat_one' _) hbq 1 rfl HRDD.out rfl (flat_one' _) (by omega) ?_; intro v2 w2 hr2 ht2 ho2; obtain ⟨A2, cap2, hv2, hn2, hm2⟩ := hr2.shape; subst hv2)
        refine hKq.out _ _ ?_ (fun hHeld => ?_)
        · exact ⟨⟨(ht2.cell hlx HNX.out).trans hHeld.1.1, (ht2.cell hlx HNX.out).trans hHeld.1.2⟩, (ht2.cell hlg HNG.out).trans hHeld.2.1, (ht2.cell hlg HNG.out).trans hHeld.2.2.1, (ht2.cell hlg HNG.out).trans hHeld.2.2.2⟩
        clear hKq Kq
        (try simp only [Act.put, List.setIfInBounds_toArray, List.set_cons_zero, List.set_cons_succ])
        have HPP := Lib.hid (HPUT.out w2 own' A2 cap2 (HST.out.keep ht2 HNO.out) (by rw [← flat_app] at hr2; exact hr2.rd))
        have hB2 : Below w.heap.size w w2 := HBC.out.trans (ht2.below HBC.out.size (fun x hx e => by have := HLO.out x e; omega))
        have HB2 := Lib.hid hB2
        have hlx2 := Nat.lt_of_lt_of_le hlx ht2.size
        have hlg2 := Nat.lt_of_lt_of_le hlg ht2.size
        have HST2 := Lib.hid (HST.out.keep ht2 HNO.out)
        have hnx2 : ¬ Mine own' X5 := HNX5.out
        have hng2 : ¬ Mine own' g := HNG5.out
        clear hr2 ht2 ho2 hB2
        refine wpAnyH_ready (rs := [11]) (by kernel_rfl) (by simp) ?_
        refine AllReadyH.cons (o := ({ dst := some 31, op := Op.call { callee := Callee.value (Operand.func 15), args := #[Operand.tmp 20, Operand.tmp 21, Operand.tmp 30], argTypes := #[25, 30, 31] }, type := 4, pos := "outright.go:31", after := #[{ on := 0, ground := Ground.data }, { on := 1, ground := Ground.data }, { on := 10, ground := Ground.data }, { on := 10, ground := Ground.chain }], guard := none } : Oper)) rfl (fun Kq hKq => ?_) AllReadyH.nil
        go_simp
        (refine HPP.out.mono ?_; rintro e w4 ⟨rfl, own4, hs4, ht4, hf4⟩)
        refine hKq.out _ _ ?_ (fun hHeld => ?_)
        · exact ⟨⟨(ht4.cell hlx2 hnx2).trans hHeld.1.1, (ht4.cell hlx2 hnx2).trans hHeld.1.2⟩, (ht4.cell hlg2 hng2).trans hHeld.2.1, (ht4.cell hlg2 hng2).trans hHeld.2.2.1, (ht4.cell hlg2 hng2).trans hHeld.2.2.2⟩
        clear hKq Kq
        (try simp only [Act.put, List.setIfInBounds_toArray, List.set_cons_zero, List.set_cons_succ])
        refine wpAnyH_done (by kernel_rfl) ?_ _
        have HS4 := Lib.hid hs4
        have HB4 := Lib.hid (HB2.out.trans (ht4.below HB2.out.size (fun x hx hm => by have := (HST2.out.fp hm).1; omega)))
        clear hs4 ht4 hf4 hHeld
        go_wp2_with fail
        go_roundg (n - (k + 1))
        case measure => omega
        case rel => exact ⟨k + 1, own4, by omega, rfl, by go_num, HS4.out, HB4.out⟩
    · obtain rfl : k = n := by omega
      go_wp2_with fail
      go_ret
      have hs := HS.out
      rw [HN.out, List.take_length] at hs
      exact ⟨_, own', rfl, hs, HB.out⟩
end Go.Proofs.Ytcdoklgjicfkmaa
