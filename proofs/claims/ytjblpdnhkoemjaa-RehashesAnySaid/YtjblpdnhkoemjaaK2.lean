/- RehashesAny's walk. -/
import Derived.Test.YtjblpdnhkoemjaaK1
namespace Go.Proofs.Ytjblpdnhkoemjaa
open Go.RowKit

theorem PlE.same {h : Nat → Nat} {n : Nat} {Ls : List (List Ent)} {f f' : Bool} (h1 : f = true ↔ 0 < n ∧ Ls.length = n ∧ Pl h Ls) (h2 : f' = true ↔ 0 < n ∧ Ls.length = n ∧ Pl h Ls) : f = f' := by
  have := h1.trans h2.symm
  cases f <;> cases f' <;> simp_all
set_option maxHeartbeats 4000000 in
set_option maxRecDepth 20000 in
theorem law_any {W : World} {c : Nat} {b : Int} {A : Option Addr} {Ls : List (List Ent)} (hq : Qs W W.heap.size A Ls) (hc : Ls.length ≤ c) (hc9 : c ≤ 9223372036854775807) (hkeys : Keys Ls.flatten) :
    Calls Try.prog 3 #[.slice A Ls.length c, .int .i64 b] W fun e w' => e = .returned (.bool true) ∧ Below W.heap.size W w' := by
  obtain ⟨n, h, K⟩ := kit_any b
  have HF := Lib.hid (few_any hq hc hc9)
  have HQ := Lib.hid hq; have HK := Lib.hid hkeys; have HKIT := Lib.hid K; have HC := Lib.hid hc
  clear hq hkeys K hc
  obtain ⟨N, hN⟩ : ∃ N, N = Ls.length := ⟨_, rfl⟩
  rw [← hN] at HF HC ⊢
  have HN := Lib.hid hN
  clear hN
  go_enter Try.func3, Try.ntmps3
  go_wp2_with fail
  refine HF.out.mono ?_
  rintro e w0 ⟨f, rfl, rfl, hf⟩
  cases f with
  | false =>
    clear hf HF
    go_wp2_with fail
    refine (lives_any W).mono ?_
    rintro e w1 ⟨rfl, hb⟩
    have HB := Lib.hid hb
    clear hb
    go_wp2_with fail
    go_ret
    exact ⟨rfl, HB.out⟩
  | true =>
    obtain ⟨hf60, hf300, hf600⟩ := hf rfl
    have HF60 := Lib.hid hf60; have HF3 := Lib.hid hf300; have HF6 := Lib.hid hf600
    clear hf hf60 hf300 hf600 HF
    -- the document's queues
    have h1 := others9_any HQ.out (Nat.le_refl _) (by rw [← HN.out]; exact HC.out) hc9 (by have := HF3.out; omega) (fun i hi => by have := HF60.out i hi; omega)
    rw [← HN.out] at h1
    have H1 := Lib.hid h1
    clear h1
    go_wp2_with fail
    refine H1.out.mono ?_
    clear H1
    rintro e w1 ⟨sm, ssm, rfl, htm, hb1⟩
    obtain ⟨Am, cm, rfl, hcm, hcm9⟩ := htm.shape
    rw [← HN.out] at hcm htm ⊢
    have HTM := Lib.hid htm; have HB1 := Lib.hid hb1
    clear htm hb1
    -- rehashed
    have h2 := rehash_all HKIT.out (HQ.out.below HB1.out (Nat.le_refl _)) HB1.out.size (by rw [← HN.out]; exact HC.out) hc9 HK.out (by have := HF3.out; omega) (by have := HF6.out; omega)
    rw [← HN.out] at h2
    have H2 := Lib.hid h2
    clear h2
    go_wp2_with fail
    refine H2.out.mono ?_
    clear H2
    rintro e w2 ⟨sa, ssa, rfl, hta, hcl, hb2⟩
    obtain ⟨Aa, ca, rfl, hca, hca9⟩ := hta.shape
    rw [reh_len] at hca ⊢
    have hta' := hta
    have HTA := Lib.hid hta; have HB2 := Lib.hid hb2; have HCL := Lib.hid hcl
    clear hta hcl hb2 hta'
    -- the document's answer
    have h3 := rrehash_any (w := w2) h HKIT.out.rsize HKIT.out.rhash HKIT.out.few ((HTM.out.rd.2).below HB2.out (Nat.le_refl _)) HB2.out.size (by rw [← HN.out]; exact hcm) hcm9 HK.out (by have := HF3.out; omega) (by have := HF6.out; omega) (b := b)
    rw [← HN.out] at h3
    have H3 := Lib.hid h3
    clear h3
    go_wp2_with fail
    refine H3.out.mono ?_
    clear H3
    rintro e w3 ⟨sr, ssr, rfl, htr, hb3⟩
    obtain ⟨Ar, cr, rfl, hcr, hcr9⟩ := htr.shape
    rw [reh_len] at hcr ⊢
    have h4 := same9_any (w := w3) ca cr ((HTA.out.rd.2).below hb3 (Nat.le_refl _)) htr.rd.2 hb3.size (Nat.le_refl _) (by rw [reh_len]; exact hca) hca9 (fun i hi => by
      rw [reh_len] at hi
      rw [reh_at _ _ hi]
      have := bk_le h i Ls.flatten
      have := HF6.out
      omega) (by rw [reh_len]; have := HKIT.out.few; omega)
    rw [reh_len] at h4
    have H4 := Lib.hid h4; have HB3 := Lib.hid hb3
    clear h4 htr hb3
    go_wp2_with fail
    refine H4.out.mono ?_
    clear H4
    rintro e w4 ⟨rfl, hb4⟩
    have HB4 := Lib.hid hb4
    clear hb4
    -- are they placed
    have hw4 : Below W.heap.size W w4 := HB1.out.trans ((HB2.out.mono HB1.out.size).trans ((HB3.out.mono (Nat.le_trans HB1.out.size HB2.out.size)).trans (HB4.out.mono (Nat.le_trans (Nat.le_trans HB1.out.size HB2.out.size) HB3.out.size))))
    have h5 := placed_all HKIT.out (HQ.out.below hw4 (Nat.le_refl _)) hw4.size (by rw [← HN.out]; exact HC.out) hc9 HK.out
    rw [← HN.out] at h5
    have H5 := Lib.hid h5; have HW4 := Lib.hid hw4
    clear h5 hw4
    go_wp2_with fail
    refine H5.out.mono ?_
    clear H5
    rintro e w5 ⟨f5, rfl, hf5, hb5⟩
    have HB5 := Lib.hid hb5; have HF5 := Lib.hid hf5
    clear hb5 hf5
    have hm5 : Below w1.heap.size w1 w5 := HB2.out.trans ((HB3.out.mono HB2.out.size).trans ((HB4.out.mono (Nat.le_trans HB2.out.size HB3.out.size)).trans (HB5.out.mono (Nat.le_trans (Nat.le_trans HB2.out.size HB3.out.size) HB4.out.size))))
    have h6 := rplaced_any (w := w5) h HKIT.out.rsize HKIT.out.rhash HKIT.out.few ((HTM.out.rd.2).below hm5 (Nat.le_refl _)) (by rw [← HN.out]; exact hcm) hcm9 HK.out (b := b)
    rw [← HN.out] at h6
    have H6 := Lib.hid h6; have HM5 := Lib.hid hm5
    clear h6 hm5
    go_wp2_with fail
    refine H6.out.mono ?_
    clear H6
    rintro e w6 ⟨f6, rfl, hf6, hb6⟩
    obtain rfl := PlE.same HF5.out hf6
    have HB6 := Lib.hid hb6
    clear hb6 hf6 HF5
    have hff : (f5 != f5) = false := by cases f5 <;> rfl
    have ha6 : Below w2.heap.size w2 w6 := HB3.out.trans ((HB4.out.mono HB3.out.size).trans ((HB5.out.mono (Nat.le_trans HB3.out.size HB4.out.size)).trans (HB6.out.mono (Nat.le_trans (Nat.le_trans HB3.out.size HB4.out.size) HB5.out.size))))
    have HT6 := Lib.hid (HTA.out.new ha6)
    have HA6 := Lib.hid (HB2.out.trans (ha6.mono HB2.out.size))
    clear ha6
    go_wp2_with fail
    clear hff
    -- what is told is spoilt
    go_loopg [7] n (fun q s7 wx => ∃ k : Nat, k ≤ n ∧ q = n - k ∧ s7 = .int .i64 (k : Int) ∧ Row wx w1.heap.size 1 (.slice Aa n ca) n ssa ∧ (∀ (j : Nat) (v : Value), k ≤ j → ssa[j]? = some v → ∃ D, RowE wx w1.heap.size v D) ∧ Below w1.heap.size w1 wx)
    case atStart =>
      refine ⟨0, by omega, rfl, rfl, ?_, fun j v _ hv => ⟨_, HT6.out.rowE hv⟩, HA6.out⟩
      have := HT6.out.row
      rwa [reh_len] at this
    case round =>
      obtain ⟨k, hk, rfl, rfl, hrow, hrs, hbk⟩ := hrel
      have HROW := Lib.hid hrow; have HRS := Lib.hid hrs; have HBK := Lib.hid hbk
      clear hrow hrs hbk
      by_cases hkn : k < n
      · obtain ⟨A1, m1, hv⟩ := HCL.out k hkn
        obtain ⟨D, hD⟩ := HRS.out k _ (Nat.le_refl _) hv
        have hm1 : m1 = D.length := by obtain ⟨_, _, e, _⟩ := hD; cases e; rfl
        have hD' : Row wr w1.heap.size 3 (.slice A1 m1 m1) m1 (flat D) := by rw [hm1]; rw [hm1] at hD; exact hD
        obtain ⟨g, o, hA, hg, hl⟩ := HROW.out.rd (by have := (List.getElem?_eq_some_iff.1 hv).1; omega)
        subst hA
        have cq := hl k _ hv
        obtain ⟨_, _, e, hm9, hm99⟩ := hD'.shape
        cases e
        have HSP := Lib.hid (spoil_any hD'.drew)
        have cqd : wr.drew.cell? ⟨g, o + k, none⟩ = some (.slice A1 m1 m1) := cq
        have HV := Lib.hid hv
        have HLT := Lib.hid hD'.lt
        have hmm : ((m1 : Int) != (m1 : Int)) = false := by simp
        clear hD hm1 hD' hl hv
        go_upto_region 10 with (fail)
        refine wp_region_held_drew (S := fun w' => w'.cell? ⟨g, o + k, none⟩ = some (.slice A1 m1 m1)) (by kernel_rfl) ?_ (fun hHeld => ?_)
        · exact cq
        refine wpAnyH_take (i := 0) (oi := ({ dst := some 38, op := Op.move (Operand.tmp 6), type := 22, pos := "law.go:23", after := #[], guard := none } : Oper)) (v := ?v0) rfl (by kernel_rfl) (by kernel_rfl) (by kernel_rfl) (fun _ _ _ h => h) (Or.inl ⟨by rfl, fun w hSw => ?hy0⟩) (by assumption) ?r0
        case hy0 => (try dsimp only at hSw); go_simp; (try with_reducible rfl)
        (try simp only [Act.put, List.setIfInBounds_toArray, List.set_cons_zero, List.set_cons_succ])
        refine wpAnyH_take (i := 1) (oi := ({ dst := some 39, op := Op.move (Operand.tmp 7), type := 3, pos := "law.go:23", after := #[], guard := none } : Oper)) (v := ?v1) rfl (by kernel_rfl) (by kernel_rfl) (by kernel_rfl) (fun _ _ _ h => h) (Or.inl ⟨by rfl, fun w hSw => ?hy1⟩) (by assumption) ?r1
        case hy1 => (try dsimp only at hSw); go_simp; (try with_reducible rfl)
        (try simp only [Act.put, List.setIfInBounds_toArray, List.set_cons_zero, List.set_cons_succ])
        refine wpAnyH_take (i := 2) (oi := ({ dst := some 40, op := Op.indexAddr 22 (Operand.tmp 38) (Operand.tmp 39), type := 0, pos := "law.go:23", after := #[{ on := 0, ground := Ground.data }, { on := 1, ground := Ground.data }], guard := none } : Oper)) (v := ?v2) rfl (by kernel_rfl) (by kernel_rfl) (by kernel_rfl) (fun _ _ _ h => h) (Or.inl ⟨by rfl, fun w hSw => ?hy2⟩) (by assumption) ?r2
        case hy2 => (try dsimp only at hSw); go_simp; (try with_reducible rfl)
        (try simp only [Act.put, List.setIfInBounds_toArray, List.set_cons_zero, List.set_cons_succ])
        refine wpAnyH_take (i := 3) (oi := ({ dst := some 41, op := Op.load 32 (Operand.tmp 40), type := 32, pos := "law.go:23", after := #[{ on := 2, ground := Ground.data }], guard := none } : Oper)) (v := ?v3) rfl (by kernel_rfl) (by kernel_rfl) (by kernel_rfl) (fun _ _ _ h => h) (Or.inl ⟨by rfl, fun w hSw => ?hy3⟩) (by assumption) ?r3
        case hy3 => (try dsimp only at hSw); go_simp; (try with_reducible rfl)
        (try simp only [Act.put, List.setIfInBounds_toArray, List.set_cons_zero, List.set_cons_succ])
        refine wpAnyH_take (i := 4) (oi := ({ dst := some 42, op := Op.call { callee := Callee.builtin Builtin.cap, args := #[Operand.tmp 41], argTypes := #[32] }, type := 3, pos := "law.go:23", after := #[{ on := 3, ground := Ground.data }], guard := none } : Oper)) (v := ?v4) rfl (by kernel_rfl) (by kernel_rfl) (by kernel_rfl) (fun _ _ _ h => h) (Or.inl ⟨by rfl, fun w hSw => ?hy4⟩) (by assumption) ?r4
        case hy4 => (try dsimp only at hSw); go_simp; (try with_reducible rfl)
        (try simp only [Act.put, List.setIfInBounds_toArray, List.set_cons_zero, List.set_cons_succ])
        refine wpAnyH_take (i := 5) (oi := ({ dst := some 43, op := Op.move (Operand.tmp 6), type := 22, pos := "law.go:23", after := #[], guard := none } : Oper)) (v := ?v5) rfl (by kernel_rfl) (by kernel_rfl) (by kernel_rfl) (fun _ _ _ h => h) (Or.inl ⟨by rfl, fun w hSw => ?hy5⟩) (by assumption) ?r5
        case hy5 => (try dsimp only at hSw); go_simp; (try with_reducible rfl)
        (try simp only [Act.put, List.setIfInBounds_toArray, List.set_cons_zero, List.set_cons_succ])
        refine wpAnyH_take (i := 6) (oi := ({ dst := some 44, op := Op.move (Operand.tmp 7), type := 3, pos := "law.go:23", after := #[], guard := none } : Oper)) (v := ?v6) rfl (by kernel_rfl) (by kernel_rfl) (by kernel_rfl) (fun _ _ _ h => h) (Or.inl ⟨by rfl, fun w hSw => ?hy6⟩) (by assumption) ?r6
        case hy6 => (try dsimp only at hSw); go_simp; (try with_reducible rfl)
        (try simp only [Act.put, List.setIfInBounds_toArray, List.set_cons_zero, List.set_cons_succ])
        refine wpAnyH_take (i := 7) (oi := ({ dst := some 45, op := Op.indexAddr 22 (Operand.tmp 43) (Operand.tmp 44), type := 0, pos := "law.go:23", after := #[{ on := 5, ground := Ground.data }, { on := 6, ground := Ground.data }], guard := none } : Oper)) (v := ?v7) rfl (by kernel_rfl) (by kernel_rfl) (by kernel_rfl) (fun _ _ _ h => h) (Or.inl ⟨by rfl, fun w hSw => ?hy7⟩) (by assumption) ?r7
        case hy7 => (try dsimp only at hSw); go_simp; (try with_reducible rfl)
        (try simp only [Act.put, List.setIfInBounds_toArray, List.set_cons_zero, List.set_cons_succ])
        refine wpAnyH_take (i := 8) (oi := ({ dst := some 46, op := Op.load 32 (Operand.tmp 45), type := 32, pos := "law.go:23", after := #[{ on := 7, ground := Ground.data }], guard := none } : Oper)) (v := ?v8) rfl (by kernel_rfl) (by kernel_rfl) (by kernel_rfl) (fun _ _ _ h => h) (Or.inl ⟨by rfl, fun w hSw => ?hy8⟩) (by assumption) ?r8
        case hy8 => (try dsimp only at hSw); go_simp; (try with_reducible rfl)
        (try simp only [Act.put, List.setIfInBounds_toArray, List.set_cons_zero, List.set_cons_succ])
        refine wpAnyH_take (i := 9) (oi := ({ dst := some 47, op := Op.call { callee := Callee.builtin Builtin.len, args := #[Operand.tmp 46], argTypes := #[32] }, type := 3, pos := "law.go:23", after := #[{ on := 8, ground := Ground.data }], guard := none } : Oper)) (v := ?v9) rfl (by kernel_rfl) (by kernel_rfl) (by kernel_rfl) (fun _ _ _ h => h) (Or.inl ⟨by rfl, fun w hSw => ?hy9⟩) (by assumption) ?r9
        case hy9 => (try dsimp only at hSw); go_simp; (try with_reducible rfl)
        (try simp only [Act.put, List.setIfInBounds_toArray, List.set_cons_zero, List.set_cons_succ])
        refine wpAnyH_take (i := 10) (oi := ({ dst := some 48, op := Op.binOp BinOp.neq 3 (Operand.tmp 42) (Operand.tmp 47) 3, type := 4, pos := "law.go:23", after := #[{ on := 4, ground := Ground.data }, { on := 9, ground := Ground.data }], guard := none } : Oper)) (v := ?v10) rfl (by kernel_rfl) (by kernel_rfl) (by kernel_rfl) (fun _ _ _ h => h) (Or.inl ⟨by rfl, fun w hSw => ?hy10⟩) (by assumption) ?r10
        case hy10 => (try dsimp only at hSw); go_simp; (try with_reducible rfl)
        (try simp only [Act.put, List.setIfInBounds_toArray, List.set_cons_zero, List.set_cons_succ])
        refine wpAnyH_done (by kernel_rfl) ?_ _
        clear hHeld
        go_wp2_with fail
        refine HSP.out.mono ?_
        rintro e w7 ⟨rfl, ht7⟩
        have HT7 := Lib.hid ht7
        clear ht7
        go_wp2_with fail
        go_roundg (n - (k + 1))
        case measure => omega
        case rel =>
          have htd : Turns (fun q => (Value.slice A1 m1 m1).ownBlock = some q) wr w7 := ((Turns.refl _ wr).drew).trans HT7.out (fun _ _ e => e)
          refine ⟨k + 1, by omega, rfl, by go_num, HROW.out.keep htd (fun q e e' => HTA.out.off k _ q HV.out e' e), fun j v hj hvj => ?_, HBK.out.trans (htd.below HBK.out.size (fun q hq e => by have := (HLT.out q e).1; omega))⟩
          obtain ⟨D', hD'⟩ := HRS.out j v (by omega) hvj
          refine ⟨D', hD'.keep htd (fun q e e' => ?_)⟩
          have := HTA.out.apart j k v _ q hvj HV.out e e'
          omega
      · obtain rfl : k = n := by omega
        have hbw : Below W.heap.size W wr := HB1.out.trans (HBK.out.mono HB1.out.size)
        have h7 := same9_any (w := wr) c cm (HQ.out.below hbw (Nat.le_refl _)) ((HTM.out.rd.2).below HBK.out (Nat.le_refl _)) hbw.size HBK.out.size (by rw [← HN.out]; exact HC.out) hc9 (fun i hi => by have := HF60.out i hi; omega) (by have := HF3.out; omega)
        rw [← HN.out] at h7
        have H7 := Lib.hid h7; have HBW := Lib.hid hbw
        clear h7 hbw
        go_wp2_with fail
        refine H7.out.mono ?_
        rintro e w8 ⟨rfl, hb8⟩
        have HB8 := Lib.hid hb8
        clear hb8
        go_wp2_with fail
        refine (lives_any w8).mono ?_
        rintro e w9 ⟨rfl, hb9⟩
        have HB9 := Lib.hid hb9
        clear hb9
        go_wp2_with fail
        go_ret
        exact ⟨rfl, HBW.out.trans ((HB8.out.mono HBW.out.size).trans (HB9.out.mono (Nat.le_trans HBW.out.size HB8.out.size)))⟩
end Go.Proofs.Ytjblpdnhkoemjaa
