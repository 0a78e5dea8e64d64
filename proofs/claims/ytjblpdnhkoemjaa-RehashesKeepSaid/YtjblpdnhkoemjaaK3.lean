/- Are lists alike; who has a key. -/
import Derived.Test.YtjblpdnhkoemjaaM2
import Derived.Test.YtjblpdnhkoemjaaK1
namespace Go.Proofs.Ytjblpdnhkoemjaa
open Go.RowKit

set_option maxHeartbeats 2000000 in
set_option maxRecDepth 100000 in
theorem alike_any {w : World} {b1 b2 : Nat} {A B : Option Addr} {D : List Ent} (c c' : Nat) (hr1 : Rd w b1 A (flat D)) (hr2 : Rd w b2 B (flat D)) (hb1 : b1 ≤ w.heap.size) (hb2 : b2 ≤ w.heap.size) (hlen : D.length ≤ 1000000) :
    Calls Try.prog 17 #[.slice A D.length c, .slice B D.length c'] w fun e w' => e = .returned (.bool true) ∧ Below w.heap.size w w' := by
  have H1 := Lib.hid hr1; have H2 := Lib.hid hr2; have HS1 := Lib.hid hb1; have HS2 := Lib.hid hb2
  clear hr1 hr2 hb1 hb2
  obtain ⟨n, hn⟩ : ∃ n, n = D.length := ⟨_, rfl⟩
  rw [← hn]
  have HN := Lib.hid hn
  have hn6 : n ≤ 1000000 := by omega
  clear hn hlen
  go_enter Try.func17, Try.ntmps17
  go_wp2_with fail
  go_loopg [5] n (fun q s5 wx => ∃ k : Nat, k ≤ n ∧ q = n - k ∧ s5 = .int .i64 (k : Int) ∧ Below w.heap.size w wx)
  case atStart => exact ⟨0, by omega, rfl, rfl, Below.refl _ _⟩
  case round =>
    obtain ⟨k, hk, rfl, rfl, hb⟩ := hrel
    have HB := Lib.hid hb
    clear hb
    by_cases hkn : k < n
    · obtain ⟨g1, o1, rfl, hg1, c0, c1, c2⟩ := (H1.out.below HB.out HS1.out).ent (i := k) (by have := HN.out; omega)
      obtain ⟨g2, o2, rfl, hg2, d0, d1, d2⟩ := (H2.out.below HB.out HS2.out).ent (i := k) (by have := HN.out; omega)
      generalize hd : D[k]! = d at *
      clear hd
      have hne := fun W => neqE d d W
      simp only [decide_true, Bool.not_true] at hne
      go_upto_region 6 with (fail)
      refine wp_region_held_drew (S := fun w' => (w'.cell? ⟨g1, o1 + k * 3, none⟩ = some (.int .i64 d.t) ∧ w'.cell? ⟨g1, o1 + k * 3 + 1, none⟩ = some (.int .u32 d.k) ∧ w'.cell? ⟨g1, o1 + k * 3 + 2, none⟩ = some (.int .u64 d.z)) ∧ (w'.cell? ⟨g2, o2 + k * 3, none⟩ = some (.int .i64 d.t) ∧ w'.cell? ⟨g2, o2 + k * 3 + 1, none⟩ = some (.int .u32 d.k) ∧ w'.cell? ⟨g2, o2 + k * 3 + 2, none⟩ = some (.int .u64 d.z))) (by kernel_rfl) ?_ (fun hHeld => ?_)
      · exact ⟨⟨c0, c1, c2⟩, ⟨d0, d1, d2⟩⟩
      refine wpAnyH_take (i := 0) (oi := ({ dst := some 17, op := Op.move (Operand.tmp 0), type := 32, pos := "outright.go:37", after := #[], guard := none } : Oper)) (v := ?v0) rfl (by kernel_rfl) (by kernel_rfl) (by kernel_rfl) (fun _ _ _ h => h) (Or.inl ⟨by rfl, fun w hSw => ?hy0⟩) (by assumption) ?r0
      case hy0 => (try dsimp only at hSw); go_simp; (try with_reducible rfl)
      (try simp only [Act.put, List.setIfInBounds_toArray, List.set_cons_zero, List.set_cons_succ])
      refine wpAnyH_take (i := 1) (oi := ({ dst := some 18, op := Op.move (Operand.tmp 5), type := 3, pos := "outright.go:37", after := #[], guard := none } : Oper)) (v := ?v1) rfl (by kernel_rfl) (by kernel_rfl) (by kernel_rfl) (fun _ _ _ h => h) (Or.inl ⟨by rfl, fun w hSw => ?hy1⟩) (by assumption) ?r1
      case hy1 => (try dsimp only at hSw); go_simp; (try with_reducible rfl)
      (try simp only [Act.put, List.setIfInBounds_toArray, List.set_cons_zero, List.set_cons_succ])
      refine wpAnyH_take (i := 2) (oi := ({ dst := some 19, op := Op.indexAddr 32 (Operand.tmp 17) (Operand.tmp 18), type := 0, pos := "outright.go:37", after := #[{ on := 0, ground := Ground.data }, { on := 1, ground := Ground.data }], guard := none } : Oper)) (v := ?v2) rfl (by kernel_rfl) (by kernel_rfl) (by kernel_rfl) (fun _ _ _ h => h) (Or.inl ⟨by rfl, fun w hSw => ?hy2⟩) (by assumption) ?r2
      case hy2 => (try dsimp only at hSw); go_simp; (try with_reducible rfl)
      (try simp only [Act.put, List.setIfInBounds_toArray, List.set_cons_zero, List.set_cons_succ])
      refine wpAnyH_take (i := 3) (oi := ({ dst := some 20, op := Op.load 39 (Operand.tmp 19), type := 39, pos := "outright.go:37", after := #[{ on := 2, ground := Ground.data }], guard := none } : Oper)) (v := ?v3) rfl (by kernel_rfl) (by kernel_rfl) (by kernel_rfl) (fun _ _ _ h => h) (Or.inl ⟨by rfl, fun w hSw => ?hy3⟩) (by assumption) ?r3
      case hy3 => (try dsimp only at hSw); go_simp; (try with_reducible rfl)
      (try simp only [Act.put, List.setIfInBounds_toArray, List.set_cons_zero, List.set_cons_succ])
      refine wpAnyH_take (i := 4) (oi := ({ dst := some 21, op := Op.move (Operand.tmp 1), type := 32, pos := "outright.go:37", after := #[], guard := none } : Oper)) (v := ?v4) rfl (by kernel_rfl) (by kernel_rfl) (by kernel_rfl) (fun _ _ _ h => h) (Or.inl ⟨by rfl, fun w hSw => ?hy4⟩) (by assumption) ?r4
      case hy4 => (try dsimp only at hSw); go_simp; (try with_reducible rfl)
      (try simp only [Act.put, List.setIfInBounds_toArray, List.set_cons_zero, List.set_cons_succ])
      refine wpAnyH_take (i := 5) (oi := ({ dst := some 22, op := Op.move (Operand.tmp 5), type := 3, pos := "outright.go:37", after := #[], guard := none } : Oper)) (v := ?v5) rfl (by kernel_rfl) (by kernel_rfl) (by kernel_rfl) (fun _ _ _ h => h) (Or.inl ⟨by rfl, fun w hSw => ?hy5⟩) (by assumption) ?r5
      case hy5 => (try dsimp only at hSw); go_simp; (try with_reducible rfl)
      (try simp only [Act.put, List.setIfInBounds_toArray, List.set_cons_zero, List.set_cons_succ])
      refine wpAnyH_take (i := 6) (oi := ({ dst := some 23, op := Op.indexAddr 32 (Operand.tmp 21) (Operand.tmp 22), type := 0, pos := "outright.go:37", after := #[{ on := 4, ground := Ground.data }, { on := 5, ground := Ground.data }], guard := none } : Oper)) (v := ?v6) rfl (by kernel_rfl) (by kernel_rfl) (by kernel_rfl) (fun _ _ _ h => h) (Or.inl ⟨by rfl, fun w hSw => ?hy6⟩) (by assumption) ?r6
      case hy6 => (try dsimp only at hSw); go_simp; (try with_reducible rfl)
      (try simp only [Act.put, List.setIfInBounds_toArray, List.set_cons_zero, List.set_cons_succ])
      refine wpAnyH_take (i := 7) (oi := ({ dst := some 24, op := Op.load 39 (Operand.tmp 23), type := 39, pos := "outright.go:37", after := #[{ on := 6, ground := Ground.data }], guard := none } : Oper)) (v := ?v7) rfl (by kernel_rfl) (by kernel_rfl) (by kernel_rfl) (fun _ _ _ h => h) (Or.inl ⟨by rfl, fun w hSw => ?hy7⟩) (by assumption) ?r7
      case hy7 => (try dsimp only at hSw); go_simp; (try with_reducible rfl)
      (try simp only [Act.put, List.setIfInBounds_toArray, List.set_cons_zero, List.set_cons_succ])
      refine wpAnyH_take (i := 8) (oi := ({ dst := some 25, op := Op.binOp BinOp.neq 39 (Operand.tmp 20) (Operand.tmp 24) 39, type := 4, pos := "outright.go:37", after := #[{ on := 3, ground := Ground.data }, { on := 7, ground := Ground.data }], guard := none } : Oper)) (v := ?v8) rfl (by kernel_rfl) (by kernel_rfl) (by kernel_rfl) (fun _ _ _ h => h) (Or.inl ⟨by rfl, fun w hSw => ?hy8⟩) (by assumption) ?r8
      case hy8 => (try dsimp only at hSw); go_simp; (try with_reducible rfl)
      (try simp only [Act.put, List.setIfInBounds_toArray, List.set_cons_zero, List.set_cons_succ])
      refine wpAnyH_done (by kernel_rfl) ?_ _
      clear hHeld
      go_wp2_with fail
      go_roundg (n - (k + 1))
      case measure => omega
      case rel => exact ⟨k + 1, by omega, rfl, by go_num, HB.out.drew⟩
    · obtain rfl : k = n := by omega
      go_wp2_with fail
      go_ret
      exact ⟨rfl, HB.out⟩
set_option maxHeartbeats 4000000 in
set_option maxRecDepth 20000 in
theorem keyed_any {w : World} {base c : Nat} {A : Option Addr} {Ls : List (List Ent)} (key : Nat) (hq : Qs w base A Ls) (hbase : base ≤ w.heap.size) (hc : Ls.length ≤ c) (hc9 : c ≤ 9223372036854775807) (hlen : Ls.length ≤ 1000000) (hlen2 : Ls.flatten.length ≤ 1000) :
    Calls Try.prog 18 #[.slice A Ls.length c, .int .u32 (key : Int)] w fun e w' => ∃ s, e = .returned s ∧ RowE w' w.heap.size s (kf (key : Int) Ls.flatten) ∧ Below w.heap.size w w' := by
  have HQ := Lib.hid hq; have HBS := Lib.hid hbase; have HL2 := Lib.hid hlen2
  clear hq hbase hlen2
  obtain ⟨N, hN⟩ : ∃ N, N = Ls.length := ⟨_, rfl⟩
  rw [← hN] at hc hlen ⊢
  have HN := Lib.hid hN
  clear hN
  obtain ⟨E, hE⟩ : ∃ E, E = Ls.flatten := ⟨_, rfl⟩
  have HE := Lib.hid hE
  rw [← hE] at HL2 ⊢
  clear hE
  go_enter Try.func18, Try.ntmps18
  go_wp2_with fail
  go_loopg [5, 6] N (fun q s5 s6 wx => ∃ i : Nat, i ≤ N ∧ q = N - i ∧ s6 = .int .i64 (i : Int) ∧ RowE wx w.heap.size s5 (kf (key : Int) (E.take (cum Ls i))) ∧ Below w.heap.size w wx)
  case atStart => exact ⟨0, by omega, rfl, rfl, row_nil _ _ _, Below.refl _ _⟩
  case round =>
    obtain ⟨i, hi, rfl, rfl, hrow, hb⟩ := hrel
    have HR := Lib.hid hrow; have HB := Lib.hid hb
    clear hrow hb
    obtain ⟨wm, rfl⟩ : ∃ wm : World, wm = wr := ⟨_, rfl⟩
    by_cases hiN : i < N
    · have hil : i < Ls.length := by have := HN.out; omega
      obtain ⟨g, o, A', c', rfl, hg, cq0, hc', hc9', hrd⟩ := HQ.out.at hil
      have HRD := Lib.hid hrd
      have HCS := Lib.hid (cum_succ hil)
      have hca : ∀ j, j < Ls[i]!.length → el Ls.flatten (cum Ls i + j) = el Ls[i]! j := fun j hj => cum_at hil hj
      have hcl : ∀ j, j < Ls[i]!.length → cum Ls i + j < Ls.flatten.length := fun j hj => cum_mono hil hj
      rw [← HE.out] at hca hcl
      have HCA := Lib.hid hca; have HCL := Lib.hid hcl
      obtain ⟨D, hD⟩ : ∃ D, D = Ls[i]! := ⟨_, rfl⟩
      rw [← hD] at cq0 hc' HRD HCS HCA HCL
      obtain ⟨M, hM⟩ : ∃ M, M = D.length := ⟨_, rfl⟩
      rw [← hM] at cq0 hc' HCS HCA HCL
      have HM := Lib.hid hM
      have hgw : g < w.heap.size := by have := HBS.out; omega
      have cq : wm.cell? ⟨g, o + i, none⟩ = some (.slice A' M c') := (HB.out.cell (p := ⟨g, o + i, none⟩) hgw).trans cq0
      have CQ0 := Lib.hid cq0
      clear cq0 hM hD hrd hca hcl
      go_wp2_with fail
      go_loopg [5, 7] M (fun q s5 s7 wx => ∃ j : Nat, j ≤ M ∧ q = M - j ∧ s7 = .int .i64 (j : Int) ∧ RowE wx w.heap.size s5 (kf (key : Int) (E.take (cum Ls i + j))) ∧ Below w.heap.size w wx)
      case atStart => exact ⟨0, by omega, rfl, rfl, HR.out, HB.out⟩
      case round =>
        obtain ⟨j, hj, rfl, rfl, hrow, hbx⟩ := hrel
        have HR3 := Lib.hid hrow; have HBX := Lib.hid hbx
        clear hrow hbx
        have cq3 : wr.cell? ⟨g, o + i, none⟩ = some (.slice A' M c') := (HBX.out.cell (p := ⟨g, o + i, none⟩) hgw).trans CQ0.out
        by_cases hjm : j < M
        · obtain ⟨g1, o1, rfl, hg1, c0, c1, c2⟩ := (HRD.out.below HBX.out HBS.out).ent (i := j) (by have := HM.out; omega)
          rw [show D[j]! = el D j from rfl] at c0 c1 c2
          have hca := HCA.out j hjm
          have hcl := HCL.out j hjm
          have hte : E.take (cum Ls i + j + 1) = E.take (cum Ls i + j) ++ [el E (cum Ls i + j)] := take_snoc hcl
          rw [hca] at hte
          have hle := kf_le (key : Int) (E.take (cum Ls i + j))
          rw [List.length_take] at hle
          have hL2 := HL2.out
          have hbs := kf_snoc (key : Int) (E.take (cum Ls i + j)) (el D j)
          rw [← hte] at hbs
          obtain ⟨F, hF⟩ : ∃ F, F = kf (key : Int) (E.take (cum Ls i + j)) := ⟨_, rfl⟩
          rw [← hF] at hle hbs
          have HRF : Hid (RowE wr w.heap.size u5 F) := Lib.hid (by rw [hF]; exact HR3.out)
          obtain ⟨d, hd⟩ : ∃ d, d = el D j := ⟨_, rfl⟩
          rw [← hd] at c0 c1 c2 hbs
          have HFL := Lib.hid (show F.length + 1 ≤ 1000000 by omega)
          have HBK := Lib.hid hbs
          have hgr : g < wr.heap.size := by have := HBX.out.size; omega
          clear hca hcl hte hle hL2 hbs hF hd
          by_cases heq : d.k = (key : Int)
          · have HEQ := Lib.hid heq
            rw [heq] at c1
            clear heq
            go_wp2_with (at_builtin; refine wpList_append_row layE rfl _ _ rfl rfl (HRF.out.alloc _) (flat_one' _) (by have := HBX.out.size; simp; omega) 1 rfl (rd_one wr ⟨d.t, (key : Int), d.z⟩ 39) rfl (flat_one' _) HFL.out ?_; intro v2 w2 hr2 ht2 ho2; (have HR2 := Lib.hid hr2); (have HT2 := Lib.hid ht2); (clear hr2 ht2 ho2))
            go_roundg (M - (j + 1))
            case measure => omega
            case rel =>
              have hdd : (⟨d.t, (key : Int), d.z⟩ : Ent) = d := by rw [← HEQ.out]
              have hba := HBX.out.alloc HBX.out.size (.cells #[.int .i64 d.t, .int .u32 (key : Int), .int .u64 d.z] 39)
              have hb2 := HT2.out.below (B := w.heap.size) (by have := hba.size; exact this) (fun j hj e => by have := (HRF.out.lt j e).1; omega)
              have hbk := HBK.out
              rw [if_pos HEQ.out] at hbk
              refine ⟨j + 1, by omega, rfl, by go_num, ?_, hba.trans hb2⟩
              rw [show cum Ls i + (j + 1) = cum Ls i + j + 1 by omega, hbk]
              have h2 := HR2.out
              rw [hdd] at h2
              show Row _ _ 3 _ (F ++ [d]).length (flat (F ++ [d]))
              rw [flat_app, List.length_append, List.length_singleton]
              exact h2
          · have he : (d.k == (key : Int)) = false := by rw [beq_eq_false_iff_ne]; exact heq
            have HEQ := Lib.hid heq
            clear heq
            go_wp2_with fail
            go_roundg (M - (j + 1))
            case measure => omega
            case rel =>
              have hbk := HBK.out
              rw [if_neg HEQ.out] at hbk
              refine ⟨j + 1, by omega, rfl, by go_num, ?_, HBX.out⟩
              rw [show cum Ls i + (j + 1) = cum Ls i + j + 1 by omega, hbk]
              exact HRF.out
        · obtain rfl : j = M := by omega
          go_wp2_with fail
          go_roundg (N - (i + 1))
          case measure => omega
          case rel =>
            refine ⟨i + 1, by omega, rfl, by go_num, ?_, HBX.out⟩
            rw [HCS.out]; exact HR3.out
    · obtain rfl : i = N := by omega
      have hall : E.take (cum Ls i) = E := by
        rw [HN.out, cum_all, ← HE.out, List.take_length]
      have HRF : Hid (RowE wm w.heap.size u5 (kf (key : Int) E)) := Lib.hid (by have := HR.out; rwa [hall] at this)
      clear hall
      go_wp2_with fail
      go_ret
      exact ⟨_, rfl, HRF.out, HB.out⟩
end Go.Proofs.Ytjblpdnhkoemjaa
