/- Texts of this seat, one behind the other. -/
import Derived.Test.YthafnphpcdbnlaaGreatDoorMLawNew23
set_option linter.unusedVariables false
set_option linter.unusedSimpArgs false
set_option linter.unusedVariables false
set_option linter.unusedSimpArgs false
namespace Go.Proofs.YthafnphpcdbnlaaGreatDoor.S10
open Go.Proofs.YthafnphpcdbnlaaGreatDoor
open Go.RowKit

theorem reh_step (h : Nat → Nat) (k : Nat) (E : List Ent) : reh h (k + 1) E = reh h k E ++ [bk h k E] := by
  unfold reh
  rw [List.range_succ, List.map_append]; rfl
theorem take_el {E : List Ent} {m : Nat} (h : m < E.length) : E.take (m + 1) = E.take m ++ [el E m] := take_snoc h
set_option maxHeartbeats 4000000 in
set_option maxRecDepth 20000 in
theorem rrehash_any {w : World} {base n c : Nat} {b : Int} {A : Option Addr} {Ls : List (List Ent)} (h : Nat → Nat)
    (hs : ∀ w, Calls Tryz.prog 81 #[.int .i64 b] w fun e w' => e = .returned (.int .i64 (n : Nat)) ∧ w = w')
    (hh : 0 < n → ∀ (k : Nat) w, k < 4294967296 → Calls Tryz.prog 82 #[.int .u32 k, .int .i64 b] w fun e w' => e = .returned (.int .i64 (h k : Nat)) ∧ w = w')
    (hn : n ≤ 256) (hq : Qs w base A Ls) (hbase : base ≤ w.heap.size) (hc : Ls.length ≤ c) (hc9 : c ≤ 9223372036854775807) (hkeys : Keys Ls.flatten) (hlen : Ls.length ≤ 1000000) (hlen2 : Ls.flatten.length ≤ 100000) :
    Calls Tryz.prog 53 #[.slice A Ls.length c, .int .i64 b] w fun e w' => ∃ s ss, e = .returned s ∧ Tab w' w.heap.size s ss (reh h n Ls.flatten) ∧ Below w.heap.size w w' := by
  have HS := Lib.hid hs; have HH := Lib.hid hh; have HQ := Lib.hid hq; have HK := Lib.hid hkeys; have HBS := Lib.hid hbase; have HL2 := Lib.hid hlen2
  clear hs hh hq hkeys hbase hlen2
  obtain ⟨N, hN⟩ : ∃ N, N = Ls.length := ⟨_, rfl⟩
  rw [← hN] at hc hlen ⊢
  have HN := Lib.hid hN
  clear hN
  obtain ⟨E, hE⟩ : ∃ E, E = Ls.flatten := ⟨_, rfl⟩
  have HE := Lib.hid hE
  rw [← hE] at HL2 ⊢
  clear hE
  go_enter Tryz.func53, Tryz.ntmps53
  go_wp2_with fail
  go_loopg [5, 6] n (fun q s5 s6 wx => ∃ (k : Nat) (ss : List Value), k ≤ n ∧ q = n - k ∧ s6 = .int .i64 (k : Int) ∧ Tab wx w.heap.size s5 ss (reh h k E) ∧ Below w.heap.size w wx)
  case atStart => exact ⟨0, [], by omega, rfl, rfl, tab_nil _ _, Below.refl _ _⟩
  case round =>
    obtain ⟨k, ss, hk, rfl, rfl, ht, hb⟩ := hrel
    have HT := Lib.hid ht; have HB := Lib.hid hb
    clear ht hb
    obtain ⟨wo, rfl⟩ : ∃ wo : World, wo = wr := ⟨_, rfl⟩
    by_cases hkn : k < n
    · have HHH := Lib.hid (HH.out (by omega))
      go_wp2_with (go_at_call 81; refine (HS.out _).mono ?_; rintro e w' ⟨rfl, rfl⟩)
      go_loopg [7, 8] N (fun q s7 s8 wx => ∃ i : Nat, i ≤ N ∧ q = N - i ∧ s8 = .int .i64 (i : Int) ∧ RowE wx wo.heap.size s7 (bk h k (E.take (cum Ls i))) ∧ (s7 = .slice none 0 0 ∨ 0 < (bk h k (E.take (cum Ls i))).length) ∧ Below wo.heap.size wo wx)
      case atStart => exact ⟨0, by omega, rfl, rfl, row_nil _ _ _, Or.inl rfl, Below.refl _ _⟩
      case round =>
        obtain ⟨i, hi, rfl, rfl, hrow, hnn, hbo⟩ := hrel
        have HR := Lib.hid hrow; have HNN := Lib.hid hnn; have HBO := Lib.hid hbo
        clear hrow hnn hbo
        obtain ⟨wm, rfl⟩ : ∃ wm : World, wm = wr := ⟨_, rfl⟩
        by_cases hiN : i < N
        · have hil : i < Ls.length := by have := HN.out; omega
          have hbw : Below w.heap.size w wm := HB.out.trans (HBO.out.mono HB.out.size)
          have HBW := Lib.hid hbw
          obtain ⟨g, o, A', c', rfl, hg, cq0, hc', hc9', hrd⟩ := HQ.out.at hil
          have HRD := Lib.hid hrd
          have HKI := Lib.hid (fun j => keys_in HK.out hil (j := j))
          have HCS := Lib.hid (cum_succ hil)
          have hca : ∀ j, j < Ls[i]!.length → el Ls.flatten (cum Ls i + j) = el Ls[i]! j := fun j hj => cum_at hil hj
          have hcl : ∀ j, j < Ls[i]!.length → cum Ls i + j < Ls.flatten.length := fun j hj => cum_mono hil hj
          rw [← HE.out] at hca hcl
          have HCA := Lib.hid hca; have HCL := Lib.hid hcl
          obtain ⟨D, hD⟩ : ∃ D, D = Ls[i]! := ⟨_, rfl⟩
          rw [← hD] at cq0 hc' HRD HKI HCS HCA HCL
          obtain ⟨M, hM⟩ : ∃ M, M = D.length := ⟨_, rfl⟩
          rw [← hM] at cq0 hc' HKI HCS HCA HCL
          have HM := Lib.hid hM
          clear hM hD hrd hbw hca hcl
          have hgw : g < w.heap.size := by have := HBS.out; omega
          have cq : wm.cell? ⟨g, o + i, none⟩ = some (.slice A' M c') := (HBW.out.cell (p := ⟨g, o + i, none⟩) hgw).trans cq0
          have CQ0 := Lib.hid cq0
          clear cq0
          go_wp2_with fail
          go_loopg [7, 9] M (fun q s7 s9 wx => ∃ j : Nat, j ≤ M ∧ q = M - j ∧ s9 = .int .i64 (j : Int) ∧ RowE wx wo.heap.size s7 (bk h k (E.take (cum Ls i + j))) ∧ (s7 = .slice none 0 0 ∨ 0 < (bk h k (E.take (cum Ls i + j))).length) ∧ Below wo.heap.size wo wx ∧ Below w.heap.size w wx)
          case atStart => exact ⟨0, by omega, rfl, rfl, HR.out, HNN.out, HBO.out, HBW.out⟩
          case round =>
            obtain ⟨j, hj, rfl, rfl, hrow, hnn, hbo, hbx⟩ := hrel
            have HR3 := Lib.hid hrow; have HNN3 := Lib.hid hnn; have HBO3 := Lib.hid hbo; have HBX := Lib.hid hbx
            clear hrow hnn hbo hbx
            have cq3 : wr.cell? ⟨g, o + i, none⟩ = some (.slice A' M c') := (HBX.out.cell (p := ⟨g, o + i, none⟩) hgw).trans CQ0.out
            by_cases hjm : j < M
            · obtain ⟨kk, hkk, hk2⟩ := HKI.out j hjm
              obtain ⟨g1, o1, rfl, hg1, c0, c1, c2⟩ := (HRD.out.below HBX.out HBS.out).key (i := j) (by have := HM.out; omega) hkk
              have hca := HCA.out j hjm
              have hcl := HCL.out j hjm
              have hte := take_el (E := E) (m := cum Ls i + j) hcl
              rw [hca] at hte
              have hle := bk_le h k (E.take (cum Ls i + j))
              rw [List.length_take] at hle
              have hL2 := HL2.out
              have hbs := bk_snoc h k (E.take (cum Ls i + j)) (el D j)
              rw [← hte] at hbs
              obtain ⟨F, hF⟩ : ∃ F, F = bk h k (E.take (cum Ls i + j)) := ⟨_, rfl⟩
              rw [← hF] at hle hbs
              have HRF : Hid (RowE wr wo.heap.size u7 F) := Lib.hid (by rw [hF]; exact HR3.out)
              have HNF : Hid (u7 = .slice none 0 0 ∨ 0 < F.length) := Lib.hid (by rw [hF]; exact HNN3.out)
              obtain ⟨d, hd⟩ : ∃ d, d = el D j := ⟨_, rfl⟩
              rw [← hd] at c0 c2 hkk hbs
              rw [hkk, Int.toNat_natCast] at hbs
              have HFL := Lib.hid (show F.length + 1 ≤ 1000000 by omega)
              have HBK := Lib.hid hbs
              have HKK := Lib.hid hkk
              have hgr : g < wr.heap.size := by have := HBX.out.size; omega
              clear hca hcl hte hle hL2 hbs hF hd hkk
              by_cases heq : h kk = k
              · have he : ((h kk : Nat) : Int) = (k : Int) := by omega
                go_wp2_with (first
                  | (go_at_call 82; refine (HHH.out kk _ hk2).mono ?_; rintro e w' ⟨rfl, rfl⟩)
                  | (at_builtin; refine wpList_append_row layO rfl _ _ rfl rfl (HRF.out.alloc _) (flat_one' _) (by have := HBO3.out.size; simp; omega) 1 rfl (rd_one wr ⟨d.t, (kk : Int), d.z⟩ 193) rfl (flat_one' _) HFL.out ?_; intro v2 w2 hr2 ht2 ho2; (have HR2 := Lib.hid hr2); (have HT2 := Lib.hid ht2); (clear hr2 ht2 ho2)))
                go_roundg (M - (j + 1))
                case measure => omega
                case rel =>
                  have hdd : (⟨d.t, (kk : Int), d.z⟩ : Ent) = d := by rw [← HKK.out]
                  have hba := HBO3.out.alloc HBO3.out.size (.cells #[.int .i64 d.t, .int .u32 (kk : Int), .int .u64 d.z] 193)
                  have hb2 := HT2.out.below (B := wo.heap.size) (by have := hba.size; exact this) (fun j hj e => by have := (HRF.out.lt j e).1; omega)
                  have hb3 := hba.trans hb2
                  have hbk := HBK.out
                  rw [if_pos heq] at hbk
                  refine ⟨j + 1, by omega, rfl, by go_num, ?_, ?_, hb3, HB.out.trans (hb3.mono HB.out.size)⟩
                  · rw [show cum Ls i + (j + 1) = cum Ls i + j + 1 by omega, hbk]
                    have h2 := HR2.out
                    rw [hdd] at h2
                    show Row _ _ 3 _ (F ++ [d]).length (flat (F ++ [d]))
                    rw [flat_app, List.length_append, List.length_singleton]
                    exact h2
                  · rw [show cum Ls i + (j + 1) = cum Ls i + j + 1 by omega, hbk]
                    exact Or.inr (by simp)
              · have he : (((h kk : Nat) : Int) == (k : Int)) = false := by rw [beq_eq_false_iff_ne]; omega
                go_wp2_with (go_at_call 82; refine (HHH.out kk _ hk2).mono ?_; rintro e w' ⟨rfl, rfl⟩)
                go_roundg (M - (j + 1))
                case measure => omega
                case rel =>
                  have hbk := HBK.out
                  rw [if_neg heq] at hbk
                  refine ⟨j + 1, by omega, rfl, by go_num, ?_, ?_, HBO3.out, HBX.out⟩
                  · rw [show cum Ls i + (j + 1) = cum Ls i + j + 1 by omega, hbk]
                    exact HRF.out
                  · rw [show cum Ls i + (j + 1) = cum Ls i + j + 1 by omega, hbk]
                    exact HNF.out
            · obtain rfl : j = M := by omega
              go_wp2_with fail
              go_roundg (N - (i + 1))
              case measure => omega
              case rel =>
                refine ⟨i + 1, by omega, rfl, by go_num, ?_, ?_, HBO3.out⟩
                · rw [HCS.out]; exact HR3.out
                · rw [HCS.out]; exact HNN3.out
        · obtain rfl : i = N := by omega
          have hall : E.take (cum Ls i) = E := by
            rw [HN.out, cum_all, ← HE.out, List.take_length]
          have HRF : Hid (RowE wm wo.heap.size u7 (bk h k E)) := Lib.hid (by have := HR.out; rwa [hall] at this)
          have HNF : Hid (u7 = .slice none 0 0 ∨ 0 < (bk h k E).length) := Lib.hid (by have := HNN.out; rwa [hall] at this)
          obtain ⟨A1, c1, rfl, _, _⟩ := HRF.out.shape
          obtain ⟨m1, hm1⟩ : ∃ m1, m1 = (bk h k E).length := ⟨_, rfl⟩
          rw [← hm1]
          have HM1 := Lib.hid hm1
          have htl : (reh h k E).length = k := reh_len h k E
          have HTL := Lib.hid htl
          have hL2 := HL2.out
          have HTB : Hid (Tab wm w.heap.size u5 ss (reh h k E)) := Lib.hid (HT.out.new HBO.out)
          clear hm1 hall htl
          go_wp2_with (at_builtin; refine wpList_append_row layR rfl _ _ rfl rfl (HTB.out.row.alloc _) HT.out.one (by have := HB.out.size; have := HBO.out.size; simp; omega) 1 rfl (rd_one1 wm (.slice A1 m1 c1) 181) rfl (fun u hu => by simp at hu; rw [hu]; rfl) (by have := HTL.out; omega) ?_; intro v2 w2 hr2 ht2 ho2; (have HR2 := Lib.hid hr2); (have HT2 := Lib.hid ht2); (have HO2 := Lib.hid ho2); (clear hr2 ht2 ho2))
          go_roundg (n - (k + 1))
          case measure => omega
          case rel =>
            have hba := HBO.out.alloc HBO.out.size (.cells #[.slice A1 m1 c1] 181)
            have hrow : RowE wm wo.heap.size (.slice A1 m1 c1) (bk h k E) := by rw [HM1.out]; exact HRF.out
            refine ⟨k + 1, ss ++ [.slice A1 m1 c1], by omega, rfl, by go_num, ?_, ?_⟩
            · rw [reh_step]
              exact HT.out.push HB.out.size hba (hrow.alloc _) ((cb_of hrow (by rw [HM1.out]; exact HNF.out)).turn ((Turns.refl (fun _ => False) _).alloc _) (fun _ _ e => e)) (by have := HR2.out; exact this) HT2.out HO2.out
            · exact HB.out.trans ((hba.mono HB.out.size).trans (HT2.out.below (by have := HB.out.size; have := hba.size; omega) (fun j hj e => by have := (HT.out.row.lt j e).1; omega)))
    · obtain rfl : k = n := by omega
      go_wp2_with (go_at_call 81; refine (HS.out _).mono ?_; rintro e w' ⟨rfl, rfl⟩)
      go_ret
      exact ⟨_, ss, rfl, HT.out, HB.out⟩
end Go.Proofs.YthafnphpcdbnlaaGreatDoor.S10
set_option linter.unusedVariables false
set_option linter.unusedSimpArgs false
namespace Go.Proofs.YthafnphpcdbnlaaGreatDoor.S10
open Go.Proofs.YthafnphpcdbnlaaGreatDoor
open Go.RowKit

/-- A table of so many bits, or none (the document's calls alone). -/
structure Kit (b : Int) (n : Nat) (h : Nat → Nat) : Prop where
  rsize : ∀ w, Calls Tryz.prog 81 #[.int .i64 b] w fun e w' => e = .returned (.int .i64 (n : Nat)) ∧ w = w'
  rhash : 0 < n → ∀ (k : Nat) w, k < 4294967296 → Calls Tryz.prog 82 #[.int .u32 k, .int .i64 b] w fun e w' => e = .returned (.int .i64 (h k : Nat)) ∧ w = w'
  lt : 0 < n → ∀ k, k < 4294967296 → h k < n
  few : n ≤ 256
theorem kits : ∃ h : Nat → Nat → Nat, (∀ k : Nat, 2 ≤ k → k ≤ 8 → Kit (k : Int) (2 ^ k) (h k)) ∧ ∀ b : Nat, b < 64 → ∀ k, h (b + 1) k / 2 = h b k := by
  refine ⟨fun b k => hsh k b, fun k hk hk8 => ?_, fun b hb k => hsh_half k b hb⟩
  have hz : sizeN (k : Int) = 2 ^ k := by unfold sizeN; rw [if_pos (by omega)]; rfl
  refine ⟨fun w => ?_, fun _ x w hx => rhash_yes x k hx hk hk8 w, fun _ x _ => hsh_lt x k (by omega), pow_bits k (by omega)⟩
  rw [← hz]; exact rsize_any k w
end Go.Proofs.YthafnphpcdbnlaaGreatDoor.S10
set_option linter.unusedVariables false
set_option linter.unusedSimpArgs false
namespace Go.Proofs.YthafnphpcdbnlaaGreatDoor.S10
open Go.Proofs.YthafnphpcdbnlaaGreatDoor
open Go.RowKit

/-- A bucket: its timer, its queue. -/
structure Bk where
  a : Int
  f : Int
  q : List Ent
instance : Inhabited Bk := ⟨⟨0, 0, []⟩⟩
abbrev nilS : Value := .slice none 0 0
/-- A bucket's cells, one behind the other: at, fired, queue. -/
def bcell (L : List Bk) (V : Nat → Value) (j : Nat) : Value :=
  if j % 3 = 0 then .int .u64 L[j / 3]!.a else if j % 3 = 1 then .int .u64 L[j / 3]!.f else V (j / 3)
def bflat (L : List Bk) (V : Nat → Value) : List Value := (List.range (L.length * 3)).map (bcell L V)
theorem bflat_len (L : List Bk) (V : Nat → Value) : (bflat L V).length = L.length * 3 := by simp [bflat]
theorem bflat_at (L : List Bk) (V : Nat → Value) {j : Nat} (h : j < L.length * 3) : (bflat L V)[j]? = some (bcell L V j) := by simp [bflat, h]
theorem bflat_get (L : List Bk) (V : Nat → Value) {i : Nat} (h : i < L.length) : (bflat L V)[i * 3]? = some (.int .u64 L[i]!.a) ∧ (bflat L V)[i * 3 + 1]? = some (.int .u64 L[i]!.f) ∧ (bflat L V)[i * 3 + 2]? = some (V i) := by
  refine ⟨?_, ?_, ?_⟩
  · rw [bflat_at L V (by omega)]
    simp [bcell]
  · rw [bflat_at L V (by omega)]
    simp [bcell, Nat.add_mod, show (i * 3 + 1) / 3 = i by omega]
  · rw [bflat_at L V (by omega)]
    simp [bcell, Nat.add_mod, show (i * 3 + 2) / 3 = i by omega]
/-- A function, told anew at one place. -/
def upd {α β : Type} [DecidableEq α] (f : α → β) (x : α) (y : β) : α → β := fun z => if z = x then y else f z
theorem upd_same {α β : Type} [DecidableEq α] (f : α → β) (x : α) (y : β) : upd f x y x = y := by simp [upd]
theorem upd_ne {α β : Type} [DecidableEq α] (f : α → β) {x z : α} (y : β) (h : z ≠ x) : upd f x y z = f z := by simp [upd, h]
theorem bflat_ext {L L' : List Bk} {V V' : Nat → Value} {cs : List Value} (hl : cs.length = L'.length * 3) (h : ∀ j, j < L'.length * 3 → cs[j]? = some (bcell L' V' j)) : cs = bflat L' V' := by
  refine List.ext_getElem? fun j => ?_
  by_cases hj : j < L'.length * 3
  · rw [h j hj, bflat_at L' V' hj]
  · rw [List.getElem?_eq_none (by omega), List.getElem?_eq_none (by rw [bflat_len]; omega)]
/-- A queue put. -/
theorem bflat_q (L : List Bk) (V : Nat → Value) {i : Nat} (h : i < L.length) (v : Value) (q : List Ent) : (bflat L V).set (i * 3 + 2) v = bflat (L.set i { L[i]! with q := q }) (upd V i v) := by
  refine bflat_ext (L := L) (V := V) (by rw [List.length_set, List.length_set, bflat_len]) fun j hj => ?_
  rw [List.length_set] at hj
  unfold bcell
  rw [get_set h]
  by_cases e : j = i * 3 + 2
  · subst e
    rw [List.getElem?_set_self (by rw [bflat_len]; omega)]
    simp [Nat.add_mod, show (i * 3 + 2) / 3 = i by omega, upd_same]
  · rw [List.getElem?_set_ne (fun e' => e e'.symm), bflat_at L V hj]
    unfold bcell
    by_cases e2 : j / 3 = i
    · subst e2
      have : j % 3 ≠ 2 := fun e3 => e (by omega)
      by_cases e4 : j % 3 = 0
      · simp [e4]
      · simp [show j % 3 = 1 by omega]
    · rw [if_neg e2, upd_ne V v e2]
/-- A timer put: its first number, its second. -/
theorem bflat_a (L : List Bk) (V : Nat → Value) {i : Nat} (h : i < L.length) (a : Int) : (bflat L V).set (i * 3) (.int .u64 a) = bflat (L.set i { L[i]! with a := a }) V := by
  refine bflat_ext (L := L) (V := V) (by rw [List.length_set, List.length_set, bflat_len]) fun j hj => ?_
  rw [List.length_set] at hj
  unfold bcell
  rw [get_set h]
  by_cases e : j = i * 3
  · subst e
    rw [List.getElem?_set_self (by rw [bflat_len]; omega)]
    simp
  · rw [List.getElem?_set_ne (fun e' => e e'.symm), bflat_at L V hj]
    unfold bcell
    by_cases e2 : j / 3 = i
    · subst e2
      have : j % 3 ≠ 0 := fun e3 => e (by omega)
      by_cases e4 : j % 3 = 1
      · simp [e4]
      · simp [show j % 3 = 2 by omega]
    · rw [if_neg e2]
theorem bflat_f (L : List Bk) (V : Nat → Value) {i : Nat} (h : i < L.length) (f : Int) : (bflat L V).set (i * 3 + 1) (.int .u64 f) = bflat (L.set i { L[i]! with f := f }) V := by
  refine bflat_ext (L := L) (V := V) (by rw [List.length_set, List.length_set, bflat_len]) fun j hj => ?_
  rw [List.length_set] at hj
  unfold bcell
  rw [get_set h]
  by_cases e : j = i * 3 + 1
  · subst e
    rw [List.getElem?_set_self (by rw [bflat_len]; omega)]
    simp [Nat.add_mod, show (i * 3 + 1) / 3 = i by omega]
  · rw [List.getElem?_set_ne (fun e' => e e'.symm), bflat_at L V hj]
    unfold bcell
    by_cases e2 : j / 3 = i
    · subst e2
      have : j % 3 ≠ 1 := fun e3 => e (by omega)
      by_cases e4 : j % 3 = 0
      · simp [e4]
      · simp [show j % 3 = 2 by omega]
    · rw [if_neg e2]
/-- One cell of a list of a call's own, stored. -/
theorem Row.setAt {w : World} {base g o n sz cap m : Nat} {cs : List Value} (h : Row w base sz (.slice (some ⟨g, o, none⟩) m cap) n cs) {i : Nat} (hi : i < n * sz) (v : Value) : Row (w.setCell ⟨g, o + i, none⟩ v) base sz (.slice (some ⟨g, o, none⟩) m cap) n (cs.set i v) := by
  obtain ⟨A, cap', e, h0, h1, h2, h3, h4⟩ := h
  cases e
  refine ⟨_, cap, rfl, by rw [List.length_set]; exact h0, h1, h2, h3, fun ad e => ?_⟩
  cases e
  obtain ⟨g', o', e, hb, hlt, hl, hc⟩ := h4 _ rfl
  cases e
  have hcap : n * sz ≤ cap * sz := Nat.mul_le_mul_right _ h1
  refine ⟨g, o, rfl, hb, by simpa [World.setCell] using hlt, fun j u e => ?_, fun j hj => ⟨?_, ?_⟩⟩
  · by_cases ej : j = i
    · subst ej
      rw [List.getElem?_set_self (by omega)] at e
      cases e
      obtain ⟨x, hx⟩ := Option.isSome_iff_exists.1 (hc j (by omega)).1
      exact World.cell?_setCell_same _ _ _ hx
    · rw [List.getElem?_set_ne (fun e => ej e.symm)] at e
      rw [World.cell?_setCell_other _ _ _ _ (by simp <;> omega)]
      exact hl j u e
  · by_cases ej : j = i
    · subst ej
      obtain ⟨x, hx⟩ := Option.isSome_iff_exists.1 (hc j (by omega)).1
      rw [World.cell?_setCell_same _ _ _ hx]; rfl
    · rw [World.cell?_setCell_other _ _ _ _ (by simp <;> omega)]
      exact (hc j hj).1
  · rw [World.frozen?_setCell]
    exact (hc j hj).2

/-! ### the map -/
def secR (v : Value) : Option (DataW Value × List MemPlace) := some (.held v, [])
theorem key3 : Go.Maps.Keyed Tryz.prog 3 := Go.Maps.int_keyed Tryz.underlying3
def InI (b : Int) : Prop := -9223372036854775808 ≤ b ∧ b ≤ 9223372036854775807
theorem wfB {b : Int} (h : InI b) : (Lit.int .i64 b).wf = true := by
  unfold InI at h
  simp [Lit.wf, IntKind.min, IntKind.max, IntKind.bits, IntKind.signed]; omega
theorem keyB {b : Int} (h : InI b) : keyOf Tryz.prog 3 (.int .i64 b) = some (.int .i64 b) := Go.Maps.keyOf_int_mk Tryz.underlying3 (wfB h)
theorem isKeyB (b : Int) : WideAt.IsKeyLit (.int .i64 b) := trivial
/-- A map by bits: what is found at each. -/
def MapAt (w : World) (mb n : Nat) (F : Int → Value) : Prop :=
  ∃ D, w.ownsMap Tryz.prog 3 secR mb n D ∧ Go.Maps.IsMap D ∧ ∀ b, D.atKey (.int .i64 b) (.held nilS) = .held (F b)
theorem MapAt.lt {w : World} {mb n : Nat} {F : Int → Value} (h : MapAt w mb n F) : mb < w.heap.size := by
  obtain ⟨D, h, _⟩ := h
  exact h.lt
theorem MapAt.keep {S : Nat → Prop} {w w' : World} {mb n : Nat} {F : Int → Value} (h : MapAt w mb n F) (t : Turns S w w') (hs : ¬ S mb) : MapAt w' mb n F := by
  have hlt := h.lt
  obtain ⟨D, ⟨es, clock, hb, hF, hsz, hD⟩, h2, h3⟩ := h
  exact ⟨D, ⟨es, clock, (t.block mb hlt hs).trans hb, hF, hsz, hD⟩, h2, h3⟩
theorem MapAt.made (w : World) : MapAt (w.alloc (.map #[] 0)) w.heap.size 0 (fun _ => nilS) :=
  ⟨.map [], World.ownsMap_made w _ _ _, Go.Maps.isMap_empty, fun b => rfl⟩
theorem zero69 (w : World) : (zeroValue 144).run Tryz.prog w = .ok nilS w := by
  simp [zeroValue, go_sem, Tryz.underlying144]; rfl
theorem MapAt.look {w : World} {mb n : Nat} {F : Int → Value} (h : MapAt w mb n F) {b : Int} (hb : InI b) : (Instr.lookup 146 (.map (some mb)) (.int .i64 b) false).run Tryz.prog w = .ok (F b) w := by
  obtain ⟨D, h1, h2, h3⟩ := h
  obtain ⟨v, ps, hrun, hv⟩ := h1.lookup key3 Tryz.underlying146 (zero69 w) (z := nilS) (zd := .held nilS) (zp := []) rfl (keyB hb)
  rw [h3 b] at hv
  simp only [secR, Option.some.injEq, Prod.mk.injEq, DataW.held.injEq] at hv
  rw [hrun, hv.1]
theorem MapAt.put {w : World} {mb n : Nat} {F : Int → Value} (h : MapAt w mb n F) (hn : n < 1000000) {b : Int} (hb : InI b) (v : Value) : ∃ w', (Instr.mapUpdate 146 (.map (some mb)) (.int .i64 b) v).run Tryz.prog w = .ok () w' ∧ MapAt w' mb (n + 1) (upd F b v) ∧ w.grownBy w' (some mb) := by
  obtain ⟨D, h1, h2, h3⟩ := h
  obtain ⟨w', hrun, h4, h5⟩ := h1.update key3 Tryz.underlying146 (by unfold maxLen; omega) (key := .int .i64 b) (val := v) (keyB hb) (d := .held v) (ps := []) rfl
  refine ⟨w', hrun, ⟨_, h4, h2.put _ _, fun x => ?_⟩, h5⟩
  by_cases e : x = b
  · subst e
    rw [Go.Maps.atKey_put_same h2 (isKeyB x), upd_same]
  · rw [Go.Maps.atKey_put_other (fun e' => e (by simpa using e')), upd_ne F v e, h3]
end Go.Proofs.YthafnphpcdbnlaaGreatDoor.S10
set_option linter.unusedVariables false
set_option linter.unusedSimpArgs false
namespace Go.Proofs.YthafnphpcdbnlaaGreatDoor.S10
open Go.Proofs.YthafnphpcdbnlaaGreatDoor
open Go.RowKit

/-- A set, or none, and what is found at each number of bits. -/
def Sv (w : World) (s : Value) (F : Int → Value) : Prop :=
  (s = .pointer none ∧ ∀ b, F b = nilS) ∨ ∃ sb, s = .pointer (some ⟨sb, 0, none⟩) ∧
    ((w.cell? ⟨sb, 0, none⟩ = some (.map none) ∧ ∀ b, F b = nilS) ∨ ∃ mb n, w.cell? ⟨sb, 0, none⟩ = some (.map (some mb)) ∧ MapAt w mb n F)
theorem Sv.below {w w' : World} {s : Value} {F : Int → Value} (h : Sv w s F) (hb : Below w.heap.size w w') : Sv w' s F := by
  rcases h with h | ⟨sb, rfl, ⟨hc, hF⟩ | ⟨mb, n, hc, hm⟩⟩
  · exact .inl h
  · refine .inr ⟨sb, rfl, .inl ⟨?_, hF⟩⟩
    have : sb < w.heap.size := (Array.getElem?_eq_some_iff.1 (cells_at (g := sb) (o := 0) (by rw [hc]; rfl)).choose_spec.choose_spec.choose_spec).1
    rw [hb.cell (p := ⟨sb, 0, none⟩) this]
    exact hc
  · refine .inr ⟨sb, rfl, .inr ⟨mb, n, ?_, hm.keep (Turns.of_below (S := fun _ => False) hb) (fun h => h)⟩⟩
    have : sb < w.heap.size := (Array.getElem?_eq_some_iff.1 (cells_at (g := sb) (o := 0) (by rw [hc]; rfl)).choose_spec.choose_spec.choose_spec).1
    rw [hb.cell (p := ⟨sb, 0, none⟩) this]
    exact hc
theorem table_any {w : World} {s : Value} {F : Int → Value} (h : Sv w s F) {b : Int} (hb : InI b) : Calls Tryz.prog 86 #[s, .int .i64 b] w fun e w' => e = .returned (F b) ∧ w = w' := by
  rcases h with ⟨rfl, hF⟩ | ⟨sb, rfl, ⟨hc, hF⟩ | ⟨mb, n, hc, hm⟩⟩
  · rw [hF b]
    clear hF
    go_enter Tryz.func86, Tryz.ntmps86
    go_wp2_with fail
    go_ret
    exact ⟨rfl, rfl⟩
  · rw [hF b]
    clear hF
    have hl : (Instr.lookup 146 (.map none) (.int .i64 b) false).run Tryz.prog w = .ok nilS w := Go.Maps.look_nil false key3 Tryz.underlying146 (zero69 w) (keyB hb)
    go_enter Tryz.func86, Tryz.ntmps86
    go_wp2_with fail
    go_ret
    exact ⟨rfl, rfl⟩
  · have hl := hm.look hb
    generalize F b = v at hl
    clear hm
    go_enter Tryz.func86, Tryz.ntmps86
    go_wp2_with fail
    go_ret
    exact ⟨rfl, rfl⟩
theorem has_any {w : World} {s : Value} {F : Int → Value} (h : Sv w s F) {b : Int} (hb : InI b) {A : Option Addr} {m c : Nat} (hF : F b = .slice A m c) : Calls Tryz.prog 62 #[s, .int .i64 b] w fun e w' => e = .returned (.bool (decide (0 < m))) ∧ w = w' := by
  have HT := Lib.hid (table_any h hb)
  rw [hF] at HT
  clear h hF
  go_enter Tryz.func62, Tryz.ntmps62
  go_wp2_with (go_at_call 86; refine HT.out.mono ?_; rintro e w' ⟨rfl, rfl⟩)
  go_ret
  exact ⟨by simp, rfl⟩
theorem at_no {w : World} {s : Value} {F : Int → Value} (h : Sv w s F) {b i : Int} (hb : InI b) {A : Option Addr} {m c : Nat} (hF : F b = .slice A m c) (hi : i < 0 ∨ (m : Int) ≤ i) :
    Calls Tryz.prog 87 #[s, .agg #[.int .i64 b, .int .i64 i]] w fun e w' => e = .returned (.pointer none) ∧ Below w.heap.size w w' := by
  have HT := Lib.hid (fun o => table_any (h.below (below1 w o)) hb)
  rw [hF] at HT
  clear h hF
  by_cases h0 : i < 0
  · have e0 : decide (i < 0) = true := by simpa using h0
    go_enter Tryz.func87, Tryz.ntmps87
    go_wp2_with (go_at_call 86; refine (HT.out _).mono ?_; rintro e w' ⟨rfl, rfl⟩)
    go_ret
    exact ⟨rfl, below1 w _⟩
  · have e0 : decide (i < 0) = false := by simpa using h0
    have e1 : decide ((m : Int) ≤ i) = true := by simp; omega
    go_enter Tryz.func87, Tryz.ntmps87
    go_wp2_with (go_at_call 86; refine (HT.out _).mono ?_; rintro e w' ⟨rfl, rfl⟩)
    go_ret
    exact ⟨rfl, below1 w _⟩
theorem at_yes {w : World} {s : Value} {F : Int → Value} (h : Sv w s F) {b : Int} {i : Nat} (hb : InI b) {g o m c : Nat} (hF : F b = .slice (some ⟨g, o, none⟩) m c) (hi : i < m) :
    Calls Tryz.prog 87 #[s, .agg #[.int .i64 b, .int .i64 (i : Int)]] w fun e w' => e = .returned (.pointer (some ⟨g, o + i * 3, none⟩)) ∧ Below w.heap.size w w' := by
  have HT := Lib.hid (fun o => table_any (h.below (below1 w o)) hb)
  rw [hF] at HT
  clear h hF
  have e0 : decide ((i : Int) < 0) = false := by simp
  have e1 : decide ((m : Int) ≤ (i : Int)) = false := by simp; omega
  have e2 : ¬ m ≤ i := by omega
  go_enter Tryz.func87, Tryz.ntmps87
  go_wp2_with (go_at_call 86; refine (HT.out _).mono ?_; rintro e w' ⟨rfl, rfl⟩)
  go_ret
  exact ⟨rfl, below1 w _⟩
theorem copied_any {w : World} {base : Nat} {A : Option Addr} {D : List Ent} (c : Nat) (hr : Rd w base A (flat D)) (hbase : base ≤ w.heap.size) (hlen : D.length ≤ 1000000) :
    Calls Tryz.prog 90 #[.slice A D.length c] w fun e w' => ∃ A', e = .returned (.slice A' D.length D.length) ∧ RowE w' w.heap.size (.slice A' D.length D.length) D ∧ Below w.heap.size w w' := by
  have HR := Lib.hid hr
  clear hr
  go_enter Tryz.func90, Tryz.ntmps90
  go_wp2_with (first
    | (at_builtin; refine wpList_append_row layE rfl _ _ rfl rfl (row_nil w w.heap.size 3) (fun u hu => by cases hu) (Nat.le_refl _) c rfl HR.out (flat_len D) (flat_one' D) (by omega) ?_; intro v' w2 hr2 ht2 ho2; (obtain ⟨A2, c2, rfl, hc2, hc29⟩ := hr2.shape); (have HR2 := Lib.hid hr2); (have HT2 := Lib.hid ht2); (clear hr2 ht2 ho2))
    | (go_at_call 99; refine (clip_any _ _ _ _ (by omega) (by omega)).mono ?_; rintro e w' ⟨rfl, rfl⟩))
  go_ret
  have hr := HR2.out
  simp only [Nat.zero_add, List.nil_append] at hr ⊢
  exact ⟨_, rfl, hr.clip, HT2.out.below (Nat.le_refl _) (fun k hk e => by change (none : Option Nat) = some k at e; cases e)⟩
end Go.Proofs.YthafnphpcdbnlaaGreatDoor.S10
