/- Texts of this seat, one behind the other. -/
import Derived.Test.YtieiiabbeglmfaaGreatDoorMLawFair2044
set_option linter.unusedVariables false
set_option linter.unusedSimpArgs false
set_option linter.unusedVariables false
set_option linter.unusedSimpArgs false
namespace Go.Proofs.YtieiiabbeglmfaaGreatDoor.S19
open Go.Proofs.YtieiiabbeglmfaaGreatDoor Go.Proofs.YtieiiabbeglmfaaGreatDoor.S11 Go.Proofs.YtieiiabbeglmfaaGreatDoor.S12 Go.Proofs.YtieiiabbeglmfaaGreatDoor.S13 Go.Proofs.YtieiiabbeglmfaaGreatDoor.S14 Go.Proofs.YtieiiabbeglmfaaGreatDoor.S15 Go.Proofs.YtieiiabbeglmfaaGreatDoor.S16 Go.Proofs.YtieiiabbeglmfaaGreatDoor.S18
open Go.RowKit
structure Od where
  t : Nat
  k : Nat
  z : Nat
structure Ro where
  m : Nat
  more : Bool
  fair : Bool
  th : Int
def ro0 : Ro := ⟨0, false, false, 0⟩
def roN : Ro := ⟨0, false, false, -1⟩
structure On where
  ln : Nat
  D : Od
  told : Bool
  R : Ro
  E : En
  F : Fr
def on0 (D : Od) : On := ⟨1, D, false, ro0, en0 D.t D.k, fr0 0⟩
def fireB (M : Sd) (pb : Int) (pi : Nat) : Bool := decide ((M.m pb)[pi]!.a < (M.T : Int))
def fireM (M : Sd) (pb : Int) (pi : Nat) : Sd :=
  if fireB M pb pi = true then { M with D := M.D.tail, m := S10.upd M.m pb ((M.m pb).set pi { (M.m pb)[pi]! with a := ((S8.sat M.T (drawN M.D M.most) : Nat) : Int), f := (M.T : Int) }) } else M
def takeI (M : Sd) (pb : Int) (pi ky : Nat) : Int := S10.idx (S10.byKey (ky : Int)) (qAt M pb pi)
def takeB (M : Sd) (pb : Int) (pi ky : Nat) : Bool := S10.cutB (qAt M pb pi) (takeI M pb pi ky)
def takeL (M : Sd) (pb : Int) (pi ky : Nat) : List S10.Ent := S10.cutL (qAt M pb pi) (takeI M pb pi ky)
def takeW (M : Sd) (pb : Int) (pi ky : Nat) : Int := (S10.cutE (qAt M pb pi) (takeI M pb pi ky)).t
def takeN (M : Sd) (t : Nat) (pb : Int) (pi ky : Nat) : Sd :=
  (M.putq pb pi (takeL M pb pi ky)).note ⟨((M.n + M.pn : Nat) : Int), (t : Int), 2, (ky : Int), takeW M pb pi ky, 0, 0⟩
def takeM (M : Sd) (t : Nat) (pb : Int) (pi ky : Nat) : Sd := if takeB M pb pi ky = true then fireM (takeN M t pb pi ky) pb pi else M
def takeR (M : Sd) (t : Nat) (pb : Int) (pi ky : Nat) : Ro :=
  if takeB M pb pi ky = true then ⟨1, decide (0 ≤ S10.idx (S10.byKey (ky : Int)) (takeL M pb pi ky)), fireB (takeN M t pb pi ky) pb pi, takeW M pb pi ky⟩ else roN
def unpM (M : Sd) (P : On) : Sd := (M.unpark (2 * P.R.th.toNat)).tok P.R.th.toNat P.D.z
def onM (M : Sd) (P : On) : Sd :=
  match P.ln with
  | 1 => if (enE M P.E).ln = 0 then takeM (enM M P.E) P.D.t (bitsN (enE M P.E).tw : Int) (bktN P.D.k (enE M P.E).tw) P.D.k else enM M P.E
  | 3 => unpM M P
  | 4 => fstepM M P.F
  | _ => M
def onE (M : Sd) (P : On) : On :=
  match P.ln with
  | 1 => if (enE M P.E).ln = 0 then ⟨if takeB (enM M P.E) (bitsN (enE M P.E).tw : Int) (bktN P.D.k (enE M P.E).tw) P.D.k = true then 3 else 4, P.D, true, takeR (enM M P.E) P.D.t (bitsN (enE M P.E).tw : Int) (bktN P.D.k (enE M P.E).tw) P.D.k, enE M P.E, fr0 (plA (bitsN (enE M P.E).tw) (bktN P.D.k (enE M P.E).tw))⟩ else { P with E := enE M P.E }
  | 3 => { P with ln := 4 }
  | 4 => if (fstepK M P.F).ln = 0 then { P with ln := 0, F := fstepK M P.F } else { P with F := fstepK M P.F }
  | _ => P
structure OnOk (P : On) : Prop where
  ln : P.ln ≤ 4
  l2 : P.ln ≠ 2
  t : P.D.t < 64
  k : P.D.k < 4294967296
  z : P.D.z < 18446744073709551616
  e : EnOk P.E
  e1 : P.ln = 1 → P.E.ow = false
  ek : P.E.kw = P.D.k
  f : FOk P.F
  td : P.ln ≠ 1 → P.told = true
  t1 : P.ln = 1 → P.told = false ∧ P.R = ro0
  m3 : P.ln = 3 → P.R.m = 1
theorem ok_on {D : Od} (ht : D.t < 64) (hk : D.k < 4294967296) (hz : D.z < 18446744073709551616) : OnOk (on0 D) :=
  ⟨by show 1 ≤ 4; omega, by show 1 ≠ 2; omega, ht, hk, hz, ok_en ht (by omega), fun _ => rfl, rfl, fok_new (by omega), fun h => absurd rfl h, fun _ => ⟨rfl, rfl⟩, fun h => absurd h (by show ¬ 1 = 3; omega)⟩
theorem enE_kw2 {M : Sd} {E : En} (ok : EnOk E) (h : E.ow = false) : (enE M E).kw = E.kw := by
  have h1 := (ok.en h).1
  unfold enE
  split <;> (try split) <;> first | rfl | (rename_i e; exact absurd e h1)
theorem OnOk.step {M : Sd} {P : On} (h : OnOk P) (ms : 0 ≤ M.sp ∧ M.sp ≤ 16) (hl : ∀ a, S2.look M.L a < 18446744073709551616) (hk : ∀ i, M.lk i ≤ 64) : OnOk (onE M P) := by
  obtain ⟨ln, D, told, R, E, F⟩ := P
  have hln : ln ≤ 4 := h.ln
  have h2 : ln ≠ 2 := h.l2
  have ht : D.t < 64 := h.t
  have hk1 : D.k < 4294967296 := h.k
  have hz : D.z < 18446744073709551616 := h.z
  have hkw : E.kw = D.k := h.ek
  rcases (show ln = 0 ∨ ln = 1 ∨ ln = 3 ∨ ln = 4 by omega) with rfl | rfl | rfl | rfl
  · exact h
  · have hE := h.e.step ms hl hk
    have hO : (enE M E).ow = false := (enE_ow M E).1.trans (h.e1 rfl)
    have hK : (enE M E).kw = D.k := (enE_kw2 h.e (h.e1 rfl)).trans hkw
    show OnOk (if (enE M E).ln = 0 then _ else _)
    by_cases h0 : (enE M E).ln = 0
    · rw [if_pos h0]
      obtain ⟨b, hb⟩ : ∃ b, b = takeB (enM M E) (bitsN (enE M E).tw : Int) (bktN D.k (enE M E).tw) D.k := ⟨_, rfl⟩
      have hm : b = true → (takeR (enM M E) D.t (bitsN (enE M E).tw : Int) (bktN D.k (enE M E).tw) D.k).m = 1 := fun e => by unfold takeR; rw [← hb, if_pos e]
      show OnOk ⟨if takeB (enM M E) (bitsN (enE M E).tw : Int) (bktN D.k (enE M E).tw) D.k = true then 3 else 4, D, true, takeR (enM M E) D.t (bitsN (enE M E).tw : Int) (bktN D.k (enE M E).tw) D.k, enE M E, fr0 (plA (bitsN (enE M E).tw) (bktN D.k (enE M E).tw))⟩
      rw [← hb]
      generalize takeR (enM M E) D.t (bitsN (enE M E).tw : Int) (bktN D.k (enE M E).tw) D.k = Rr at *
      have hf := fok_new (plA_lt (bitsN (enE M E).tw) (bktN D.k (enE M E).tw))
      cases b
      · exact ⟨by show 4 ≤ 4; omega, by show 4 ≠ 2; omega, ht, hk1, hz, hE, fun e => absurd e (by show ¬ 4 = 1; omega), hK, hf, fun _ => rfl, fun e => absurd e (by show ¬ 4 = 1; omega), fun e => absurd e (by show ¬ 4 = 3; omega)⟩
      · exact ⟨by show 3 ≤ 4; omega, by show 3 ≠ 2; omega, ht, hk1, hz, hE, fun e => absurd e (by show ¬ 3 = 1; omega), hK, hf, fun _ => rfl, fun e => absurd e (by show ¬ 3 = 1; omega), fun _ => hm rfl⟩
    · rw [if_neg h0]
      exact ⟨by show 1 ≤ 4; omega, by show 1 ≠ 2; omega, ht, hk1, hz, hE, fun _ => hO, hK, h.f, fun e => absurd rfl e, fun _ => h.t1 rfl, fun e => absurd e (by show ¬ 1 = 3; omega)⟩
  · exact ⟨by show 4 ≤ 4; omega, by show 4 ≠ 2; omega, ht, hk1, hz, h.e, fun e => absurd e (by show ¬ 4 = 1; omega), hkw, h.f, fun _ => h.td (by show 3 ≠ 1; omega), fun e => absurd e (by show ¬ 4 = 1; omega), fun e => absurd e (by show ¬ 4 = 3; omega)⟩
  · have htd := h.td (by show 4 ≠ 1; omega)
    have hF := h.f.step (M := M) hl hk
    show OnOk (if (fstepK M F).ln = 0 then _ else _)
    by_cases h0 : (fstepK M F).ln = 0
    · rw [if_pos h0]
      exact ⟨by show 0 ≤ 4; omega, by show 0 ≠ 2; omega, ht, hk1, hz, h.e, fun e => absurd e (by show ¬ 0 = 1; omega), hkw, hF, fun _ => htd, fun e => absurd e (by show ¬ 0 = 1; omega), fun e => absurd e (by show ¬ 0 = 3; omega)⟩
    · rw [if_neg h0]
      exact ⟨by show 4 ≤ 4; omega, by show 4 ≠ 2; omega, ht, hk1, hz, h.e, fun e => absurd e (by show ¬ 4 = 1; omega), hkw, hF, fun _ => htd, fun e => absurd e (by show ¬ 4 = 1; omega), fun e => absurd e (by show ¬ 4 = 3; omega)⟩
def oit (p : Sd × On) : Sd × On := (onM p.1 p.2, onE p.1 p.2)
def oitn (p : Sd × On) : Nat → Sd × On
  | 0 => p
  | n + 1 => oit (oitn p n)
theorem oitn_add (p : Sd × On) (m : Nat) : ∀ n, oitn p (m + n) = oitn (oitn p m) n
  | 0 => rfl
  | n + 1 => by
    show oit (oitn p (m + n)) = oit (oitn (oitn p m) n)
    rw [oitn_add p m n]
theorem fireM_n (M : Sd) (pb : Int) (pi : Nat) : (fireM M pb pi).n = M.n ∧ (fireM M pb pi).pn = M.pn ∧ (fireM M pb pi).sp = M.sp := by
  unfold fireM
  split <;> exact ⟨rfl, rfl, rfl⟩
theorem takeM_n (M : Sd) (t : Nat) (pb : Int) (pi ky : Nat) : (takeM M t pb pi ky).n = M.n ∧ (takeM M t pb pi ky).pn = M.pn ∧ (takeM M t pb pi ky).sp = M.sp := by
  unfold takeM
  split
  · have := fireM_n (takeN M t pb pi ky) pb pi
    exact ⟨this.1.trans rfl, this.2.1.trans rfl, this.2.2.trans rfl⟩
  · exact ⟨rfl, rfl, rfl⟩
theorem onM_n (M : Sd) (P : On) : (onM M P).n ≤ M.n + 1 ∧ (onM M P).pn ≤ M.pn + 1 ∧ (onM M P).sp = M.sp := by
  unfold onM
  split
  · have h := enM_n M P.E
    split
    · have := takeM_n (enM M P.E) P.D.t (bitsN (enE M P.E).tw : Int) (bktN P.D.k (enE M P.E).tw) P.D.k
      rw [this.1, this.2.1, this.2.2]; exact h
    · exact h
  · unfold unpM
    simp [Sd.tok, Sd.unpark, Sd.call]
  · exact ⟨(fstepM_n M P.F).1, (fstepM_n M P.F).2, fstepM_sp M P.F⟩
  · simp
theorem oitn_n (p : Sd × On) : ∀ n, (oitn p n).1.n ≤ p.1.n + n ∧ (oitn p n).1.pn ≤ p.1.pn + n ∧ (oitn p n).1.sp = p.1.sp
  | 0 => ⟨Nat.le_refl _, Nat.le_refl _, rfl⟩
  | n + 1 => by
    have h := oitn_n p n
    have g := onM_n (oitn p n).1 (oitn p n).2
    exact ⟨by show (onM _ _).n ≤ _; omega, by show (onM _ _).pn ≤ _; omega, g.2.2.trans h.2.2⟩
theorem oit_way {M : Sd} {P : On} (hl : P.ln = 1) (h : (enE M P.E).ln ≠ 0) : oit (M, P) = (enM M P.E, { P with E := enE M P.E }) := by
  obtain ⟨ln, D, told, R, E, F⟩ := P
  obtain rfl : ln = 1 := hl
  have h' : ¬ (enE M E).ln = 0 := h
  show (if (enE M E).ln = 0 then _ else enM M E, if (enE M E).ln = 0 then _ else _) = _
  rw [if_neg h', if_neg h']
theorem oitn_way {M : Sd} {P : On} (hl : P.ln = 1) : ∀ n, (∀ i, i ≤ n → i ≠ 0 → (eitn (M, P.E) i).2.ln ≠ 0) → oitn (M, P) n = ((eitn (M, P.E) n).1, { P with E := (eitn (M, P.E) n).2 })
  | 0, _ => rfl
  | n + 1, h => by
    have h1 := oitn_way hl n (fun i hi => h i (by omega))
    show oit (oitn (M, P) n) = _
    rw [h1]
    exact oit_way (P := { P with E := (eitn (M, P.E) n).2 }) hl (h (n + 1) (Nat.le_refl _) (by omega))
section
variable {M : Sd} {D : Od} {a pi : Nat} {Q : List S10.Ent}
def oneM (M : Sd) (D : Od) (a pi : Nat) : Sd := takeM (mE M a 2) D.t ((2 : Nat) : Int) pi D.k
def oneR (M : Sd) (D : Od) (a pi : Nat) : Ro := takeR (mE M a 2) D.t ((2 : Nat) : Int) pi D.k
def oneB (M : Sd) (D : Od) (a pi : Nat) : Bool := takeB (mE M a 2) ((2 : Nat) : Int) pi D.k
theorem orun_in (h : Pl M D.k a pi Q) (hk : D.k < 4294967296) :
    (∀ i, i < 3 → (oitn (M, on0 D) i).2.ln = 1 ∧ oitn (M, on0 D) i = ((eitn (M, en0 D.t D.k) i).1, { on0 D with E := (eitn (M, en0 D.t D.k) i).2 })) ∧
    ∃ E3, oitn (M, on0 D) 3 = (oneM M D a pi, ⟨if oneB M D a pi = true then 3 else 4, D, true, oneR M D a pi, E3, fr0 a⟩) := by
  have ek : D.k % 4294967296 = D.k := Nat.mod_eq_of_lt hk
  obtain ⟨g1, g2, g3, g4, g5, g6⟩ := en3 (t := D.t) (key := D.k) h.x (by rw [ek]; exact h.ae) h.a0
  have gx := en3x (t := D.t) (key := D.k) h.x (by rw [ek]; exact h.ae) h.a0
  have hw := fun n (hn : n ≤ 2) => oitn_way (M := M) (P := on0 D) rfl n (fun i hi _ => g1 i (by omega))
  refine ⟨fun i hi => ⟨by rw [hw i (by omega)]; rfl, hw i (by omega)⟩, (eitn (M, en0 D.t D.k) 3).2, ?_⟩
  have h2 := hw 2 (Nat.le_refl _)
  show oit (oitn (M, on0 D) 2) = _
  rw [h2]
  have e3 : enE (eitn (M, en0 D.t D.k) 2).1 (eitn (M, en0 D.t D.k) 2).2 = (eitn (M, en0 D.t D.k) 3).2 := rfl
  have m3 : enM (eitn (M, en0 D.t D.k) 2).1 (eitn (M, en0 D.t D.k) 2).2 = (eitn (M, en0 D.t D.k) 3).1 := rfl
  have c : ∀ (M2 : Sd) (E2 : En), (enE M2 E2).ln = 0 → oit (M2, { on0 D with E := E2 }) = (takeM (enM M2 E2) D.t (bitsN (enE M2 E2).tw : Int) (bktN D.k (enE M2 E2).tw) D.k, ⟨if takeB (enM M2 E2) (bitsN (enE M2 E2).tw : Int) (bktN D.k (enE M2 E2).tw) D.k = true then 3 else 4, D, true, takeR (enM M2 E2) D.t (bitsN (enE M2 E2).tw : Int) (bktN D.k (enE M2 E2).tw) D.k, enE M2 E2, fr0 (plA (bitsN (enE M2 E2).tw) (bktN D.k (enE M2 E2).tw))⟩) := fun M2 E2 h0 => by
    show (if (enE M2 E2).ln = 0 then _ else _, if (enE M2 E2).ln = 0 then _ else _) = _
    rw [if_pos h0, if_pos h0]
    rfl
  have q := c (eitn (M, en0 D.t D.k) 2).1 (eitn (M, en0 D.t D.k) 2).2 (by rw [e3]; exact g2)
  refine q.trans ?_
  rw [m3, e3, g4, bits2, gx, ← h.pe, h.pl]
  rfl
end
end Go.Proofs.YtieiiabbeglmfaaGreatDoor.S19
set_option linter.unusedVariables false
set_option linter.unusedSimpArgs false
namespace Go.Proofs.YtieiiabbeglmfaaGreatDoor.S19
set_option maxRecDepth 100000
set_option maxHeartbeats 16000000
open Go.Proofs.YtieiiabbeglmfaaGreatDoor Go.Proofs.YtieiiabbeglmfaaGreatDoor.S11 Go.Proofs.YtieiiabbeglmfaaGreatDoor.S12 Go.Proofs.YtieiiabbeglmfaaGreatDoor.S13 Go.Proofs.YtieiiabbeglmfaaGreatDoor.S14 Go.Proofs.YtieiiabbeglmfaaGreatDoor.S15 Go.Proofs.YtieiiabbeglmfaaGreatDoor.S16 Go.Proofs.YtieiiabbeglmfaaGreatDoor.S18
open Go.RowKit
theorem mergeV {α : Type} {S P : α → World → Prop} {G : Prop} (h2 : (∀ x W, S x W → P x W) → G) (h1 : ∀ x W, S x W → P x W) : G := h2 h1
def roV (R : Ro) : Value := .agg #[.int .i64 (R.m : Int), .int .i64 0, .bool R.more, .bool R.fair, .int .i64 R.th]
def onC (ln : Nat) (D : Od) (told : Bool) (R : Ro) (en lv : Value) : Array Value :=
  #[.int .u8 (ln : Int), .int .i64 (D.t : Int), .int .u32 (D.k : Int), .iface 81 (.int .u64 (D.z : Int)), .bool told, .int .i64 (R.m : Int), .int .i64 0, .bool R.more, .bool R.fair, .int .i64 R.th, en, .nilIface, lv]
abbrev onO (ln : Nat) (D : Od) (told : Bool) (R : Ro) (en lv : Value) : Obj := .cells (onC ln D told R en lv) 75 (0, 0)
theorem eqA (v : Value) (w : World) : (binOp .eql 67 (.iface 81 v) .nilIface).run Tryz.prog w = .ok (.bool false) w := by kernel_rfl
theorem eqA0 (w : World) : (binOp .eql 67 .nilIface .nilIface).run Tryz.prog w = .ok (.bool true) w := by kernel_rfl
theorem asT (v : Value) (w : World) : (Instr.typeAssert (.iface 81 v) 67 256 true).run Tryz.prog w = .ok (.tuple #[.pointer none, .bool false]) w := by kernel_rfl
theorem m_kbegin (v : Value) (w : World) : (method 558 81 v "Begin").run Tryz.prog w = .ok (23, v) w := by kernel_rfl
theorem m_ktoken (v : Value) (w : World) : (method 558 81 v "Token").run Tryz.prog w = .ok (24, v) w := by kernel_rfl
theorem m_ostep (a : Addr) (w : World) : (method 558 76 (.pointer (some a)) "Step").run Tryz.prog w = .ok (21, .pointer (some a)) w := by kernel_rfl
theorem isth_yes {t : Nat} (ht : t < 64) (w : World) : Calls Tryz.prog 63 #[.int .i64 (t : Int)] w fun e w' => e = .returned (.bool true) ∧ w = w' := by
  have e1 : decide (0 ≤ (t : Int)) = true := decide_eq_true (by omega)
  have e2 : decide ((t : Int) < 64) = true := decide_eq_true (by omega)
  clear ht
  go_enter Tryz.func63, Tryz.ntmps63
  go_wp2_with fail
  go_ret
  exact ⟨rfl, rfl⟩
def AnOf (v : Value) (z : Nat) : Prop := v = .iface 81 (.int .u64 (z : Int)) ∨ (v = .nilIface ∧ z = 0)
theorem othere_any {v : Value} {z : Nat} (h : AnOf v z) (w : World) : Calls Tryz.prog 64 #[v] w fun e w' => e = .returned (.iface 81 (.int .u64 (z : Int))) ∧ w = w' := by
  rcases h with rfl | ⟨rfl, rfl⟩
  · generalize Value.int .u64 (z : Int) = v
    have e1 := eqA v
    have e2 := asT v
    go_enter Tryz.func64, Tryz.ntmps64
    go_wp2_with fail
    go_ret
    exact ⟨rfl, rfl⟩
  · have e1 := eqA0
    go_enter Tryz.func64, Tryz.ntmps64
    go_wp2_with fail
    go_ret
    exact ⟨rfl, rfl⟩
theorem kbegin_any (z : Int) (a b c d e : Value) (w : World) : Calls Tryz.prog 23 #[.int .u64 z, .agg #[a, b, c, d, e]] w fun e w' => e = .returned .nilIface ∧ Below w.heap.size w w' := by
  go_enter Tryz.func23, Tryz.ntmps23
  go_wp2_with fail
  go_ret
  exact ⟨rfl, below1 w _⟩
theorem ktoken_any (z : Int) (w : World) : Calls Tryz.prog 24 #[.int .u64 z] w fun e w' => e = .returned (.int .u64 z) ∧ w = w' := by
  go_enter Tryz.func24, Tryz.ntmps24
  go_wp2_with fail
  go_ret
  exact ⟨rfl, rfl⟩
section
variable {w0 w w' : World} {base WB : Nat} {M : Sd} {r : List Part} {j e u B : Nat} {l l' : Rows} {X : Wm} {D : Od} {R : Ro} {ln : Nat} {told : Bool} {en lv : Value}
theorem oover_no (c0 : w.cell? ⟨B, 0, none⟩ = some (.int .u8 (ln : Int))) (h : ln ≠ 0) : Calls Tryz.prog 20 #[Pw B] w fun e w' => e = .returned (.bool false) ∧ w = w' := by
  have e1 : decide ((ln : Int) = 0) = false := decide_eq_false (by omega)
  have e2 : ((ln : Int) == 0) = false := e1
  clear h
  go_enter Tryz.func20, Tryz.ntmps20
  go_wp2_with fail
  go_ret
  exact ⟨rfl, rfl⟩
theorem oover_yes (c0 : w.cell? ⟨B, 0, none⟩ = some (.int .u8 0)) : Calls Tryz.prog 20 #[Pw B] w fun e w' => e = .returned (.bool true) ∧ w = w' := by
  go_enter Tryz.func20, Tryz.ntmps20
  go_wp2_with fail
  go_ret
  exact ⟨rfl, rfl⟩
theorem oover_any (c0 : w.cell? ⟨B, 0, none⟩ = some (.int .u8 (ln : Int))) : Calls Tryz.prog 20 #[Pw B] w fun e w' => e = .returned (.bool (decide (ln = 0))) ∧ w = w' := by
  by_cases h : ln = 0
  · subst h; exact oover_yes c0
  · rw [decide_eq_false h]; exact oover_no c0 h
theorem ogot_no (c4 : w.cell? ⟨B, 4, none⟩ = some (.bool false)) (hB : B < w.heap.size) : Calls Tryz.prog 22 #[Pw B] w fun e w' => e = .returned (roV roN) ∧ Below w.heap.size w w' := by
  have b1 := below1 w (.cells #[.int .i64 0, .int .i64 0, .bool false, .bool false, .int .i64 0] 69)
  have d4 := bcell b1 c4
  have hn := heap_alloc_new w (.cells #[.int .i64 0, .int .i64 0, .bool false, .bool false, .int .i64 0] 69)
  obtain ⟨RB, hR⟩ : ∃ RB, RB = w.heap.size := ⟨_, rfl⟩
  rw [← hR] at hn
  have HR := Lib.hid hR; have HB := Lib.hid b1
  go_enter Tryz.func22, Tryz.ntmps22
  go_upto_region 1 with fail
  rw [← HR.out]
  clear c4 hB b1 hR
  generalize w.alloc (.cells #[.int .i64 0, .int .i64 0, .bool false, .bool false, .int .i64 0] 69) = w1 at *
  have r0 := cell_row hn 0; have r1 := cell_row hn 1; have r2 := cell_row hn 2; have r3 := cell_row hn 3; have r4 := cell_row hn 4
  have f0 := froz_row hn 0; have f1 := froz_row hn 1; have f2 := froz_row hn 2; have f3 := froz_row hn 3; have f4 := froz_row hn 4
  have HBT : Hid (∀ W, Turns (fun k => k = RB) w1 W → Below w.heap.size w W) := Lib.hid (fun W t => HB.out.trans (t.below HB.out.size (fun k hk e => by have := HR.out; omega)))
  have l5 : (((((w1.setCell ⟨RB, 0, none⟩ (.int .i64 0)).setCell ⟨RB, 1, none⟩ (.int .i64 0)).setCell ⟨RB, 2, none⟩ (.bool false)).setCell ⟨RB, 3, none⟩ (.bool false)).setCell ⟨RB, 4, none⟩ (.int .i64 (-1))).heap[RB]? = some (.cells #[.int .i64 0, .int .i64 0, .bool false, .bool false, .int .i64 (-1)] 69) := set_blk (set_blk (set_blk (set_blk (set_blk hn 0 (.int .i64 0) _ rfl) 1 (.int .i64 0) _ rfl) 2 (.bool false) _ rfl) 3 (.bool false) _ rfl) 4 (.int .i64 (-1)) _ rfl
  have t5 : Turns (fun k => k = RB) w1 ((((((w1.setCell ⟨RB, 0, none⟩ (.int .i64 0)).setCell ⟨RB, 1, none⟩ (.int .i64 0)).setCell ⟨RB, 2, none⟩ (.bool false)).setCell ⟨RB, 3, none⟩ (.bool false)).setCell ⟨RB, 4, none⟩ (.int .i64 (-1)))) := (((((Turns.refl (fun k => k = RB) w1).setCell ⟨RB, 0, none⟩ _ rfl).setCell ⟨RB, 1, none⟩ _ rfl).setCell ⟨RB, 2, none⟩ _ rfl).setCell ⟨RB, 3, none⟩ _ rfl).setCell ⟨RB, 4, none⟩ _ rfl
  have L5 := Lib.hid l5; have T5 := Lib.hid t5
  clear hn l5 t5
  go_wp2_with fail
  generalize ((((w1.setCell ⟨RB, 0, none⟩ (.int .i64 0)).setCell ⟨RB, 1, none⟩ (.int .i64 0)).setCell ⟨RB, 2, none⟩ (.bool false)).setCell ⟨RB, 3, none⟩ (.bool false)).setCell ⟨RB, 4, none⟩ (.int .i64 (-1)) = w5 at *
  have p0 := cell_row L5.out 0; have p1 := cell_row L5.out 1; have p2 := cell_row L5.out 2; have p3 := cell_row L5.out 3; have p4 := cell_row L5.out 4
  simp only [List.getElem?_toArray, List.getElem?_cons_zero, List.getElem?_cons_succ] at p0 p1 p2 p3 p4
  exact bodyPost_ret (v := roV roN) (by simp [results, Tryz.results22, go_sem, p0, p1, p2, p3, p4, roV, roN]) rfl ⟨rfl, HBT.out _ T5.out⟩
theorem ogot_yes (c4 : w.cell? ⟨B, 4, none⟩ = some (.bool true)) (h5 : w.cell? ⟨B, 5, none⟩ = some (.int .i64 (R.m : Int))) (h6 : w.cell? ⟨B, 6, none⟩ = some (.int .i64 0)) (h7 : w.cell? ⟨B, 7, none⟩ = some (.bool R.more)) (h8 : w.cell? ⟨B, 8, none⟩ = some (.bool R.fair)) (h9 : w.cell? ⟨B, 9, none⟩ = some (.int .i64 R.th)) (hB : B < w.heap.size) : Calls Tryz.prog 22 #[Pw B] w fun e w' => e = .returned (roV R) ∧ Below w.heap.size w w' := by
  have b1 := below1 w (.cells #[.int .i64 0, .int .i64 0, .bool false, .bool false, .int .i64 0] 69)
  have d4 := bcell b1 c4; have d5 := bcell b1 h5; have d6 := bcell b1 h6; have d7 := bcell b1 h7; have d8 := bcell b1 h8; have d9 := bcell b1 h9
  have hn := heap_alloc_new w (.cells #[.int .i64 0, .int .i64 0, .bool false, .bool false, .int .i64 0] 69)
  obtain ⟨RB, hR⟩ : ∃ RB, RB = w.heap.size := ⟨_, rfl⟩
  rw [← hR] at hn
  have HR := Lib.hid hR; have HB := Lib.hid b1
  clear c4 h5 h6 h7 h8 h9 hB b1 hR
  obtain ⟨m, mo, fa, th⟩ := R
  simp only at d5 d7 d8 d9
  go_enter Tryz.func22, Tryz.ntmps22
  go_upto_region 1 with fail
  rw [← HR.out]
  generalize w.alloc (.cells #[.int .i64 0, .int .i64 0, .bool false, .bool false, .int .i64 0] 69) = w1 at *
  have r0 := cell_row hn 0; have r1 := cell_row hn 1; have r2 := cell_row hn 2; have r3 := cell_row hn 3; have r4 := cell_row hn 4
  have f0 := froz_row hn 0; have f1 := froz_row hn 1; have f2 := froz_row hn 2; have f3 := froz_row hn 3; have f4 := froz_row hn 4
  have HBT : Hid (∀ W, Turns (fun k => k = RB) w1 W → Below w.heap.size w W) := Lib.hid (fun W t => HB.out.trans (t.below HB.out.size (fun k hk e => by have := HR.out; omega)))
  have l5 : (((((w1.setCell ⟨RB, 0, none⟩ (.int .i64 (m : Int))).setCell ⟨RB, 1, none⟩ (.int .i64 0)).setCell ⟨RB, 2, none⟩ (.bool mo)).setCell ⟨RB, 3, none⟩ (.bool fa)).setCell ⟨RB, 4, none⟩ (.int .i64 th)).heap[RB]? = some (.cells #[.int .i64 (m : Int), .int .i64 0, .bool mo, .bool fa, .int .i64 th] 69) := set_blk (set_blk (set_blk (set_blk (set_blk hn 0 (.int .i64 (m : Int)) _ rfl) 1 (.int .i64 0) _ rfl) 2 (.bool mo) _ rfl) 3 (.bool fa) _ rfl) 4 (.int .i64 th) _ rfl
  have t5 : Turns (fun k => k = RB) w1 ((((((w1.setCell ⟨RB, 0, none⟩ (.int .i64 (m : Int))).setCell ⟨RB, 1, none⟩ (.int .i64 0)).setCell ⟨RB, 2, none⟩ (.bool mo)).setCell ⟨RB, 3, none⟩ (.bool fa)).setCell ⟨RB, 4, none⟩ (.int .i64 th))) := (((((Turns.refl (fun k => k = RB) w1).setCell ⟨RB, 0, none⟩ _ rfl).setCell ⟨RB, 1, none⟩ _ rfl).setCell ⟨RB, 2, none⟩ _ rfl).setCell ⟨RB, 3, none⟩ _ rfl).setCell ⟨RB, 4, none⟩ _ rfl
  have L5 := Lib.hid l5; have T5 := Lib.hid t5
  clear hn l5 t5
  go_wp2_with fail
  generalize ((((w1.setCell ⟨RB, 0, none⟩ (.int .i64 (m : Int))).setCell ⟨RB, 1, none⟩ (.int .i64 0)).setCell ⟨RB, 2, none⟩ (.bool mo)).setCell ⟨RB, 3, none⟩ (.bool fa)).setCell ⟨RB, 4, none⟩ (.int .i64 th) = w5 at *
  have p0 := cell_row L5.out 0; have p1 := cell_row L5.out 1; have p2 := cell_row L5.out 2; have p3 := cell_row L5.out 3; have p4 := cell_row L5.out 4
  simp only [List.getElem?_toArray, List.getElem?_cons_zero, List.getElem?_cons_succ] at p0 p1 p2 p3 p4
  exact bodyPost_ret (v := roV ⟨m, mo, fa, th⟩) (by simp [results, Tryz.results22, go_sem, p0, p1, p2, p3, p4, roV]) rfl ⟨rfl, HBT.out _ T5.out⟩
end
end Go.Proofs.YtieiiabbeglmfaaGreatDoor.S19
