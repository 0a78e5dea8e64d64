/- ClocksVoid. -/
import Derived.Test.YtmnndheddlkbgaaD1
namespace Go.Proofs.Ytmnndheddlkbgaa
open Go.RowKit

/-- An act in a block of its own. -/
structure ActAt (w : World) (X K N at_ : Nat) (on : Bool) (p : Option Addr) (m c : Nat) : Prop where
  lt : X < w.heap.size
  c0 : w.cell? ⟨X, 0, none⟩ = some (.int .u8 K)
  c1 : w.cell? ⟨X, 1, none⟩ = some (.int .u64 N)
  c2 : w.cell? ⟨X, 2, none⟩ = some (.bool on)
  c3 : w.cell? ⟨X, 3, none⟩ = some (.int .u64 at_)
  c4 : w.cell? ⟨X, 4, none⟩ = some (.slice p m c)
section
variable {w w' : World} {X K N at_ : Nat} {on : Bool} {p : Option Addr} {m c : Nat}
theorem ActAt.made (w : World) : ActAt (w.alloc (.cells #[.int .u8 K, .int .u64 N, .bool on, .int .u64 at_, .slice p m c] 33)) w.heap.size K N at_ on p m c := by
  refine ⟨by simp, ?_, ?_, ?_, ?_, ?_⟩ <;> (rw [World.cell?_alloc_at _ _ _ _ rfl]; rfl)
theorem ActAt.keeps {P : Nat → Prop} (h : ActAt w X K N at_ on p m c) (k : Keeps P w w') (hX : P X) : ActAt w' X K N at_ on p m c :=
  ⟨Nat.lt_of_lt_of_le h.lt k.size, (k.cell hX).trans h.c0, (k.cell hX).trans h.c1, (k.cell hX).trans h.c2, (k.cell hX).trans h.c3, (k.cell hX).trans h.c4⟩
theorem ActAt.new (h : ActAt w X K N at_ on p m c) (b : Below w.heap.size w w') : ActAt w' X K N at_ on p m c :=
  h.keeps (P := fun k => k < w.heap.size) (Keeps.of_below b (fun _ e => e)) h.lt
end
set_option maxHeartbeats 4000000 in
set_option maxRecDepth 100000 in
theorem law_void (K N at_ : Nat) (on : Bool) (p : Option Addr) (c : Nat) (L : List Nat) (hN : N ≤ 18446744073709551615) (hc : L.length ≤ c) (hc2 : c ≤ 9223372036854775807) (hL : ∀ d ∈ L, d ≤ 18446744073709551615) (w : World) (hr : Rd w w.heap.size p L) :
    Calls Try.prog 4 #[.agg #[.int .u8 K, .int .u64 N, .bool on, .int .u64 at_, .slice p L.length c]] w fun e w' => e = .returned (.bool true) ∧ Below w.heap.size w w' := by
  have ha := ActAt.made (K := K) (N := N) (at_ := at_) (on := on) (p := p) (m := L.length) (c := c) w
  have ba : Below w.heap.size w (w.alloc (.cells #[.int .u8 K, .int .u64 N, .bool on, .int .u64 at_, .slice p L.length c] 33)) := (Below.refl _ _).alloc (Nat.le_refl _) _
  have HLL := Lib.hid hL; have HR := Lib.hid hr; have BA := Lib.hid ba; have HA := Lib.hid ha
  have ql := lives_any
  have QL := Lib.hid ql
  have qz := neq31 false false 0 0
  clear hL hr ba ha ql
  go_enter Try.func4, Try.ntmps4
  go_upto_region 2 with (fail)
  generalize hw1 : w.alloc (.cells #[.int .u8 K, .int .u64 N, .bool on, .int .u64 at_, .slice p L.length c] 33) = w1 at *
  generalize hX : w.heap.size = X at *
  clear hw1
  have HX := Lib.hid hX
  clear hX
  obtain ⟨hl, c0, c1, c2, c3, c4⟩ := HA.out
  go_wp2_with fail
  refine (tick_nil _ _).mono ?_
  rintro e w2 ⟨rfl, rfl⟩
  go_wp2_with fail
  refine (more_nil _ _ _ _).mono ?_
  rintro e w2 ⟨rfl, rfl⟩
  go_wp2_with fail
  refine (now_nil _).mono ?_
  rintro e w2 ⟨rfl, rfl⟩
  go_wp2_with fail
  refine (after_nil _ _).mono ?_
  rintro e w2 ⟨rfl, b2⟩
  have A2 := Lib.hid (HA.out.new b2); have B2 := Lib.hid (BA.out.trans (b2.mono (Nat.le_of_lt HA.out.lt)))
  clear hl c0 c1 c2 c3 c4 b2
  obtain ⟨hl, c0, c1, c2, c3, c4⟩ := A2.out
  go_wp2_with fail
  refine (come_nil _ _ _).mono ?_
  rintro e w3 ⟨rfl, b3⟩
  have A3 := Lib.hid (A2.out.new b3); have B3 := Lib.hid (B2.out.trans (b3.mono (Nat.le_of_lt A2.out.lt)))
  clear hl c0 c1 c2 c3 c4 b3
  obtain ⟨hl, c0, c1, c2, c3, c4⟩ := A3.out
  go_wp2_with fail
  refine (draw_nil _).mono ?_
  rintro e w4 ⟨rfl, rfl⟩
  go_wp2_with fail
  refine (left_nil _).mono ?_
  rintro e w4 ⟨rfl, rfl⟩
  have bz : Below w3.heap.size w3 (w3.alloc (.cells #[.int .u64 0, .int .u64 0, .slice none 0 0] 43)) := (Below.refl _ _).alloc (Nat.le_refl _) _
  have oz : Own (w3.alloc (.cells #[.int .u64 0, .int .u64 0, .slice none 0 0] 43)) w3.heap.size w3.heap.size 0 0 [] :=
    ⟨by simp, Nat.le_refl _, _, ⟨⟨by omega, by omega, by simp, by simp⟩, heap_alloc_new w3 _, row_nil _ _, by simp [Value.ownBlock]⟩⟩
  have OZ := Lib.hid oz; have AZ := Lib.hid (A3.out.new bz); have BZ := Lib.hid (B3.out.trans (bz.mono (Nat.le_of_lt A3.out.lt)))
  have hxb : X < w3.heap.size := hl
  clear hl c0 c1 c2 c3 c4 bz oz
  go_wp2_with fail
  generalize w3.alloc (.cells #[.int .u64 0, .int .u64 0, .slice none 0 0] 43) = w4 at *
  generalize w3.heap.size = B at *
  refine (rnew_any (w := w4) (A := none) (b2 := 0) (D := []) 0 0 (by simp) (by omega) (by omega) Rd.nil (Nat.zero_le _) (by simp)).mono ?_
  rintro e w5 hm5
  obtain ⟨R, rfl, duo, b5⟩ := duo_made (P := fun k => k < B) (fun k h => h) OZ.out.size OZ.out hm5
  have DU := Lib.hid duo; have A5 := Lib.hid (AZ.out.new b5); have B5 := Lib.hid (BZ.out.trans (b5.mono (Nat.le_of_lt AZ.out.lt)))
  clear duo b5 hm5
  obtain ⟨hl, c0, c1, c2, c3, c4⟩ := A5.out
  by_cases hm : L.length ≤ 300
  · have t1 : decide ((300 : Int) < (L.length : Int)) = false := by simp; omega
    go_wp2_with fail
    refine (duo_same DU.out K N at_ on p L.length c hN).mono ?_
    rintro e w6 ⟨rfl, d6, b6⟩
    have D6 := Lib.hid d6; have A6 := Lib.hid (A5.out.new b6); have B6 := Lib.hid (B5.out.trans (b6.mono (Nat.le_of_lt A5.out.lt)))
    clear hl c0 c1 c2 c3 c4 d6 b6
    obtain ⟨hl, c0, c1, c2, c3, c4⟩ := A6.out
    go_wp2_with fail
    refine (duo_draw_none D6.out).mono ?_
    rintro e w7 ⟨rfl, rfl⟩
    go_wp2_with fail
    refine (duo_tick D6.out N hN).mono ?_
    rintro e w7 ⟨rfl, d7, k7⟩
    have D7 := Lib.hid d7; have A7 := Lib.hid (A6.out.keeps k7 hxb); have B7 := Lib.hid (B6.out.trans (k7.below (B := X) (fun k hk => Nat.lt_trans hk hxb)))
    clear hl c0 c1 c2 c3 c4 d7 k7
    obtain ⟨hl, c0, c1, c2, c3, c4⟩ := A7.out
    go_wp2_with fail
    refine (duo_rtick D7.out N hN).mono ?_
    rintro e w8 ⟨rfl, d8, k8⟩
    have D8 := Lib.hid d8; have A8 := Lib.hid (A7.out.keeps k8 hxb); have B8 := Lib.hid (B7.out.trans (k8.below (B := X) (fun k hk => Nat.lt_trans hk hxb)))
    clear hl c0 c1 c2 c3 c4 d8 k8
    obtain ⟨hl, c0, c1, c2, c3, c4⟩ := A8.out
    have hLe : ([] : List Nat) ++ L.take (65536 - ([] : List Nat).length) = L := by
      rw [List.nil_append]; exact List.take_of_length_le (by simp; omega)
    have HLE := Lib.hid hLe
    clear hLe
    go_wp2_with fail
    refine (duo_more D8.out c hc hc2 (HR.out.below B8.out (Nat.le_refl _)) HLL.out).mono ?_
    rintro e w9 ⟨rfl, d9, k9⟩
    rw [HLE.out] at d9
    have D9 := Lib.hid d9; have A9 := Lib.hid (A8.out.keeps k9 hxb); have B9 := Lib.hid (B8.out.trans (k9.below (B := X) (fun k hk => Nat.lt_trans hk hxb)))
    clear hl c0 c1 c2 c3 c4 d9 k9
    obtain ⟨hl, c0, c1, c2, c3, c4⟩ := A9.out
    go_wp2_with fail
    refine (duo_rmore D9.out c hc hc2 (HR.out.below B9.out (Nat.le_refl _)) (Nat.le_of_lt A9.out.lt) HLL.out).mono ?_
    rintro e wa ⟨rfl, da, ka⟩
    rw [HLE.out] at da
    have Da := Lib.hid da; have Aa := Lib.hid (A9.out.keeps ka hxb); have Ba := Lib.hid (B9.out.trans (ka.below (B := X) (fun k hk => Nat.lt_trans hk hxb)))
    clear hl c0 c1 c2 c3 c4 da ka
    obtain ⟨hl, c0, c1, c2, c3, c4⟩ := Aa.out
    go_wp2_with fail
    refine (duo_same Da.out K N at_ on p L.length c hN).mono ?_
    rintro e wb ⟨rfl, db, bb⟩
    have Db := Lib.hid db; have Bb := Lib.hid (Ba.out.trans (bb.mono (Nat.le_of_lt Aa.out.lt)))
    have hsb : X ≤ wb.heap.size := Nat.le_trans (Nat.le_of_lt Aa.out.lt) bb.size
    clear hl c0 c1 c2 c3 c4 db bb
    clear t1
    cases L with
    | nil =>
      go_wp2_with fail
      refine (duo_draw_none Db.out).mono ?_
      rintro e wc ⟨rfl, rfl⟩
      go_wp2_with fail
      refine (duo_rdraw_none Db.out).mono ?_
      rintro e wc ⟨rfl, rfl⟩
      go_wp2_with fail
      refine (QL.out _).mono ?_
      rintro e wc ⟨rfl, bc⟩
      have Bc := Lib.hid (Bb.out.trans (bc.mono hsb))
      clear bc
      go_wp2_with fail
      go_ret
      refine ⟨rfl, ?_⟩
      rw [HX.out]
      exact Bc.out
    | cons d L' =>
      have hdr := duo_draw Db.out
      have hrd := fun W (h : Duo W (fun k => k < B) B R (sat 0 N) (sat 0 N) 0 L' (d :: L')) => duo_rdraw h
      have HDR := Lib.hid hdr; have HRD := Lib.hid hrd
      clear hdr hrd
      generalize brt d 0 = y at *
      have ty : ((y : Int) == (y : Int)) = true := by simp
      go_wp2_with fail
      refine HDR.out.mono ?_
      rintro e wc ⟨rfl, dc, kc⟩
      have Dc := Lib.hid dc; have Bc := Lib.hid (Bb.out.trans (kc.below (B := X) (fun k hk => Nat.lt_trans hk hxb)))
      have hsc : X ≤ wc.heap.size := Nat.le_trans hsb kc.size
      clear dc kc
      go_wp2_with fail
      refine (HRD.out _ Dc.out).mono ?_
      rintro e wd ⟨rfl, dd, kd⟩
      have Bd := Lib.hid (Bc.out.trans (kd.below (B := X) (fun k hk => Nat.lt_trans hk hxb)))
      have hsd : X ≤ wd.heap.size := Nat.le_trans hsc kd.size
      clear dd kd
      go_wp2_with fail
      refine (QL.out _).mono ?_
      rintro e we ⟨rfl, be⟩
      have Be := Lib.hid (Bd.out.trans (be.mono hsd))
      clear be
      go_wp2_with fail
      go_ret
      refine ⟨rfl, ?_⟩
      rw [HX.out]
      exact Be.out
  · have t1 : decide ((300 : Int) < (L.length : Int)) = true := by simp; omega
    have hl6 := hl
    go_wp2_with fail
    refine (QL.out _).mono ?_
    rintro e w6 ⟨rfl, b6⟩
    have B6 := Lib.hid (B5.out.trans (b6.mono (Nat.le_of_lt hl6)))
    clear b6
    go_wp2_with fail
    go_ret
    refine ⟨rfl, ?_⟩
    rw [HX.out]
    exact B6.out
end Go.Proofs.Ytmnndheddlkbgaa
