/- Texts of this seat, one behind the other. -/
import Derived.Test.YtpmafdggbeppcaaGreatDoorMLawVoid188
import Derived.Test.YtpmafdggbeppcaaGreatDoorMLawVoid1827
set_option linter.unusedVariables false
set_option linter.unusedSimpArgs false
namespace Go.Proofs.YtpmafdggbeppcaaGreatDoor.S2
set_option maxRecDepth 100000
set_option maxHeartbeats 16000000
open Go.Proofs.YtpmafdggbeppcaaGreatDoor
open Go.Shelf Go.RowKit Go.Lib Go.Sort
def encW (x : Nat × Nat) : List Value := [.int .u32 x.1, .int .u64 x.2]
def cfW (x y : Nat × Nat) : Int := if x.1 < y.1 then -1 else if y.1 < x.1 then 1 else 0
theorem nan_any (a : Nat) (W : World) : Calls Tryz.prog 172 #[.int .u32 a] W fun e w' => e = .returned (.bool false) ∧ W = w' := by
  go_enter Tryz.func172, Tryz.ntmps172
  go_wp2
  go_ret
  exact ⟨by simp, rfl⟩
theorem cmp_any (a b : Nat) (v u : Nat) (W : World) : Calls Tryz.prog 149 #[.int .u32 a, .int .u32 b] W fun e w' => e = .returned (.int .i64 (cfW (a, v) (b, u))) ∧ W = w' := by
  have h1 := fun W => nan_any a W
  have h2 := fun W => nan_any b W
  have H1 := Lib.hid h1
  have H2 := Lib.hid h2
  clear h1 h2
  unfold cfW
  by_cases h : a < b
  · rw [if_pos h]
    have g1 : decide ((a : Int) < (b : Int)) = true := by simp; omega
    go_enter Tryz.func149, Tryz.ntmps149
    go_wp2_with fail
    refine (H1.out _).mono ?_
    rintro e w' ⟨rfl, rfl⟩
    go_wp2_with fail
    refine (H2.out _).mono ?_
    rintro e w' ⟨rfl, rfl⟩
    go_wp2_with fail
    go_ret
    exact ⟨rfl, rfl⟩
  · by_cases h' : b < a
    · rw [if_neg h, if_pos h']
      have g1 : decide ((a : Int) < (b : Int)) = false := by simp; omega
      have g2 : decide ((b : Int) < (a : Int)) = true := by simp; omega
      go_enter Tryz.func149, Tryz.ntmps149
      go_wp2_with fail
      refine (H1.out _).mono ?_
      rintro e w' ⟨rfl, rfl⟩
      go_wp2_with fail
      refine (H2.out _).mono ?_
      rintro e w' ⟨rfl, rfl⟩
      go_wp2_with fail
      go_ret
      exact ⟨rfl, rfl⟩
    · rw [if_neg h, if_neg h']
      have g1 : decide ((a : Int) < (b : Int)) = false := by simp; omega
      have g2 : decide ((b : Int) < (a : Int)) = false := by simp; omega
      go_enter Tryz.func149, Tryz.ntmps149
      go_wp2_with fail
      refine (H1.out _).mono ?_
      rintro e w' ⟨rfl, rfl⟩
      go_wp2_with fail
      refine (H2.out _).mono ?_
      rintro e w' ⟨rfl, rfl⟩
      go_wp2_with fail
      go_ret
      exact ⟨rfl, rfl⟩
theorem by_addr (x y : Nat × Nat) (W : World) : Calls Tryz.prog 134 #[.agg #[.int .u32 x.1, .int .u64 x.2], .agg #[.int .u32 y.1, .int .u64 y.2]] W fun e w' => e = .returned (.int .i64 (cfW x y)) ∧ ∃ q os', w' = grow (W.drewN q) os' := by
  have h := fun W => cmp_any x.1 y.1 x.2 y.2 W
  have H := Lib.hid h
  clear h
  generalize cfW (x.1, x.2) (y.1, y.2) = r at H
  go_enter Tryz.func134, Tryz.ntmps134
  go_wp2_with (go_at_call 149; refine (H.out _).mono ?_; rintro e w' ⟨rfl, rfl⟩)
  go_ret
  exact ⟨rfl, 0, _, by rw [alloc_eq_grow, alloc_eq_grow, grow_grow]; rfl⟩
theorem ltW (x y : Nat × Nat) : ltOf cfW x y = decide (x.1 < y.1) := by
  unfold ltOf cfW
  by_cases h : x.1 < y.1
  · simp [h]
  · by_cases h' : y.1 < x.1 <;> simp [h, h']
theorem swoW : SWO (ltOf cfW) where
  irrefl x := by rw [ltW]; simp
  trans x y z h1 h2 := by rw [ltW] at *; simp at *; omega
  ntrans x y z h1 h2 := by rw [ltW] at *; simp at *; omega
theorem agg30 : ∀ w, (isAgg (Tryz.sortW_ren.t 24)).run Tryz.prog w = .ok true w := fun _ => by kernel_rfl
theorem size30 : ∀ w, (Go.sizeOf (Tryz.sortW_ren.t 24)).run Tryz.prog w = .ok 2 w := fun _ => by kernel_rfl
theorem sorted_good {L : LL} (h : Good L) {d : Array (Nat × Nat)} (hp : d.toList.Perm L) {d' : Array (Nat × Nat)} (hq : PermIn 0 d.size d d') (hs : SortedIn (ltOf cfW) 0 d.size d') : d' = L.toArray := by
  obtain ⟨hz, _, hpp⟩ := hq
  have hz2 : d.size = d'.size := hz.symm
  rw [hz2] at hs
  have e1 : (d'.extract 0 d.size).toList = d'.toList := by simp [hz2]
  have e2 : (d.extract 0 d.size).toList = d.toList := by simp
  rw [e1, e2] at hpp
  have hm : ∀ p, p ∈ d'.toList ↔ p ∈ L := fun p => (hpp.trans hp).mem_iff
  have hnd : L.Nodup := h.1.imp (fun {a b} hab e => by rw [e] at hab; omega)
  have hnd' : d'.toList.Nodup := ((hpp.trans hp).nodup_iff).2 hnd
  have hsr : Srt d'.toList := by
    unfold Srt
    rw [List.pairwise_iff_getElem]
    intro i j hi hj hij
    have := hs i j (Nat.zero_le _) hij (by simpa using hj)
    rw [ltW] at this
    simp at this hi hj
    rw [getElem!_pos d' j hj, getElem!_pos d' i hi] at this
    have hne : d'[i].1 ≠ d'[j].1 := by
      intro e
      have hi' : d'[i] ∈ L := (hm _).1 (by simp)
      have hj' : d'[j] ∈ L := (hm _).1 (by simp)
      have l1 := look_mem h hi'
      have l2 := look_mem h hj'
      rw [e] at l1
      have : d'[i] = d'[j] := Prod.ext e (by omega)
      have hij2 := (List.pairwise_iff_getElem.1 hnd') i j (by simpa using hi) (by simpa using hj) hij
      apply hij2
      simpa using this
    simp
    omega
  have := ext_look (L := d'.toList) (K := L) ⟨hsr, fun p hp => h.2 p ((hm p).1 hp)⟩ h hm
  rw [← this]
theorem sort_any (blk cap : Nat) (L : LL) (C : List (Nat × Nat)) (w : World) (h : Good L) (hp : C.Perm L) (hH : HoldsK encW 2 w blk 0 C.toArray) (hblk : blk < w.heap.size) :
    Calls Tryz.prog 133 #[.slice (some ⟨blk, 0, none⟩) C.length cap, .func (.func 134) #[] #[]] w fun e w' => e = .returned (.tuple #[]) ∧ HoldsK encW 2 w' blk 0 L.toArray ∧ Turns (fun k => k = blk) w w' := by
  have eg : ∀ args w, (callFunc 134 args).run Tryz.prog w = .ok (.enter 134 args) w := enters_of Tryz.func134 (by kernel_rfl) rfl
  have hlen := h.length
  have hlc := hp.length_eq
  have hcon := AnyQ.slices_SortFunc Tryz.sortW 2 agg30 size30 encW (fun _ => rfl) (fun x v hv => by simp [encW] at hv; rcases hv with rfl | rfl <;> rfl) cfW swoW 134 #[] blk 0 cap C.toArray w eg (fun _ _ _ _ x y => by_addr x y _) hH hblk (by simp; omega)
  change Calls Tryz.prog 133 _ _ _ at hcon
  have e : C.toArray.size = C.length := by simp
  rw [e] at hcon
  refine hcon.mono fun e w' ⟨he, d', n, os, hq, hs, hw⟩ => ⟨he, ?_, ?_⟩
  · have hd := sorted_good h (d := C.toArray) (by simpa using hp) (by simpa using hq) (by simpa using hs)
    subst hd
    rw [hw]
    unfold sortWorldK
    refine holdsK_grow _ _ _ _ _ _ _ ?_ (holdsK_putRowK _ _ _ _ _ C.toArray L.toArray (holdsK_ahead _ _ _ _ _ _ _ hH) (by simp; omega))
    simp [putRowK, Sort.ahead]
    exact hblk
  · rw [hw]
    refine ⟨rfl, rfl, rfl, ?_, fun k hk hn => ?_⟩
    · simp [sortWorldK, grow, putRowK, putRow, mapBlock, Sort.ahead]
    · have hn' : ¬ blk = k := fun e => hn e.symm
      simp only [sortWorldK, grow, putRowK, putRow, mapBlock, Sort.ahead]
      rw [Array.getElem?_append_left (by simpa using hk), Array.getElem?_modify, if_neg hn']
end Go.Proofs.YtpmafdggbeppcaaGreatDoor.S2
