/- LinksPlay's walk. -/
import Derived.Test.YtlmgboggnljefaaC4
namespace Go.Proofs.Ytlmgboggnljefaa
open Go.RowKit

/-- Acts that lie below a base. -/
structure Acts where
  K : Nat → Nat
  A : Nat → Int
  V : Nat → Int
def ActsIn (w : World) (base : Nat) (p : Option Addr) (n : Nat) (a : Acts) : Prop := 0 < n → ∃ lb lo, p = some ⟨lb, lo, none⟩ ∧ lb < base ∧ ∀ i, i < n →
  w.cell? ⟨lb, lo + i * 3, none⟩ = some (.int .u8 (a.K i)) ∧ w.cell? ⟨lb, lo + i * 3 + 1, none⟩ = some (.int .i64 (a.A i)) ∧ w.cell? ⟨lb, lo + i * 3 + 2, none⟩ = some (.int .i64 (a.V i)) ∧ a.K i < 256
theorem ActsIn.below {w w' : World} {base b : Nat} {p : Option Addr} {n : Nat} {a : Acts} (h : ActsIn w base p n a) (hb : Below b w w') (hbb : base ≤ b) : ActsIn w' base p n a := fun hp => by
  obtain ⟨lb, lo, e, hl, hc⟩ := h hp
  have q : ∀ o, w'.cell? ⟨lb, o, none⟩ = w.cell? ⟨lb, o, none⟩ := fun o => hb.cell (p := ⟨lb, o, none⟩) (by show lb < b; omega)
  exact ⟨lb, lo, e, hl, fun i hi => ⟨(q _).trans (hc i hi).1, (q _).trans (hc i hi).2.1, (q _).trans (hc i hi).2.2.1, (hc i hi).2.2.2⟩⟩
/-- Both sets of a call's own, alike. -/
structure Twin (w0 w : World) (B R : Nat) (S : Lk) : Prop where
  duo : Duo w B R S S
  gb : w0.heap.size ≤ B
  gr : w0.heap.size ≤ R
  below : Below w0.heap.size w0 w
section
variable {w0 w w' : World} {B R : Nat} {S : Lk}
theorem Twin.new (h : Twin w0 w B R S) (b : Below w.heap.size w w') : Twin w0 w' B R S := ⟨h.duo.new b, h.gb, h.gr, h.below.trans (b.mono h.below.size)⟩
theorem Twin.done (h : Twin w0 w B R S) {e : Ending} (d : Done w B R e w') : e = .returned (.bool true) ∧ ∃ S', Twin w0 w' B R S' :=
  let ⟨he, S', d', t⟩ := d
  ⟨he, S', d', h.gb, h.gr, h.below.trans (t.below h.below.size (fun k hk e => by have := h.gb; have := h.gr; omega))⟩
theorem twin_made {w1 : World} {o : Obj} {T : TypeId} (ho : o = .cells Z192 T) (h1 : Has w1 B S0) (hB : B = w0.heap.size) (b1 : Below w0.heap.size w0 w1) : Twin w0 (w1.alloc o) B w1.heap.size S0 := by
  subst ho; subst hB
  have hlt := h1.lt
  exact ⟨⟨h1.new (below1 w1 _), has_zero w1 T, by omega⟩, Nat.le_refl _, b1.size, b1.trans ((below1 w1 _).mono b1.size)⟩
end
theorem law_play (p : Option Addr) (n c : Nat) (a : Acts) (hn2 : n ≤ 9223372036854775807) (w : World) (hin : ActsIn w w.heap.size p n a) :
    Calls Try.prog 3 #[.slice p n c] w fun e w' => e = .returned (.bool true) ∧ Below w.heap.size w w' := by
  have hl := lives_any
  have HL := Lib.hid hl; have HIN := Lib.hid hin
  clear hl hin
  by_cases hn : n ≤ 200
  · have hnew := new_any w
    have z := zero31
    have HN := Lib.hid hnew
    clear hnew
    go_enter Try.func3, Try.ntmps3
    go_wp2_with fail
    refine HN.out.mono ?_
    rintro e w1 ⟨rfl, h1, b1⟩
    obtain ⟨B, hB⟩ : ∃ B, B = w.heap.size := ⟨_, rfl⟩
    rw [← hB] at h1
    have hT := twin_made (w0 := w) (o := .cells Z192 31) rfl h1 hB b1
    have T1 := Lib.hid hT
    rw [← hB]
    have HB := Lib.hid hB
    clear h1 b1 hT hB
    go_wp2_with fail
    clear z
    generalize w1.alloc (.cells Z192 31) = wz at *
    generalize w1.heap.size = R at *
    go_loopg [5] n (fun q s5 wx => ∃ (k : Nat) (S : Lk), k ≤ n ∧ q = n - k ∧ s5 = .int .i64 (k : Int) ∧ Twin w wx B R S)
    case atStart => exact ⟨0, S0, by omega, rfl, rfl, T1.out⟩
    case round =>
      obtain ⟨k, S, hk, rfl, rfl, ht⟩ := hrel
      have T2 := Lib.hid ht
      clear ht
      by_cases hkn : k < n
      · obtain ⟨lb, lo, rfl, hlb, hcs⟩ := (HIN.out.below T2.out.below (Nat.le_refl _)) (by omega)
        obtain ⟨m0, m1, m2, m3⟩ := hcs k hkn
        clear hcs
        have hdo := do_any T2.out.duo (a.K k) (a.A k) (a.V k) m3
        have HD := Lib.hid hdo
        clear hdo
        go_wp2_with fail
        refine HD.out.mono ?_
        rintro e w3 hd
        obtain ⟨rfl, S', ht⟩ := T2.out.done hd
        have T3 := Lib.hid ht
        clear hd ht
        go_wp2_with fail
        refine (same_any T3.out.duo).mono ?_
        rintro e w4 ⟨rfl, hb⟩
        have T4 := Lib.hid (T3.out.new hb)
        clear hb
        go_wp2_with fail
        go_roundg (n - (k + 1))
        case measure => omega
        case rel => exact ⟨k + 1, S', by omega, rfl, by go_num, T4.out⟩
      · have HB2 := Lib.hid T2.out.below
        go_wp2_with fail
        refine (HL.out _).mono ?_
        rintro e w5 ⟨rfl, hb⟩
        have HB3 := Lib.hid (HB2.out.trans (hb.mono HB2.out.size))
        clear hb
        go_wp2_with fail
        go_ret
        exact ⟨rfl, HB3.out⟩
  · go_enter Try.func3, Try.ntmps3
    go_wp2_with fail
    refine (HL.out _).mono ?_
    rintro e w5 ⟨rfl, hb⟩
    have HB3 := Lib.hid hb
    clear hb
    go_wp2_with fail
    go_ret
    exact ⟨rfl, HB3.out⟩
end Go.Proofs.Ytlmgboggnljefaa
