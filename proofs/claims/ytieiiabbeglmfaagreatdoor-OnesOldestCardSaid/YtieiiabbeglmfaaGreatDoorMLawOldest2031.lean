/- Texts of this seat, one behind the other. -/
import Derived.Test.YtieiiabbeglmfaaGreatDoorMLawOldest2030
set_option linter.unusedVariables false
set_option linter.unusedSimpArgs false
set_option linter.unusedVariables false
set_option linter.unusedSimpArgs false
set_option linter.unusedVariables false
set_option linter.unusedSimpArgs false
namespace Go.Proofs.YtieiiabbeglmfaaGreatDoor.S16
set_option maxRecDepth 100000
set_option maxHeartbeats 16000000
open Go.Proofs.YtieiiabbeglmfaaGreatDoor Go.Proofs.YtieiiabbeglmfaaGreatDoor.S11 Go.Proofs.YtieiiabbeglmfaaGreatDoor.S12 Go.Proofs.YtieiiabbeglmfaaGreatDoor.S13 Go.Proofs.YtieiiabbeglmfaaGreatDoor.S14 Go.Proofs.YtieiiabbeglmfaaGreatDoor.S15
open Go.RowKit
structure Pr where
  ln : Nat
  t : Nat
  a : Nat
  b : Nat
  tw : Nat
  K1 : Lk
  K2 : Lk
  F : Fr
abbrev Rows := List (Nat × Obj)
def rowsP (l : Rows) : Part where
  ok w := (∀ x, x ∈ l → w.heap[x.1]? = some x.2) ∧ (l.map Prod.fst).Nodup
  fp k := ∃ ob, (k, ob) ∈ l
  lt w h k e := by
    obtain ⟨ob, he⟩ := e
    exact heap_lt (h.1 _ he)
  kept S w w' h t hs := ⟨fun x hx => (t.block x.1 (heap_lt (h.1 _ hx)) (hs _ ⟨x.2, hx⟩)).trans (h.1 _ hx), h.2⟩
theorem at_end (l : Rows) (x : Nat × Obj) : (l ++ [x])[l.length]? = some x := by rw [List.getElem?_append_right (Nat.le_refl _), Nat.sub_self]; rfl
theorem app1 {l a : Rows} {k : Nat} {x : Nat × Obj} (h : l[k]? = some x) : (l ++ a)[k]? = some x := by
  rw [List.getElem?_append_left (List.getElem?_eq_some_iff.1 h).1]; exact h
theorem app2 {l a b : Rows} {k : Nat} {x : Nat × Obj} (h : l[k]? = some x) : (l ++ a ++ b)[k]? = some x := app1 (app1 h)
theorem app3 {l a b c : Rows} {k : Nat} {x : Nat × Obj} (h : l[k]? = some x) : (l ++ a ++ b ++ c)[k]? = some x := app1 (app2 h)
theorem app4 {l a b c d : Rows} {k : Nat} {x : Nat × Obj} (h : l[k]? = some x) : (l ++ a ++ b ++ c ++ d)[k]? = some x := app1 (app3 h)
section
variable {w0 w w' : World} {base WB : Nat} {M : Sd} {r : List Part} {j u U : Nat} {l l' : Rows} {X : Wm}
structure Wq (w0 w : World) (base WB : Nat) (M : Sd) (r : List Part) (j : Nat) (l : Rows) (X : Wm) : Prop where
  pg : Pg w0 w base WB M (r.set j (rowsP l)) X
  hj : j < r.length
theorem Wq.new (h : Wq w0 w base WB M r j l X) (b : Below w.heap.size w w') : Wq w0 w' base WB M r j l X := ⟨h.pg.new b, h.hj⟩
theorem Wq.part (h : Wq w0 w base WB M r j l X) : (r.set j (rowsP l))[j]? = some (rowsP l) := List.getElem?_set_self h.hj
theorem Wq.at (h : Wq w0 w base WB M r j l X) : (rowsP l).ok w := h.pg.ps.ok _ _ (h.pg.part h.part)
theorem Wq.blk (h : Wq w0 w base WB M r j l X) (k : Nat) {B : Nat} {ob : Obj} (e : l[k]? = some (B, ob)) : w.heap[B]? = some ob := h.at.1 _ (List.mem_of_getElem? e)
theorem Wq.lt (h : Wq w0 w base WB M r j l X) {x : Nat × Obj} (e : x ∈ l) : x.1 < w.heap.size := heap_lt (h.at.1 _ e)
theorem Wq.turn (h : Wq w0 w base WB M r j l X) (hq : (rowsP l').ok w') (tn : Turns (rowsP l).fp w w') (hf : ∀ k, (rowsP l').fp k → (rowsP l).fp k ∨ w.heap.size ≤ k) : Wq w0 w' base WB M r j l' X := by
  have := h.pg.turn h.part (rowsP l') hq tn hf
  rw [List.set_set] at this
  exact ⟨this, h.hj⟩
theorem Wq.only (h : Wq w0 w base WB M r j l X) (hs : ∀ x, x ∈ l' → x ∈ l) (hn : (l'.map Prod.fst).Nodup) : Wq w0 w base WB M r j l' X :=
  h.turn ⟨fun x hx => h.at.1 x (hs x hx), hn⟩ (Turns.refl _ w) (fun k hk => .inl (by obtain ⟨ob, he⟩ := hk; exact ⟨ob, hs _ he⟩))
theorem set_fst {l : Rows} {k B : Nat} {o1 o2 : Obj} (e : l[k]? = some (B, o1)) : (l.set k (B, o2)).map Prod.fst = l.map Prod.fst := by
  rw [List.map_set]
  refine List.ext_getElem? fun i => ?_
  by_cases hi : i = k
  · subst hi
    have hlt : i < l.length := (List.getElem?_eq_some_iff.1 e).1
    rw [List.getElem?_set_self (by rw [List.length_map]; exact hlt), List.getElem?_map, e]; rfl
  · rw [List.getElem?_set_ne (Ne.symm hi)]
theorem nodup_at {l : Rows} (hn : (l.map Prod.fst).Nodup) {i k : Nat} {x y : Nat × Obj} (hi : l[i]? = some x) (hk : l[k]? = some y) (e : x.1 = y.1) : i = k := by
  have h1 : (l.map Prod.fst)[i]? = some x.1 := by rw [List.getElem?_map, hi]; rfl
  have h2 : (l.map Prod.fst)[k]? = some x.1 := by rw [List.getElem?_map, hk, e]; rfl
  exact (List.getElem?_inj (List.getElem?_eq_some_iff.1 h1).1 hn).1 (h1.trans h2.symm)
theorem Wq.put (h : Wq w0 w base WB M r j l X) (k : Nat) {B T : Nat} {cs cs' : Array Value} (e : l[k]? = some (B, .cells cs T (0, 0))) (i : Nat) (v : Value) (ec : cs.setIfInBounds i v = cs') : Wq w0 (w.setCell ⟨B, i, none⟩ v) base WB M r j (l.set k (B, .cells cs' T (0, 0))) X := by
  have hb := h.blk k e
  have hm : (B, .cells cs T (0, 0)) ∈ l := List.mem_of_getElem? e
  refine h.turn ⟨fun x hx => ?_, by rw [set_fst e]; exact h.at.2⟩ ((Turns.refl _ w).setCell ⟨B, i, none⟩ _ ⟨_, hm⟩) (fun q hq => .inl ?_)
  · obtain ⟨n, hn⟩ := List.getElem?_of_mem hx
    by_cases hnk : n = k
    · subst hnk
      rw [List.getElem?_set_self (List.getElem?_eq_some_iff.1 e).1] at hn
      injection hn with hn
      rw [← hn]
      exact set_blk hb i v _ ec
    · rw [List.getElem?_set_ne (Ne.symm hnk)] at hn
      rw [heap_set_ne (fun he => hnk (nodup_at h.at.2 hn e he))]
      exact h.blk n hn
  · obtain ⟨ob, hx⟩ := hq
    have hx2 : q ∈ (l.set k (B, .cells cs' T (0, 0))).map Prod.fst := List.mem_map.2 ⟨_, hx, rfl⟩
    rw [set_fst e] at hx2
    obtain ⟨y, hy, rfl⟩ := List.mem_map.1 hx2
    exact ⟨y.2, hy⟩
theorem Wq.push (h : Wq w0 w base WB M r j l X) (ob : Obj) : Wq w0 (w.alloc ob) base WB M r j (l ++ [(w.heap.size, ob)]) X := by
  refine h.turn ⟨fun x hx => ?_, ?_⟩ ((Turns.refl _ w).alloc ob) (fun q hq => ?_)
  · rcases List.mem_append.1 hx with hx | hx
    · rw [alloc_lt (h.lt hx)]; exact h.at.1 x hx
    · rw [List.mem_singleton] at hx
      subst hx
      exact heap_alloc_new w ob
  · rw [List.map_append, List.nodup_append]
    refine ⟨h.at.2, by simp, fun a ha b hb e => ?_⟩
    obtain ⟨y, hy, rfl⟩ := List.mem_map.1 ha
    have := h.lt hy
    simp at hb
    omega
  · obtain ⟨ob', hx⟩ := hq
    rcases List.mem_append.1 hx with hx | hx
    · exact .inl ⟨ob', hx⟩
    · rw [List.mem_singleton] at hx
      injection hx with h1 h2
      exact .inr (by omega)
theorem Wq.keep {s : Rows} {k : Nat} {y : Nat × Obj} (h : Wq w0 w base WB M r j ((l ++ s).set k y) X) (hk : k < l.length) : Wq w0 w base WB M r j (y :: s) X := by
  have hs := h.at.2
  rw [List.set_append_left _ _ hk] at h hs
  refine h.only (fun x hx => ?_) ?_
  · rcases List.mem_cons.1 hx with rfl | hx
    · exact List.mem_append_left _ (List.mem_set hk x)
    · exact List.mem_append_right _ hx
  · rw [List.map_append, List.nodup_append] at hs
    rw [List.map_cons, List.nodup_cons]
    refine ⟨fun hm => hs.2.2 _ (List.mem_map.2 ⟨y, List.mem_set hk y, rfl⟩) _ hm rfl, hs.2.1⟩
theorem Wq.newU (h : Wq w0 w base WB M r j l X) (hju : j ≠ u) (hu : u < r.length) (ob : Obj) : Wq w0 (w.alloc ob) base WB M (r.set u (blockP w.heap.size ob)) j l X := by
  have e : (r.set j (rowsP l))[u]? = r[u]? := List.getElem?_set_ne hju
  have hp : (r.set j (rowsP l))[u]? = some r[u] := by rw [e]; exact List.getElem?_eq_getElem hu
  have h2 := h.pg.turn hp (blockP w.heap.size ob) (heap_alloc_new w ob) ((Turns.refl _ w).alloc ob) (fun k e => .inr (Nat.le_of_eq (show k = w.heap.size from e).symm))
  rw [List.set_comm _ _ hju] at h2
  exact ⟨h2, by rw [List.length_set]; exact h.hj⟩
theorem Wq.free {K : Fr} (h : Wq w0 w base WB M r j l X) (hju : j ≠ u) (hu : r[u]? = some (freeP U K)) : Wf w0 w base WB M (r.set j (rowsP l)) u U K X := by
  have e : (r.set j (rowsP l))[u]? = some (freeP U K) := (List.getElem?_set_ne hju).trans hu
  exact ⟨by rw [set_eq e]; exact h.pg, (List.getElem?_eq_some_iff.1 e).1⟩
theorem wq_free {K : Fr} (h : Wf w0 w base WB M (r.set j (rowsP l)) u U K X) (hju : j ≠ u) (hj : j < r.length) : Wq w0 w base WB M (r.set u (freeP U K)) j l X := by
  have hp := h.pg
  rw [List.set_comm _ _ hju] at hp
  exact ⟨hp, by rw [List.length_set]; exact hj⟩
end
end Go.Proofs.YtieiiabbeglmfaaGreatDoor.S16
namespace Go.Proofs.YtieiiabbeglmfaaGreatDoor.S10
set_option maxRecDepth 100000
set_option maxHeartbeats 16000000
open Go.Proofs.YtieiiabbeglmfaaGreatDoor
open Go.RowKit
def idx (p : Ent → Bool) (D : List Ent) : Int := match D.findIdx? p with | some i => (i : Int) | none => -1
theorem idx_hit {p : Ent → Bool} {D : List Ent} {k : Nat} (hk : k < D.length) (h : ∀ j, j < k → p D[j]! = false) (hp : p D[k]! = true) : idx p D = k := by
  have : D.findIdx? p = some k := by
    rw [List.findIdx?_eq_some_iff_getElem]
    refine ⟨hk, by rwa [getElem!_pos D k hk] at hp, fun j hj => ?_⟩
    have := h j hj
    rw [getElem!_pos D j (by omega)] at this
    simp [this]
  unfold idx; rw [this]
theorem idx_miss {p : Ent → Bool} {D : List Ent} (h : ∀ j, j < D.length → p D[j]! = false) : idx p D = -1 := by
  have : D.findIdx? p = none := by
    rw [List.findIdx?_eq_none_iff]
    intro x hx
    obtain ⟨j, hj, rfl⟩ := List.getElem_of_mem hx
    have := h j hj
    rwa [getElem!_pos D j hj] at this
  unfold idx; rw [this]
theorem eg29 : ∀ args w, (callFunc 226 args).run Tryz.prog w = .ok (.enter 226 args) w := enters_of Tryz.func226 (by kernel_rfl) rfl
theorem eg30 : ∀ args w, (callFunc 274 args).run Tryz.prog w = .ok (.enter 274 args) w := enters_of Tryz.func274 (by kernel_rfl) rfl
def byKey (key : Int) (e : Ent) : Bool := decide (e.k = key)
def byThread (t : Int) (e : Ent) : Bool := decide (e.t = t)
theorem first1_any (key : Int) (B : Nat) (w : World) (hB : w.cell? ⟨B, 0, none⟩ = some (.int .u32 key)) (hlt : B < w.heap.size) (W : World) (e : Ent) (hb : Below w.heap.size w W) :
    Calls Tryz.prog 226 #[ag e, .pointer (some ⟨B, 0, none⟩)] W fun e' W' => e' = .returned (.bool (byKey key e)) ∧ Below w.heap.size w W' := by
  have c0 : W.cell? ⟨B, 0, none⟩ = some (.int .u32 key) := (hb.cell (p := ⟨B, 0, none⟩) hlt).trans hB
  have hBW : B < W.heap.size := Nat.lt_of_lt_of_le hlt hb.size
  have hne : B ≠ W.heap.size := by omega
  have HB := Lib.hid hb
  clear hb hB
  go_enter Tryz.func226, Tryz.ntmps226
  go_wp2
  go_ret
  exact ⟨rfl, HB.out.alloc HB.out.size _⟩
theorem of1_any (t : Int) (B : Nat) (w : World) (hB : w.cell? ⟨B, 0, none⟩ = some (.int .i64 t)) (hlt : B < w.heap.size) (W : World) (e : Ent) (hb : Below w.heap.size w W) :
    Calls Tryz.prog 274 #[ag e, .pointer (some ⟨B, 0, none⟩)] W fun e' W' => e' = .returned (.bool (byThread t e)) ∧ Below w.heap.size w W' := by
  have c0 : W.cell? ⟨B, 0, none⟩ = some (.int .i64 t) := (hb.cell (p := ⟨B, 0, none⟩) hlt).trans hB
  have hBW : B < W.heap.size := Nat.lt_of_lt_of_le hlt hb.size
  have hne : B ≠ W.heap.size := by omega
  have HB := Lib.hid hb
  clear hb hB
  go_enter Tryz.func274, Tryz.ntmps274
  go_wp2
  go_ret
  exact ⟨rfl, HB.out.alloc HB.out.size _⟩
theorem index_any {w : World} {base : Nat} {A : Option Addr} {D : List Ent} (c : Nat) (g : Nat) (lb : Array Value) (p : Ent → Bool) (eg : ∀ args w, (callFunc g args).run Tryz.prog w = .ok (.enter g args) w) (hr : Rd w base A (flat D)) (hbase : base ≤ w.heap.size) (hlen : D.length ≤ 1000000)
    (hp : ∀ W e, Below w.heap.size w W → Calls Tryz.prog g (#[ag e] ++ lb) W fun e' W' => e' = .returned (.bool (p e)) ∧ Below w.heap.size w W') :
    Calls Tryz.prog 225 #[.slice A D.length c, .func (.func g) #[] lb] w fun e w' => e = .returned (.int .i64 (idx p D)) ∧ Below w.heap.size w w' := by
  have HR := Lib.hid hr; have HP := Lib.hid hp; have HBS := Lib.hid hbase
  clear hr hp hbase
  obtain ⟨n, hn⟩ : ∃ n, n = D.length := ⟨_, rfl⟩
  rw [← hn]
  have HN := Lib.hid hn
  have hn6 : n ≤ 1000000 := by omega
  clear hn hlen
  go_enter Tryz.func225, Tryz.ntmps225
  go_wp2_with fail
  go_loopg [5, 8] n (fun q s5 s8 wx => ∃ k : Nat, k ≤ n ∧ q = n - k ∧ s8 = .int .i64 (k : Int) ∧ Below w.heap.size w wx ∧ ∀ j, j < k → p D[j]! = false)
  case atStart => exact ⟨0, by omega, rfl, rfl, Below.refl _ _, fun j hj => by omega⟩
  case round =>
    obtain ⟨k, hk, rfl, rfl, hb, hj⟩ := hrel
    have HJ := Lib.hid hj; have HB := Lib.hid hb
    clear hj hb
    by_cases hkn : k < n
    · obtain ⟨lb', lo, rfl, hlb, c0, c1, c2⟩ := (HR.out.below HB.out HBS.out).ent (i := k) (by have := HN.out; omega)
      have hcall := HP.out wr D[k]! HB.out
      have HD : Hid (∃ e, D[k]! = e) := ⟨_, rfl⟩
      generalize hd : D[k]! = d at *
      have HE := Lib.hid hd
      clear hd HD
      have hlt : (k : Int) < (n : Int) := by omega
      cases hq : p d with
      | true =>
        rw [hq] at hcall
        have HQ := Lib.hid hq
        clear hq
        go_wp2_with (go_at_fn g; refine hcall.mono ?_; rintro e w' ⟨rfl, hb'⟩)
        go_ret
        rw [idx_hit (by have := HN.out; omega) HJ.out (by rw [HE.out]; exact HQ.out)]
        exact ⟨rfl, hb'⟩
      | false =>
        rw [hq] at hcall
        have HQ := Lib.hid hq
        clear hq
        go_wp2_with (go_at_fn g; refine hcall.mono ?_; rintro e w' ⟨rfl, hb'⟩)
        go_roundg (n - (k + 1))
        case measure => omega
        case rel =>
          refine ⟨k + 1, by omega, rfl, by go_num, hb', fun j hj => ?_⟩
          by_cases e : j = k
          · subst e; rw [HE.out]; exact HQ.out
          · exact HJ.out j (by omega)
    · obtain rfl : k = n := by omega
      go_wp2_with fail
      go_ret
      rw [idx_miss (by rw [← HN.out]; exact HJ.out)]
      exact ⟨rfl, HB.out⟩
end Go.Proofs.YtieiiabbeglmfaaGreatDoor.S10
