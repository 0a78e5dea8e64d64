
import Derived.Test.YtlflagjnlclffaaGreatMLawPlay1430
import Derived.Test.YtlflagjnlclffaaGreatMLawPlay1431
import Derived.JoinedCond
set_option linter.unusedVariables false
set_option linter.unusedSimpArgs false
namespace Go.Proofs.YtlflagjnlclffaaGreat.wordfreesPlay
set_option maxRecDepth 100000
set_option maxHeartbeats 16000000
open Go.ChangeShapes Go.WideShapes Go.ChangeAt Go.RowKit Go.Deep
set_option linter.unusedVariables false
theorem contract (H : Type) (enc : TypeId × Value → H) (W : World) (base : Nat) (args : Array Value) (ds gs : List (DataW H)) (before : List MemPlace)
    (hval0 : ∀ (j : Nat) t v, Tryz.f4.params[j]? = some t → args[j]? = some v → Value.okWide Tryz.prog W .any base t v)
    (hW : DataW.Whole enc Tryz.prog Tryz.f4.params.toList Rows.wordfreesPlaySpec.vars false W args.toList ds gs before) (hk0 : Rows.uptoSmall H (ds ++ gs) = true) :
    Calls Tryz.prog 4 args W fun e W' => ∃ v, e = .returned v ∧ Rows.wordfreesPlaySpec.post enc Tryz.prog Tryz.f4 false true false false W args v W' := by
  have hval := hval0
  have hW' := hW
  obtain ⟨p, q, hA0, hV, rfl, hfz, hnd⟩ := hW
  have hA : DataW.TrodAll enc Tryz.prog W 0 (fun _ => true) true Tryz.f4.params.toList args.toList ds p := hA0
  rw [Tryz.params4] at hA hval
  obtain ⟨v0, vs0, d0, ds0, p0, q0, hargs, rfl, rfl, h0, r0⟩ := trodAll_cons hA
  obtain ⟨v1, vs1, d1, ds1, p1, q1, rfl, rfl, rfl, h1, r1⟩ := trodAll_cons r0
  obtain ⟨rfl, rfl, rfl⟩ := trodAll_nil r1
  obtain rfl : args = #[v0, v1] := by cases args; simp_all
  obtain ⟨rfl, rfl⟩ := trodVars_none hV
  have hv0 := hval 0 30 v0 rfl rfl
  have hv1 := hval 1 60 v1 rfl rfl
  clear hA0 hval0 hval hA
  simp only [List.append_nil] at hW' hk0
  have hk := S13.bulk_small hk0
  have hlt0 : ∀ x ∈ p0, x.block < W.heap.size := fun x hx => hW'.lt x (by simp [hx])
  have hlt1 : ∀ x ∈ p1, x.block < W.heap.size := fun x hx => hW'.lt x (by simp [hx])
  have hwalk : Calls Tryz.prog 4 #[v0, v1] W fun e w' => e = .returned (.bool true) ∧ Below W.heap.size W w' := by
    obtain ⟨sp, mo, dA, dc, D, sA, sn, sc, SA, SV, gA, gn, gc, GY, qA, qn, qc, QY, tk, rfl, e0, e1, hdl, hdc, hrd, hdd, hsn, hsi, hso, hgn, hgi, hgo, hqn, hqi, hqo, e8⟩ := S12.tfirst_open hv0 h0
    obtain ⟨aA, an, ac, Ya, rfl, han, hai⟩ := S13.acts_open14 hv1 h1
    obtain ⟨mo, rfl, hmo⟩ := S12.u64_of e1
    obtain ⟨tk, rfl, htk⟩ := S12.u64_of e8
    have hb := S13.first_bulk h0
    simp only [Rows.uptoBulkAll] at hk
    have hd1 : D.length ≤ 1048576 := by omega
    have hs1 : sn ≤ 1048576 := by omega
    refine S14.law_free (F := Ya) (fun W' b => ?_) hai han
    have hs := b.size
    refine (S12.begin_any (w := W') hd1 hdl hdc (by omega) (S13.rd3_up (hrd.below b (Nat.le_refl _)) hs) hdd hs1 (S13.win_up (hsi.below b (Nat.le_refl _)) hs) hso (S13.gin_up (hgi.below b (Nat.le_refl _)) hs) hgo hgn (S13.qin_up (hqi.below b (Nat.le_refl _)) hs) (fun i hi => S13.qok_up ((hqo i hi).below b (Nat.le_refl _)) hs) hqn (by omega)).mono ?_
    rintro e w' ⟨M, X, Y, rfl, hbg⟩
    exact ⟨1200, 2097164, 7, M, X, Y, rfl, hbg, Nat.le_refl _, by decide⟩
  refine hwalk.mono fun e W' ⟨he, hg⟩ => ?_
  subst he
  exact ⟨_, rfl, _, _, _, [], p0 ++ p1, [], hW', trodAll_mk1 (shut_bool Tryz.underlying4 _), trodAll_cons_mk (Below.trod laidOut (by kernel_rfl) (of_decide_eq_true (by kernel_rfl)) h0 hg hlt0) (trodAll_mk1 (Below.trod laidOut (by kernel_rfl) (of_decide_eq_true (by kernel_rfl)) h1 hg hlt1)), rfl, hg.frame _, fun h => by cases h⟩
theorem lifted (os : Os) (started : os.Started) (H : Type) (enc : TypeId × Value → H) (F : Stop.Interp) :
    ReturnsInHanded {} Tryz.checked os 4 .any ((Rows.OpenSpec.upto Rows.wordfreesPlaySpec).pre6 enc Tryz.prog Tryz.f4 Rows.wordfreesPlayUptoRow.domain false) (((Rows.OpenSpec.upto Rows.wordfreesPlaySpec).at F).post enc Tryz.prog Tryz.f4 false true false false) := by
  refine returnsInHanded_of_cond (C := Tryz.checked) (s := Rows.OpenSpec.upto Rows.wordfreesPlaySpec) (k := Rows.uptoSmall) rfl own started (by kernel_rfl) Tryz.func4
    (OpenSpec.witness (enc := enc) (C := Tryz.checked) (s := Rows.OpenSpec.upto Rows.wordfreesPlaySpec) (k := Rows.uptoSmall) rfl false ⟨#[], #[.agg #[.int .i64 0, .int .u64 0, .slice none 0 0, .slice none 0 0, .slice none 0 0, .slice none 0 0, .int .u64 0], .slice none 0 0], []⟩ 8 (by kernel_rfl) (by kernel_rfl) (by kernel_rfl)
      (x := ([.agg [.agg [.lit (.int .i64 0), .lit (.int .u64 0), .nil], .nil, .nil, .nil, .lit (.int .u64 0)], .nil], [], [])) (by kernel_rfl) rfl (by kernel_rfl)) ?_
  intro W base args ds gs before hval hW _ hk _
  exact contract H enc W base args ds gs before hval hW hk
theorem proved : Rows.WordfreesPlayUptoSaid :=
  OpenClaim.holds_of_cond 4 Tryz.f4 rfl rfl rfl rfl rfl rfl rfl ⟨rfl, rfl, rfl, rfl, rfl⟩ rfl rfl rfl rfl rfl (by kernel_rfl) Tryz.func4 (by kernel_rfl)
    (of_decide_eq_true (by kernel_rfl)) (by unfold Func.isWrapper; first | (rw [if_pos (by decide +kernel)]; kernel_rfl) | (rw [if_neg (by decide +kernel)]; exact ⟨rfl, rfl⟩))
    (fun os started H enc _ F => lifted os started H enc F)
#print axioms proved
end Go.Proofs.YtlflagjnlclffaaGreat.wordfreesPlay
