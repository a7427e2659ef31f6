import Derived.Test.YtoopipljedoeeaaNest
import Derived.Test.YtoopipljedoeeaaDropLaw
namespace Go.Proofs.Ytoopipljedoeeaa
open Go.ChangeShapes Go.WideShapes Go.ChangeAt Go.RowKit Go.Joins
namespace LawFnExactDrop

theorem own : ownKnob Try.prog.godebug = none := by kernel_rfl

set_option maxRecDepth 100000 in
theorem lifted (os : Os) (started : os.Started) (H : Type) (enc : TypeId × Value → H) :
    ReturnsInHanded {} Try.checked os 5 .any (Rows.fnExactDropSpec.pre6 enc Try.prog Try.f5 Rows.fnExactDropRow.domain false) (Rows.fnExactDropSpec.post enc Try.prog Try.f5 false true false false) := by
  refine returnsInHanded_of_change (C := Try.checked) own started (by kernel_rfl) Try.func5
    (ChangeSpec.witness6 (enc := enc) (C := Try.checked) false ⟨#[], #[.agg #[.int .i64 0, .int .i64 0, .int .i64 0, .int .i64 0, .int .i64 0, .int .i64 0, .int .i64 0, .int .i64 0], .agg #[.int .i64 0, .int .i64 0, .int .i64 0, .int .i64 0, .int .i64 0, .int .i64 0]], []⟩ 8 (by kernel_rfl) (by kernel_rfl) (by kernel_rfl) (by kernel_rfl)) ?_
  intro W base args ds gs before hval0 hW hcnd _
  have hval : ∀ (j : Nat) t v, Try.f5.params[j]? = some t → args[j]? = some v → Value.okWide Try.prog W .any base t v := hval0
  have hW' := hW
  obtain ⟨p, q, hA0, hV, rfl, hfz, hnd⟩ := hW
  have hA : DataW.TrodAll enc Try.prog W 0 (fun _ => true) true Try.f5.params.toList args.toList ds p := hA0
  rw [Try.params5] at hA hval
  obtain ⟨v0, v1, d0, d1, p0, p1, rfl, rfl, rfl, h0, h1⟩ := trodAll_two hA
  obtain ⟨rfl, rfl⟩ := trodVars_none hV
  obtain ⟨a0, b0, c0, d0, k0, l0, m0, n0, rfl, rfl, rfl, wa0, wb0, wc0, wd0, wk0, wl0, wm0, wn0⟩ := PL_open (hval 0 33 v0 rfl rfl) h0
  obtain ⟨a1, b1, c1, d1, k1, l1, rfl, rfl, rfl, wa1, wb1, wc1, wd1, wk1, wl1⟩ := V3_open (hval 1 25 v1 rfl rfl) h1
  clear hA0 hval0
  simp only [List.append_nil] at hW'
  have reads0 : ∀ (W' : World) (sp : Nat → Bool), DataW.Trod enc Try.prog W' 0 sp true 33 (.agg #[.int .i64 a0, .int .i64 b0, .int .i64 c0, .int .i64 d0, .int .i64 k0, .int .i64 l0, .int .i64 m0, .int .i64 n0]) (.agg [.agg [.lit (.int .i64 a0), .lit (.int .i64 b0)], .agg [.lit (.int .i64 c0), .lit (.int .i64 d0)], .agg [.lit (.int .i64 k0), .lit (.int .i64 l0)], .agg [.lit (.int .i64 m0), .lit (.int .i64 n0)]]) [] := fun _ _ => ⟨3, by simpa [Value.cells] using pl_shut wa0 wb0 wc0 wd0 wk0 wl0 wm0 wn0⟩
  have reads1 : ∀ (W' : World) (sp : Nat → Bool), DataW.Trod enc Try.prog W' 0 sp true 25 (.agg #[.int .i64 a1, .int .i64 b1, .int .i64 c1, .int .i64 d1, .int .i64 k1, .int .i64 l1]) (.agg [.agg [.lit (.int .i64 a1), .lit (.int .i64 b1)], .agg [.lit (.int .i64 c1), .lit (.int .i64 d1)], .agg [.lit (.int .i64 k1), .lit (.int .i64 l1)]]) [] := fun _ _ => ⟨3, by simpa [Value.cells] using v3_shut wa1 wb1 wc1 wd1 wk1 wl1⟩
  refine (lawDrop_walk a0 b0 c0 d0 k0 l0 m0 n0 a1 b1 c1 d1 k1 l1 W).mono fun e W' ⟨he, bel⟩ => ?_
  subst he
  exact ⟨_, rfl, _, _, _, [], [], [], hW', trodAll_mk1 (shut_bool Try.underlying4 _), (trodAll_cons_mk (reads0 _ _) (trodAll_cons_mk (reads1 _ _) trodAll_mk0)), rfl, bel.frame _, fun h => by cases h⟩

theorem over : Rows.fnExactDropRow.holds Try.pinned (OpenSpec.ofChange Rows.fnExactDropSpec) :=
  OpenClaim.holds_of_wide 5 Try.f5 rfl rfl rfl rfl rfl rfl rfl ⟨rfl, rfl, rfl, rfl, rfl⟩ rfl rfl rfl rfl rfl (by kernel_rfl) Try.func5 (by kernel_rfl)
    (of_decide_eq_true (by kernel_rfl)) (by unfold Func.isWrapper; first | (rw [if_pos (by decide +kernel)]; kernel_rfl) | (rw [if_neg (by decide +kernel)]; exact ⟨rfl, rfl⟩))
    (fun os started H enc _ => lifted os started H enc)
end LawFnExactDrop

theorem fnExactDrop_holds : Rows.FnExactDropSaid := LawFnExactDrop.over
#print axioms fnExactDrop_holds
end Go.Proofs.Ytoopipljedoeeaa
