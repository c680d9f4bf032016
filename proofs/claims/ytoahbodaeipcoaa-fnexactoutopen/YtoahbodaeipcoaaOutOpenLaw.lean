/- OutOpen answers at every number as the specification does, field by field. No conditions. -/
import Derived.Test.YtoahbodaeipcoaaOutBase
namespace Go.Proofs.Ytoahbodaeipcoaa.fnExactOutOpen
open Go.ChangeShapes Go.WideShapes Go.ChangeAt Go.RowKit Go.Joins Go.Deep
set_option linter.unusedVariables false
set_option maxRecDepth 4000
set_option maxHeartbeats 1000000 in
theorem walk (b : Int) (w : World) (x0 : (Lit.int .i64 b).wf = true) :
    Calls Try.prog 7 #[.int .i64 b] w fun x w' => x = .returned (.bool true) ∧ Below w.heap.size w w' := by
  clear x0
  go_enter Try.func7, Try.ntmps7
  go_wp2_with fail
  refine (specOutOpen_any b _).mono ?_
  rintro x w1 ⟨rfl, hb1⟩
  obtain ⟨K0, hK⟩ : ∃ K, K = opn b := ⟨_, rfl⟩
  rw [← hK]
  have HK := hid hK
  clear hK
  have L1 := hid (ib_new w1 [K0, 0, 0, 0] 24)
  go_wp2_with fail
  refine (outOpen_any b _).mono ?_
  rintro x w2 ⟨rfl, hb2⟩
  rw [← HK.out]
  have B2 := hid ((hb1.alloc hb1.size (.cells #[.int .i64 K0, .int .i64 0, .int .i64 0, .int .i64 0] 24)).trans (hb2.mono (by simpa using Nat.le_succ_of_le hb1.size)))
  have M1 := hid ((L1.out.keep hb2).keep (below_alloc1 w2 (.cells #[.int .i64 K0, .int .i64 0, .int .i64 0, .int .i64 0] 24)))
  obtain ⟨q0, q1, q2, q3⟩ := ib4 M1.out
  go_wp2_with fail
  refine (eqOut_same _ _ _ _ _).mono ?_
  rintro x w3 ⟨rfl, hb3⟩
  go_wp2
  go_ret
  exact ⟨rfl, (B2.out.alloc B2.out.size _).trans (hb3.mono (by simpa using Nat.le_succ_of_le B2.out.size))⟩
theorem own : ownKnob Try.prog.godebug = none := by kernel_rfl
theorem laidOut : laidOutB Try.prog = true := by kernel_rfl
set_option maxRecDepth 100000 in
theorem lifted (os : Os) (started : os.Started) (H : Type) (enc : TypeId × Value → H) :
    ReturnsInHanded {} Try.checked os 7 .any (Rows.fnExactOutOpenSpec.pre6 enc Try.prog Try.f7 Rows.fnExactOutOpenRow.domain false) (Rows.fnExactOutOpenSpec.post enc Try.prog Try.f7 false true false false) := by
  refine returnsInHanded_of_change (C := Try.checked) own started (by kernel_rfl) Try.func7
    (ChangeSpec.witness6 (enc := enc) (C := Try.checked) false ⟨#[], #[.int .i64 0], []⟩ 8 (by kernel_rfl) (by kernel_rfl) (by kernel_rfl) (by kernel_rfl)) ?_
  intro W base args ds gs before hval0 hW hcnd _
  have hval : ∀ (j : Nat) t v, Try.f7.params[j]? = some t → args[j]? = some v → Value.okWide Try.prog W .any base t v := hval0
  have hW' := hW
  obtain ⟨p, q, hA0, hV, rfl, hfz, hnd⟩ := hW
  have hA : DataW.TrodAll enc Try.prog W 0 (fun _ => true) true Try.f7.params.toList args.toList ds p := hA0
  rw [Try.params7] at hA hval
  obtain ⟨v0, vs0, d0, ds0, p0, q0, hargs, rfl, rfl, h0, r0⟩ := trodAll_cons hA
  obtain ⟨rfl, rfl, rfl⟩ := trodAll_nil r0
  obtain rfl : args = #[v0] := by cases args; simp_all
  obtain ⟨rfl, rfl⟩ := trodVars_none hV
  obtain ⟨a0, rfl, rfl, rfl, w0⟩ := open_int Try.underlying3 (hval 0 3 v0 rfl rfl) h0
  clear hA0 hval0
  refine (walk a0 W w0).mono fun e W' ⟨he, bel⟩ => ?_
  subst he
  exact ⟨_, rfl, _, _, _, [], _, [], hW', trodAll_mk1 (shut_bool Try.underlying4 _), (trodAll_cons_mk (shut_int Try.underlying3 w0) trodAll_mk0), rfl, bel.frame _, fun h => by cases h⟩

theorem over : Rows.fnExactOutOpenRow.holds Try.pinned (OpenSpec.ofChange Rows.fnExactOutOpenSpec) :=
  OpenClaim.holds_of_wide 7 Try.f7 rfl rfl rfl rfl rfl rfl rfl ⟨rfl, rfl, rfl, rfl, rfl⟩ rfl rfl rfl rfl rfl (by kernel_rfl) Try.func7 (by kernel_rfl)
    (of_decide_eq_true (by kernel_rfl)) (by unfold Func.isWrapper; first | (rw [if_pos (by decide +kernel)]; kernel_rfl) | (rw [if_neg (by decide +kernel)]; exact ⟨rfl, rfl⟩))
    (fun os started H enc _ => lifted os started H enc)

end Go.Proofs.Ytoahbodaeipcoaa.fnExactOutOpen
namespace Go.Proofs.Ytoahbodaeipcoaa
theorem fnExactOutOpen_holds : Rows.FnExactOutOpenSaid := fnExactOutOpen.over
#print axioms fnExactOutOpen_holds
end Go.Proofs.Ytoahbodaeipcoaa
