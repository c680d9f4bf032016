/- OutOk answers at every half as the specification does, and writes into no argument. No conditions. -/
import Derived.Test.YtoahbodaeipcoaaOutBase
namespace Go.Proofs.Ytoahbodaeipcoaa.fnExactOutOk
open Go.ChangeShapes Go.WideShapes Go.ChangeAt Go.RowKit Go.Joins Go.Deep
set_option linter.unusedVariables false
set_option maxRecDepth 4000
set_option maxHeartbeats 1000000 in
theorem walk (b p e s : Int) (w : World) (x0 : (Lit.int .i64 b).wf = true) (x1 : (Lit.int .i64 p).wf = true) (x2 : (Lit.int .i64 e).wf = true) (x3 : (Lit.int .i64 s).wf = true) :
    Calls Try.prog 8 #[.agg #[.int .i64 b, .int .i64 p, .int .i64 e, .int .i64 s]] w fun x w' => x = .returned (.bool true) ∧ Below w.heap.size w w' := by
  clear x0 x1 x2 x3
  go_enter Try.func8, Try.ntmps8
  go_wp2_with fail
  refine (toOut_any _ _ _ _ _).mono ?_
  rintro x w1 ⟨rfl, hb1⟩
  have z1 := hb1.size
  simp at z1
  go_wp2_with fail
  refine (specOutOk_any _ _ _ _ _).mono ?_
  rintro x w2 ⟨rfl, hb2⟩
  have z2 := hb2.size
  have hb12 := hb1.trans (hb2.mono hb1.size)
  obtain ⟨hc, _⟩ := bcell hb12
  go_wp2_with fail
  refine (toOut_any _ _ _ _ _).mono ?_
  rintro x w3 ⟨rfl, hb3⟩
  have z3 := hb3.size
  go_wp2_with fail
  refine (outOk_any _ _ _ _ _).mono ?_
  rintro x w4 ⟨rfl, hb4⟩
  go_wp2
  go_ret
  refine ⟨rfl, ?_⟩
  exact (below_alloc1 _ _).trans (((hb12.trans (hb3.mono (by simp; omega))).trans (hb4.mono (by simp; omega))).mono (by simp))
theorem own : ownKnob Try.prog.godebug = none := by kernel_rfl
theorem laidOut : laidOutB Try.prog = true := by kernel_rfl
theorem cells54 : Try.prog.cellsOf 54 = 4 := by kernel_rfl
set_option maxRecDepth 100000 in
theorem lifted (os : Os) (started : os.Started) (H : Type) (enc : TypeId × Value → H) :
    ReturnsInHanded {} Try.checked os 8 .any (Rows.fnExactOutOkSpec.pre6 enc Try.prog Try.f8 Rows.fnExactOutOkRow.domain false) (Rows.fnExactOutOkSpec.post enc Try.prog Try.f8 false true false false) := by
  refine returnsInHanded_of_change (C := Try.checked) own started (by kernel_rfl) Try.func8
    (ChangeSpec.witness6 (enc := enc) (C := Try.checked) false ⟨#[], #[.agg #[.int .i64 0, .int .i64 0, .int .i64 0, .int .i64 0]], []⟩ 8 (by kernel_rfl) (by kernel_rfl) (by kernel_rfl) (by kernel_rfl)) ?_
  intro W base args ds gs before hval0 hW hcnd _
  have hval : ∀ (j : Nat) t v, Try.f8.params[j]? = some t → args[j]? = some v → Value.okWide Try.prog W .any base t v := hval0
  have hW' := hW
  obtain ⟨p, q, hA0, hV, rfl, hfz, hnd⟩ := hW
  have hA : DataW.TrodAll enc Try.prog W 0 (fun _ => true) true Try.f8.params.toList args.toList ds p := hA0
  rw [Try.params8] at hA hval
  obtain ⟨v0, vs0, d0, ds0, p0, q0, hargs, rfl, rfl, h0, r0⟩ := trodAll_cons hA
  obtain ⟨rfl, rfl, rfl⟩ := trodAll_nil r0
  obtain rfl : args = #[v0] := by cases args; simp_all
  obtain ⟨rfl, rfl⟩ := trodVars_none hV
  have k0 := h0
  have lt0 : ∀ x ∈ p0, x.block < W.heap.size := by obtain ⟨m, hm⟩ := k0; exact DataW.trod_lt m _ _ _ hm
  obtain ⟨as0, hn0, rfl, hw0⟩ := open_aggI Try.underlying54 (by kernel_rfl) Try.underlying3 (by rfl) cells54 (hval 0 54 v0 rfl rfl) h0
  obtain ⟨a0x0, a0x1, a0x2, a0x3, rfl⟩ := list_4 hn0
  have w0x0 := hw0 a0x0 (by simp)
  have w0x1 := hw0 a0x1 (by simp)
  have w0x2 := hw0 a0x2 (by simp)
  have w0x3 := hw0 a0x3 (by simp)
  clear hA0 hval0
  refine (walk a0x0 a0x1 a0x2 a0x3 W w0x0 w0x1 w0x2 w0x3).mono fun e W' ⟨he, bel⟩ => ?_
  subst he
  exact ⟨_, rfl, _, _, _, [], _, [], hW', trodAll_mk1 (shut_bool Try.underlying4 _), (trodAll_cons_mk (Below.trod laidOut (by kernel_rfl) (of_decide_eq_true (by kernel_rfl)) k0 bel lt0) trodAll_mk0), rfl, bel.frame _, fun h => by cases h⟩

theorem over : Rows.fnExactOutOkRow.holds Try.pinned (OpenSpec.ofChange Rows.fnExactOutOkSpec) :=
  OpenClaim.holds_of_wide 8 Try.f8 rfl rfl rfl rfl rfl rfl rfl ⟨rfl, rfl, rfl, rfl, rfl⟩ rfl rfl rfl rfl rfl (by kernel_rfl) Try.func8 (by kernel_rfl)
    (of_decide_eq_true (by kernel_rfl)) (by unfold Func.isWrapper; first | (rw [if_pos (by decide +kernel)]; kernel_rfl) | (rw [if_neg (by decide +kernel)]; exact ⟨rfl, rfl⟩))
    (fun os started H enc _ => lifted os started H enc)

end Go.Proofs.Ytoahbodaeipcoaa.fnExactOutOk
namespace Go.Proofs.Ytoahbodaeipcoaa
theorem fnExactOutOk_holds : Rows.FnExactOutOkSaid := fnExactOutOk.over
#print axioms fnExactOutOk_holds
end Go.Proofs.Ytoahbodaeipcoaa
