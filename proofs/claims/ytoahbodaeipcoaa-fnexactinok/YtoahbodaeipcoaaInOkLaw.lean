/- InOk answers at every half as the specification does, and writes into no argument. No conditions. -/
import Derived.Test.YtoahbodaeipcoaaInHalf
namespace Go.Proofs.Ytoahbodaeipcoaa.fnExactInOk
open Go.ChangeShapes Go.WideShapes Go.ChangeAt Go.RowKit Go.Joins Go.Deep
set_option linter.unusedVariables false
set_option maxRecDepth 4000
set_option maxHeartbeats 2000000 in
theorem walk (B E S : Int) (w : World) (x0 : (Lit.int .i64 B).wf = true) (x1 : (Lit.int .i64 E).wf = true) (x2 : (Lit.int .i64 S).wf = true) :
    Calls Try.prog 11 #[.agg #[.int .i64 B, .int .i64 E, .int .i64 S]] w fun x w' => x = .returned (.bool true) ∧ Below w.heap.size w w' := by
  clear x0 x1 x2
  have A0 := hid (ib_new w [B, E, S] 58)
  go_enter Try.func11, Try.ntmps11
  go_wp2_with fail
  refine (toIn_any _ _ _ _).mono ?_
  rintro x w1 ⟨rfl, hb1⟩
  have A1 := hid (A0.out.keep hb1)
  have B1 := hid ((below_alloc1 w _).trans (hb1.mono (by simp)))
  clear hb1 A0
  go_wp2_with fail
  refine (specInOk_any B E S _).mono ?_
  rintro x w2 ⟨rfl, hb2⟩
  have B2 := hid (B1.out.trans (hb2.mono B1.out.size))
  have A2 := hid (A1.out.keep hb2)
  obtain ⟨a0, a1, a2⟩ := ib3 A2.out
  clear hb2
  go_wp2_with fail
  clear a0 a1 a2
  refine (toIn_any _ _ _ _).mono ?_
  rintro x w3 ⟨rfl, hb3⟩
  have B3 := hid (B2.out.trans (hb3.mono B2.out.size))
  clear hb3
  go_wp2_with fail
  refine (inOk_any B E S _).mono ?_
  rintro x w4 ⟨rfl, hb4⟩
  go_wp2
  go_ret
  exact ⟨rfl, B3.out.trans (hb4.mono B3.out.size)⟩
theorem own : ownKnob Try.prog.godebug = none := by kernel_rfl
theorem laidOut : laidOutB Try.prog = true := by kernel_rfl
theorem cells58 : Try.prog.cellsOf 58 = 3 := by kernel_rfl
set_option maxRecDepth 100000 in
theorem lifted (os : Os) (started : os.Started) (H : Type) (enc : TypeId × Value → H) :
    ReturnsInHanded {} Try.checked os 11 .any (Rows.fnExactInOkSpec.pre6 enc Try.prog Try.f11 Rows.fnExactInOkRow.domain false) (Rows.fnExactInOkSpec.post enc Try.prog Try.f11 false true false false) := by
  refine returnsInHanded_of_change (C := Try.checked) own started (by kernel_rfl) Try.func11
    (ChangeSpec.witness6 (enc := enc) (C := Try.checked) false ⟨#[], #[.agg #[.int .i64 0, .int .i64 0, .int .i64 0]], []⟩ 8 (by kernel_rfl) (by kernel_rfl) (by kernel_rfl) (by kernel_rfl)) ?_
  intro W base args ds gs before hval0 hW hcnd _
  have hval : ∀ (j : Nat) t v, Try.f11.params[j]? = some t → args[j]? = some v → Value.okWide Try.prog W .any base t v := hval0
  have hW' := hW
  obtain ⟨p, q, hA0, hV, rfl, hfz, hnd⟩ := hW
  have hA : DataW.TrodAll enc Try.prog W 0 (fun _ => true) true Try.f11.params.toList args.toList ds p := hA0
  rw [Try.params11] at hA hval
  obtain ⟨v0, vs0, d0, ds0, p0, q0, hargs, rfl, rfl, h0, r0⟩ := trodAll_cons hA
  obtain ⟨rfl, rfl, rfl⟩ := trodAll_nil r0
  obtain rfl : args = #[v0] := by cases args; simp_all
  obtain ⟨rfl, rfl⟩ := trodVars_none hV
  have k0 := h0
  have lt0 : ∀ x ∈ p0, x.block < W.heap.size := by obtain ⟨m, hm⟩ := k0; exact DataW.trod_lt m _ _ _ hm
  obtain ⟨as0, hn0, rfl, hw0⟩ := open_aggI Try.underlying58 (by kernel_rfl) Try.underlying3 (by rfl) cells58 (hval 0 58 v0 rfl rfl) h0
  obtain ⟨a0x0, a0x1, a0x2, rfl⟩ := list_3 hn0
  have w0x0 := hw0 a0x0 (by simp)
  have w0x1 := hw0 a0x1 (by simp)
  have w0x2 := hw0 a0x2 (by simp)
  clear hA0 hval0
  refine (walk a0x0 a0x1 a0x2 W w0x0 w0x1 w0x2).mono fun e W' ⟨he, bel⟩ => ?_
  subst he
  exact ⟨_, rfl, _, _, _, [], _, [], hW', trodAll_mk1 (shut_bool Try.underlying4 _), (trodAll_cons_mk (Below.trod laidOut (by kernel_rfl) (of_decide_eq_true (by kernel_rfl)) k0 bel lt0) trodAll_mk0), rfl, bel.frame _, fun h => by cases h⟩

theorem over : Rows.fnExactInOkRow.holds Try.pinned (OpenSpec.ofChange Rows.fnExactInOkSpec) :=
  OpenClaim.holds_of_wide 11 Try.f11 rfl rfl rfl rfl rfl rfl rfl ⟨rfl, rfl, rfl, rfl, rfl⟩ rfl rfl rfl rfl rfl (by kernel_rfl) Try.func11 (by kernel_rfl)
    (of_decide_eq_true (by kernel_rfl)) (by unfold Func.isWrapper; first | (rw [if_pos (by decide +kernel)]; kernel_rfl) | (rw [if_neg (by decide +kernel)]; exact ⟨rfl, rfl⟩))
    (fun os started H enc _ => lifted os started H enc)

end Go.Proofs.Ytoahbodaeipcoaa.fnExactInOk
namespace Go.Proofs.Ytoahbodaeipcoaa
theorem fnExactInOk_holds : Rows.FnExactInOkSaid := fnExactInOk.over
#print axioms fnExactInOk_holds
end Go.Proofs.Ytoahbodaeipcoaa
