/- InFresh answers at every half and number as the specification does, and writes into no argument. No conditions. -/
import Derived.Test.YtoahbodaeipcoaaInFreshC
namespace Go.Proofs.Ytoahbodaeipcoaa.fnExactInFresh
open Go.ChangeShapes Go.WideShapes Go.ChangeAt Go.RowKit Go.Joins Go.Deep
set_option linter.unusedVariables false
set_option maxRecDepth 4000
set_option maxHeartbeats 2000000 in
theorem walk (B E S b e s : Int) (w : World) (x0 : (Lit.int .i64 B).wf = true) (x1 : (Lit.int .i64 E).wf = true) (x2 : (Lit.int .i64 S).wf = true) (x3 : (Lit.int .i64 b).wf = true) (x4 : (Lit.int .i64 e).wf = true) (x5 : (Lit.int .i64 s).wf = true) :
    Calls Try.prog 12 #[.agg #[.int .i64 B, .int .i64 E, .int .i64 S], .int .i64 b, .int .i64 e, .int .i64 s] w fun x w' => x = .returned (.bool true) ∧ Below w.heap.size w w' := by
  clear x0 x1 x2 x3 x4 x5
  have A0 := hid (ib_new w [B, E, S] 58)
  go_enter Try.func12, Try.ntmps12
  go_wp2_with fail
  refine (toIn_any _ _ _ _).mono ?_
  rintro x w1 ⟨rfl, hb1⟩
  have A1 := hid (A0.out.keep hb1)
  have B1 := hid ((below_alloc1 w _).trans (hb1.mono (by simp)))
  clear hb1 A0
  go_wp2_with fail
  refine (specFresh_any B E S b e s _).mono ?_
  rintro x w2 ⟨rfl, hb2⟩
  have B2 := hid (B1.out.trans (hb2.mono B1.out.size))
  have A2 := hid (A1.out.keep hb2)
  obtain ⟨a0, a1, a2⟩ := ib3 A2.out
  clear hb2
  go_wp2_with fail
  clear a0 a1 a2
  refine (toIn_any _ _ _ _).mono ?_
  rintro x w3 ⟨rfl, hb3⟩
  have B3 := hid (B2.out.trans (hb3.mono B2.out.size))
  clear hb3
  go_wp2_with fail
  refine (inFresh_any B E S b e s _).mono ?_
  rintro x w4 ⟨rfl, hb4⟩
  go_wp2
  go_ret
  exact ⟨rfl, B3.out.trans (hb4.mono B3.out.size)⟩
theorem own : ownKnob Try.prog.godebug = none := by kernel_rfl
theorem laidOut : laidOutB Try.prog = true := by kernel_rfl
theorem cells58 : Try.prog.cellsOf 58 = 3 := by kernel_rfl
set_option maxRecDepth 100000 in
theorem lifted (os : Os) (started : os.Started) (H : Type) (enc : TypeId × Value → H) :
    ReturnsInHanded {} Try.checked os 12 .any (Rows.fnExactInFreshSpec.pre6 enc Try.prog Try.f12 Rows.fnExactInFreshRow.domain false) (Rows.fnExactInFreshSpec.post enc Try.prog Try.f12 false true false false) := by
  refine returnsInHanded_of_change (C := Try.checked) own started (by kernel_rfl) Try.func12
    (ChangeSpec.witness6 (enc := enc) (C := Try.checked) false ⟨#[], #[.agg #[.int .i64 0, .int .i64 0, .int .i64 0], .int .i64 0, .int .i64 0, .int .i64 0], []⟩ 8 (by kernel_rfl) (by kernel_rfl) (by kernel_rfl) (by kernel_rfl)) ?_
  intro W base args ds gs before hval0 hW hcnd _
  have hval : ∀ (j : Nat) t v, Try.f12.params[j]? = some t → args[j]? = some v → Value.okWide Try.prog W .any base t v := hval0
  have hW' := hW
  obtain ⟨p, q, hA0, hV, rfl, hfz, hnd⟩ := hW
  have hA : DataW.TrodAll enc Try.prog W 0 (fun _ => true) true Try.f12.params.toList args.toList ds p := hA0
  rw [Try.params12] at hA hval
  obtain ⟨v0, vs0, d0, ds0, p0, q0, hargs, rfl, rfl, h0, r0⟩ := trodAll_cons hA
  obtain ⟨v1, vs1, d1, ds1, p1, q1, rfl, rfl, rfl, h1, r1⟩ := trodAll_cons r0
  obtain ⟨v2, vs2, d2, ds2, p2, q2, rfl, rfl, rfl, h2, r2⟩ := trodAll_cons r1
  obtain ⟨v3, vs3, d3, ds3, p3, q3, rfl, rfl, rfl, h3, r3⟩ := trodAll_cons r2
  obtain ⟨rfl, rfl, rfl⟩ := trodAll_nil r3
  obtain rfl : args = #[v0, v1, v2, v3] := by cases args; simp_all
  obtain ⟨rfl, rfl⟩ := trodVars_none hV
  have k0 := h0
  have lt0 : ∀ x ∈ p0, x.block < W.heap.size := by obtain ⟨m, hm⟩ := k0; exact DataW.trod_lt m _ _ _ hm
  obtain ⟨as0, hn0, rfl, hw0⟩ := open_aggI Try.underlying58 (by kernel_rfl) Try.underlying3 (by rfl) cells58 (hval 0 58 v0 rfl rfl) h0
  obtain ⟨a0x0, a0x1, a0x2, rfl⟩ := list_3 hn0
  have w0x0 := hw0 a0x0 (by simp)
  have w0x1 := hw0 a0x1 (by simp)
  have w0x2 := hw0 a0x2 (by simp)
  obtain ⟨a1, rfl, rfl, rfl, w1⟩ := open_int Try.underlying3 (hval 1 3 v1 rfl rfl) h1
  obtain ⟨a2, rfl, rfl, rfl, w2⟩ := open_int Try.underlying3 (hval 2 3 v2 rfl rfl) h2
  obtain ⟨a3, rfl, rfl, rfl, w3⟩ := open_int Try.underlying3 (hval 3 3 v3 rfl rfl) h3
  clear hA0 hval0
  refine (walk a0x0 a0x1 a0x2 a1 a2 a3 W w0x0 w0x1 w0x2 w1 w2 w3).mono fun e W' ⟨he, bel⟩ => ?_
  subst he
  exact ⟨_, rfl, _, _, _, [], _, [], hW', trodAll_mk1 (shut_bool Try.underlying4 _), (trodAll_cons_mk (Below.trod laidOut (by kernel_rfl) (of_decide_eq_true (by kernel_rfl)) k0 bel lt0) (trodAll_cons_mk (shut_int Try.underlying3 w1) (trodAll_cons_mk (shut_int Try.underlying3 w2) (trodAll_cons_mk (shut_int Try.underlying3 w3) trodAll_mk0)))), rfl, bel.frame _, fun h => by cases h⟩

theorem over : Rows.fnExactInFreshRow.holds Try.pinned (OpenSpec.ofChange Rows.fnExactInFreshSpec) :=
  OpenClaim.holds_of_wide 12 Try.f12 rfl rfl rfl rfl rfl rfl rfl ⟨rfl, rfl, rfl, rfl, rfl⟩ rfl rfl rfl rfl rfl (by kernel_rfl) Try.func12 (by kernel_rfl)
    (of_decide_eq_true (by kernel_rfl)) (by unfold Func.isWrapper; first | (rw [if_pos (by decide +kernel)]; kernel_rfl) | (rw [if_neg (by decide +kernel)]; exact ⟨rfl, rfl⟩))
    (fun os started H enc _ => lifted os started H enc)

end Go.Proofs.Ytoahbodaeipcoaa.fnExactInFresh
namespace Go.Proofs.Ytoahbodaeipcoaa
theorem fnExactInFresh_holds : Rows.FnExactInFreshSaid := fnExactInFresh.over
#print axioms fnExactInFresh_holds
end Go.Proofs.Ytoahbodaeipcoaa
