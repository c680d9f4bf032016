/- InHear answers at every half and number as the specification does, field by field, and writes into no argument. No conditions. -/
import Derived.Test.YtoahbodaeipcoaaInHearC
namespace Go.Proofs.Ytoahbodaeipcoaa.fnExactInHear
open Go.ChangeShapes Go.WideShapes Go.ChangeAt Go.RowKit Go.Joins Go.Deep
set_option linter.unusedVariables false
set_option maxRecDepth 4000
set_option maxHeartbeats 2000000 in
theorem walk (B E S b e s : Int) (w : World) (x0 : (Lit.int .i64 B).wf = true) (x1 : (Lit.int .i64 E).wf = true) (x2 : (Lit.int .i64 S).wf = true) (x3 : (Lit.int .i64 b).wf = true) (x4 : (Lit.int .i64 e).wf = true) (x5 : (Lit.int .i64 s).wf = true) :
    Calls Try.prog 13 #[.agg #[.int .i64 B, .int .i64 E, .int .i64 S], .int .i64 b, .int .i64 e, .int .i64 s] w fun x w' => x = .returned (.bool true) ∧ Below w.heap.size w w' := by
  clear x0 x1 x2 x3 x4 x5
  have A0 := hid (ib_new w [B, E, S] 58)
  go_enter Try.func13, Try.ntmps13
  go_wp2_with fail
  refine (toIn_any _ _ _ _).mono ?_
  rintro x w1 ⟨rfl, hb1⟩
  have A1 := hid (A0.out.keep hb1)
  have B1 := hid ((below_alloc1 w _).trans (hb1.mono (by simp)))
  clear hb1 A0
  go_wp2_with fail
  refine (specInHear_any B E S b e s _).mono ?_
  rintro x w2 ⟨rfl, hb2⟩
  have B2 := hid (B1.out.trans (hb2.mono B1.out.size))
  obtain ⟨K0, K1, K2, hK⟩ : ∃ K0 K1 K2 : Int, .agg #[.int .i64 K0, .int .i64 K1, .int .i64 K2] = (.agg #[.int .i64 (hr (inhB B E S) (frB B E S b e s) b B), .int .i64 (hr (inhB B E S) (frB B E S b e s) e E), .int .i64 (hr (inhB B E S) (frB B E S b e s) (s + 1) S)] : Value) := ⟨_, _, _, rfl⟩
  rw [← hK]
  have HK := hid hK
  clear hK
  have A2 := hid ((A1.out.keep hb2).keep (below_alloc1 w2 (.cells #[.int .i64 K0, .int .i64 K1, .int .i64 K2] 36)))
  have L2 := hid (ib_new w2 [K0, K1, K2] 36)
  obtain ⟨a0, a1, a2⟩ := ib3 A2.out
  clear hb2
  go_wp2_with fail
  clear a0 a1 a2
  refine (toIn_any _ _ _ _).mono ?_
  rintro x w3 ⟨rfl, hb3⟩
  have L3 := hid (L2.out.keep hb3)
  have B3 := hid ((B2.out.alloc B2.out.size (.cells #[.int .i64 K0, .int .i64 K1, .int .i64 K2] 36)).trans (hb3.mono (by simpa using Nat.le_succ_of_le B2.out.size)))
  clear hb3
  go_wp2_with fail
  refine (inHear_any B E S b e s _).mono ?_
  rintro x w4 ⟨rfl, hb4⟩
  rw [← HK.out]
  have L4 := hid ((L3.out.keep hb4).keep (below_alloc1 w4 (.cells #[.int .i64 K0, .int .i64 K1, .int .i64 K2] 36)))
  have B4 := hid (B3.out.trans (hb4.mono B3.out.size))
  obtain ⟨q0, q1, q2⟩ := ib3 L4.out
  clear hb4
  go_wp2_with fail
  refine (eqIn_same _ _ _ _).mono ?_
  rintro x w5 ⟨rfl, hb5⟩
  go_wp2
  go_ret
  exact ⟨rfl, (B4.out.alloc B4.out.size _).trans (hb5.mono (by simpa using Nat.le_succ_of_le B4.out.size))⟩
theorem own : ownKnob Try.prog.godebug = none := by kernel_rfl
theorem laidOut : laidOutB Try.prog = true := by kernel_rfl
theorem cells58 : Try.prog.cellsOf 58 = 3 := by kernel_rfl
set_option maxRecDepth 100000 in
theorem lifted (os : Os) (started : os.Started) (H : Type) (enc : TypeId × Value → H) :
    ReturnsInHanded {} Try.checked os 13 .any (Rows.fnExactInHearSpec.pre6 enc Try.prog Try.f13 Rows.fnExactInHearRow.domain false) (Rows.fnExactInHearSpec.post enc Try.prog Try.f13 false true false false) := by
  refine returnsInHanded_of_change (C := Try.checked) own started (by kernel_rfl) Try.func13
    (ChangeSpec.witness6 (enc := enc) (C := Try.checked) false ⟨#[], #[.agg #[.int .i64 0, .int .i64 0, .int .i64 0], .int .i64 0, .int .i64 0, .int .i64 0], []⟩ 8 (by kernel_rfl) (by kernel_rfl) (by kernel_rfl) (by kernel_rfl)) ?_
  intro W base args ds gs before hval0 hW hcnd _
  have hval : ∀ (j : Nat) t v, Try.f13.params[j]? = some t → args[j]? = some v → Value.okWide Try.prog W .any base t v := hval0
  have hW' := hW
  obtain ⟨p, q, hA0, hV, rfl, hfz, hnd⟩ := hW
  have hA : DataW.TrodAll enc Try.prog W 0 (fun _ => true) true Try.f13.params.toList args.toList ds p := hA0
  rw [Try.params13] at hA hval
  obtain ⟨v0, vs0, d0, ds0, p0, q0, hargs, rfl, rfl, h0, r0⟩ := trodAll_cons hA
  obtain ⟨v1, vs1, d1, ds1, p1, q1, rfl, rfl, rfl, h1, r1⟩ := trodAll_cons r0
  obtain ⟨v2, vs2, d2, ds2, p2, q2, rfl, rfl, rfl, h2, r2⟩ := trodAll_cons r1
  obtain ⟨v3, vs3, d3, ds3, p3, q3, rfl, rfl, rfl, h3, r3⟩ := trodAll_cons r2
  obtain ⟨rfl, rfl, rfl⟩ := trodAll_nil r3
  obtain rfl : args = #[v0, v1, v2, v3] := by cases args; simp_all
  obtain ⟨rfl, rfl⟩ := trodVars_none hV
  have k0 := h0
  have lt0 : ∀ x ∈ p0, x.block < W.heap.size := by obtain ⟨m, hm⟩ := k0; exact DataW.trod_lt m _ _ _ hm
  obtain ⟨as0, hn0, rfl, hw0⟩ := open_aggI Try.underlying58 (by kernel_rfl) Try.underlying3 (by rfl) cells58 (hval 0 58 v0 rfl rfl) h0
  obtain ⟨a0x0, a0x1, a0x2, rfl⟩ := list_3 hn0
  have w0x0 := hw0 a0x0 (by simp)
  have w0x1 := hw0 a0x1 (by simp)
  have w0x2 := hw0 a0x2 (by simp)
  obtain ⟨a1, rfl, rfl, rfl, w1⟩ := open_int Try.underlying3 (hval 1 3 v1 rfl rfl) h1
  obtain ⟨a2, rfl, rfl, rfl, w2⟩ := open_int Try.underlying3 (hval 2 3 v2 rfl rfl) h2
  obtain ⟨a3, rfl, rfl, rfl, w3⟩ := open_int Try.underlying3 (hval 3 3 v3 rfl rfl) h3
  clear hA0 hval0
  refine (walk a0x0 a0x1 a0x2 a1 a2 a3 W w0x0 w0x1 w0x2 w1 w2 w3).mono fun e W' ⟨he, bel⟩ => ?_
  subst he
  exact ⟨_, rfl, _, _, _, [], _, [], hW', trodAll_mk1 (shut_bool Try.underlying4 _), (trodAll_cons_mk (Below.trod laidOut (by kernel_rfl) (of_decide_eq_true (by kernel_rfl)) k0 bel lt0) (trodAll_cons_mk (shut_int Try.underlying3 w1) (trodAll_cons_mk (shut_int Try.underlying3 w2) (trodAll_cons_mk (shut_int Try.underlying3 w3) trodAll_mk0)))), rfl, bel.frame _, fun h => by cases h⟩

theorem over : Rows.fnExactInHearRow.holds Try.pinned (OpenSpec.ofChange Rows.fnExactInHearSpec) :=
  OpenClaim.holds_of_wide 13 Try.f13 rfl rfl rfl rfl rfl rfl rfl ⟨rfl, rfl, rfl, rfl, rfl⟩ rfl rfl rfl rfl rfl (by kernel_rfl) Try.func13 (by kernel_rfl)
    (of_decide_eq_true (by kernel_rfl)) (by unfold Func.isWrapper; first | (rw [if_pos (by decide +kernel)]; kernel_rfl) | (rw [if_neg (by decide +kernel)]; exact ⟨rfl, rfl⟩))
    (fun os started H enc _ => lifted os started H enc)

end Go.Proofs.Ytoahbodaeipcoaa.fnExactInHear
namespace Go.Proofs.Ytoahbodaeipcoaa
theorem fnExactInHear_holds : Rows.FnExactInHearSaid := fnExactInHear.over
#print axioms fnExactInHear_holds
end Go.Proofs.Ytoahbodaeipcoaa
