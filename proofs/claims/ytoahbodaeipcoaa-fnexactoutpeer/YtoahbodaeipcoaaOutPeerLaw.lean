/- OutPeer answers at every half and number as the specification does, field by field, and writes into no argument. No conditions. -/
import Derived.Test.YtoahbodaeipcoaaOutPeerC
namespace Go.Proofs.Ytoahbodaeipcoaa.fnExactOutPeer
open Go.ChangeShapes Go.WideShapes Go.ChangeAt Go.RowKit Go.Joins Go.Deep
set_option linter.unusedVariables false
set_option maxRecDepth 4000
set_option maxHeartbeats 2000000 in
theorem walk (b p e s q : Int) (w : World) (x0 : (Lit.int .i64 b).wf = true) (x1 : (Lit.int .i64 p).wf = true) (x2 : (Lit.int .i64 e).wf = true) (x3 : (Lit.int .i64 s).wf = true) (x4 : (Lit.int .i64 q).wf = true) :
    Calls Try.prog 9 #[.agg #[.int .i64 b, .int .i64 p, .int .i64 e, .int .i64 s], .int .i64 q] w fun x w' => x = .returned (.bool true) ∧ Below w.heap.size w w' := by
  clear x0 x1 x2 x3 x4
  have A0 := hid (ib_new w [b, p, e, s] 54)
  go_enter Try.func9, Try.ntmps9
  go_wp2_with fail
  refine (toOut_any _ _ _ _ _).mono ?_
  rintro x w1 ⟨rfl, hb1⟩
  have A1 := hid (A0.out.keep hb1)
  have B1 := hid ((below_alloc1 w _).trans (hb1.mono (by simp)))
  clear hb1 A0
  go_wp2_with fail
  refine (specOutPeer_any b p e s q _).mono ?_
  rintro x w2 ⟨rfl, hb2⟩
  have B2 := hid (B1.out.trans (hb2.mono B1.out.size))
  obtain ⟨K0, K1, K2, K3, hK⟩ : ∃ K0 K1 K2 K3 : Int, .agg #[.int .i64 K0, .int .i64 K1, .int .i64 K2, .int .i64 K3] = (.agg #[.int .i64 (pk (prB b p e s q) b), .int .i64 (pk (prB b p e s q) (mx p q)), .int .i64 (pk (prB b p e s q) e), .int .i64 (pk (prB b p e s q) s)] : Value) := ⟨_, _, _, _, rfl⟩
  rw [← hK]
  have HK := hid hK
  clear hK
  have A2 := hid ((A1.out.keep hb2).keep (below_alloc1 w2 (.cells #[.int .i64 K0, .int .i64 K1, .int .i64 K2, .int .i64 K3] 24)))
  have L2 := hid (ib_new w2 [K0, K1, K2, K3] 24)
  obtain ⟨a0, a1, a2, a3⟩ := ib4 A2.out
  clear hb2
  go_wp2_with fail
  clear a0 a1 a2 a3
  refine (toOut_any _ _ _ _ _).mono ?_
  rintro x w3 ⟨rfl, hb3⟩
  have L3 := hid (L2.out.keep hb3)
  have B3 := hid ((B2.out.alloc B2.out.size (.cells #[.int .i64 K0, .int .i64 K1, .int .i64 K2, .int .i64 K3] 24)).trans (hb3.mono (by simpa using Nat.le_succ_of_le B2.out.size)))
  clear hb3
  go_wp2_with fail
  refine (outPeer_any b p e s q _).mono ?_
  rintro x w4 ⟨rfl, hb4⟩
  rw [← HK.out]
  have L4 := hid ((L3.out.keep hb4).keep (below_alloc1 w4 (.cells #[.int .i64 K0, .int .i64 K1, .int .i64 K2, .int .i64 K3] 24)))
  have B4 := hid (B3.out.trans (hb4.mono B3.out.size))
  obtain ⟨q0, q1, q2, q3⟩ := ib4 L4.out
  clear hb4
  go_wp2_with fail
  refine (eqOut_same _ _ _ _ _).mono ?_
  rintro x w5 ⟨rfl, hb5⟩
  go_wp2
  go_ret
  exact ⟨rfl, (B4.out.alloc B4.out.size _).trans (hb5.mono (by simpa using Nat.le_succ_of_le B4.out.size))⟩
theorem own : ownKnob Try.prog.godebug = none := by kernel_rfl
theorem laidOut : laidOutB Try.prog = true := by kernel_rfl
theorem cells54 : Try.prog.cellsOf 54 = 4 := by kernel_rfl
set_option maxRecDepth 100000 in
theorem lifted (os : Os) (started : os.Started) (H : Type) (enc : TypeId × Value → H) :
    ReturnsInHanded {} Try.checked os 9 .any (Rows.fnExactOutPeerSpec.pre6 enc Try.prog Try.f9 Rows.fnExactOutPeerRow.domain false) (Rows.fnExactOutPeerSpec.post enc Try.prog Try.f9 false true false false) := by
  refine returnsInHanded_of_change (C := Try.checked) own started (by kernel_rfl) Try.func9
    (ChangeSpec.witness6 (enc := enc) (C := Try.checked) false ⟨#[], #[.agg #[.int .i64 0, .int .i64 0, .int .i64 0, .int .i64 0], .int .i64 0], []⟩ 8 (by kernel_rfl) (by kernel_rfl) (by kernel_rfl) (by kernel_rfl)) ?_
  intro W base args ds gs before hval0 hW hcnd _
  have hval : ∀ (j : Nat) t v, Try.f9.params[j]? = some t → args[j]? = some v → Value.okWide Try.prog W .any base t v := hval0
  have hW' := hW
  obtain ⟨p, q, hA0, hV, rfl, hfz, hnd⟩ := hW
  have hA : DataW.TrodAll enc Try.prog W 0 (fun _ => true) true Try.f9.params.toList args.toList ds p := hA0
  rw [Try.params9] at hA hval
  obtain ⟨v0, vs0, d0, ds0, p0, q0, hargs, rfl, rfl, h0, r0⟩ := trodAll_cons hA
  obtain ⟨v1, vs1, d1, ds1, p1, q1, rfl, rfl, rfl, h1, r1⟩ := trodAll_cons r0
  obtain ⟨rfl, rfl, rfl⟩ := trodAll_nil r1
  obtain rfl : args = #[v0, v1] := by cases args; simp_all
  obtain ⟨rfl, rfl⟩ := trodVars_none hV
  have k0 := h0
  have lt0 : ∀ x ∈ p0, x.block < W.heap.size := by obtain ⟨m, hm⟩ := k0; exact DataW.trod_lt m _ _ _ hm
  obtain ⟨as0, hn0, rfl, hw0⟩ := open_aggI Try.underlying54 (by kernel_rfl) Try.underlying3 (by rfl) cells54 (hval 0 54 v0 rfl rfl) h0
  obtain ⟨a0x0, a0x1, a0x2, a0x3, rfl⟩ := list_4 hn0
  have w0x0 := hw0 a0x0 (by simp)
  have w0x1 := hw0 a0x1 (by simp)
  have w0x2 := hw0 a0x2 (by simp)
  have w0x3 := hw0 a0x3 (by simp)
  obtain ⟨a1, rfl, rfl, rfl, w1⟩ := open_int Try.underlying3 (hval 1 3 v1 rfl rfl) h1
  clear hA0 hval0
  refine (walk a0x0 a0x1 a0x2 a0x3 a1 W w0x0 w0x1 w0x2 w0x3 w1).mono fun e W' ⟨he, bel⟩ => ?_
  subst he
  exact ⟨_, rfl, _, _, _, [], _, [], hW', trodAll_mk1 (shut_bool Try.underlying4 _), (trodAll_cons_mk (Below.trod laidOut (by kernel_rfl) (of_decide_eq_true (by kernel_rfl)) k0 bel lt0) (trodAll_cons_mk (shut_int Try.underlying3 w1) trodAll_mk0)), rfl, bel.frame _, fun h => by cases h⟩

theorem over : Rows.fnExactOutPeerRow.holds Try.pinned (OpenSpec.ofChange Rows.fnExactOutPeerSpec) :=
  OpenClaim.holds_of_wide 9 Try.f9 rfl rfl rfl rfl rfl rfl rfl ⟨rfl, rfl, rfl, rfl, rfl⟩ rfl rfl rfl rfl rfl (by kernel_rfl) Try.func9 (by kernel_rfl)
    (of_decide_eq_true (by kernel_rfl)) (by unfold Func.isWrapper; first | (rw [if_pos (by decide +kernel)]; kernel_rfl) | (rw [if_neg (by decide +kernel)]; exact ⟨rfl, rfl⟩))
    (fun os started H enc _ => lifted os started H enc)

end Go.Proofs.Ytoahbodaeipcoaa.fnExactOutPeer
namespace Go.Proofs.Ytoahbodaeipcoaa
theorem fnExactOutPeer_holds : Rows.FnExactOutPeerSaid := fnExactOutPeer.over
#print axioms fnExactOutPeer_holds
end Go.Proofs.Ytoahbodaeipcoaa
