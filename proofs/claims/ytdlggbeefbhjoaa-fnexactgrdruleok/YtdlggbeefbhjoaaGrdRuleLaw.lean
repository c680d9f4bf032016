/- GrdRuleOk answers at every rule as the specification does, writes into no argument and keeps nothing of one. No conditions. -/
import Derived.Test.YtdlggbeefbhjoaaGrdRule
namespace Go.Proofs.Ytdlggbeefbhjoaa.fnExactGrdRuleOk
open Go.ChangeShapes Go.WideShapes Go.ChangeAt Go.RowKit Go.Joins Go.Deep
set_option linter.unusedVariables false
set_option maxHeartbeats 1000000 in
theorem walk (mi ma t lo hi z c : Int) (w : World) (x0 : (Lit.int .i64 mi).wf = true) (x1 : (Lit.int .i64 ma).wf = true) (x2 : (Lit.int .i64 t).wf = true) (x3 : (Lit.int .i64 lo).wf = true) (x4 : (Lit.int .i64 hi).wf = true) (x5 : (Lit.int .i64 z).wf = true) (x6 : (Lit.int .i64 c).wf = true) :
    Calls Try.prog 12 #[.agg #[.int .i64 mi, .int .i64 ma, .int .i64 t, .int .i64 lo, .int .i64 hi, .int .i64 z, .int .i64 c]] w fun x w' => x = .returned (.bool true) ∧ Below w.heap.size w w' := by
  clear x0 x1 x2 x3 x4 x5 x6
  go_enter Try.func12, Try.ntmps12
  go_wp2_with fail
  refine (toRule_any _ _ _ _ _ _ _ _).mono ?_
  rintro x w1 ⟨rfl, hb1⟩
  have z1 := hb1.size
  simp at z1
  go_wp2_with fail
  refine (specRule_any _ _ _ _ _ _ _ _).mono ?_
  rintro x w2 ⟨rfl, hb2⟩
  have z2 := hb2.size
  have hb12 := hb1.trans (hb2.mono hb1.size)
  obtain ⟨hc, _⟩ := bcell hb12
  go_wp2_with fail
  refine (toRule_any _ _ _ _ _ _ _ _).mono ?_
  rintro x w3 ⟨rfl, hb3⟩
  have z3 := hb3.size
  go_wp2_with fail
  refine (grdRuleOk_any _ _ _ _ _ _ _ _).mono ?_
  rintro x w4 ⟨rfl, hb4⟩
  go_wp2
  go_ret
  refine ⟨rfl, ?_⟩
  exact (below_alloc1 _ _).trans (((hb12.trans (hb3.mono (by simp; omega))).trans (hb4.mono (by simp; omega))).mono (by simp))
theorem own : ownKnob Try.prog.godebug = none := by kernel_rfl
theorem laidOut : laidOutB Try.prog = true := by kernel_rfl
theorem cells58 : Try.prog.cellsOf 58 = 7 := by kernel_rfl
set_option maxRecDepth 100000 in
theorem lifted (os : Os) (started : os.Started) (H : Type) (enc : TypeId × Value → H) :
    ReturnsInHanded {} Try.checked os 12 .any (Rows.fnExactGrdRuleOkSpec.pre6 enc Try.prog Try.f12 Rows.fnExactGrdRuleOkRow.domain false) (Rows.fnExactGrdRuleOkSpec.post enc Try.prog Try.f12 false true false false) := by
  refine returnsInHanded_of_change (C := Try.checked) own started (by kernel_rfl) Try.func12
    (ChangeSpec.witness6 (enc := enc) (C := Try.checked) false ⟨#[], #[.agg #[.int .i64 0, .int .i64 0, .int .i64 0, .int .i64 0, .int .i64 0, .int .i64 0, .int .i64 0]], []⟩ 8 (by kernel_rfl) (by kernel_rfl) (by kernel_rfl) (by kernel_rfl)) ?_
  intro W base args ds gs before hval0 hW hcnd _
  have hval : ∀ (j : Nat) t v, Try.f12.params[j]? = some t → args[j]? = some v → Value.okWide Try.prog W .any base t v := hval0
  have hW' := hW
  obtain ⟨p, q, hA0, hV, rfl, hfz, hnd⟩ := hW
  have hA : DataW.TrodAll enc Try.prog W 0 (fun _ => true) true Try.f12.params.toList args.toList ds p := hA0
  rw [Try.params12] at hA hval
  obtain ⟨v0, vs0, d0, ds0, p0, q0, hargs, rfl, rfl, h0, r0⟩ := trodAll_cons hA
  obtain ⟨rfl, rfl, rfl⟩ := trodAll_nil r0
  obtain rfl : args = #[v0] := by cases args; simp_all
  obtain ⟨rfl, rfl⟩ := trodVars_none hV
  have k0 := h0
  have lt0 : ∀ x ∈ p0, x.block < W.heap.size := by obtain ⟨m, hm⟩ := k0; exact DataW.trod_lt m _ _ _ hm
  obtain ⟨as0, hn0, rfl, hw0⟩ := open_aggI Try.underlying58 (by kernel_rfl) Try.underlying3 (by rfl) cells58 (hval 0 58 v0 rfl rfl) h0
  obtain ⟨a0x0, a0x1, a0x2, a0x3, a0x4, a0x5, a0x6, rfl⟩ := list_7 hn0
  have w0x0 := hw0 a0x0 (by simp)
  have w0x1 := hw0 a0x1 (by simp)
  have w0x2 := hw0 a0x2 (by simp)
  have w0x3 := hw0 a0x3 (by simp)
  have w0x4 := hw0 a0x4 (by simp)
  have w0x5 := hw0 a0x5 (by simp)
  have w0x6 := hw0 a0x6 (by simp)
  clear hA0 hval0
  refine (walk a0x0 a0x1 a0x2 a0x3 a0x4 a0x5 a0x6 W w0x0 w0x1 w0x2 w0x3 w0x4 w0x5 w0x6).mono fun e W' ⟨he, bel⟩ => ?_
  subst he
  exact ⟨_, rfl, _, _, _, [], _, [], hW', trodAll_mk1 (shut_bool Try.underlying4 _), (trodAll_cons_mk (Below.trod laidOut (by kernel_rfl) (of_decide_eq_true (by kernel_rfl)) k0 bel lt0) trodAll_mk0), rfl, bel.frame _, fun h => by cases h⟩

theorem over : Rows.fnExactGrdRuleOkRow.holds Try.pinned (OpenSpec.ofChange Rows.fnExactGrdRuleOkSpec) :=
  OpenClaim.holds_of_wide 12 Try.f12 rfl rfl rfl rfl rfl rfl rfl ⟨rfl, rfl, rfl, rfl, rfl⟩ rfl rfl rfl rfl rfl (by kernel_rfl) Try.func12 (by kernel_rfl)
    (of_decide_eq_true (by kernel_rfl)) (by unfold Func.isWrapper; first | (rw [if_pos (by decide +kernel)]; kernel_rfl) | (rw [if_neg (by decide +kernel)]; exact ⟨rfl, rfl⟩))
    (fun os started H enc _ => lifted os started H enc)

end Go.Proofs.Ytdlggbeefbhjoaa.fnExactGrdRuleOk
namespace Go.Proofs.Ytdlggbeefbhjoaa
theorem fnExactGrdRuleOk_holds : Rows.FnExactGrdRuleOkSaid := fnExactGrdRuleOk.over
#print axioms fnExactGrdRuleOk_holds
end Go.Proofs.Ytdlggbeefbhjoaa
