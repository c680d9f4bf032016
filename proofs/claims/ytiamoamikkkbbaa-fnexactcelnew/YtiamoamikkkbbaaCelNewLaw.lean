/- CelNew answers as the specification does, field by field; its answer owns its memory, behind another call too. No conditions. -/
import Derived.Test.YtiamoamikkkbbaaCelNewC
import Derived.Test.YtiamoamikkkbbaaCelMark
namespace Go.Proofs.Ytiamoamikkkbbaa.fnExactCelNew
open Go.ChangeShapes Go.WideShapes Go.ChangeAt Go.RowKit Go.Joins Go.Deep
set_option linter.unusedVariables false
set_option maxRecDepth 4000
set_option maxHeartbeats 8000000 in
theorem walk (w : World) :
    Calls Try.prog 4 #[] w fun e w' => e = .returned (.bool true) ∧ Below w.heap.size w w' := by
  go_enter Try.func4, Try.ntmps4
  go_wp2_with fail
  refine (specCelNew_any _).mono ?_
  rintro e w1 ⟨u, v, rfl, s, b1⟩
  obtain ⟨a1, c1, rfl, _⟩ := ownI_form s.1
  obtain ⟨d1, f1, rfl, _⟩ := ownI_form s.2.1
  have S1 := hid s
  clear s
  have PP := hid b1
  have y1 := b1.size
  clear b1
  have S1 := hid (S1.out.keep (below_alloc1 w1 (.cells #[.int .i64 0, .slice a1 4 c1, .slice d1 8 f1, .int .i64 0, .slice none 0 0] 27)))
  have PP := hid (PP.out.alloc PP.out.size (.cells #[.int .i64 0, .slice a1 4 c1, .slice d1 8 f1, .int .i64 0, .slice none 0 0] 27))
  have V1 := hid (vb_new w1 [.int .i64 0, .slice a1 4 c1, .slice d1 8 f1, .int .i64 0, .slice none 0 0] 27)
  have Z1 := hid (show (w1.alloc (.cells #[.int .i64 0, .slice a1 4 c1, .slice d1 8 f1, .int .i64 0, .slice none 0 0] 27)).heap.size = w1.heap.size + 1 by simp)
  go_wp2_with fail
  refine (celNew_any _).mono ?_
  rintro e w2 ⟨u, v, rfl, s, b2⟩
  obtain ⟨a2, c2, rfl, _⟩ := ownI_form s.1
  obtain ⟨d2, f2, rfl, _⟩ := ownI_form s.2.1
  have y2 := b2.size
  rw [Z1.out] at y2 s
  have S2 := hid s
  clear s
  have S1 := hid (S1.out.keep b2)
  have V1 := hid (V1.out.keep b2)
  have PP := hid (PP.out.trans (b2.mono PP.out.size))
  clear b2
  have S1 := hid (S1.out.keep (below_alloc1 w2 (.cells #[.int .i64 0, .slice a2 4 c2, .slice d2 8 f2, .int .i64 0, .slice none 0 0] 27)))
  have V1 := hid (V1.out.keep (below_alloc1 w2 (.cells #[.int .i64 0, .slice a2 4 c2, .slice d2 8 f2, .int .i64 0, .slice none 0 0] 27)))
  have S2 := hid (S2.out.keep (below_alloc1 w2 (.cells #[.int .i64 0, .slice a2 4 c2, .slice d2 8 f2, .int .i64 0, .slice none 0 0] 27)))
  have PP := hid (PP.out.alloc PP.out.size (.cells #[.int .i64 0, .slice a2 4 c2, .slice d2 8 f2, .int .i64 0, .slice none 0 0] 27))
  have V2 := hid (vb_new w2 [.int .i64 0, .slice a2 4 c2, .slice d2 8 f2, .int .i64 0, .slice none 0 0] 27)
  obtain ⟨x00, x01, x02, x03, x04⟩ := vb5 V2.out
  obtain ⟨x10, x11, x12, x13, x14⟩ := vb5 V1.out
  go_wp2_with fail
  clear x00 x01 x02 x03 x04 x10 x11 x12 x13 x14
  refine (eqCell_same 0 0 _ _ _ _ _ _ 4 8 _ _ [] _ (S2.out.1.rd (by omega)) (S2.out.2.1.rd (by omega)) (S2.out.2.2.1.rd (by simp)) (S1.out.1.rd (by omega)) (S1.out.2.1.rd (by omega)) (S1.out.2.2.1.rd (by simp))).mono ?_
  rintro e w3 ⟨rfl, b3⟩
  have S1 := hid (S1.out.keep b3)
  have V1 := hid (V1.out.keep b3)
  have S2 := hid (S2.out.keep b3)
  have V2 := hid (V2.out.keep b3)
  have PP := hid (PP.out.trans (b3.mono PP.out.size))
  clear b3
  obtain ⟨x00, x01, x02, x03, x04⟩ := vb5 V2.out
  go_wp2_with fail
  clear x00 x01 x02 x03 x04
  refine (markCell_any 0 0 1 _ _ _ 4 8 _ _ _ _ [] _ S2.out (by omega) (by omega) (by simp) (by omega) (by omega)).mono ?_
  rintro e w4 ⟨rfl, s, cg⟩
  have SS := hid S2.out.2.2.2.2.2
  have S2 := hid s
  have V1 := hid (V1.out.offR cg SS.out (by omega))
  have V2 := hid (V2.out.offR cg SS.out (by omega))
  have S1 := hid (S1.out.off cg SS.out (by omega))
  have PP := hid (below_off PP.out cg SS.out (by omega) PP.out.size)
  clear s cg SS
  obtain ⟨x00, x01, x02, x03, x04⟩ := vb5 V2.out
  go_wp2_with fail
  clear x00 x01 x02 x03 x04
  refine (heldCell_any 0 0 1 _ _ _ 4 8 0 _ (S2.out.1.rd (by omega)) (S2.out.2.1.rd (by omega)) (S2.out.2.2.1.rd (by simp [marks])) (by omega) (by omega)).mono ?_
  rintro e w5 ⟨rfl, b5⟩
  have S1 := hid (S1.out.keep b5)
  have V1 := hid (V1.out.keep b5)
  have S2 := hid (S2.out.keep b5)
  have V2 := hid (V2.out.keep b5)
  have PP := hid (PP.out.trans (b5.mono PP.out.size))
  clear b5
  go_wp2_with fail
  refine (celNew_any _).mono ?_
  rintro e w6 ⟨u, v, rfl, s, b6⟩
  obtain ⟨a3, c3, rfl, _⟩ := ownI_form s.1
  obtain ⟨d3, f3, rfl, _⟩ := ownI_form s.2.1
  have S3 := hid s
  clear s
  have S1 := hid (S1.out.keep b6)
  have V1 := hid (V1.out.keep b6)
  have S2 := hid (S2.out.keep b6)
  have V2 := hid (V2.out.keep b6)
  have PP := hid (PP.out.trans (b6.mono PP.out.size))
  clear b6
  have S1 := hid (S1.out.keep (below_alloc1 w6 (.cells #[.int .i64 0, .slice a3 4 c3, .slice d3 8 f3, .int .i64 0, .slice none 0 0] 27)))
  have V1 := hid (V1.out.keep (below_alloc1 w6 (.cells #[.int .i64 0, .slice a3 4 c3, .slice d3 8 f3, .int .i64 0, .slice none 0 0] 27)))
  have S2 := hid (S2.out.keep (below_alloc1 w6 (.cells #[.int .i64 0, .slice a3 4 c3, .slice d3 8 f3, .int .i64 0, .slice none 0 0] 27)))
  have V2 := hid (V2.out.keep (below_alloc1 w6 (.cells #[.int .i64 0, .slice a3 4 c3, .slice d3 8 f3, .int .i64 0, .slice none 0 0] 27)))
  have S3 := hid (S3.out.keep (below_alloc1 w6 (.cells #[.int .i64 0, .slice a3 4 c3, .slice d3 8 f3, .int .i64 0, .slice none 0 0] 27)))
  have PP := hid (PP.out.alloc PP.out.size (.cells #[.int .i64 0, .slice a3 4 c3, .slice d3 8 f3, .int .i64 0, .slice none 0 0] 27))
  have V3 := hid (vb_new w6 [.int .i64 0, .slice a3 4 c3, .slice d3 8 f3, .int .i64 0, .slice none 0 0] 27)
  obtain ⟨x00, x01, x02, x03, x04⟩ := vb5 V3.out
  obtain ⟨x10, x11, x12, x13, x14⟩ := vb5 V1.out
  go_wp2_with fail
  clear x00 x01 x02 x03 x04 x10 x11 x12 x13 x14
  refine (eqCell_same 0 0 _ _ _ _ _ _ 4 8 _ _ [] _ (S3.out.1.rd (by omega)) (S3.out.2.1.rd (by omega)) (S3.out.2.2.1.rd (by simp)) (S1.out.1.rd (by omega)) (S1.out.2.1.rd (by omega)) (S1.out.2.2.1.rd (by simp))).mono ?_
  rintro e w7 ⟨rfl, b7⟩
  have S1 := hid (S1.out.keep b7)
  have V1 := hid (V1.out.keep b7)
  have S2 := hid (S2.out.keep b7)
  have V2 := hid (V2.out.keep b7)
  have S3 := hid (S3.out.keep b7)
  have V3 := hid (V3.out.keep b7)
  have PP := hid (PP.out.trans (b7.mono PP.out.size))
  clear b7
  obtain ⟨x00, x01, x02, x03, x04⟩ := vb5 V2.out
  go_wp2_with fail
  clear x00 x01 x02 x03 x04
  refine (heldCell_any 0 0 1 _ _ _ 4 8 0 _ (S2.out.1.rd (by omega)) (S2.out.2.1.rd (by omega)) (S2.out.2.2.1.rd (by simp [marks])) (by omega) (by omega)).mono ?_
  rintro e w8 ⟨rfl, b8⟩
  have S1 := hid (S1.out.keep b8)
  have V1 := hid (V1.out.keep b8)
  have S2 := hid (S2.out.keep b8)
  have V2 := hid (V2.out.keep b8)
  have S3 := hid (S3.out.keep b8)
  have V3 := hid (V3.out.keep b8)
  have PP := hid (PP.out.trans (b8.mono PP.out.size))
  clear b8
  go_wp2
  go_ret
  exact ⟨rfl, PP.out⟩
theorem own : ownKnob Try.prog.godebug = none := by kernel_rfl
theorem laidOut : laidOutB Try.prog = true := by kernel_rfl
set_option maxRecDepth 100000 in
theorem lifted (os : Os) (started : os.Started) (H : Type) (enc : TypeId × Value → H) :
    ReturnsInHanded {} Try.checked os 4 .any (Rows.fnExactCelNewSpec.pre6 enc Try.prog Try.f4 Rows.fnExactCelNewRow.domain false) (Rows.fnExactCelNewSpec.post enc Try.prog Try.f4 false true false false) := by
  refine returnsInHanded_of_change (C := Try.checked) own started (by kernel_rfl) Try.func4
    (ChangeSpec.witness6 (enc := enc) (C := Try.checked) false ⟨#[], #[], []⟩ 8 (by kernel_rfl) (by kernel_rfl) (by kernel_rfl) (by kernel_rfl)) ?_
  intro W base args ds gs before hval0 hW hcnd _
  have hval : ∀ (j : Nat) t v, Try.f4.params[j]? = some t → args[j]? = some v → Value.okWide Try.prog W .any base t v := hval0
  have hW' := hW
  obtain ⟨p, q, hA0, hV, rfl, hfz, hnd⟩ := hW
  have hA : DataW.TrodAll enc Try.prog W 0 (fun _ => true) true Try.f4.params.toList args.toList ds p := hA0
  rw [Try.params4] at hA hval
  obtain ⟨hargs, rfl, rfl⟩ := trodAll_nil hA
  obtain rfl : args = #[] := by cases args; simp_all
  obtain ⟨rfl, rfl⟩ := trodVars_none hV
  clear hA0 hval0
  refine (walk  W ).mono fun e W' ⟨he, bel⟩ => ?_
  subst he
  exact ⟨_, rfl, _, _, _, [], _, [], hW', trodAll_mk1 (shut_bool Try.underlying4 _), trodAll_mk0, rfl, bel.frame _, fun h => by cases h⟩

theorem over : Rows.fnExactCelNewRow.holds Try.pinned (OpenSpec.ofChange Rows.fnExactCelNewSpec) :=
  OpenClaim.holds_of_wide 4 Try.f4 rfl rfl rfl rfl rfl rfl rfl ⟨rfl, rfl, rfl, rfl, rfl⟩ rfl rfl rfl rfl rfl (by kernel_rfl) Try.func4 (by kernel_rfl)
    (of_decide_eq_true (by kernel_rfl)) (by unfold Func.isWrapper; first | (rw [if_pos (by decide +kernel)]; kernel_rfl) | (rw [if_neg (by decide +kernel)]; exact ⟨rfl, rfl⟩))
    (fun os started H enc _ => lifted os started H enc)

end Go.Proofs.Ytiamoamikkkbbaa.fnExactCelNew
namespace Go.Proofs.Ytiamoamikkkbbaa
theorem fnExactCelNew_holds : Rows.FnExactCelNewSaid := fnExactCelNew.over
#print axioms fnExactCelNew_holds
end Go.Proofs.Ytiamoamikkkbbaa
