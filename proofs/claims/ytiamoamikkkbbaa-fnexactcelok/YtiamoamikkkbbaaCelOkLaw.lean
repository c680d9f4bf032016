/- CelOk answers at every cell as the specification does, writes into no argument and keeps nothing of one. No conditions. -/
import Derived.Test.YtiamoamikkkbbaaCelOkC
import Derived.Test.YtiamoamikkkbbaaOpenCel
import Derived.Deep.RegionWith
namespace Go.Proofs.Ytiamoamikkkbbaa.fnExactCelOk
open Go.ChangeShapes Go.WideShapes Go.ChangeAt Go.RowKit Go.Joins Go.Deep
set_option linter.unusedVariables false
set_option maxRecDepth 4000
set_option maxHeartbeats 4000000 in
theorem walk (pc : Int) (a1 : Option Addr) (nr c1 : Nat) (z1 : List Int) (a2 : Option Addr) (nm c2 : Nat) (z2 : List Int) (ht : Int) (a3 : Option Addr) (nb c3 : Nat) (z3 : List Int) (w : World) (k1 : IsRowI 1 w a1 nr c1 z1) (k2 : IsRowI 1 w a2 nm c2 z2) (k3 : IsRow .u8 w a3 nb c3 z3) :
    Calls Try.prog 5 #[.agg #[.int .i64 pc, .slice a1 nr c1, .slice a2 nm c2, .int .i64 ht, .slice a3 nb c3]] w fun e w' => e = .returned (.bool true) ∧ Below w.heap.size w w' := by
  have m1 := k1.max
  have m2 := k2.max
  have m3 := k3.max
  have P0 := hid (below_alloc1 w (.cells #[.int .i64 pc, .slice a1 nr c1, .slice a2 nm c2, .int .i64 ht, .slice a3 nb c3] 42))
  have VA := hid (vb_new w [.int .i64 pc, .slice a1 nr c1, .slice a2 nm c2, .int .i64 ht, .slice a3 nb c3] 42)
  by_cases hl : nr + nm + nb ≤ 1048576
  · obtain ⟨xs, r1⟩ := k1.rd (by omega) (by omega)
    obtain ⟨ys, r2⟩ := k2.rd (by omega) (by omega)
    obtain ⟨bs, hbs, r3⟩ := k3.rd (by omega)
    subst hbs
    have R1 := hid r1
    have R2 := hid r2
    have R3 := hid r3
    have E1 := hid (show (if nr + nm + bs.length ≤ 1048576 then (1048576 : Int) - nr - nm - bs.length else -1) = 1048576 - nr - nm - bs.length by rw [if_pos hl])
    have d1 : decide ((1048576 : Int) - nr - nm - bs.length < 0) = false := by simp; omega
    clear k1 k2 k3 r1 r2 r3
    go_enter Try.func5, Try.ntmps5
    go_wp2_with fail
    refine (szCell_any pc ht a1 a2 a3 nr nm bs.length c1 c2 c3 _ (by omega) (by omega) (by omega)).mono ?_
    rw [E1.out]
    rintro e w1 ⟨rfl, b1⟩
    have VA := hid (VA.out.keep b1)
    have P1 := hid (P0.out.trans (b1.mono P0.out.size))
    clear b1
    obtain ⟨q0, q1, q2, q3, q4⟩ := vb5 VA.out
    go_wp2_with fail
    clear q0 q1 q2 q3 q4
    refine (toCell_any pc ht _ _ _ nr nm xs ys bs _ (R1.out.keep P1.out) (R2.out.keep P1.out) (R3.out.keep P1.out)).mono ?_
    rintro e w2 ⟨u2, v2, i2, rfl, s2, b2⟩
    have X1 := hid (s2.1.rd (by omega))
    have X2 := hid (s2.2.1.rd (by omega))
    have X3 := hid (s2.2.2.1.rd (by omega))
    have VA := hid (VA.out.keep b2)
    have P2 := hid (P1.out.trans (b2.mono P1.out.size))
    clear b2 s2
    go_wp2_with fail
    refine (specCelOk_any pc ht _ _ _ nr nm xs ys bs _ X1.out X2.out X3.out).mono ?_
    rintro e w3 ⟨rfl, b3⟩
    have VA := hid (VA.out.keep b3)
    have P3 := hid (P2.out.trans (b3.mono P2.out.size))
    clear b3 X1 X2 X3
    obtain ⟨q0, q1, q2, q3, q4⟩ := vb5 VA.out
    go_wp2_with fail
    clear q0 q1 q2 q3 q4
    refine (toCell_any pc ht _ _ _ nr nm xs ys bs _ (R1.out.keep P3.out) (R2.out.keep P3.out) (R3.out.keep P3.out)).mono ?_
    rintro e w4 ⟨u4, v4, i4, rfl, s4, b4⟩
    obtain ⟨a4, c4, rfl, _⟩ := ownI_form s4.1
    obtain ⟨a5, c5, rfl, _⟩ := ownI_form s4.2.1
    obtain ⟨a6, c6, rfl, _⟩ := own_form s4.2.2.1
    have P4 := hid (P3.out.trans (b4.mono P3.out.size))
    have VA := hid ((VA.out.keep b4).keep (below_alloc1 w4 (.cells #[.int .i64 pc, .slice a4 nr c4, .slice a5 nm c5, .int .i64 ht, .slice a6 bs.length c6] 27)))
    have VX := hid (vb_new w4 [.int .i64 pc, .slice a4 nr c4, .slice a5 nm c5, .int .i64 ht, .slice a6 bs.length c6] 27)
    have s5 := s4.keep (below_alloc1 w4 (.cells #[.int .i64 pc, .slice a4 nr c4, .slice a5 nm c5, .int .i64 ht, .slice a6 bs.length c6] 27))
    have X1 := hid (s5.1.rd (by omega))
    have X2 := hid (s5.2.1.rd (by omega))
    have X3 := hid (s5.2.2.1.rd (by omega))
    have P4 := hid (P4.out.alloc P4.out.size (.cells #[.int .i64 pc, .slice a4 nr c4, .slice a5 nm c5, .int .i64 ht, .slice a6 bs.length c6] 27))
    clear b4 s4 s5
    go_wp2_with fail
    refine (celOk_any pc ht _ _ _ nr nm xs ys bs _ X1.out X2.out X3.out).mono ?_
    rintro e w5 ⟨rfl, b5⟩
    have X1 := hid ((X1.out.keep b5).keep (Below.refl _ w5).drew)
    have X2 := hid ((X2.out.keep b5).keep (Below.refl _ w5).drew)
    have X3 := hid ((X3.out.keep b5).keep (Below.refl _ w5).drew)
    have VA := hid (VA.out.keep b5).drew
    have VX := hid (VX.out.keep b5).drew
    have P5 := hid (P4.out.trans (b5.mono P4.out.size)).drew
    clear b5
    obtain ⟨q0, q1, q2, q3, q4⟩ := vb5 VA.out
    obtain ⟨x0, x1, x2, x3, x4⟩ := vb5 VX.out
    go_wp2_with fail
    go_region_with ((first
      | (go_at_call 22; refine (toCell_any pc ht _ _ _ nr nm xs ys bs _ (R1.out.keep P5.out) (R2.out.keep P5.out) (R3.out.keep P5.out)).mono ?_; rintro e w6 ⟨u6, v6, i6, rfl, s6, b6⟩; obtain ⟨a7, c7, rfl, _⟩ := ownI_form s6.1; obtain ⟨a8, c8, rfl, _⟩ := ownI_form s6.2.1; obtain ⟨a9, c9, rfl, _⟩ := own_form s6.2.2.1; have Y1 := hid (s6.1.rd (by omega)); have Y2 := hid (s6.2.1.rd (by omega)); have Y3 := hid (s6.2.2.1.rd (by omega)); have Z1 := hid (X1.out.keep b6); have Z2 := hid (X2.out.keep b6); have Z3 := hid (X3.out.keep b6); obtain ⟨x0, x1, x2, x3, x4⟩ := vb5 (VX.out.keep b6); have P6 := hid (P5.out.trans (b6.mono P5.out.size)))
      | (go_at_call 18; refine (eqCell_same pc ht _ _ _ _ _ _ nr nm xs ys bs _ Z1.out Z2.out Z3.out Y1.out Y2.out Y3.out).mono ?_; rintro e w7 ⟨rfl, b7⟩; have P7 := hid (P6.out.trans (b7.mono P6.out.size)))))
    all_goals (go_wp2; go_ret; exact ⟨rfl, P7.out⟩)
  · have E1 := hid (show (if nr + nm + nb ≤ 1048576 then (1048576 : Int) - nr - nm - nb else -1) = -1 by rw [if_neg hl])
    clear k1 k2 k3
    go_enter Try.func5, Try.ntmps5
    go_wp2_with fail
    refine (szCell_any pc ht a1 a2 a3 nr nm nb c1 c2 c3 _ (by omega) (by omega) (by omega)).mono ?_
    rw [E1.out]
    rintro e w1 ⟨rfl, b1⟩
    have P1 := hid (P0.out.trans (b1.mono P0.out.size))
    clear b1
    go_wp2
    go_ret
    exact ⟨rfl, P1.out⟩
theorem own : ownKnob Try.prog.godebug = none := by kernel_rfl
theorem laidOut : laidOutB Try.prog = true := by kernel_rfl
set_option maxRecDepth 100000 in
theorem lifted (os : Os) (started : os.Started) (H : Type) (enc : TypeId × Value → H) :
    ReturnsInHanded {} Try.checked os 5 .any (Rows.fnExactCelOkSpec.pre6 enc Try.prog Try.f5 Rows.fnExactCelOkRow.domain false) (Rows.fnExactCelOkSpec.post enc Try.prog Try.f5 false true false false) := by
  refine returnsInHanded_of_change (C := Try.checked) own started (by kernel_rfl) Try.func5
    (ChangeSpec.witness6 (enc := enc) (C := Try.checked) false ⟨#[], #[.agg #[.int .i64 0, .slice none 0 0, .slice none 0 0, .int .i64 0, .slice none 0 0]], []⟩ 8 (by kernel_rfl) (by kernel_rfl) (by kernel_rfl) (by kernel_rfl)) ?_
  intro W base args ds gs before hval0 hW hcnd _
  have hval : ∀ (j : Nat) t v, Try.f5.params[j]? = some t → args[j]? = some v → Value.okWide Try.prog W .any base t v := hval0
  have hW' := hW
  obtain ⟨p, q, hA0, hV, rfl, hfz, hnd⟩ := hW
  have hA : DataW.TrodAll enc Try.prog W 0 (fun _ => true) true Try.f5.params.toList args.toList ds p := hA0
  rw [Try.params5] at hA hval
  obtain ⟨v0, vs0, d0, ds0, p0, q0, hargs, rfl, rfl, h0, r0⟩ := trodAll_cons hA
  obtain ⟨rfl, rfl, rfl⟩ := trodAll_nil r0
  obtain rfl : args = #[v0] := by cases args; simp_all
  obtain ⟨rfl, rfl⟩ := trodVars_none hV
  have k0 := h0
  have lt0 : ∀ x ∈ p0, x.block < W.heap.size := by obtain ⟨m, hm⟩ := k0; exact DataW.trod_lt m _ _ _ hm
  obtain ⟨pc0, ra0, rl0, rc0, rz0, ma0, ml0, mc0, mz0, ht0, ba0, bl0, bc0, bz0, rfl, rk0, mk0, bk0⟩ := open_cel Try.underlying42 Try.underlying40 (by kernel_rfl) (by kernel_rfl) rfl rfl (by kernel_rfl) (by kernel_rfl) Try.underlying3 Try.underlying3 Try.underlying23 Try.underlying23 Try.underlying3 (by kernel_rfl) Try.underlying22 Try.underlying5 (by kernel_rfl) (hval 0 42 v0 rfl rfl) h0
  clear hA0 hval0
  refine (walk pc0 ra0 rl0 rc0 rz0 ma0 ml0 mc0 mz0 ht0 ba0 bl0 bc0 bz0 W rk0 mk0 bk0).mono fun e W' ⟨he, bel⟩ => ?_
  subst he
  exact ⟨_, rfl, _, _, _, [], _, [], hW', trodAll_mk1 (shut_bool Try.underlying4 _), (trodAll_cons_mk (Below.trod laidOut (by kernel_rfl) (of_decide_eq_true (by kernel_rfl)) k0 bel lt0) trodAll_mk0), rfl, bel.frame _, fun h => by cases h⟩

theorem over : Rows.fnExactCelOkRow.holds Try.pinned (OpenSpec.ofChange Rows.fnExactCelOkSpec) :=
  OpenClaim.holds_of_wide 5 Try.f5 rfl rfl rfl rfl rfl rfl rfl ⟨rfl, rfl, rfl, rfl, rfl⟩ rfl rfl rfl rfl rfl (by kernel_rfl) Try.func5 (by kernel_rfl)
    (of_decide_eq_true (by kernel_rfl)) (by unfold Func.isWrapper; first | (rw [if_pos (by decide +kernel)]; kernel_rfl) | (rw [if_neg (by decide +kernel)]; exact ⟨rfl, rfl⟩))
    (fun os started H enc _ => lifted os started H enc)

end Go.Proofs.Ytiamoamikkkbbaa.fnExactCelOk
namespace Go.Proofs.Ytiamoamikkkbbaa
theorem fnExactCelOk_holds : Rows.FnExactCelOkSaid := fnExactCelOk.over
#print axioms fnExactCelOk_holds
end Go.Proofs.Ytiamoamikkkbbaa
