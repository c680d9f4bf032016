/- HrdOk answers at every book as the specification does, writes into no argument and keeps nothing of one. No conditions. -/
import Derived.Test.YtoahbodaeipcoaaHrdOkC
import Derived.Deep.RegionWith
namespace Go.Proofs.Ytoahbodaeipcoaa.fnExactHrdOk
open Go.ChangeShapes Go.WideShapes Go.ChangeAt Go.RowKit Go.Joins Go.Deep
set_option linter.unusedVariables false
set_option maxRecDepth 4000
set_option maxHeartbeats 4000000 in
theorem walk (a1 : Option Addr) (n c1 : Nat) (z1 : List Int) (a2 : Option Addr) (m c2 : Nat) (z2 : List Int) (w : World) (k1 : IsRowI 1 w a1 n c1 z1) (k2 : IsRowI 1 w a2 m c2 z2) :
    Calls Try.prog 15 #[.agg #[.slice a1 n c1, .slice a2 m c2]] w fun e w' => e = .returned (.bool true) ∧ Below w.heap.size w w' := by
  have m1 := k1.max
  have m2 := k2.max
  by_cases hl : n + m ≤ 1048576
  · obtain ⟨xs, r1⟩ := k1.rd (by omega) (by omega)
    obtain ⟨ys, r2⟩ := k2.rd (by omega) (by omega)
    have R1 := hid r1
    have R2 := hid r2
    have B0 := hid (below_alloc1 w (.cells #[.slice a1 n c1, .slice a2 m c2] 65))
    have VA := hid (vb_new w [.slice a1 n c1, .slice a2 m c2] 65)
    have d1 : decide ((1048576 : Int) - n - m < 0) = false := by simp; omega
    have e1 : (if (1048576 : Int) - n < 0 then -1 else if (1048576 : Int) - n - m < 0 then -1 else (1048576 : Int) - n - m) = 1048576 - n - m := by rw [if_neg (by omega), if_neg (by omega)]
    have E1 := hid e1
    clear k1 k2 r1 r2 e1
    go_enter Try.func15, Try.ntmps15
    go_wp2_with fail
    refine (szBook_any a1 a2 n m c1 c2 1048576 _ (by omega) (by omega) (by omega) (by omega)).mono ?_
    rw [E1.out]
    rintro e w1 ⟨rfl, b1⟩
    have VA1 := hid (VA.out.keep b1)
    have B1 := hid (B0.out.trans (b1.mono B0.out.size))
    clear b1
    obtain ⟨q0, q1⟩ := vb2 VA1.out
    go_wp2_with fail
    clear q0 q1
    refine (toBook_any _ _ n m xs ys _ (R1.out.keep B1.out) (R2.out.keep B1.out)).mono ?_
    rintro e w2 ⟨u2, v2, rfl, p2, t2, _, b2⟩
    have P2 := hid (p2.rd (by omega))
    have T2 := hid (t2.rd (by omega))
    have VA2 := hid (VA1.out.keep b2)
    have B2 := hid (B1.out.trans (b2.mono B1.out.size))
    clear p2 t2 b2
    go_wp2_with fail
    refine (specHrdOk_any _ _ n m xs ys _ P2.out T2.out).mono ?_
    rintro e w3 ⟨rfl, b3⟩
    have VA3 := hid (VA2.out.keep b3)
    have B3 := hid (B2.out.trans (b3.mono B2.out.size))
    clear b3 P2 T2
    obtain ⟨q0, q1⟩ := vb2 VA3.out
    go_wp2_with fail
    clear q0 q1
    refine (toBook_any _ _ n m xs ys _ (R1.out.keep B3.out) (R2.out.keep B3.out)).mono ?_
    rintro e w4 ⟨u4, v4, rfl, p4, t4, _, b4⟩
    obtain ⟨a3, c3, rfl, _⟩ := ownI_form p4
    obtain ⟨a4, c4, rfl, _⟩ := ownI_form t4
    have VA4 := hid ((VA3.out.keep b4).keep (below_alloc1 w4 (.cells #[.slice a3 n c3, .slice a4 m c4] 44)))
    have B4 := hid (B3.out.trans (b4.mono B3.out.size))
    have VX4 := hid (vb_new w4 [.slice a3 n c3, .slice a4 m c4] 44)
    have X1 := hid ((p4.keep (below_alloc1 w4 (.cells #[.slice a3 n c3, .slice a4 m c4] 44))).rd (by omega))
    have X2 := hid ((t4.keep (below_alloc1 w4 (.cells #[.slice a3 n c3, .slice a4 m c4] 44))).rd (by omega))
    have B4 := hid (B4.out.alloc B4.out.size (.cells #[.slice a3 n c3, .slice a4 m c4] 44))
    clear p4 t4 b4
    go_wp2_with fail
    refine (hrdOk_any _ _ n m xs ys _ X1.out X2.out).mono ?_
    rintro e w5 ⟨rfl, b5⟩
    have X1 := hid ((X1.out.keep b5).keep (Below.refl _ w5).drew)
    have X2 := hid ((X2.out.keep b5).keep (Below.refl _ w5).drew)
    have VA5 := hid (VA4.out.keep b5).drew
    have VX5 := hid (VX4.out.keep b5).drew
    have B5 := hid (B4.out.trans (b5.mono B4.out.size)).drew
    clear b5
    obtain ⟨q0, q1⟩ := vb2 VA5.out
    obtain ⟨x0, x1⟩ := vb2 VX5.out
    go_wp2_with fail
    go_region_with ((first
      | (go_at_call 50; refine (toBook_any _ _ n m xs ys _ (R1.out.keep B5.out) (R2.out.keep B5.out)).mono ?_; rintro e w6 ⟨u6, v6, rfl, p6, t6, _, b6⟩; obtain ⟨a5, c5, rfl, _⟩ := ownI_form p6; obtain ⟨a6, c6, rfl, _⟩ := ownI_form t6; have P6 := hid (p6.rd (by omega)); have T6 := hid (t6.rd (by omega)); have Y1 := hid (X1.out.keep b6); have Y2 := hid (X2.out.keep b6); obtain ⟨x0, x1⟩ := vb2 (VX5.out.keep b6); have B6 := hid (B5.out.trans (b6.mono B5.out.size)))
      | (go_at_call 45; refine (eqBook_same _ _ _ _ n m xs ys _ Y1.out Y2.out P6.out T6.out).mono ?_; rintro e w7 ⟨rfl, b7⟩; have B7 := hid (B6.out.trans (b7.mono B6.out.size)))))
    all_goals (go_wp2; go_ret; exact ⟨rfl, B7.out⟩)
  · have E1 : Hid ((if (1048576 : Int) - n < 0 then -1 else if (1048576 : Int) - n - m < 0 then -1 else (1048576 : Int) - n - m) = -1) := hid (by
      by_cases h : (1048576 : Int) - n < 0
      · rw [if_pos h]
      · rw [if_neg h, if_pos (by omega)])
    clear k1 k2
    go_enter Try.func15, Try.ntmps15
    go_wp2_with fail
    refine (szBook_any a1 a2 n m c1 c2 1048576 _ (by omega) (by omega) (by omega) (by omega)).mono ?_
    rw [E1.out]
    rintro e w1 ⟨rfl, b1⟩
    have B := hid ((below_alloc1 w (.cells #[.slice a1 n c1, .slice a2 m c2] 65)).trans (b1.mono (by simp)))
    clear b1
    go_wp2
    go_ret
    exact ⟨rfl, B.out⟩
theorem own : ownKnob Try.prog.godebug = none := by kernel_rfl
theorem laidOut : laidOutB Try.prog = true := by kernel_rfl
theorem cells65 : Try.prog.cellsOf 65 = 2 := by kernel_rfl
set_option maxRecDepth 100000 in
theorem lifted (os : Os) (started : os.Started) (H : Type) (enc : TypeId × Value → H) :
    ReturnsInHanded {} Try.checked os 15 .any (Rows.fnExactHrdOkSpec.pre6 enc Try.prog Try.f15 Rows.fnExactHrdOkRow.domain false) (Rows.fnExactHrdOkSpec.post enc Try.prog Try.f15 false true false false) := by
  refine returnsInHanded_of_change (C := Try.checked) own started (by kernel_rfl) Try.func15
    (ChangeSpec.witness6 (enc := enc) (C := Try.checked) false ⟨#[], #[.agg #[.slice none 0 0, .slice none 0 0]], []⟩ 8 (by kernel_rfl) (by kernel_rfl) (by kernel_rfl) (by kernel_rfl)) ?_
  intro W base args ds gs before hval0 hW hcnd _
  have hval : ∀ (j : Nat) t v, Try.f15.params[j]? = some t → args[j]? = some v → Value.okWide Try.prog W .any base t v := hval0
  have hW' := hW
  obtain ⟨p, q, hA0, hV, rfl, hfz, hnd⟩ := hW
  have hA : DataW.TrodAll enc Try.prog W 0 (fun _ => true) true Try.f15.params.toList args.toList ds p := hA0
  rw [Try.params15] at hA hval
  obtain ⟨v0, vs0, d0, ds0, p0, q0, hargs, rfl, rfl, h0, r0⟩ := trodAll_cons hA
  obtain ⟨rfl, rfl, rfl⟩ := trodAll_nil r0
  obtain rfl : args = #[v0] := by cases args; simp_all
  obtain ⟨rfl, rfl⟩ := trodVars_none hV
  have k0 := h0
  have lt0 : ∀ x ∈ p0, x.block < W.heap.size := by obtain ⟨m, hm⟩ := k0; exact DataW.trod_lt m _ _ _ hm
  obtain ⟨c0x0, c0x1, y0x0, y0x1, m0, rfl, rfl, rfl, h0y0, h0y1⟩ := open_agg2 Try.underlying65 (by kernel_rfl) cells65 (hval 0 65 v0 rfl rfl) h0
  obtain ⟨ra0, rl0, rc0, rz0, rfl, rk0⟩ := open_intsI Try.underlying42 Try.underlying3 (by kernel_rfl) h0y0
  obtain ⟨ma0, ml0, mc0, mz0, rfl, mk0⟩ := open_intsI Try.underlying42 Try.underlying3 (by kernel_rfl) h0y1
  clear hA0 hval0
  refine (walk ra0 rl0 rc0 rz0 ma0 ml0 mc0 mz0 W rk0 mk0).mono fun e W' ⟨he, bel⟩ => ?_
  subst he
  exact ⟨_, rfl, _, _, _, [], _, [], hW', trodAll_mk1 (shut_bool Try.underlying4 _), (trodAll_cons_mk (Below.trod laidOut (by kernel_rfl) (of_decide_eq_true (by kernel_rfl)) k0 bel lt0) trodAll_mk0), rfl, bel.frame _, fun h => by cases h⟩

theorem over : Rows.fnExactHrdOkRow.holds Try.pinned (OpenSpec.ofChange Rows.fnExactHrdOkSpec) :=
  OpenClaim.holds_of_wide 15 Try.f15 rfl rfl rfl rfl rfl rfl rfl ⟨rfl, rfl, rfl, rfl, rfl⟩ rfl rfl rfl rfl rfl (by kernel_rfl) Try.func15 (by kernel_rfl)
    (of_decide_eq_true (by kernel_rfl)) (by unfold Func.isWrapper; first | (rw [if_pos (by decide +kernel)]; kernel_rfl) | (rw [if_neg (by decide +kernel)]; exact ⟨rfl, rfl⟩))
    (fun os started H enc _ => lifted os started H enc)

end Go.Proofs.Ytoahbodaeipcoaa.fnExactHrdOk
namespace Go.Proofs.Ytoahbodaeipcoaa
theorem fnExactHrdOk_holds : Rows.FnExactHrdOkSaid := fnExactHrdOk.over
#print axioms fnExactHrdOk_holds
end Go.Proofs.Ytoahbodaeipcoaa
