/- GrdOk answers at every list of rules as the specification does, writes into no argument and keeps nothing of one. No conditions. -/
import Derived.Test.YtdlggbeefbhjoaaGrdOk
import Derived.Test.YtdlggbeefbhjoaaOpenI
namespace Go.Proofs.Ytdlggbeefbhjoaa.fnExactGrdOk
open Go.ChangeShapes Go.WideShapes Go.ChangeAt Go.RowKit Go.Joins Go.Deep
set_option linter.unusedVariables false
set_option maxRecDepth 4000
set_option maxHeartbeats 4000000 in
theorem walk (a0 : Option Addr) (len0 cap0 : Nat) (z0 : List Int) (w : World) (k0 : IsRowI 7 w a0 len0 cap0 z0) :
    Calls Try.prog 13 #[.slice a0 len0 cap0] w fun e w' => e = .returned (.bool true) ∧ Below w.heap.size w w' := by
  have m0 := k0.max
  by_cases hl : len0 ≤ 1048576
  · obtain ⟨xs, r0⟩ := k0.rd hl (by omega)
    have R0 := hid r0
    have d1 : decide ((1048576 : Int) - len0 < 0) = false := by simp; omega
    have E1 := hid (show (if (1048576 : Int) - len0 < 0 then -1 else (1048576 : Int) - len0) = 1048576 - len0 by rw [if_neg (by omega)])
    clear k0 r0
    go_enter Try.func13, Try.ntmps13
    go_wp2_with fail
    refine (szGrdRuleS_any a0 len0 cap0 1048576 _ (by omega) (by omega) (by omega)).mono ?_
    rw [E1.out]
    rintro e w1 ⟨rfl, rfl⟩
    go_wp2_with fail
    refine (toGrdRuleS_any _ len0 xs _ R0.out).mono ?_
    rintro e w2 ⟨v2, rfl, o2, b2⟩
    have P2 := hid (o2.rd (by omega))
    have B := hid b2
    clear o2 b2
    go_wp2_with fail
    refine (specGrdOk_any _ len0 xs _ P2.out).mono ?_
    rintro e w3 ⟨rfl, b3⟩
    have B := hid (B.out.trans (b3.mono B.out.size))
    clear b3 P2
    go_wp2_with fail
    refine (toGrdRuleS_any _ len0 xs _ (R0.out.keep B.out)).mono ?_
    rintro e w4 ⟨v4, rfl, o4, b4⟩
    have X := hid o4
    have B := hid (B.out.trans (b4.mono B.out.size))
    clear o4 b4
    go_wp2_with fail
    refine (grdOk_any _ len0 xs _ (X.out.rd (by omega))).mono ?_
    rintro e w5 ⟨rfl, b5⟩
    have X := hid (X.out.keep b5)
    have B := hid (B.out.trans (b5.mono B.out.size))
    clear b5
    go_wp2_with fail
    refine (toGrdRuleS_any _ len0 xs _ (R0.out.keep B.out)).mono ?_
    rintro e w6 ⟨v6, rfl, o6, b6⟩
    have X := hid ((X.out.keep b6).rd (by omega))
    have P6 := hid (o6.rd (by omega))
    have B := hid (B.out.trans (b6.mono B.out.size))
    clear o6 b6
    go_wp2_with fail
    refine (eqGrdRuleS_same _ _ len0 xs _ X.out P6.out).mono ?_
    rintro e w7 ⟨rfl, b7⟩
    have B := hid (B.out.trans (b7.mono B.out.size))
    clear b7
    go_wp2
    go_ret
    exact ⟨rfl, B.out⟩
  · have E1 := hid (show (if (1048576 : Int) - len0 < 0 then -1 else (1048576 : Int) - len0) = -1 by rw [if_pos (by omega)])
    clear k0
    go_enter Try.func13, Try.ntmps13
    go_wp2_with fail
    refine (szGrdRuleS_any a0 len0 cap0 1048576 _ (by omega) (by omega) (by omega)).mono ?_
    rw [E1.out]
    rintro e w1 ⟨rfl, rfl⟩
    go_wp2
    go_ret
    exact ⟨rfl, Below.refl _ _⟩
theorem own : ownKnob Try.prog.godebug = none := by kernel_rfl
theorem laidOut : laidOutB Try.prog = true := by kernel_rfl
set_option maxRecDepth 100000 in
theorem lifted (os : Os) (started : os.Started) (H : Type) (enc : TypeId × Value → H) :
    ReturnsInHanded {} Try.checked os 13 .any (Rows.fnExactGrdOkSpec.pre6 enc Try.prog Try.f13 Rows.fnExactGrdOkRow.domain false) (Rows.fnExactGrdOkSpec.post enc Try.prog Try.f13 false true false false) := by
  refine returnsInHanded_of_change (C := Try.checked) own started (by kernel_rfl) Try.func13
    (ChangeSpec.witness6 (enc := enc) (C := Try.checked) false ⟨#[], #[.slice none 0 0], []⟩ 8 (by kernel_rfl) (by kernel_rfl) (by kernel_rfl) (by kernel_rfl)) ?_
  intro W base args ds gs before hval0 hW hcnd _
  have hval : ∀ (j : Nat) t v, Try.f13.params[j]? = some t → args[j]? = some v → Value.okWide Try.prog W .any base t v := hval0
  have hW' := hW
  obtain ⟨p, q, hA0, hV, rfl, hfz, hnd⟩ := hW
  have hA : DataW.TrodAll enc Try.prog W 0 (fun _ => true) true Try.f13.params.toList args.toList ds p := hA0
  rw [Try.params13] at hA hval
  obtain ⟨v0, vs0, d0, ds0, p0, q0, hargs, rfl, rfl, h0, r0⟩ := trodAll_cons hA
  obtain ⟨rfl, rfl, rfl⟩ := trodAll_nil r0
  obtain rfl : args = #[v0] := by cases args; simp_all
  obtain ⟨rfl, rfl⟩ := trodVars_none hV
  obtain ⟨a0, len0, cap0, rfl⟩ := okWide_slice Try.underlying61 (hval 0 61 v0 rfl rfl)
  have k0 := h0
  have lt0 : ∀ x ∈ p0, x.block < W.heap.size := by obtain ⟨m, hm⟩ := k0; exact DataW.trod_lt m _ _ _ hm
  obtain ⟨z0, w0⟩ : ∃ zs, IsRowI 7 W a0 len0 cap0 zs := by
    obtain ⟨fuel, hf⟩ := h0
    obtain ⟨a', l', c', zs, hcs, hr⟩ := open_rowI Try.underlying61 Try.underlying58 (by kernel_rfl) Try.underlying3 (by rfl) (by kernel_rfl) (by decide) (c := .slice a0 len0 cap0) hf
    simp only [Value.slice.injEq] at hcs
    obtain ⟨rfl, rfl, rfl⟩ := hcs
    exact ⟨zs, hr⟩
  clear hA0 hval0
  refine (walk a0 len0 cap0 z0 W w0).mono fun e W' ⟨he, bel⟩ => ?_
  subst he
  exact ⟨_, rfl, _, _, _, [], _, [], hW', trodAll_mk1 (shut_bool Try.underlying4 _), (trodAll_cons_mk (Below.trod laidOut (by kernel_rfl) (of_decide_eq_true (by kernel_rfl)) k0 bel lt0) trodAll_mk0), rfl, bel.frame _, fun h => by cases h⟩

theorem over : Rows.fnExactGrdOkRow.holds Try.pinned (OpenSpec.ofChange Rows.fnExactGrdOkSpec) :=
  OpenClaim.holds_of_wide 13 Try.f13 rfl rfl rfl rfl rfl rfl rfl ⟨rfl, rfl, rfl, rfl, rfl⟩ rfl rfl rfl rfl rfl (by kernel_rfl) Try.func13 (by kernel_rfl)
    (of_decide_eq_true (by kernel_rfl)) (by unfold Func.isWrapper; first | (rw [if_pos (by decide +kernel)]; kernel_rfl) | (rw [if_neg (by decide +kernel)]; exact ⟨rfl, rfl⟩))
    (fun os started H enc _ => lifted os started H enc)

end Go.Proofs.Ytdlggbeefbhjoaa.fnExactGrdOk
namespace Go.Proofs.Ytdlggbeefbhjoaa
theorem fnExactGrdOk_holds : Rows.FnExactGrdOkSaid := fnExactGrdOk.over
#print axioms fnExactGrdOk_holds
end Go.Proofs.Ytdlggbeefbhjoaa
