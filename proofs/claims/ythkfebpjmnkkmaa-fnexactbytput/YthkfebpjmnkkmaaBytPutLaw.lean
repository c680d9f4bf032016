/- BytPut answers at every argument as the specification does; its answer owns its memory, behind another call too. No conditions. -/
import Derived.Test.YthkfebpjmnkkmaaBytPutSpec
namespace Go.Proofs.Ythkfebpjmnkkmaa.fnExactBytPut
open Go.ChangeShapes Go.WideShapes Go.ChangeAt Go.RowKit Go.Joins Go.Deep
set_option linter.unusedVariables false
set_option maxHeartbeats 1000000 in
theorem walk (n s : Int) (w : World) (x0 : (Lit.int .i64 n).wf = true) (x1 : (Lit.int .i64 s).wf = true) :
    Calls Try.prog 6 #[.int .i64 n, .int .i64 s] w fun e w' => e = .returned (.bool true) ∧ Below w.heap.size w w' := by
  have hn : n < 9223372036854775808 := by have := bounds_i64 x0; omega
  have L := putB_len n s
  clear x0 x1
  go_enter Try.func6, Try.ntmps6
  go_wp2_with fail
  refine (specPut_any _ _ _).mono ?_
  rintro e w1 ⟨v1, rfl, o1, b1⟩
  have B1 := hid b1
  have R1 := hid (o1.rd (by omega))
  clear b1 o1
  go_wp2_with fail
  refine (bytPut_any _ _ _ hn).mono ?_
  rintro e w2 ⟨v2, rfl, o2, b2⟩
  have B2 := hid (B1.out.trans (b2.mono B1.out.size))
  have b2 := hid b2
  have O2 := hid o2
  clear o2
  go_wp2_with fail
  refine (eqBytes_same _ _ (putB n s) _ (O2.out.rd (by omega)) (R1.out.keep b2.out)).mono ?_
  rintro e w3 ⟨rfl, b3⟩
  have B3 := hid (B2.out.trans (b3.mono B2.out.size))
  have b3' := hid (b2.out.trans (b3.mono b2.out.size))
  have O3 := hid (O2.out.keep b3)
  clear b3
  go_wp2_with fail
  refine (mark_any _ (putB n s) 1 w1.heap.size _ O3.out (by omega) (by omega) (by omega)).mono ?_
  rintro e w4 ⟨rfl, o4, g4, z4⟩
  have hv2 : ∀ k, v2.ownBlock = some k → w1.heap.size ≤ k := fun k hk => (O3.out.2.lt k hk).1
  have b4 := hid (b3'.out.grown g4 b3'.out.size hv2)
  have B4 := hid (B1.out.trans (b4.out.mono B1.out.size))
  have O4 := hid o4
  have R4 := hid (R1.out.keep b4.out)
  clear g4 o4 hv2 z4
  go_wp2_with fail
  refine (held_any _ (putB n s).length 1 _ (O4.out.rd (by rw [marks_len]; omega)) (by omega) (by omega)).mono ?_
  rintro e w5 ⟨rfl, rfl⟩
  go_wp2_with fail
  refine (bytPut_any _ _ _ hn).mono ?_
  rintro e w6 ⟨v6, rfl, o6, b6⟩
  have B6 := hid (B4.out.trans (b6.mono B4.out.size))
  have O4 := hid (O4.out.keep b6)
  have R4 := hid (R4.out.keep b6)
  have R6 := hid (o6.rd (by omega))
  clear o6 b6
  go_wp2_with fail
  refine (eqBytes_same _ _ (putB n s) _ R6.out R4.out).mono ?_
  rintro e w7 ⟨rfl, b7⟩
  have B7 := hid (B6.out.trans (b7.mono B6.out.size))
  have O7 := hid ((O4.out.keep b7).rd (by rw [marks_len]; omega))
  clear b7
  go_wp2_with fail
  refine (held_any _ (putB n s).length 1 _ O7.out (by omega) (by omega)).mono ?_
  rintro e w8 ⟨rfl, rfl⟩
  go_wp2
  go_ret
  exact ⟨rfl, B7.out⟩
theorem own : ownKnob Try.prog.godebug = none := by kernel_rfl
theorem laidOut : laidOutB Try.prog = true := by kernel_rfl
set_option maxRecDepth 100000 in
theorem lifted (os : Os) (started : os.Started) (H : Type) (enc : TypeId × Value → H) :
    ReturnsInHanded {} Try.checked os 6 .any (Rows.fnExactBytPutSpec.pre6 enc Try.prog Try.f6 Rows.fnExactBytPutRow.domain false) (Rows.fnExactBytPutSpec.post enc Try.prog Try.f6 false true false false) := by
  refine returnsInHanded_of_change (C := Try.checked) own started (by kernel_rfl) Try.func6
    (ChangeSpec.witness6 (enc := enc) (C := Try.checked) false ⟨#[], #[.int .i64 0, .int .i64 0], []⟩ 8 (by kernel_rfl) (by kernel_rfl) (by kernel_rfl) (by kernel_rfl)) ?_
  intro W base args ds gs before hval0 hW hcnd _
  have hval : ∀ (j : Nat) t v, Try.f6.params[j]? = some t → args[j]? = some v → Value.okWide Try.prog W .any base t v := hval0
  have hW' := hW
  obtain ⟨p, q, hA0, hV, rfl, hfz, hnd⟩ := hW
  have hA : DataW.TrodAll enc Try.prog W 0 (fun _ => true) true Try.f6.params.toList args.toList ds p := hA0
  rw [Try.params6] at hA hval
  obtain ⟨v0, vs0, d0, ds0, p0, q0, hargs, rfl, rfl, h0, r0⟩ := trodAll_cons hA
  obtain ⟨v1, vs1, d1, ds1, p1, q1, rfl, rfl, rfl, h1, r1⟩ := trodAll_cons r0
  obtain ⟨rfl, rfl, rfl⟩ := trodAll_nil r1
  obtain rfl : args = #[v0, v1] := by cases args; simp_all
  obtain ⟨rfl, rfl⟩ := trodVars_none hV
  obtain ⟨a0, rfl, rfl, rfl, w0⟩ := open_int Try.underlying3 (hval 0 3 v0 rfl rfl) h0
  obtain ⟨a1, rfl, rfl, rfl, w1⟩ := open_int Try.underlying3 (hval 1 3 v1 rfl rfl) h1
  clear hA0 hval0
  refine (walk a0 a1 W w0 w1).mono fun e W' ⟨he, bel⟩ => ?_
  subst he
  exact ⟨_, rfl, _, _, _, [], _, [], hW', trodAll_mk1 (shut_bool Try.underlying4 _), (trodAll_cons_mk (shut_int Try.underlying3 w0) (trodAll_cons_mk (shut_int Try.underlying3 w1) trodAll_mk0)), rfl, bel.frame _, fun h => by cases h⟩

theorem over : Rows.fnExactBytPutRow.holds Try.pinned (OpenSpec.ofChange Rows.fnExactBytPutSpec) :=
  OpenClaim.holds_of_wide 6 Try.f6 rfl rfl rfl rfl rfl rfl rfl ⟨rfl, rfl, rfl, rfl, rfl⟩ rfl rfl rfl rfl rfl (by kernel_rfl) Try.func6 (by kernel_rfl)
    (of_decide_eq_true (by kernel_rfl)) (by unfold Func.isWrapper; first | (rw [if_pos (by decide +kernel)]; kernel_rfl) | (rw [if_neg (by decide +kernel)]; exact ⟨rfl, rfl⟩))
    (fun os started H enc _ => lifted os started H enc)

end Go.Proofs.Ythkfebpjmnkkmaa.fnExactBytPut
namespace Go.Proofs.Ythkfebpjmnkkmaa
theorem fnExactBytPut_holds : Rows.FnExactBytPutSaid := fnExactBytPut.over
#print axioms fnExactBytPut_holds
end Go.Proofs.Ythkfebpjmnkkmaa
