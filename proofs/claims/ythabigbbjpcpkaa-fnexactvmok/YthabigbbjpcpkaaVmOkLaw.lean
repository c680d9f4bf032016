/- VmOk answers at every machine as the specification does, writes into no argument and keeps nothing of one. No conditions. -/
import Derived.Test.YthabigbbjpcpkaaVmOk
import Derived.Test.YthabigbbjpcpkaaToVm
import Derived.Test.YthabigbbjpcpkaaOpenI
import Derived.Deep.RegionWith
namespace Go.Proofs.Ythabigbbjpcpkaa.fnExactVmOk
open Go.ChangeShapes Go.WideShapes Go.ChangeAt Go.RowKit Go.Joins Go.Deep
set_option linter.unusedVariables false
set_option maxRecDepth 4000
set_option maxHeartbeats 4000000 in
theorem walk (pc : Int) (a1 : Option Addr) (nr c1 : Nat) (z1 : List Int) (a2 : Option Addr) (nm c2 : Nat) (z2 : List Int) (ht : Int) (w : World) (k1 : IsRowI 1 w a1 nr c1 z1) (k2 : IsRowI 1 w a2 nm c2 z2) :
    Calls Try.prog 9 #[.agg #[.int .i64 pc, .slice a1 nr c1, .slice a2 nm c2, .int .i64 ht]] w fun e w' => e = .returned (.bool true) ∧ Below w.heap.size w w' := by
  have m1 := k1.max
  have m2 := k2.max
  by_cases hl : nr + nm ≤ 1048576
  · obtain ⟨xs, r1⟩ := k1.rd (by omega) (by omega)
    obtain ⟨ys, r2⟩ := k2.rd (by omega) (by omega)
    have R1 := hid (r1.keep (below_alloc1 w (.cells #[.int .i64 pc, .slice a1 nr c1, .slice a2 nm c2, .int .i64 ht] 53)))
    have R2 := hid (r2.keep (below_alloc1 w (.cells #[.int .i64 pc, .slice a1 nr c1, .slice a2 nm c2, .int .i64 ht] 53)))
    have B := hid (below_alloc1 w (.cells #[.int .i64 pc, .slice a1 nr c1, .slice a2 nm c2, .int .i64 ht] 53))
    have q0 : (w.alloc (.cells #[.int .i64 pc, .slice a1 nr c1, .slice a2 nm c2, .int .i64 ht] 53)).cell? ⟨w.heap.size, 0, none⟩ = some (.int .i64 pc) := by go_simp
    have q1 : (w.alloc (.cells #[.int .i64 pc, .slice a1 nr c1, .slice a2 nm c2, .int .i64 ht] 53)).cell? ⟨w.heap.size, 1, none⟩ = some (.slice a1 nr c1) := by go_simp
    have q2 : (w.alloc (.cells #[.int .i64 pc, .slice a1 nr c1, .slice a2 nm c2, .int .i64 ht] 53)).cell? ⟨w.heap.size, 2, none⟩ = some (.slice a2 nm c2) := by go_simp
    have q3 : (w.alloc (.cells #[.int .i64 pc, .slice a1 nr c1, .slice a2 nm c2, .int .i64 ht] 53)).cell? ⟨w.heap.size, 3, none⟩ = some (.int .i64 ht) := by go_simp
    have d1 : decide ((1048576 : Int) - nr - nm < 0) = false := by simp; omega
    have e1 : (if (1048576 : Int) - nr < 0 then -1 else if (1048576 : Int) - nr - nm < 0 then -1 else (1048576 : Int) - nr - nm) = 1048576 - nr - nm := by rw [if_neg (by omega), if_neg (by omega)]
    have E1 := hid e1
    clear k1 k2 r1 r2 e1
    go_enter Try.func9, Try.ntmps9
    go_wp2_with fail
    refine (szVm_any pc ht a1 a2 nr nm c1 c2 1048576 _ (by omega) (by omega) (by omega) (by omega)).mono ?_
    rw [E1.out]
    rintro e w1 ⟨rfl, b1⟩
    have q0 := cell_keep b1 q0
    have q1 := cell_keep b1 q1
    have q2 := cell_keep b1 q2
    have q3 := cell_keep b1 q3
    have R1 := hid (R1.out.keep b1)
    have R2 := hid (R2.out.keep b1)
    have B := hid (B.out.trans (b1.mono B.out.size))
    clear b1
    go_wp2_with fail
    refine (toVm_any pc ht _ _ nr nm xs ys _ R1.out R2.out).mono ?_
    rintro e w2 ⟨u2, v2, rfl, p2, t2, _, b2⟩
    have P2 := hid (p2.rd (by omega))
    have T2 := hid (t2.rd (by omega))
    clear p2 t2
    have q0 := cell_keep b2 q0
    have q1 := cell_keep b2 q1
    have q2 := cell_keep b2 q2
    have q3 := cell_keep b2 q3
    have R1 := hid (R1.out.keep b2)
    have R2 := hid (R2.out.keep b2)
    have B := hid (B.out.trans (b2.mono B.out.size))
    clear b2
    go_wp2_with fail
    refine (specVmOk_any pc ht _ _ nr nm xs ys _ P2.out T2.out).mono ?_
    rintro e w3 ⟨rfl, b3⟩
    clear P2 T2
    have q0 := cell_keep b3 q0
    have q1 := cell_keep b3 q1
    have q2 := cell_keep b3 q2
    have q3 := cell_keep b3 q3
    have R1 := hid (R1.out.keep b3)
    have R2 := hid (R2.out.keep b3)
    have B := hid (B.out.trans (b3.mono B.out.size))
    clear b3
    go_wp2_with fail
    refine (toVm_any pc ht _ _ nr nm xs ys _ R1.out R2.out).mono ?_
    rintro e w4 ⟨u4, v4, rfl, p4, t4, _, b4⟩
    obtain ⟨a3, c3, rfl, _⟩ := ownI_form p4
    obtain ⟨a4, c4, rfl, _⟩ := ownI_form t4
    have q0 := cell_keep b4 q0
    have q1 := cell_keep b4 q1
    have q2 := cell_keep b4 q2
    have q3 := cell_keep b4 q3
    have R1 := hid (R1.out.keep b4)
    have R2 := hid (R2.out.keep b4)
    have B := hid (B.out.trans (b4.mono B.out.size))
    clear b4
    have A4 := hid (below_alloc1 w4 (.cells #[.int .i64 pc, .slice a3 nr c3, .slice a4 nm c4, .int .i64 ht] 25))
    have x0 : (w4.alloc (.cells #[.int .i64 pc, .slice a3 nr c3, .slice a4 nm c4, .int .i64 ht] 25)).cell? ⟨w4.heap.size, 0, none⟩ = some (.int .i64 pc) := by go_simp
    have x1 : (w4.alloc (.cells #[.int .i64 pc, .slice a3 nr c3, .slice a4 nm c4, .int .i64 ht] 25)).cell? ⟨w4.heap.size, 1, none⟩ = some (.slice a3 nr c3) := by go_simp
    have x2 : (w4.alloc (.cells #[.int .i64 pc, .slice a3 nr c3, .slice a4 nm c4, .int .i64 ht] 25)).cell? ⟨w4.heap.size, 2, none⟩ = some (.slice a4 nm c4) := by go_simp
    have x3 : (w4.alloc (.cells #[.int .i64 pc, .slice a3 nr c3, .slice a4 nm c4, .int .i64 ht] 25)).cell? ⟨w4.heap.size, 3, none⟩ = some (.int .i64 ht) := by go_simp
    have q0 := cell_keep A4.out q0
    have q1 := cell_keep A4.out q1
    have q2 := cell_keep A4.out q2
    have q3 := cell_keep A4.out q3
    have R1 := hid (R1.out.keep A4.out)
    have R2 := hid (R2.out.keep A4.out)
    have X1 := hid ((p4.keep A4.out).rd (by omega))
    have X2 := hid ((t4.keep A4.out).rd (by omega))
    have B := hid (B.out.trans (A4.out.mono B.out.size))
    clear p4 t4
    go_wp2_with fail
    refine (vmOk_any pc ht _ _ nr nm xs ys _ X1.out X2.out).mono ?_
    rintro e w5 ⟨rfl, b5⟩
    have X1 := hid (X1.out.keep b5)
    have X2 := hid (X2.out.keep b5)
    have x0 := cell_keep b5 x0
    have x1 := cell_keep b5 x1
    have x2 := cell_keep b5 x2
    have x3 := cell_keep b5 x3
    have q0 := cell_keep b5 q0
    have q1 := cell_keep b5 q1
    have q2 := cell_keep b5 q2
    have q3 := cell_keep b5 q3
    have R1 := hid (R1.out.keep b5)
    have R2 := hid (R2.out.keep b5)
    have B := hid (B.out.trans (b5.mono B.out.size))
    clear b5
    have R1 := hid (R1.out.keep (Below.refl _ w5).drew)
    have R2 := hid (R2.out.keep (Below.refl _ w5).drew)
    have X1 := hid (X1.out.keep (Below.refl _ w5).drew)
    have X2 := hid (X2.out.keep (Below.refl _ w5).drew)
    have Bd := hid B.out.drew
    go_wp2_with fail
    go_region_with ((first
      | (go_at_call 35; refine (toVm_any pc ht _ _ nr nm xs ys _ R1.out R2.out).mono ?_; rintro e w6 ⟨u6, v6, rfl, p6, t6, _, b6⟩; obtain ⟨a5, c5, rfl, _⟩ := ownI_form p6; obtain ⟨a6, c6, rfl, _⟩ := ownI_form t6; have P6 := hid (p6.rd (by omega)); have T6 := hid (t6.rd (by omega)); have Y1 := hid (X1.out.keep b6); have Y2 := hid (X2.out.keep b6); have x0 := cell_keep b6 (show w5.drew.cell? ⟨w4.heap.size, 0, none⟩ = _ from x0); have x1 := cell_keep b6 (show w5.drew.cell? ⟨w4.heap.size, 1, none⟩ = _ from x1); have x2 := cell_keep b6 (show w5.drew.cell? ⟨w4.heap.size, 2, none⟩ = _ from x2); have x3 := cell_keep b6 (show w5.drew.cell? ⟨w4.heap.size, 3, none⟩ = _ from x3); have B6 := hid (Bd.out.trans (b6.mono Bd.out.size)))
      | (go_at_call 31; refine (eqVm_same pc ht _ _ _ _ nr nm xs ys _ Y1.out Y2.out P6.out T6.out).mono ?_; rintro e w7 ⟨rfl, b7⟩; have B7 := hid (B6.out.trans (b7.mono B6.out.size)))))
    all_goals (go_wp2; go_ret; exact ⟨rfl, B7.out⟩)
  · have E1 : Hid ((if (1048576 : Int) - nr < 0 then -1 else if (1048576 : Int) - nr - nm < 0 then -1 else (1048576 : Int) - nr - nm) = -1) := hid (by
      by_cases h : (1048576 : Int) - nr < 0
      · rw [if_pos h]
      · rw [if_neg h, if_pos (by omega)])
    clear k1 k2
    go_enter Try.func9, Try.ntmps9
    go_wp2_with fail
    refine (szVm_any pc ht a1 a2 nr nm c1 c2 1048576 _ (by omega) (by omega) (by omega) (by omega)).mono ?_
    rw [E1.out]
    rintro e w1 ⟨rfl, b1⟩
    have B := hid ((below_alloc1 w (.cells #[.int .i64 pc, .slice a1 nr c1, .slice a2 nm c2, .int .i64 ht] 53)).trans (b1.mono (by simp)))
    clear b1
    go_wp2
    go_ret
    exact ⟨rfl, B.out⟩
theorem own : ownKnob Try.prog.godebug = none := by kernel_rfl
theorem laidOut : laidOutB Try.prog = true := by kernel_rfl
theorem cells53 : Try.prog.cellsOf 53 = 4 := by kernel_rfl
set_option maxRecDepth 100000 in
theorem lifted (os : Os) (started : os.Started) (H : Type) (enc : TypeId × Value → H) :
    ReturnsInHanded {} Try.checked os 9 .any (Rows.fnExactVmOkSpec.pre6 enc Try.prog Try.f9 Rows.fnExactVmOkRow.domain false) (Rows.fnExactVmOkSpec.post enc Try.prog Try.f9 false true false false) := by
  refine returnsInHanded_of_change (C := Try.checked) own started (by kernel_rfl) Try.func9
    (ChangeSpec.witness6 (enc := enc) (C := Try.checked) false ⟨#[], #[.agg #[.int .i64 0, .slice none 0 0, .slice none 0 0, .int .i64 0]], []⟩ 8 (by kernel_rfl) (by kernel_rfl) (by kernel_rfl) (by kernel_rfl)) ?_
  intro W base args ds gs before hval0 hW hcnd _
  have hval : ∀ (j : Nat) t v, Try.f9.params[j]? = some t → args[j]? = some v → Value.okWide Try.prog W .any base t v := hval0
  have hW' := hW
  obtain ⟨p, q, hA0, hV, rfl, hfz, hnd⟩ := hW
  have hA : DataW.TrodAll enc Try.prog W 0 (fun _ => true) true Try.f9.params.toList args.toList ds p := hA0
  rw [Try.params9] at hA hval
  obtain ⟨v0, vs0, d0, ds0, p0, q0, hargs, rfl, rfl, h0, r0⟩ := trodAll_cons hA
  obtain ⟨rfl, rfl, rfl⟩ := trodAll_nil r0
  obtain rfl : args = #[v0] := by cases args; simp_all
  obtain ⟨rfl, rfl⟩ := trodVars_none hV
  have k0 := h0
  have lt0 : ∀ x ∈ p0, x.block < W.heap.size := by obtain ⟨m, hm⟩ := k0; exact DataW.trod_lt m _ _ _ hm
  obtain ⟨c0x0, c0x1, c0x2, c0x3, y0x0, y0x1, y0x2, y0x3, m0, rfl, rfl, rfl, h0y0, h0y1, h0y2, h0y3⟩ := open_agg4 Try.underlying53 (by kernel_rfl) cells53 (hval 0 53 v0 rfl rfl) h0
  obtain ⟨pc0, e0x0, rfl, w0x0⟩ := DataW.trod_int Try.underlying3 h0y0
  obtain ⟨ht0, e0x3, rfl, w0x3⟩ := DataW.trod_int Try.underlying3 h0y3
  obtain ⟨ra0, rl0, rc0, rz0, rfl, rk0⟩ := open_intsI Try.underlying23 Try.underlying3 (by kernel_rfl) h0y1
  obtain ⟨ma0, ml0, mc0, mz0, rfl, mk0⟩ := open_intsI Try.underlying23 Try.underlying3 (by kernel_rfl) h0y2
  simp at e0x0 e0x3
  subst e0x0 e0x3
  clear hA0 hval0
  refine (walk pc0 ra0 rl0 rc0 rz0 ma0 ml0 mc0 mz0 ht0 W rk0 mk0).mono fun e W' ⟨he, bel⟩ => ?_
  subst he
  exact ⟨_, rfl, _, _, _, [], _, [], hW', trodAll_mk1 (shut_bool Try.underlying4 _), (trodAll_cons_mk (Below.trod laidOut (by kernel_rfl) (of_decide_eq_true (by kernel_rfl)) k0 bel lt0) trodAll_mk0), rfl, bel.frame _, fun h => by cases h⟩

theorem over : Rows.fnExactVmOkRow.holds Try.pinned (OpenSpec.ofChange Rows.fnExactVmOkSpec) :=
  OpenClaim.holds_of_wide 9 Try.f9 rfl rfl rfl rfl rfl rfl rfl ⟨rfl, rfl, rfl, rfl, rfl⟩ rfl rfl rfl rfl rfl (by kernel_rfl) Try.func9 (by kernel_rfl)
    (of_decide_eq_true (by kernel_rfl)) (by unfold Func.isWrapper; first | (rw [if_pos (by decide +kernel)]; kernel_rfl) | (rw [if_neg (by decide +kernel)]; exact ⟨rfl, rfl⟩))
    (fun os started H enc _ => lifted os started H enc)

end Go.Proofs.Ythabigbbjpcpkaa.fnExactVmOk
namespace Go.Proofs.Ythabigbbjpcpkaa
theorem fnExactVmOk_holds : Rows.FnExactVmOkSaid := fnExactVmOk.over
#print axioms fnExactVmOk_holds
end Go.Proofs.Ythabigbbjpcpkaa
