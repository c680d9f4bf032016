/- CelSightOk answers at every sight as the specification does, writes into no argument and keeps nothing of one. No conditions. -/
import Derived.Test.YtiamoamikkkbbaaCelSightC
import Derived.Test.YtiamoamikkkbbaaOpenI
import Derived.Deep.RegionWith
namespace Go.Proofs.Ytiamoamikkkbbaa
open Go.ChangeShapes Go.WideShapes Go.ChangeAt Go.RowKit Go.Joins Go.Deep
set_option linter.unusedVariables false
set_option maxRecDepth 4000
theorem szBytesS_any (a : Option Addr) (len cap : Nat) (left : Int) (w : World) (hl : len ≤ 9223372036854775807) (l0 : 0 ≤ left) (l1 : left ≤ 9223372036854775807) :
    Calls Try.prog 47 #[.slice a len cap, .int .i64 left] w fun e w' => e = .returned (.int .i64 (if left - len < 0 then -1 else left - len)) ∧ w' = w := by
  by_cases h : left - (len : Int) < 0
  · have d : decide (left - (len : Int) < 0) = true := by simpa using h
    rw [if_pos h]
    go_enter Try.func47, Try.ntmps47
    go_wp2
    go_ret
    exact ⟨rfl, rfl⟩
  · have d : decide (left - (len : Int) < 0) = false := by simpa using h
    rw [if_neg h]
    go_enter Try.func47, Try.ntmps47
    go_wp2
    go_ret
    exact ⟨rfl, rfl⟩
theorem szSight_any (k y : Int) (a : Option Addr) (n c : Nat) (w : World) (hl : n ≤ 9223372036854775807) :
    Calls Try.prog 23 #[.agg #[.int .i64 k, .int .i64 y, .slice a n c], .int .i64 1048576] w fun e w' => e = .returned (.int .i64 (if (1048576 : Int) - n < 0 then -1 else 1048576 - n)) ∧ Below w.heap.size w w' := by
  by_cases h : (1048576 : Int) - n < 0
  · have E := hid (show (if (1048576 : Int) - n < 0 then -1 else (1048576 : Int) - n) = -1 from if_pos h)
    rw [if_pos h]
    go_enter Try.func23, Try.ntmps23
    go_wp2_with fail
    refine (szBytesS_any a n c 1048576 _ hl (by omega) (by omega)).mono ?_
    rw [E.out]
    rintro e w1 ⟨rfl, rfl⟩
    go_wp2
    go_ret
    exact ⟨rfl, by go_grown⟩
  · have E := hid (show (if (1048576 : Int) - n < 0 then -1 else (1048576 : Int) - n) = 1048576 - n from if_neg h)
    have d : decide ((1048576 : Int) - n < 0) = false := by simpa using h
    rw [if_neg h]
    go_enter Try.func23, Try.ntmps23
    go_wp2_with fail
    refine (szBytesS_any a n c 1048576 _ hl (by omega) (by omega)).mono ?_
    rw [E.out]
    rintro e w1 ⟨rfl, rfl⟩
    go_wp2
    go_ret
    exact ⟨rfl, by go_grown⟩
theorem res_toSight {W : World} {b : Nat} {x0 x1 x2 : Value} (tmps : Array Value) (ht : tmps[2]?.getD undef = .pointer (some ⟨b, 0, none⟩)) (h0 : W.cell? ⟨b, 0, none⟩ = some x0) (h1 : W.cell? ⟨b, 1, none⟩ = some x1) (h2 : W.cell? ⟨b, 2, none⟩ = some x2) :
    (results Try.f25 tmps).run Try.prog W = .ok (.agg #[x0, x1, x2]) W := by
  simp [results, Try.results25, go_sem, ht, h0, h1, h2]
theorem Own.chg {w w' : World} {B : Nat} {v : Value} {xs : List Int} {S : Nat → Prop} (h : Own w B v xs) (hg : Chg S w w') (hr : ∀ j, v.ownBlock = some j → ¬ S j) : Own w' B v xs := by
  obtain ⟨h1, h2, h3⟩ := h
  refine ⟨h1, h2, ?_⟩
  rcases h3 with h3 | ⟨q, cap', cur, hv, hq, hh, r⟩
  · exact .inl h3
  · refine .inr ⟨q, cap', cur, hv, hq, ?_, r⟩
    have hlt : q < w.heap.size := by
      rcases Nat.lt_or_ge q w.heap.size with h' | h'
      · exact h'
      · rw [Array.getElem?_eq_none h'] at hh; cases hh
    rw [hg.block q hlt (hr q (by rw [hv]; rfl))]; exact hh
set_option maxHeartbeats 2000000 in
theorem toSight_any (k y : Int) (v : Value) (bs : List Int) (w : World) (hv : Rd w v bs) :
    Calls Try.prog 25 #[.agg #[.int .i64 k, .int .i64 y, v]] w fun e w' => ∃ v', e = .returned (.agg #[.int .i64 k, .int .i64 y, v']) ∧ Own w' w.heap.size v' bs ∧ Below w.heap.size w w' := by
  have RB := hid hv
  obtain ⟨_, _, a, c, rfl, _⟩ := hv
  obtain ⟨n, hn⟩ : ∃ n, bs.length = n := ⟨_, rfl⟩
  rw [hn] at RB ⊢
  have HN := hid hn
  clear hn
  have BB := hid ((((Below.refl w.heap.size w).alloc (Nat.le_refl _) (.cells #[.int .i64 k, .int .i64 y, .slice a n c] 48)).alloc (by simp) (.cells #[.int .i64 0, .int .i64 0, .slice none 0 0] 51)).alloc (by simp; omega) (.cells #[.int .i64 k, .int .i64 y, .slice none 0 0] 51))
  have VR : Hid (VB (((w.alloc (.cells #[.int .i64 k, .int .i64 y, .slice a n c] 48)).alloc (.cells #[.int .i64 0, .int .i64 0, .slice none 0 0] 51)).alloc (.cells #[.int .i64 k, .int .i64 y, .slice none 0 0] 51)) (w.heap.size + 1) [.int .i64 0, .int .i64 0, .slice none 0 0]) := hid ((by have := vb_new (w.alloc (.cells #[.int .i64 k, .int .i64 y, .slice a n c] 48)) [.int .i64 0, .int .i64 0, .slice none 0 0] 51; simpa using this : VB ((w.alloc (.cells #[.int .i64 k, .int .i64 y, .slice a n c] 48)).alloc (.cells #[.int .i64 0, .int .i64 0, .slice none 0 0] 51)) (w.heap.size + 1) [.int .i64 0, .int .i64 0, .slice none 0 0]).keep (below_alloc1 _ _))
  have VO : Hid (VB (((w.alloc (.cells #[.int .i64 k, .int .i64 y, .slice a n c] 48)).alloc (.cells #[.int .i64 0, .int .i64 0, .slice none 0 0] 51)).alloc (.cells #[.int .i64 k, .int .i64 y, .slice none 0 0] 51)) (w.heap.size + 1 + 1) [.int .i64 k, .int .i64 y, .slice none 0 0]) := hid (by have := vb_new ((w.alloc (.cells #[.int .i64 k, .int .i64 y, .slice a n c] 48)).alloc (.cells #[.int .i64 0, .int .i64 0, .slice none 0 0] 51)) [.int .i64 k, .int .i64 y, .slice none 0 0] 51; simpa using this)
  have Z0 := hid (show (((w.alloc (.cells #[.int .i64 k, .int .i64 y, .slice a n c] 48)).alloc (.cells #[.int .i64 0, .int .i64 0, .slice none 0 0] 51)).alloc (.cells #[.int .i64 k, .int .i64 y, .slice none 0 0] 51)).heap.size = w.heap.size + 1 + 1 + 1 by simp)
  go_enter Try.func25, Try.ntmps25
  go_wp2_with fail
  refine (toBytes_any _ bs _ (RB.out.keep BB.out)).mono ?_
  rintro e w1 ⟨v', rfl, p, b1⟩
  obtain ⟨a', c', rfl, _⟩ := own_form p
  rw [HN.out] at p ⊢
  have VR := hid (VR.out.keep b1)
  have VO := hid (VO.out.keep b1)
  have P := hid p
  have B1 := hid (BB.out.trans (b1.mono BB.out.size))
  have z1 := b1.size
  rw [Z0.out] at z1
  clear p b1
  obtain ⟨o0, o1, o2⟩ := vb3 VO.out
  have fo := VO.out.2.1
  have VRs := hid (VR.out.off (c := w.heap.size + 1 + 1) (i := 2) (v := .slice a' n c') (by omega))
  have VOs : Hid (VB (w1.setCell ⟨w.heap.size + 1 + 1, 2, none⟩ (.slice a' n c')) (w.heap.size + 1 + 1) [.int .i64 k, .int .i64 y, .slice a' n c']) := hid (VO.out.set (i := 2) (by simp) (.slice a' n c'))
  obtain ⟨s0, s1, s2⟩ := vb3 VRs.out
  have fs := VRs.out.2.1
  obtain ⟨k0, k1, k2⟩ := vb3 VOs.out
  have CG := hid (((Chg.refl (fun j => j = w.heap.size + 1 ∨ j = w.heap.size + 1 + 1) w1).set (p := ⟨w.heap.size + 1 + 1, 2, none⟩) (.inr rfl) (.slice a' n c')).trans (vbchg3 (b := w.heap.size + 1) (.int .i64 k) (.int .i64 y) (.slice a' n c') (.inl rfl)))
  go_wp2_with fail
  obtain ⟨t0, t1, t2⟩ := vb3 (vbset3 (.int .i64 k) (.int .i64 y) (.slice a' n c') VRs.out)
  refine bodyPost_ret (v := .agg #[.int .i64 k, .int .i64 y, .slice a' n c']) (res_toSight _ rfl t0 t1 t2) rfl ?_
  refine ⟨_, rfl, (P.out.chg CG.out (fun j hj he => by have he : j = w.heap.size + 1 ∨ j = w.heap.size + 1 + 1 := he; have := (P.out.blk j hj).1; rw [Z0.out] at this; omega)).low (by rw [Z0.out]; omega), below_chg B1.out CG.out (by have := B1.out.size; omega) (fun j hj => by have hj : j = w.heap.size + 1 ∨ j = w.heap.size + 1 + 1 := hj; omega)⟩
set_option maxHeartbeats 1000000 in
theorem eqSight_same (k y : Int) (v v' : Value) (bs : List Int) (w : World) (hv : Rd w v bs) (hv' : Rd w v' bs) :
    Calls Try.prog 27 #[.agg #[.int .i64 k, .int .i64 y, v], .agg #[.int .i64 k, .int .i64 y, v']] w fun e w' => e = .returned (.bool true) ∧ Below w.heap.size w w' := by
  have B0 := hid (((Below.refl w.heap.size w).alloc (Nat.le_refl _) (.cells #[.int .i64 k, .int .i64 y, v] 51)).alloc (by simp) (.cells #[.int .i64 k, .int .i64 y, v'] 51))
  have R := hid (hv.keep B0.out)
  have R' := hid (hv'.keep B0.out)
  obtain ⟨_, _, a, c, rfl, _⟩ := hv
  obtain ⟨_, _, a', c', rfl, _⟩ := hv'
  go_enter Try.func27, Try.ntmps27
  go_wp2_with fail
  refine (eqBytes_same _ _ bs _ R.out R'.out).mono ?_
  rintro e w1 ⟨rfl, b1⟩
  have B1 := hid (B0.out.trans (b1.mono B0.out.size))
  clear b1
  go_wp2
  go_ret
  exact ⟨rfl, B1.out⟩
end Go.Proofs.Ytiamoamikkkbbaa
namespace Go.Proofs.Ytiamoamikkkbbaa.fnExactCelSightOk
open Go.ChangeShapes Go.WideShapes Go.ChangeAt Go.RowKit Go.Joins Go.Deep
set_option linter.unusedVariables false
set_option maxRecDepth 4000
set_option maxHeartbeats 4000000 in
theorem walk (k y : Int) (a : Option Addr) (n c : Nat) (z : List Int) (w : World) (k3 : IsRow .u8 w a n c z) :
    Calls Try.prog 7 #[.agg #[.int .i64 k, .int .i64 y, .slice a n c]] w fun e w' => e = .returned (.bool true) ∧ Below w.heap.size w w' := by
  have m3 := k3.max
  have P0 := hid (below_alloc1 w (.cells #[.int .i64 k, .int .i64 y, .slice a n c] 48))
  have VA := hid (vb_new w [.int .i64 k, .int .i64 y, .slice a n c] 48)
  by_cases hl : n ≤ 1048576
  · obtain ⟨bs, hbs, r3⟩ := k3.rd (by omega)
    subst hbs
    have R3 := hid r3
    have E1 := hid (show (if (1048576 : Int) - bs.length < 0 then -1 else (1048576 : Int) - bs.length) = 1048576 - bs.length by rw [if_neg (by omega)])
    have d1 : decide ((1048576 : Int) - bs.length < 0) = false := by simp; omega
    clear k3 r3
    go_enter Try.func7, Try.ntmps7
    go_wp2_with fail
    refine (szSight_any k y a bs.length c _ (by omega)).mono ?_
    rw [E1.out]
    rintro e w1 ⟨rfl, b1⟩
    have VA := hid (VA.out.keep b1)
    have P1 := hid (P0.out.trans (b1.mono P0.out.size))
    clear b1
    obtain ⟨q0, q1, q2⟩ := vb3 VA.out
    go_wp2_with fail
    clear q0 q1 q2
    refine (toSight_any k y _ bs _ (R3.out.keep P1.out)).mono ?_
    rintro e w2 ⟨v2, rfl, s2, b2⟩
    have X := hid (s2.rd (by omega))
    have VA := hid (VA.out.keep b2)
    have P2 := hid (P1.out.trans (b2.mono P1.out.size))
    clear b2 s2
    go_wp2_with fail
    refine (specSightOk_any k y _ bs _ X.out).mono ?_
    rintro e w3 ⟨rfl, b3⟩
    have VA := hid (VA.out.keep b3)
    have P3 := hid (P2.out.trans (b3.mono P2.out.size))
    clear b3 X
    obtain ⟨q0, q1, q2⟩ := vb3 VA.out
    go_wp2_with fail
    clear q0 q1 q2
    refine (toSight_any k y _ bs _ (R3.out.keep P3.out)).mono ?_
    rintro e w4 ⟨v4, rfl, s4, b4⟩
    obtain ⟨a4, c4, rfl, _⟩ := own_form s4
    have P4 := hid (P3.out.trans (b4.mono P3.out.size))
    have VA := hid ((VA.out.keep b4).keep (below_alloc1 w4 (.cells #[.int .i64 k, .int .i64 y, .slice a4 bs.length c4] 51)))
    have VX := hid (vb_new w4 [.int .i64 k, .int .i64 y, .slice a4 bs.length c4] 51)
    have X := hid ((s4.keep (below_alloc1 w4 (.cells #[.int .i64 k, .int .i64 y, .slice a4 bs.length c4] 51))).rd (by omega))
    have P4 := hid (P4.out.alloc P4.out.size (.cells #[.int .i64 k, .int .i64 y, .slice a4 bs.length c4] 51))
    clear b4 s4
    go_wp2_with fail
    refine (sightOk_any k y _ bs _ X.out).mono ?_
    rintro e w5 ⟨rfl, b5⟩
    have X := hid ((X.out.keep b5).keep (Below.refl _ w5).drew)
    have VA := hid (VA.out.keep b5).drew
    have VX := hid (VX.out.keep b5).drew
    have P5 := hid (P4.out.trans (b5.mono P4.out.size)).drew
    clear b5
    obtain ⟨q0, q1, q2⟩ := vb3 VA.out
    obtain ⟨x0, x1, x2⟩ := vb3 VX.out
    go_wp2_with fail
    go_region_with ((first
      | (go_at_call 25; refine (toSight_any k y _ bs _ (R3.out.keep P5.out)).mono ?_; rintro e w6 ⟨v6, rfl, s6, b6⟩; obtain ⟨a7, c7, rfl, _⟩ := own_form s6; have Y := hid (s6.rd (by omega)); have Z := hid (X.out.keep b6); obtain ⟨x0, x1, x2⟩ := vb3 (VX.out.keep b6); have P6 := hid (P5.out.trans (b6.mono P5.out.size)))
      | (go_at_call 27; refine (eqSight_same k y _ _ bs _ Z.out Y.out).mono ?_; rintro e w7 ⟨rfl, b7⟩; have P7 := hid (P6.out.trans (b7.mono P6.out.size)))))
    all_goals (go_wp2; go_ret; exact ⟨rfl, P7.out⟩)
  · have E1 := hid (show (if (1048576 : Int) - n < 0 then -1 else (1048576 : Int) - n) = -1 by rw [if_pos (by omega)])
    clear k3
    go_enter Try.func7, Try.ntmps7
    go_wp2_with fail
    refine (szSight_any k y a n c _ (by omega)).mono ?_
    rw [E1.out]
    rintro e w1 ⟨rfl, b1⟩
    have P1 := hid (P0.out.trans (b1.mono P0.out.size))
    clear b1
    go_wp2
    go_ret
    exact ⟨rfl, P1.out⟩
theorem own : ownKnob Try.prog.godebug = none := by kernel_rfl
theorem laidOut : laidOutB Try.prog = true := by kernel_rfl
theorem cells48 : Try.prog.cellsOf 48 = 3 := by kernel_rfl
set_option maxRecDepth 100000 in
theorem lifted (os : Os) (started : os.Started) (H : Type) (enc : TypeId × Value → H) :
    ReturnsInHanded {} Try.checked os 7 .any (Rows.fnExactCelSightOkSpec.pre6 enc Try.prog Try.f7 Rows.fnExactCelSightOkRow.domain false) (Rows.fnExactCelSightOkSpec.post enc Try.prog Try.f7 false true false false) := by
  refine returnsInHanded_of_change (C := Try.checked) own started (by kernel_rfl) Try.func7
    (ChangeSpec.witness6 (enc := enc) (C := Try.checked) false ⟨#[], #[.agg #[.int .i64 0, .int .i64 0, .slice none 0 0]], []⟩ 8 (by kernel_rfl) (by kernel_rfl) (by kernel_rfl) (by kernel_rfl)) ?_
  intro W base args ds gs before hval0 hW hcnd _
  have hval : ∀ (j : Nat) t v, Try.f7.params[j]? = some t → args[j]? = some v → Value.okWide Try.prog W .any base t v := hval0
  have hW' := hW
  obtain ⟨p, q, hA0, hV, rfl, hfz, hnd⟩ := hW
  have hA : DataW.TrodAll enc Try.prog W 0 (fun _ => true) true Try.f7.params.toList args.toList ds p := hA0
  rw [Try.params7] at hA hval
  obtain ⟨v0, vs0, d0, ds0, p0, q0, hargs, rfl, rfl, h0, r0⟩ := trodAll_cons hA
  obtain ⟨rfl, rfl, rfl⟩ := trodAll_nil r0
  obtain rfl : args = #[v0] := by cases args; simp_all
  obtain ⟨rfl, rfl⟩ := trodVars_none hV
  have k0 := h0
  have lt0 : ∀ x ∈ p0, x.block < W.heap.size := by obtain ⟨m, hm⟩ := k0; exact DataW.trod_lt m _ _ _ hm
  obtain ⟨c0x0, c0x1, c0x2, y0x0, y0x1, y0x2, m0, rfl, rfl, rfl, h0y0, h0y1, h0y2⟩ := open_agg3 Try.underlying48 (by kernel_rfl) cells48 (hval 0 48 v0 rfl rfl) h0
  obtain ⟨kd0, e0x0, rfl, w0x0⟩ := DataW.trod_int Try.underlying3 h0y0
  obtain ⟨wy0, e0x1, rfl, w0x1⟩ := DataW.trod_int Try.underlying3 h0y1
  obtain ⟨sa0, sl0, sc0, z0, rfl, b0⟩ : ∃ a l c zs, c0x2 = .slice a l c ∧ IsRow .u8 W a l c zs := by
    rcases open_ints Try.underlying22 Try.underlying5 (by kernel_rfl) h0y2 with ⟨hcs, _⟩ | ⟨x, l, c, zs, hcs, _, hl, hm, hz, _, hcell, hwz⟩
    · simp at hcs
      exact ⟨none, 0, 0, [], hcs, .inl ⟨rfl, rfl, rfl, rfl⟩⟩
    · simp at hcs
      exact ⟨some x, l, c, zs, hcs, .inr ⟨_, rfl, hl, hm, by simpa using hz, hcell, hwz⟩⟩
  simp at e0x0 e0x1
  subst e0x0 e0x1
  clear hA0 hval0
  refine (walk kd0 wy0 sa0 sl0 sc0 z0 W b0).mono fun e W' ⟨he, bel⟩ => ?_
  subst he
  exact ⟨_, rfl, _, _, _, [], _, [], hW', trodAll_mk1 (shut_bool Try.underlying4 _), (trodAll_cons_mk (Below.trod laidOut (by kernel_rfl) (of_decide_eq_true (by kernel_rfl)) k0 bel lt0) trodAll_mk0), rfl, bel.frame _, fun h => by cases h⟩

theorem over : Rows.fnExactCelSightOkRow.holds Try.pinned (OpenSpec.ofChange Rows.fnExactCelSightOkSpec) :=
  OpenClaim.holds_of_wide 7 Try.f7 rfl rfl rfl rfl rfl rfl rfl ⟨rfl, rfl, rfl, rfl, rfl⟩ rfl rfl rfl rfl rfl (by kernel_rfl) Try.func7 (by kernel_rfl)
    (of_decide_eq_true (by kernel_rfl)) (by unfold Func.isWrapper; first | (rw [if_pos (by decide +kernel)]; kernel_rfl) | (rw [if_neg (by decide +kernel)]; exact ⟨rfl, rfl⟩))
    (fun os started H enc _ => lifted os started H enc)

end Go.Proofs.Ytiamoamikkkbbaa.fnExactCelSightOk
namespace Go.Proofs.Ytiamoamikkkbbaa
theorem fnExactCelSightOk_holds : Rows.FnExactCelSightOkSaid := fnExactCelSightOk.over
#print axioms fnExactCelSightOk_holds
end Go.Proofs.Ytiamoamikkkbbaa
