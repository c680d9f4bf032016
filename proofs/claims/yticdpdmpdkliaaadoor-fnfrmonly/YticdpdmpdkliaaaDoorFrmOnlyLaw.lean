/- Bytes that are read as a frame are what is written of what was read: for whatever is drawn, where errors.errorType holds what the library's own text lays there. -/
import Derived.Test.YticdpdmpdkliaaaDoorDoorBase
import Derived.Test.YticdpdmpdkliaaaDoorFrmDrw
import Derived.Test.YticdpdmpdkliaaaDoorFrmTkS
import Derived.Test.YticdpdmpdkliaaaDoorCards
import Derived.Test.YticdpdmpdkliaaaDoorTie
namespace Go.Proofs.YticdpdmpdkliaaaDoor
open Go.ChangeShapes Go.WideShapes Go.ChangeAt Go.RowKit Go.Joins Go.Deep
set_option linter.unusedVariables false
set_option linter.unusedSimpArgs false
set_option maxRecDepth 4000
theorem cap_ofF {w : World} {a : Option Addr} {len cap : Nat} {zs : List Int} (h : IsRow .u8 w a len cap zs) : len ≤ cap := by
  rcases h with ⟨_, rfl, rfl, _⟩ | ⟨_, _, h1, _⟩
  · exact Nat.le_refl _
  · exact h1
theorem make13 (w : World) : (Instr.makeSlice 22 (.int .i64 13) (.int .i64 13)).run Tryd.prog w = .ok (.slice (some ⟨w.heap.size, 0, none⟩) 13 13) (w.alloc (.cells #[.int .u8 0, .int .u8 0, .int .u8 0, .int .u8 0, .int .u8 0, .int .u8 0, .int .u8 0, .int .u8 0, .int .u8 0, .int .u8 0, .int .u8 0, .int .u8 0, .int .u8 0] 5)) := by
  have h := run_make_row' (P := Tryd.prog) 22 5 (.int .u8 0) 1 Tryd.underlying22 info8 rfl .i64 .i64 13 (by omega) (by omega) w
  have e : madeCells #[Value.int .u8 0] 13 = part [0, 0, 0, 0, 0, 0, 0, 0, 0, 0, 0, 0, 0] 0 := part_zero [0, 0, 0, 0, 0, 0, 0, 0, 0, 0, 0, 0, 0]
  rw [e] at h
  exact h
theorem rd13 (w : World) : Rd (w.alloc (.cells #[.int .u8 0, .int .u8 0, .int .u8 0, .int .u8 0, .int .u8 0, .int .u8 0, .int .u8 0, .int .u8 0, .int .u8 0, .int .u8 0, .int .u8 0, .int .u8 0, .int .u8 0] 5)) (.slice (some ⟨w.heap.size, 0, none⟩) 13 13) [0, 0, 0, 0, 0, 0, 0, 0, 0, 0, 0, 0, 0] := (own_made w [0, 0, 0, 0, 0, 0, 0, 0, 0, 0, 0, 0, 0] (by simp) (by simp)).rd (by simp)
end Go.Proofs.YticdpdmpdkliaaaDoor
namespace Go.Proofs.YticdpdmpdkliaaaDoor.fnFrmOnly
open Go.ChangeShapes Go.WideShapes Go.ChangeAt Go.RowKit Go.Joins Go.Deep
set_option linter.unusedVariables false
set_option linter.unusedSimpArgs false
set_option maxRecDepth 4000
set_option maxHeartbeats 8000000 in
theorem walk (a0 : Option Addr) (len0 cap0 : Nat) (z0 : List Int) (w : World) (k0 : IsRow .u8 w a0 len0 cap0 z0) (het : Et w) :
    Calls Tryd.prog 7 #[.slice a0 len0 cap0] w fun e w' => e = .returned (.bool true) ∧ Below w.heap.size w w' := by
  have m0 := k0.max
  have hp := het.pos
  by_cases hl0 : len0 ≤ 1048576
  · have hl0' : (len0 : Int) ≤ 1048576 := by omega
    obtain ⟨zs, hx0, r0⟩ := k0.rd hl0
    have hcp := cap_ofF k0
    have R0 := hid r0
    have HE := hid het
    clear k0 r0 het
    go_enter Tryd.func7, Tryd.ntmps7
    go_wp2_with fail
    refine (drawFTake_any a0 len0 cap0 zs _ hx0 R0.out hcp).mono ?_
    rintro e w1 ⟨u, F, rfl, hF, ou, b1⟩
    obtain ⟨af, cf, hu, hcf⟩ := own_capF ou
    subst hu
    have RF := hid (ou.rd (by omega))
    have HB := hid ou.1
    have B := hid b1
    clear ou b1 R0
    obtain ⟨H0, e0⟩ : ∃ H, ftH F 0 = H := ⟨_, rfl⟩
    obtain ⟨H1, e1⟩ : ∃ H, ftH F 1 = H := ⟨_, rfl⟩
    obtain ⟨H2, e2⟩ : ∃ H, ftH F 2 = H := ⟨_, rfl⟩
    obtain ⟨H3, e3⟩ : ∃ H, ftH F 3 = H := ⟨_, rfl⟩
    obtain ⟨H4, e4⟩ : ∃ H, ftH F 4 = H := ⟨_, rfl⟩
    obtain ⟨H5, e5⟩ : ∃ H, ftH F 5 = H := ⟨_, rfl⟩
    obtain ⟨H6, e6⟩ : ∃ H, ftH F 6 = H := ⟨_, rfl⟩
    obtain ⟨H7, e7⟩ : ∃ H, ftH F 7 = H := ⟨_, rfl⟩
    obtain ⟨L, eL⟩ : ∃ L, ftL F = L := ⟨_, rfl⟩
    obtain ⟨OK, eO⟩ : ∃ OK, ftOk F = OK := ⟨_, rfl⟩
    have NL := ftL_len F
    rw [eL] at NL
    have HH := hid (And.intro e0 (And.intro e1 (And.intro e2 (And.intro e3 (And.intro e4 (And.intro e5 (And.intro e6 (And.intro e7 (And.intro eL eO)))))))))
    clear e0 e1 e2 e3 e4 e5 e6 e7 eL eO
    have HL := hid (show ftL F = L from HH.out.2.2.2.2.2.2.2.2.1)
    have HO := hid (show ftOk F = OK from HH.out.2.2.2.2.2.2.2.2.2)
    go_wp2_with fail
    refine (frmTake_any af cf F _ RF.out hcf (HE.out.keep B.out hp)).mono ?_
    rintro e w2 ⟨u2, he, o2, b2⟩
    rw [HH.out.1, HH.out.2.1, HH.out.2.2.1, HH.out.2.2.2.1, HH.out.2.2.2.2.1, HH.out.2.2.2.2.2.1, HH.out.2.2.2.2.2.2.1, HH.out.2.2.2.2.2.2.2.1, HO.out] at he
    rw [HL.out] at o2
    subst he
    have RL := hid ((o2.rd (by omega)).keep (below_alloc1 w2 (.cells #[.int .i64 H0, .int .i64 H1, .int .i64 H2, .int .i64 H3, .int .i64 H4, .int .i64 H5, .int .i64 H6, .int .i64 H7] 37)))
    have RF := hid ((RF.out.keep b2).keep (below_alloc1 w2 (.cells #[.int .i64 H0, .int .i64 H1, .int .i64 H2, .int .i64 H3, .int .i64 H4, .int .i64 H5, .int .i64 H6, .int .i64 H7] 37)))
    have LB : Hid (IB (w2.alloc (.cells #[.int .i64 H0, .int .i64 H1, .int .i64 H2, .int .i64 H3, .int .i64 H4, .int .i64 H5, .int .i64 H6, .int .i64 H7] 37)) w2.heap.size [H0, H1, H2, H3, H4, H5, H6, H7]) := hid (ib_new w2 [H0, H1, H2, H3, H4, H5, H6, H7] 37)
    have B := hid ((B.out.trans (b2.mono B.out.size)).alloc (by have := B.out.size; have := b2.size; omega) (.cells #[.int .i64 H0, .int .i64 H1, .int .i64 H2, .int .i64 H3, .int .i64 H4, .int .i64 H5, .int .i64 H6, .int .i64 H7] 37))
    clear o2 b2
    go_wp2_with fail
    refine (specTakeF_any af cf F _ RF.out hcf).mono ?_
    rintro e w3 ⟨u3, he, o3, b3⟩
    rw [HH.out.1, HH.out.2.1, HH.out.2.2.1, HH.out.2.2.2.1, HH.out.2.2.2.2.1, HH.out.2.2.2.2.2.1, HH.out.2.2.2.2.2.2.1, HH.out.2.2.2.2.2.2.2.1, HO.out] at he
    rw [HL.out] at o3
    subst he
    have RS := hid ((o3.rd (by omega)).keep (below_alloc1 w3 (.cells #[.int .i64 H0, .int .i64 H1, .int .i64 H2, .int .i64 H3, .int .i64 H4, .int .i64 H5, .int .i64 H6, .int .i64 H7] 37)))
    have RL := hid ((RL.out.keep b3).keep (below_alloc1 w3 (.cells #[.int .i64 H0, .int .i64 H1, .int .i64 H2, .int .i64 H3, .int .i64 H4, .int .i64 H5, .int .i64 H6, .int .i64 H7] 37)))
    have RF := hid ((RF.out.keep b3).keep (below_alloc1 w3 (.cells #[.int .i64 H0, .int .i64 H1, .int .i64 H2, .int .i64 H3, .int .i64 H4, .int .i64 H5, .int .i64 H6, .int .i64 H7] 37)))
    have LB := hid ((LB.out.keep b3).keep (below_alloc1 w3 (.cells #[.int .i64 H0, .int .i64 H1, .int .i64 H2, .int .i64 H3, .int .i64 H4, .int .i64 H5, .int .i64 H6, .int .i64 H7] 37)))
    have LC : Hid (IB (w3.alloc (.cells #[.int .i64 H0, .int .i64 H1, .int .i64 H2, .int .i64 H3, .int .i64 H4, .int .i64 H5, .int .i64 H6, .int .i64 H7] 37)) w3.heap.size [H0, H1, H2, H3, H4, H5, H6, H7]) := hid (ib_new w3 [H0, H1, H2, H3, H4, H5, H6, H7] 37)
    have B := hid ((B.out.trans (b3.mono B.out.size)).alloc (by have := B.out.size; have := b3.size; omega) (.cells #[.int .i64 H0, .int .i64 H1, .int .i64 H2, .int .i64 H3, .int .i64 H4, .int .i64 H5, .int .i64 H6, .int .i64 H7] 37))
    clear o3 b3
    go_upto_region 6 with fail
    obtain ⟨D, hD⟩ : ∃ D, w2.heap.size = D := ⟨_, rfl⟩
    obtain ⟨D', hD'⟩ : ∃ D', w3.heap.size = D' := ⟨_, rfl⟩
    obtain ⟨V, hV⟩ : ∃ V, w3.alloc (.cells #[.int .i64 H0, .int .i64 H1, .int .i64 H2, .int .i64 H3, .int .i64 H4, .int .i64 H5, .int .i64 H6, .int .i64 H7] 37) = V := ⟨_, rfl⟩
    rw [hV] at RS RL RF LB LC B ⊢
    rw [hD] at LB ⊢
    rw [hD'] at LC ⊢
    have HPF : Hid (OK = true → headB H0 H1 H2 H3 H4 H5 H6 H7 = true ∧ ptL H0 H1 H2 H3 H4 H5 H6 H7 L = F) := hid (fun h => by have h1 := put_ft HB.out (HO.out.trans h); rw [HH.out.1, HH.out.2.1, HH.out.2.2.1, HH.out.2.2.2.1, HH.out.2.2.2.2.1, HH.out.2.2.2.2.2.1, HH.out.2.2.2.2.2.2.1, HH.out.2.2.2.2.2.2.2.1, HL.out] at h1; exact h1)
    clear hV hD hD' HH
    obtain ⟨c0, c1, c2, c3, c4, c5, c6, c7⟩ := ib8 LB.out
    obtain ⟨d0, d1, d2, d3, d4, d5, d6, d7⟩ := ib8 LC.out
    have dOK : (OK != OK) = false := by simp
    go_wp2_with fail
    refine (caBytes_any _ _ L L _ RL.out RS.out).mono ?_
    rintro e w5 ⟨rfl, rfl⟩
    clear RS LC d0 d1 d2 d3 d4 d5 d6 d7
    cases OK
    · have hmk := make13
      have HX1 : headB 2 0 2 0 9 0 0 0 = true := by decide
      have HX := hid (ft_put (xs := [0, 0, 0, 0, 0, 0, 0, 0, 0, 0, 0, 0, 0]) HX1 rfl)
      obtain ⟨X, eX⟩ : ∃ X, ptL 2 0 2 0 9 0 0 0 [0, 0, 0, 0, 0, 0, 0, 0, 0, 0, 0, 0, 0] = X := ⟨_, rfl⟩
      have HEX := hid eX
      rw [eX] at HX
      have NX : X.length ≤ 24 := by rw [← eX]; exact ptL_len _ _ _ _ _ _ _ _ _
      clear eX HX1 c0 c1 c2 c3 c4 c5 c6 c7 RL RF LB HPF
      go_wp2_with fail
      refine (specPutF_any 2 0 2 0 9 0 0 0 _ [0, 0, 0, 0, 0, 0, 0, 0, 0, 0, 0, 0, 0] _ (rd13 w5)).mono ?_
      rintro e w6 ⟨u6, rfl, o6, b6⟩
      rw [HEX.out] at o6
      obtain ⟨ax, cx, hu, hcx⟩ := own_capF o6
      subst hu
      have R6 := hid (o6.rd (by omega))
      have B6 := hid ((B.out.alloc B.out.size (.cells #[.int .u8 0, .int .u8 0, .int .u8 0, .int .u8 0, .int .u8 0, .int .u8 0, .int .u8 0, .int .u8 0, .int .u8 0, .int .u8 0, .int .u8 0, .int .u8 0, .int .u8 0] 5)).trans (b6.mono (B.out.alloc B.out.size (.cells #[.int .u8 0, .int .u8 0, .int .u8 0, .int .u8 0, .int .u8 0, .int .u8 0, .int .u8 0, .int .u8 0, .int .u8 0, .int .u8 0, .int .u8 0, .int .u8 0, .int .u8 0] 5)).size))
      clear o6 b6
      go_wp2_with fail
      refine (frmTake_any ax cx X _ R6.out hcx (HE.out.keep B6.out hp)).mono ?_
      rintro e w7 ⟨u7, he, o7, b7⟩
      obtain ⟨f0, f1, f2, f3, f4, f5, f6, f7, f8, _⟩ := HX.out
      rw [f0, f1, f2, f3, f4, f5, f6, f7, f8] at he
      subst he
      have B7 := hid ((B6.out.trans (b7.mono B6.out.size)).alloc (by have := B6.out.size; have := b7.size; omega) (.cells #[.int .i64 2, .int .i64 0, .int .i64 2, .int .i64 0, .int .i64 9, .int .i64 0, .int .i64 0, .int .i64 0] 37))
      clear o7 b7 f0 f1 f2 f3 f4 f5 f6 f7 f8
      go_wp2
      go_ret
      exact ⟨rfl, B7.out⟩
    · obtain ⟨hk, hq⟩ := HPF.out rfl
      have HK := hid hk
      have HQ := hid hq
      clear hk hq
      go_wp2_with fail
      refine (headOk_any H0 H1 H2 H3 H4 H5 H6 H7 _).mono ?_
      rintro e w6 ⟨he, b6⟩
      rw [HK.out] at he
      subst he
      have RL := hid (RL.out.keep b6)
      have RF := hid (RF.out.keep b6)
      have B := hid (B.out.trans (b6.mono B.out.size))
      have c0 := cell_keep b6 c0
      have c1 := cell_keep b6 c1
      have c2 := cell_keep b6 c2
      have c3 := cell_keep b6 c3
      have c4 := cell_keep b6 c4
      have c5 := cell_keep b6 c5
      have c6 := cell_keep b6 c6
      have c7 := cell_keep b6 c7
      clear b6
      go_wp2_with fail
      refine (frmPut_any H0 H1 H2 H3 H4 H5 H6 H7 _ L _ RL.out).mono ?_
      rintro e w7 ⟨u7, rfl, o7, b7⟩
      rw [HQ.out] at o7
      have R7 := hid (o7.rd (by omega))
      have RF := hid (RF.out.keep b7)
      have B := hid (B.out.trans (b7.mono B.out.size))
      clear o7 b7
      go_wp2_with fail
      refine (caBytes_any _ _ F F _ R7.out RF.out).mono ?_
      rintro e w8 ⟨rfl, rfl⟩
      go_wp2
      go_ret
      exact ⟨rfl, B.out⟩
  · have hl0' : (1048576 : Int) < (len0 : Int) := by omega
    clear k0
    go_enter Tryd.func7, Tryd.ntmps7
    go_wp2
    go_ret
    exact ⟨rfl, Below.refl _ _⟩
theorem own : ownKnob Tryd.prog.godebug = none := by kernel_rfl
theorem laidOut : laidOutB Tryd.prog = true := by kernel_rfl
set_option maxRecDepth 100000 in
theorem lifted (os : Os) (started : os.Started) (H : Type) (enc : TypeId × Value → H) :
    ReturnsInHanded {} Tryd.checked os 7 .any (fun w args => (Rows.fnFrmOnlySpec.pre enc Tryd.prog Tryd.f7 Rows.fnFrmOnlyRow.domain false w args ∧ laidMetH Tryd.prog Rows.fnFrmOnlyRow.laid w) ∧ sizedMet enc Tryd.prog Tryd.f7 (OpenSpec.ofChange Rows.fnFrmOnlySpec) false w args) (Rows.fnFrmOnlySpec.post enc Tryd.prog Tryd.f7 false true false false) := by
  refine returnsInHanded_of_change_and (C := Tryd.checked) (X := fun w _ => laidMetH Tryd.prog Rows.fnFrmOnlyRow.laid w) (fun _ _ _ hh h => h.of_heap hh) own started (by kernel_rfl) Tryd.func7
    (ChangeSpec.witness_at (enc := enc) (C := Tryd.checked) (os := os) (X := fun w _ => laidMetH Tryd.prog Rows.fnFrmOnlyRow.laid w) false (laidWorld os) #[.slice none 0 0] 8 rfl (by kernel_rfl) (by kernel_rfl) (by kernel_rfl) (by kernel_rfl) (by kernel_rfl) (laidWorld_met os _)) ?_
  intro W base args ds gs before hval0 hW _ _ hL _
  have hval : ∀ (j : Nat) t v, Tryd.f7.params[j]? = some t → args[j]? = some v → Value.okWide Tryd.prog W .any base t v := hval0
  have hW' := hW
  obtain ⟨p, q, hA0, hV, rfl, hfz, hnd⟩ := hW
  have hA : DataW.TrodAll enc Tryd.prog W 0 (fun _ => true) true Tryd.f7.params.toList args.toList ds p := hA0
  rw [Tryd.params7] at hA hval
  obtain ⟨v0, vs0, d0, ds0, p0, q0, hargs, rfl, rfl, h0, r0⟩ := trodAll_cons hA
  obtain ⟨rfl, rfl, rfl⟩ := trodAll_nil r0
  obtain rfl : args = #[v0] := by cases args; simp_all
  obtain ⟨rfl, rfl⟩ := trodVars_none hV
  obtain ⟨a0, len0, cap0, rfl⟩ := okWide_slice Tryd.underlying22 (hval 0 22 v0 rfl rfl)
  have k0 := h0
  have lt0 : ∀ x ∈ p0, x.block < W.heap.size := by obtain ⟨m, hm⟩ := k0; exact DataW.trod_lt m _ _ _ hm
  obtain ⟨z0, w0⟩ : ∃ zs, IsRow .u8 W a0 len0 cap0 zs := by
    obtain ⟨fuel, hf⟩ := h0
    rcases open_ints Tryd.underlying22 Tryd.underlying5 (by kernel_rfl) hf with ⟨hcs, _⟩ | ⟨x, l, c, zs, hcs, _, hl, hm, hz, _, hcell, hwz⟩
    · simp [Value.cells] at hcs
      obtain ⟨rfl, rfl, rfl⟩ := hcs
      exact ⟨[], .inl ⟨rfl, rfl, rfl, rfl⟩⟩
    · simp [Value.cells] at hcs
      obtain ⟨rfl, rfl, rfl⟩ := hcs
      exact ⟨zs, .inr ⟨_, rfl, hl, hm, by simpa using hz, hcell, hwz⟩⟩
  clear hA0 hval0
  refine (walk a0 len0 cap0 z0 W w0 (handle_of_laid hL)).mono fun e W' ⟨he, bel⟩ => ?_
  subst he
  exact ⟨_, rfl, _, _, _, [], _, [], hW', trodAll_mk1 (shut_bool Tryd.underlying4 _), (trodAll_cons_mk (Below.trod laidOut (by kernel_rfl) (of_decide_eq_true (by kernel_rfl)) k0 bel lt0) trodAll_mk0), rfl, bel.frame _, fun h => by cases h⟩

theorem over : Rows.fnFrmOnlyRow.holds Tryd.pinned (OpenSpec.ofChange Rows.fnFrmOnlySpec) :=
  OpenClaim.holds_of_wide 7 Tryd.f7 rfl rfl rfl rfl rfl rfl rfl ⟨rfl, rfl, rfl, rfl, rfl⟩ rfl rfl rfl rfl rfl (by kernel_rfl) Tryd.func7 (by kernel_rfl)
    (of_decide_eq_true (by kernel_rfl)) (by unfold Func.isWrapper; first | (rw [if_pos (by decide +kernel)]; kernel_rfl) | (rw [if_neg (by decide +kernel)]; exact ⟨rfl, rfl⟩))
    (fun os started H enc _ => lifted os started H enc)

end Go.Proofs.YticdpdmpdkliaaaDoor.fnFrmOnly
namespace Go.Proofs.YticdpdmpdkliaaaDoor
open Go
theorem fnFrmOnly_row : Rows.FnFrmOnlySaid := fnFrmOnly.over
theorem fnFrmOnly_holds : Rows.FnFrmOnlyCardSaid :=
  Claim7.holds_tied_plain_at .later [] [.handle] true Rows.fnFrmOnlyCard.stood.harness true
    fnFrmOnly_row (fun _ h => by cases h) (by kernel_rfl) (fun _ h => by cases h) fnFrmOnly_row_tie rfl ⟨rfl, rfl⟩ (by kernel_rfl) rfl
    (fun f fn hf hfn => by
      obtain rfl : f = 7 := Option.some.inj ((show Tryd.prog.funcNamed Rows.fnFrmOnlyRow.func = some 7 by kernel_rfl).symm.trans hf) |>.symm
      obtain rfl : fn = Tryd.f7 := (Option.some.inj (Tryd.func7.symm.trans hfn)).symm
      exact ⟨by kernel_rfl, fun j t ht => by
        rw [Tryd.params7] at ht
        rcases j with _ | j
        · simp at ht; subst ht; exact (show Tryd.prog.wantsStandIn 22 = false by kernel_rfl)
        · simp at ht⟩)
    (by kernel_rfl)
#print axioms fnFrmOnly_holds
end Go.Proofs.YticdpdmpdkliaaaDoor
