/- A guard does what its first rule that fits does alone; without one nothing comes through: for whatever is drawn. No conditions. -/
import Derived.Test.YtlkmooefebenlaaGrdAid
namespace Go.Proofs.Ytlkmooefebenlaa.fnGrdFirst
open Go.ChangeShapes Go.WideShapes Go.ChangeAt Go.RowKit Go.Joins Go.Deep
set_option linter.unusedVariables false
set_option linter.unusedSimpArgs false
set_option maxRecDepth 4000
set_option maxHeartbeats 8000000 in
theorem walk (a0 : Option Addr) (len0 cap0 : Nat) (z0 : List Int) (w : World) (k0 : IsRow .u8 w a0 len0 cap0 z0) :
    Calls Try.prog 5 #[.slice a0 len0 cap0] w fun e w' => e = .returned (.bool true) ∧ Below w.heap.size w w' := by
  have m0 := k0.max
  by_cases hl0 : len0 ≤ 1048576
  · have hl0' : (len0 : Int) ≤ 1048576 := by omega
    obtain ⟨zs, hx0, r0⟩ := k0.rd hl0
    have hcp := cap_ofG k0
    have R0 := hid r0
    clear k0 r0
    go_enter Try.func5, Try.ntmps5
    go_wp2_with fail
    refine (drawGrdDo_any a0 len0 cap0 zs _ hx0 R0.out hcp).mono ?_
    rintro e w1 ⟨u, v, n, xs, ms, rfl, hn5, hms, ou, ov, b1⟩
    obtain ⟨av, cv, hv, hcv⟩ := own_capG ov
    subst hv
    have RL := hid (ou.rd (by omega))
    have RM := hid (ov.rd (by omega))
    have HX : Hid (xs.length = n * 7) := hid (ou.rd (by omega)).1
    obtain ⟨au, cu, hu, _⟩ := ownI_form ou
    subst hu
    have B := hid b1
    clear ou ov b1 R0
    have NL := doL_lenG n xs ms
    obtain ⟨L, hL⟩ : ∃ L, doL n xs ms = L := ⟨_, rfl⟩
    obtain ⟨OK, hOK⟩ : ∃ OK, (doR n xs ms).isSome = OK := ⟨_, rfl⟩
    have HO := hid (And.intro hL hOK)
    rw [hL] at NL
    clear hL hOK
    go_wp2_with fail
    refine (grdDo_any _ n xs av cv ms _ RL.out RM.out hcv).mono ?_
    rintro e w2 ⟨g2, he, o2, b2⟩
    rw [HO.out.2] at he
    rw [HO.out.1] at o2
    subst he
    obtain ⟨ag, cg, hg, hcg⟩ := own_capG o2
    subst hg
    have RG := hid (o2.rd (by omega))
    have RL := hid (RL.out.keep b2)
    have RM := hid (RM.out.keep b2)
    have B := hid (B.out.trans (b2.mono B.out.size))
    clear o2 b2
    go_wp2_with fail
    refine (specGrdDo_any _ n xs _ ms _ RL.out RM.out).mono ?_
    rintro e w3 ⟨g3, he, o3, b3⟩
    rw [HO.out.2] at he
    rw [HO.out.1] at o3
    subst he
    have RS := hid (o3.rd (by omega))
    have RL := hid (RL.out.keep b3)
    have RM := hid (RM.out.keep b3)
    have RG := hid (RG.out.keep b3)
    have B := hid (B.out.trans (b3.mono B.out.size))
    clear o3 b3
    have dL : decide ((ms.length : Int) < (L.length : Int)) = false := by simp; omega
    have dL2 : decide (ms.length < L.length) = false := by simp; omega
    have dOK : (OK != OK) = false := by simp
    go_wp2_with fail
    refine (caBytes_any _ _ L L _ RG.out RS.out).mono ?_
    rintro e w4 ⟨rfl, rfl⟩
    clear RS
    clear dL dL2
    cases hG : grdB n xs
    · have hD : doR n xs ms = none := by simp [doR, hG]
      have hf : OK = false := by rw [← HO.out.2, hD]; rfl
      subst hf
      have HGB := hid hG
      go_wp2_with fail
      refine (specGrdOk_any _ n xs _ RL.out).mono ?_
      rintro e w5 ⟨he, b5⟩
      rw [HGB.out] at he
      subst he
      have B := hid (B.out.trans (b5.mono B.out.size))
      have RZ := hid (rdI_zero (w5.alloc (.cells #[] 46)) (some ⟨w5.heap.size, 0, none⟩) 0)
      have BX := hid (B.out.alloc B.out.size (.cells #[] 46))
      have HZ0 : Hid (grdB 0 [] = true) := hid (by decide)
      clear b5 RL RM RG hD hG
      go_wp2_with fail
      refine (grdOk_any _ 0 [] _ RZ.out).mono ?_
      rintro e w6 ⟨he, b6⟩
      rw [HZ0.out] at he
      subst he
      have BY := hid (BX.out.trans (b6.mono BX.out.size))
      clear b6
      go_wp2
      go_ret
      exact ⟨rfl, BY.out⟩
    · have HGB := hid hG
      clear hG
      go_wp2_with fail
      refine (specGrdOk_any _ n xs _ RL.out).mono ?_
      rintro e w5 ⟨he, b5⟩
      rw [HGB.out] at he
      subst he
      have B := hid (B.out.trans (b5.mono B.out.size))
      have RL := hid (RL.out.keep b5)
      have RM := hid (RM.out.keep b5)
      have RG := hid (RG.out.keep b5)
      clear b5
      cases h8 : decide (ms.length ≤ 8)
      · have hD : doR n xs ms = none := by simp only [doR, h8, Bool.and_false]; rfl
        have hf : OK = false := by rw [← HO.out.2, hD]; rfl
        subst hf
        have H8 := hid h8
        clear h8 hD
        go_wp2_with fail
        refine (specMsg_any _ ms _ RM.out).mono ?_
        rintro e w6 ⟨he, rfl⟩
        rw [H8.out] at he
        subst he
        have RZ := hid (rdI_zero (w6.alloc (.cells #[] 46)) (some ⟨w6.heap.size, 0, none⟩) 0)
        have BX := hid (B.out.alloc B.out.size (.cells #[] 46))
        have HZ0 : Hid (grdB 0 [] = true) := hid (by decide)
        clear RL RM RG
        go_wp2_with fail
        refine (grdOk_any _ 0 [] _ RZ.out).mono ?_
        rintro e w7 ⟨he, b6⟩
        rw [HZ0.out] at he
        subst he
        have BY := hid (BX.out.trans (b6.mono BX.out.size))
        clear b6
        go_wp2
        go_ret
        exact ⟨rfl, BY.out⟩
      · have H8 := hid h8
        have HR : Hid (doR n xs ms = (List.range n).find? (fitAt xs ms)) := hid (by simp only [doR, HGB.out, h8, Bool.and_self, if_true])
        clear h8
        go_wp2_with fail
        refine (specMsg_any _ ms _ RM.out).mono ?_
        rintro e w6 ⟨he, rfl⟩
        rw [H8.out] at he
        subst he
        go_wp2_with fail
        go_loopw [9] (fun i wr => ∃ k : Nat, k ≤ n ∧ i = .int .i64 (k : Int) ∧ (∀ j, j < k → fitAt xs ms j = false) ∧ Below w6.heap.size w6 wr) (fun i _ => n - (intOf i).toNat)
        case atStart => exact ⟨0, by omega, rfl, fun j hj => by omega, Below.refl _ _⟩
        case round =>
          obtain ⟨k, hk, rfl, hall, hB⟩ := hrel
          have HA := hid hall
          have BW := hid hB
          clear hall
          by_cases hlt : k < n
          · obtain ⟨hxl, _, a', cap', hva, h3⟩ := RL.out.keep hB
            simp only [Value.slice.injEq] at hva
            obtain ⟨rfl, _, rfl⟩ := hva
            rcases h3 with h3 | ⟨b, off, rfl, hc⟩
            · omega
            have hkk : k * 7 + 7 ≤ n * 7 := by omega
            have r0 := hc (k * 7) (by omega)
            obtain ⟨y0, hy0⟩ : ∃ y, xs.getD (k * 7) 0 = y := ⟨_, rfl⟩
            rw [hy0] at r0
            have r1 := hc (k * 7 + 1) (by omega)
            obtain ⟨y1, hy1⟩ : ∃ y, xs.getD (k * 7 + 1) 0 = y := ⟨_, rfl⟩
            rw [hy1] at r1
            have r2 := hc (k * 7 + 2) (by omega)
            obtain ⟨y2, hy2⟩ : ∃ y, xs.getD (k * 7 + 2) 0 = y := ⟨_, rfl⟩
            rw [hy2] at r2
            have r3 := hc (k * 7 + 3) (by omega)
            obtain ⟨y3, hy3⟩ : ∃ y, xs.getD (k * 7 + 3) 0 = y := ⟨_, rfl⟩
            rw [hy3] at r3
            have r4 := hc (k * 7 + 4) (by omega)
            obtain ⟨y4, hy4⟩ : ∃ y, xs.getD (k * 7 + 4) 0 = y := ⟨_, rfl⟩
            rw [hy4] at r4
            have r5 := hc (k * 7 + 5) (by omega)
            obtain ⟨y5, hy5⟩ : ∃ y, xs.getD (k * 7 + 5) 0 = y := ⟨_, rfl⟩
            rw [hy5] at r5
            have r6 := hc (k * 7 + 6) (by omega)
            obtain ⟨y6, hy6⟩ : ∃ y, xs.getD (k * 7 + 6) 0 = y := ⟨_, rfl⟩
            rw [hy6] at r6
            have hk0 : (0 : Int) ≤ (k : Int) := by omega
            have hk1 : (k : Int) < (n : Int) := by omega
            have HRL : Hid (ruleB y0 y1 y2 y3 y4 y5 y6 = true) := hid (by have h := grdB_at HGB.out hlt; unfold ruleAt at h; rw [hy0, hy1, hy2, hy3, hy4, hy5, hy6] at h; exact h)
            have HFT : Hid (fitAt xs ms k = fitB y0 y1 y2 y3 y4 ms) := hid (by unfold fitAt; rw [hy0, hy1, hy2, hy3, hy4])
            have HTH : Hid (thrAt xs ms k = thr y5 y6 ms) := hid (by unfold thrAt; rw [hy5, hy6])
            have HFS : Hid (fitsB y0 y1 y2 y3 y4 y5 y6 ms = fitAt xs ms k) := hid (by rw [fitsB_yes HRL.out H8.out, HFT.out])
            clear hc hB hxl hy0 hy1 hy2 hy3 hy4 hy5 hy6
            rw [← Nat.add_assoc] at r1 r2 r3 r4 r5 r6
            cases hF : fitAt xs ms k
            · have HF := hid hF
              clear hF
              go_wp2_with fail
              refine (grdFitsC_any y0 y1 y2 y3 y4 y5 y6 _ ms _ (RM.out.keep BW.out)).mono ?_
              rintro e w7 ⟨he, b7⟩
              rw [HFS.out, HF.out] at he
              subst he
              have BN := hid (BW.out.trans (b7.mono BW.out.size))
              clear b7 r0 r1 r2 r3 r4 r5 r6
              go_wp2
              go_roundw
              case rel => exact ⟨k + 1, by omega, by go_num, fun j hj => by rcases (by omega : j < k ∨ j = k) with h | rfl; exact HA.out j h; exact HF.out, BN.out⟩
              case measure => simp [intOf]; omega
            · have HF := hid hF
              clear hF
              have hD : doR n xs ms = some k := by rw [HR.out]; exact find_range HA.out HF.out hlt
              have hok : OK = true := by rw [← HO.out.2, hD]; rfl
              have HL : Hid (L = thr y5 y6 ms) := hid (by rw [← HO.out.1, doL_some hD, HTH.out])
              subst hok
              have HG1 : grdB 1 [y0, y1, y2, y3, y4, y5, y6] = true := by simp only [grdB]; simp [ruleAt, HRL.out]
              have HD1 : doR 1 [y0, y1, y2, y3, y4, y5, y6] ms = some 0 := by
                simp only [doR, HG1, H8.out, Bool.and_self, if_true]
                have hfa : fitAt [y0, y1, y2, y3, y4, y5, y6] ms 0 = true := by rw [← HF.out, HFT.out]; rfl
                exact find_range (fun i hi => by omega) hfa (by omega)
              have HDD := hid HD1
              have HL1 : Hid (doL 1 [y0, y1, y2, y3, y4, y5, y6] ms = L) := hid (by rw [doL_some HD1, HL.out]; rfl)
              clear hD HG1 HD1
              go_wp2_with fail
              refine (grdFitsC_any y0 y1 y2 y3 y4 y5 y6 _ ms _ (RM.out.keep BW.out)).mono ?_
              rintro e w7 ⟨he, b7⟩
              rw [HFS.out, HF.out] at he
              subst he
              have BN := hid (BW.out.trans (b7.mono BW.out.size))
              have r0 := cell_keep b7 r0
              have r1 := cell_keep b7 r1
              have r2 := cell_keep b7 r2
              have r3 := cell_keep b7 r3
              have r4 := cell_keep b7 r4
              have r5 := cell_keep b7 r5
              have r6 := cell_keep b7 r6
              have RI := hid (rdI_one w7 y0 y1 y2 y3 y4 y5 y6)
              have BR := hid (BN.out.alloc BN.out.size (.cells #[.int .i64 y0, .int .i64 y1, .int .i64 y2, .int .i64 y3, .int .i64 y4, .int .i64 y5, .int .i64 y6] 46))
              have R8 := hid (RM.out.keep BR.out)
              clear b7
              go_wp2_with fail
              refine (grdDo_any _ 1 [y0, y1, y2, y3, y4, y5, y6] av cv ms _ RI.out R8.out hcv).mono ?_
              rintro e w8 ⟨g8, he, o8, b8⟩
              rw [HDD.out] at he
              rw [HL1.out] at o8
              subst he
              have BS := hid (BR.out.trans (b8.mono BR.out.size))
              have R9 := hid (o8.rd (by omega))
              clear o8 b8 r0 r1 r2 r3 r4 r5 r6
              go_wp2_with fail
              refine (caBytes_any _ _ L L _ R9.out (RG.out.keep BS.out)).mono ?_
              rintro e w9 ⟨rfl, rfl⟩
              go_wp2
              go_ret
              exact ⟨rfl, B.out.trans (BS.out.mono B.out.size)⟩
          · obtain rfl : k = n := by omega
            have hD : doR k xs ms = none := by rw [HR.out]; exact find_none HA.out
            have hf : OK = false := by rw [← HO.out.2, hD]; rfl
            subst hf
            have RL2 := hid (RL.out.keep hB)
            clear hB hD
            go_wp2_with fail
            refine (grdOk_any _ k xs _ RL2.out).mono ?_
            rintro e w7 ⟨he, b7⟩
            rw [HGB.out] at he
            subst he
            have BN := hid (BW.out.trans (b7.mono BW.out.size))
            clear b7
            go_wp2
            go_ret
            exact ⟨rfl, B.out.trans (BN.out.mono B.out.size)⟩
  · have hl0' : (1048576 : Int) < (len0 : Int) := by omega
    clear k0
    go_enter Try.func5, Try.ntmps5
    go_wp2
    go_ret
    exact ⟨rfl, Below.refl _ _⟩
theorem own : ownKnob Try.prog.godebug = none := by kernel_rfl
theorem laidOut : laidOutB Try.prog = true := by kernel_rfl
set_option maxRecDepth 100000 in
theorem lifted (os : Os) (started : os.Started) (H : Type) (enc : TypeId × Value → H) :
    ReturnsInHanded {} Try.checked os 5 .any (Rows.fnGrdFirstSpec.pre6 enc Try.prog Try.f5 Rows.fnGrdFirstRow.domain false) (Rows.fnGrdFirstSpec.post enc Try.prog Try.f5 false true false false) := by
  refine returnsInHanded_of_change (C := Try.checked) own started (by kernel_rfl) Try.func5
    (ChangeSpec.witness6 (enc := enc) (C := Try.checked) false ⟨#[], #[.slice none 0 0], []⟩ 8 (by kernel_rfl) (by kernel_rfl) (by kernel_rfl) (by kernel_rfl)) ?_
  intro W base args ds gs before hval0 hW hcnd _
  have hval : ∀ (j : Nat) t v, Try.f5.params[j]? = some t → args[j]? = some v → Value.okWide Try.prog W .any base t v := hval0
  have hW' := hW
  obtain ⟨p, q, hA0, hV, rfl, hfz, hnd⟩ := hW
  have hA : DataW.TrodAll enc Try.prog W 0 (fun _ => true) true Try.f5.params.toList args.toList ds p := hA0
  rw [Try.params5] at hA hval
  obtain ⟨v0, vs0, d0, ds0, p0, q0, hargs, rfl, rfl, h0, r0⟩ := trodAll_cons hA
  obtain ⟨rfl, rfl, rfl⟩ := trodAll_nil r0
  obtain rfl : args = #[v0] := by cases args; simp_all
  obtain ⟨rfl, rfl⟩ := trodVars_none hV
  obtain ⟨a0, len0, cap0, rfl⟩ := okWide_slice Try.underlying22 (hval 0 22 v0 rfl rfl)
  have k0 := h0
  have lt0 : ∀ x ∈ p0, x.block < W.heap.size := by obtain ⟨m, hm⟩ := k0; exact DataW.trod_lt m _ _ _ hm
  obtain ⟨z0, w0⟩ : ∃ zs, IsRow .u8 W a0 len0 cap0 zs := by
    obtain ⟨fuel, hf⟩ := h0
    rcases open_ints Try.underlying22 Try.underlying5 (by kernel_rfl) hf with ⟨hcs, _⟩ | ⟨x, l, c, zs, hcs, _, hl, hm, hz, _, hcell, hwz⟩
    · simp [Value.cells] at hcs
      obtain ⟨rfl, rfl, rfl⟩ := hcs
      exact ⟨[], .inl ⟨rfl, rfl, rfl, rfl⟩⟩
    · simp [Value.cells] at hcs
      obtain ⟨rfl, rfl, rfl⟩ := hcs
      exact ⟨zs, .inr ⟨_, rfl, hl, hm, by simpa using hz, hcell, hwz⟩⟩
  clear hA0 hval0
  refine (walk a0 len0 cap0 z0 W w0).mono fun e W' ⟨he, bel⟩ => ?_
  subst he
  exact ⟨_, rfl, _, _, _, [], _, [], hW', trodAll_mk1 (shut_bool Try.underlying4 _), (trodAll_cons_mk (Below.trod laidOut (by kernel_rfl) (of_decide_eq_true (by kernel_rfl)) k0 bel lt0) trodAll_mk0), rfl, bel.frame _, fun h => by cases h⟩

theorem over : Rows.fnGrdFirstRow.holds Try.pinned (OpenSpec.ofChange Rows.fnGrdFirstSpec) :=
  OpenClaim.holds_of_wide 5 Try.f5 rfl rfl rfl rfl rfl rfl rfl ⟨rfl, rfl, rfl, rfl, rfl⟩ rfl rfl rfl rfl rfl (by kernel_rfl) Try.func5 (by kernel_rfl)
    (of_decide_eq_true (by kernel_rfl)) (by unfold Func.isWrapper; first | (rw [if_pos (by decide +kernel)]; kernel_rfl) | (rw [if_neg (by decide +kernel)]; exact ⟨rfl, rfl⟩))
    (fun os started H enc _ => lifted os started H enc)

end Go.Proofs.Ytlkmooefebenlaa.fnGrdFirst
namespace Go.Proofs.Ytlkmooefebenlaa
theorem fnGrdFirst_holds : Rows.FnGrdFirstSaid := fnGrdFirst.over
#print axioms fnGrdFirst_holds
end Go.Proofs.Ytlkmooefebenlaa
