/- What comes through a guard is a beginning of the message, but for one byte at most, which is 0 then: for whatever is drawn. No conditions. -/
import Derived.Test.YtlkmooefebenlaaGrdAid
namespace Go.Proofs.Ytlkmooefebenlaa.fnGrdLess
open Go.ChangeShapes Go.WideShapes Go.ChangeAt Go.RowKit Go.Joins Go.Deep
set_option linter.unusedVariables false
set_option linter.unusedSimpArgs false
set_option maxRecDepth 4000
set_option maxHeartbeats 8000000 in
theorem walk (a0 : Option Addr) (len0 cap0 : Nat) (z0 : List Int) (w : World) (k0 : IsRow .u8 w a0 len0 cap0 z0) :
    Calls Try.prog 6 #[.slice a0 len0 cap0] w fun e w' => e = .returned (.bool true) ∧ Below w.heap.size w w' := by
  have m0 := k0.max
  by_cases hl0 : len0 ≤ 1048576
  · have hl0' : (len0 : Int) ≤ 1048576 := by omega
    obtain ⟨zs, hx0, r0⟩ := k0.rd hl0
    have hcp := cap_ofG k0
    have R0 := hid r0
    clear k0 r0
    go_enter Try.func6, Try.ntmps6
    go_wp2_with fail
    refine (drawGrdDo_any a0 len0 cap0 zs _ hx0 R0.out hcp).mono ?_
    rintro e w1 ⟨u, v, n, xs, ms, rfl, hn5, hms, ou, ov, b1⟩
    obtain ⟨av, cv, hv, hcv⟩ := own_capG ov
    subst hv
    have RL := hid (ou.rd (by omega))
    have RM := hid (ov.rd (by omega))
    have HX : Hid (xs.length = n * 7) := hid (ou.rd (by omega)).1
    obtain ⟨au, cu, hu, _⟩ := ownI_form ou
    subst hu
    have B := hid b1
    clear ou ov b1 R0
    have NL := doL_lenG n xs ms
    obtain ⟨L, hL⟩ : ∃ L, doL n xs ms = L := ⟨_, rfl⟩
    obtain ⟨OK, hOK⟩ : ∃ OK, (doR n xs ms).isSome = OK := ⟨_, rfl⟩
    have HO := hid (And.intro hL hOK)
    rw [hL] at NL
    clear hL hOK
    go_wp2_with fail
    refine (grdDo_any _ n xs av cv ms _ RL.out RM.out hcv).mono ?_
    rintro e w2 ⟨g2, he, o2, b2⟩
    rw [HO.out.2] at he
    rw [HO.out.1] at o2
    subst he
    obtain ⟨ag, cg, hg, hcg⟩ := own_capG o2
    subst hg
    have RG := hid (o2.rd (by omega))
    have RL := hid (RL.out.keep b2)
    have RM := hid (RM.out.keep b2)
    have B := hid (B.out.trans (b2.mono B.out.size))
    clear o2 b2
    go_wp2_with fail
    refine (specGrdDo_any _ n xs _ ms _ RL.out RM.out).mono ?_
    rintro e w3 ⟨g3, he, o3, b3⟩
    rw [HO.out.2] at he
    rw [HO.out.1] at o3
    subst he
    have RS := hid (o3.rd (by omega))
    have RL := hid (RL.out.keep b3)
    have RM := hid (RM.out.keep b3)
    have RG := hid (RG.out.keep b3)
    have B := hid (B.out.trans (b3.mono B.out.size))
    clear o3 b3
    have dL : decide ((ms.length : Int) < (L.length : Int)) = false := by simp; omega
    have dL2 : decide (ms.length < L.length) = false := by simp; omega
    have dOK : (OK != OK) = false := by simp
    go_wp2_with fail
    refine (caBytes_any _ _ L L _ RG.out RS.out).mono ?_
    rintro e w4 ⟨rfl, rfl⟩
    clear RS
    obtain ⟨Z, hZ⟩ := doL_diff n xs ms
    rw [HO.out.1] at hZ
    have HZ := hid hZ
    clear hZ
    go_wp2_with fail
    go_loopw [9, 10] (fun c i wr => ∃ (k N : Nat), k ≤ L.length ∧ i = .int .i64 (k : Int) ∧ c = .int .i64 (N : Int) ∧ N ≤ 1 ∧ (k ≤ Z → N = 0) ∧ Below w4.heap.size w4 wr) (fun _ i _ => L.length - (intOf i).toNat)
    case atStart => exact ⟨0, 0, by omega, rfl, rfl, by omega, fun _ => rfl, Below.refl _ _⟩
    case round =>
      obtain ⟨k, N, hk, rfl, rfl, hN, hkz, hB⟩ := hrel
      have BW := hid hB
      by_cases hlt : k < L.length
      · obtain ⟨b1, f1, rfl, c1, p1, q1⟩ := rd_atG (RG.out.keep hB) hlt
        obtain ⟨b2, f2, rfl, c2, p2, q2⟩ := rd_atG (RM.out.keep hB) (i := k) (by omega)
        have hkm : k < ms.length := by omega
        have hk0 : (0 : Int) ≤ (k : Int) := by omega
        have hk1 : (k : Int) < (L.length : Int) := by omega
        have hk2 : (k : Int) < (ms.length : Int) := by omega
        have hd := HZ.out k hlt
        clear hB
        by_cases hz : k = Z
        · have hd := hd.2 hz
          have hzk : Z ≤ k := by omega
          have HKZ := hid (show k = Z from hz)
          clear hz
          rcases hd with hd | hd
          · rw [hd] at c1
            clear hd p1 q1
            generalize ms.getD k 0 = Y at c2 p2 q2
            by_cases hy : Y = 0
            · subst hy
              go_wp2_with fail
              go_quiet (fail)
              go_wp2
              go_roundw
              case rel => exact ⟨k + 1, N, by omega, by go_num, rfl, hN, fun h => by omega, BW.out.trans (below_draws _ _ _)⟩
              case measure => simp [intOf]; omega
            · obtain rfl : N = 0 := hkz (by have := HKZ.out; omega)
              have hy1 : ((0 : Int) == Y) = false := by simpa using fun h => hy h.symm
              have hy2 : ((0 : Int) != Y) = true := by simp [bne, hy1]
              have hy3 : ¬ (0 : Int) = Y := fun h => hy h.symm
              go_wp2_with fail
              go_quiet (fail)
              go_wp2
              go_roundw
              case rel => exact ⟨k + 1, 1, by omega, by go_num, rfl, by omega, fun h => by omega, BW.out.trans (below_draws _ _ _)⟩
              case measure => simp [intOf]; omega
          · rw [hd] at c1
            clear hd p1 q1
            generalize ms.getD k 0 = Y at c1 c2 p2 q2
            go_wp2_with fail
            go_quiet (fail)
            go_wp2
            go_roundw
            case rel => exact ⟨k + 1, N, by omega, by go_num, rfl, hN, fun h => by omega, BW.out.trans (below_draws _ _ _)⟩
            case measure => simp [intOf]; omega
        · have hd := hd.1 hz
          rw [hd] at c1
          clear hd p1 q1
          generalize ms.getD k 0 = Y at c1 c2 p2 q2
          go_wp2_with fail
          go_quiet (fail)
          go_wp2
          go_roundw
          case rel => exact ⟨k + 1, N, by omega, by go_num, rfl, hN, fun h => hkz (by omega), BW.out.trans (below_draws _ _ _)⟩
          case measure => simp [intOf]; omega
      · obtain rfl : k = L.length := by omega
        clear hB RL RM RG
        have HD : Hid (doR 1 [0, 8, -1, 0, 255, -1, 8] [3] = some 0) := hid (by decide)
        have HE : Hid (doL 1 [0, 8, -1, 0, 255, -1, 8] [3] = [3]) := hid (by decide)
        have RI := hid ((rdI_one wr 0 8 (-1) 0 255 (-1) 8).keep (below_alloc1 _ (.cells #[.int .u8 3] 5)))
        have RY : Hid (Rd ((wr.alloc (.cells #[.int .i64 0, .int .i64 8, .int .i64 (-1), .int .i64 0, .int .i64 255, .int .i64 (-1), .int .i64 8] 46)).alloc (.cells #[.int .u8 3] 5)) (.slice (some ⟨wr.heap.size + 1, 0, none⟩) 1 1) [3]) := hid (by have h := rd_oneG (wr.alloc (.cells #[.int .i64 0, .int .i64 8, .int .i64 (-1), .int .i64 0, .int .i64 255, .int .i64 (-1), .int .i64 8] 46)) 3 (by omega) (by omega); simpa using h)
        have BX := hid (((B.out.trans (BW.out.mono B.out.size)).alloc (by have := B.out.size; have := BW.out.size; omega) (.cells #[.int .i64 0, .int .i64 8, .int .i64 (-1), .int .i64 0, .int .i64 255, .int .i64 (-1), .int .i64 8] 46)).alloc (by have := B.out.size; have := BW.out.size; simp; omega) (.cells #[.int .u8 3] 5))
        have dN : decide ((N : Int) ≤ 1) = true := by simp; omega
        go_wp2_with fail
        refine (grdDo_any _ 1 [0, 8, -1, 0, 255, -1, 8] (some ⟨wr.heap.size + 1, 0, none⟩) 1 [3] _ RI.out RY.out (by simp)).mono ?_
        rintro e w5 ⟨g5, he, o5, b5⟩
        rw [HD.out] at he
        rw [HE.out] at o5
        subst he
        have R5 := hid ((o5.rd (by simp)).keep (below_alloc1 w5 (.cells #[.int .u8 3] 5)))
        have R6 := hid (rd_oneG w5 3 (by omega) (by omega))
        have B5 := hid ((BX.out.trans (b5.mono BX.out.size)).alloc (by have := BX.out.size; have := b5.size; omega) (.cells #[.int .u8 3] 5))
        clear o5 b5
        go_wp2_with fail
        refine (caBytes_any _ _ [3] [3] _ R5.out R6.out).mono ?_
        rintro e w6 ⟨rfl, rfl⟩
        go_wp2
        go_ret
        exact ⟨rfl, B5.out⟩
  · have hl0' : (1048576 : Int) < (len0 : Int) := by omega
    clear k0
    go_enter Try.func6, Try.ntmps6
    go_wp2
    go_ret
    exact ⟨rfl, Below.refl _ _⟩
theorem own : ownKnob Try.prog.godebug = none := by kernel_rfl
theorem laidOut : laidOutB Try.prog = true := by kernel_rfl
set_option maxRecDepth 100000 in
theorem lifted (os : Os) (started : os.Started) (H : Type) (enc : TypeId × Value → H) :
    ReturnsInHanded {} Try.checked os 6 .any (Rows.fnGrdLessSpec.pre6 enc Try.prog Try.f6 Rows.fnGrdLessRow.domain false) (Rows.fnGrdLessSpec.post enc Try.prog Try.f6 false true false false) := by
  refine returnsInHanded_of_change (C := Try.checked) own started (by kernel_rfl) Try.func6
    (ChangeSpec.witness6 (enc := enc) (C := Try.checked) false ⟨#[], #[.slice none 0 0], []⟩ 8 (by kernel_rfl) (by kernel_rfl) (by kernel_rfl) (by kernel_rfl)) ?_
  intro W base args ds gs before hval0 hW hcnd _
  have hval : ∀ (j : Nat) t v, Try.f6.params[j]? = some t → args[j]? = some v → Value.okWide Try.prog W .any base t v := hval0
  have hW' := hW
  obtain ⟨p, q, hA0, hV, rfl, hfz, hnd⟩ := hW
  have hA : DataW.TrodAll enc Try.prog W 0 (fun _ => true) true Try.f6.params.toList args.toList ds p := hA0
  rw [Try.params6] at hA hval
  obtain ⟨v0, vs0, d0, ds0, p0, q0, hargs, rfl, rfl, h0, r0⟩ := trodAll_cons hA
  obtain ⟨rfl, rfl, rfl⟩ := trodAll_nil r0
  obtain rfl : args = #[v0] := by cases args; simp_all
  obtain ⟨rfl, rfl⟩ := trodVars_none hV
  obtain ⟨a0, len0, cap0, rfl⟩ := okWide_slice Try.underlying22 (hval 0 22 v0 rfl rfl)
  have k0 := h0
  have lt0 : ∀ x ∈ p0, x.block < W.heap.size := by obtain ⟨m, hm⟩ := k0; exact DataW.trod_lt m _ _ _ hm
  obtain ⟨z0, w0⟩ : ∃ zs, IsRow .u8 W a0 len0 cap0 zs := by
    obtain ⟨fuel, hf⟩ := h0
    rcases open_ints Try.underlying22 Try.underlying5 (by kernel_rfl) hf with ⟨hcs, _⟩ | ⟨x, l, c, zs, hcs, _, hl, hm, hz, _, hcell, hwz⟩
    · simp [Value.cells] at hcs
      obtain ⟨rfl, rfl, rfl⟩ := hcs
      exact ⟨[], .inl ⟨rfl, rfl, rfl, rfl⟩⟩
    · simp [Value.cells] at hcs
      obtain ⟨rfl, rfl, rfl⟩ := hcs
      exact ⟨zs, .inr ⟨_, rfl, hl, hm, by simpa using hz, hcell, hwz⟩⟩
  clear hA0 hval0
  refine (walk a0 len0 cap0 z0 W w0).mono fun e W' ⟨he, bel⟩ => ?_
  subst he
  exact ⟨_, rfl, _, _, _, [], _, [], hW', trodAll_mk1 (shut_bool Try.underlying4 _), (trodAll_cons_mk (Below.trod laidOut (by kernel_rfl) (of_decide_eq_true (by kernel_rfl)) k0 bel lt0) trodAll_mk0), rfl, bel.frame _, fun h => by cases h⟩

theorem over : Rows.fnGrdLessRow.holds Try.pinned (OpenSpec.ofChange Rows.fnGrdLessSpec) :=
  OpenClaim.holds_of_wide 6 Try.f6 rfl rfl rfl rfl rfl rfl rfl ⟨rfl, rfl, rfl, rfl, rfl⟩ rfl rfl rfl rfl rfl (by kernel_rfl) Try.func6 (by kernel_rfl)
    (of_decide_eq_true (by kernel_rfl)) (by unfold Func.isWrapper; first | (rw [if_pos (by decide +kernel)]; kernel_rfl) | (rw [if_neg (by decide +kernel)]; exact ⟨rfl, rfl⟩))
    (fun os started H enc _ => lifted os started H enc)

end Go.Proofs.Ytlkmooefebenlaa.fnGrdLess
namespace Go.Proofs.Ytlkmooefebenlaa
theorem fnGrdLess_holds : Rows.FnGrdLessSaid := fnGrdLess.over
#print axioms fnGrdLess_holds
end Go.Proofs.Ytlkmooefebenlaa
