/- With a rule more at its end a guard lets through, as before, what it let through: for whatever is drawn. No conditions. -/
import Derived.Test.YtlkmooefebenlaaGrdMore0
import Derived.Deep.DeepCutAuto
import Derived.Deep.RegionWith
namespace Go.Proofs.Ytlkmooefebenlaa.fnGrdMore
open Go.ChangeShapes Go.WideShapes Go.ChangeAt Go.RowKit Go.Joins Go.Deep
set_option linter.unusedVariables false
set_option linter.unusedSimpArgs false
set_option maxRecDepth 4000
set_option maxHeartbeats 8000000 in
theorem walk (a0 : Option Addr) (len0 cap0 : Nat) (z0 : List Int) (a1 : Option Addr) (len1 cap1 : Nat) (z1 : List Int) (w : World) (k0 : IsRow .u8 w a0 len0 cap0 z0) (k1 : IsRow .u8 w a1 len1 cap1 z1) :
    Calls Try.prog 7 #[.slice a0 len0 cap0, .slice a1 len1 cap1] w fun e w' => e = .returned (.bool true) ∧ Below w.heap.size w w' := by
  have m0 := k0.max
  have m1 := k1.max
  by_cases hl0 : len0 ≤ 1048576
  · by_cases hl1 : len1 ≤ 1048576
    · have hl0' : (len0 : Int) ≤ 1048576 := by omega
      have hl1' : (len1 : Int) ≤ 1048576 := by omega
      obtain ⟨zs, hx0, r0⟩ := k0.rd hl0
      obtain ⟨ys, hy0, r1⟩ := k1.rd hl1
      have hcp := cap_ofG k0
      have hcp1 := cap_ofG k1
      have R0 := hid r0
      have R1 := hid r1
      clear k0 k1 r0 r1
      go_enter Try.func7, Try.ntmps7
      go_wp2_with fail
      refine (drawGrdDo_any a0 len0 cap0 zs _ hx0 R0.out hcp).mono ?_
      rintro e w1 ⟨u, v, n, xs, ms, rfl, hn5, hms, ou, ov, b1⟩
      obtain ⟨av, cv, hv, hcv⟩ := own_capG ov
      subst hv
      have RL := hid (ou.rd (by omega))
      have RM := hid (ov.rd (by omega))
      have HX : Hid (xs.length = n * 7) := hid (ou.rd (by omega)).1
      obtain ⟨au, cu, hu, _⟩ := ownI_form ou
      subst hu
      have B := hid b1
      have R1 := hid (R1.out.keep b1)
      clear ou ov b1 R0
      go_wp2_with fail
      refine (drawGRule_any a1 len1 cap1 ys _ hy0 R1.out hcp1).mono ?_
      rintro e w2 ⟨y0, y1, y2, y3, y4, y5, y6, rfl, b2⟩
      have RL := hid ((RL.out.keep b2).keep (below_alloc1 w2 (.cells #[.int .i64 y0, .int .i64 y1, .int .i64 y2, .int .i64 y3, .int .i64 y4, .int .i64 y5, .int .i64 y6] 46)))
      have RM := hid ((RM.out.keep b2).keep (below_alloc1 w2 (.cells #[.int .i64 y0, .int .i64 y1, .int .i64 y2, .int .i64 y3, .int .i64 y4, .int .i64 y5, .int .i64 y6] 46)))
      have B := hid ((B.out.trans (b2.mono B.out.size)).alloc (by have := B.out.size; have := b2.size; omega) (.cells #[.int .i64 y0, .int .i64 y1, .int .i64 y2, .int .i64 y3, .int .i64 y4, .int .i64 y5, .int .i64 y6] 46))
      have LB : Hid (IB (w2.alloc (.cells #[.int .i64 y0, .int .i64 y1, .int .i64 y2, .int .i64 y3, .int .i64 y4, .int .i64 y5, .int .i64 y6] 46)) w2.heap.size [y0, y1, y2, y3, y4, y5, y6]) := hid (ib_new w2 [y0, y1, y2, y3, y4, y5, y6] 46)
      clear b2 R1
      have NL := doL_lenG n xs ms
      obtain ⟨L, hL⟩ : ∃ L, doL n xs ms = L := ⟨_, rfl⟩
      obtain ⟨OK, hOK⟩ : ∃ OK, (doR n xs ms).isSome = OK := ⟨_, rfl⟩
      have HO := hid (And.intro hL hOK)
      rw [hL] at NL
      clear hL hOK
      go_wp2_with fail
      refine (grdDo_any _ n xs av cv ms _ RL.out RM.out hcv).mono ?_
      rintro e w3 ⟨g2, he, o2, b2⟩
      rw [HO.out.2] at he
      rw [HO.out.1] at o2
      subst he
      have RG := hid (o2.rd (by omega))
      have RL := hid (RL.out.keep b2)
      have RM := hid (RM.out.keep b2)
      have LB := hid (LB.out.keep b2)
      have B := hid (B.out.trans (b2.mono B.out.size))
      clear o2 b2
      go_wp2_with fail
      refine (specGrdDo_any _ n xs _ ms _ RL.out RM.out).mono ?_
      rintro e w4 ⟨g3, he, o3, b3⟩
      rw [HO.out.2] at he
      rw [HO.out.1] at o3
      subst he
      have RS := hid (o3.rd (by omega))
      have RL := hid (RL.out.keep b3)
      have RM := hid (RM.out.keep b3)
      have RG := hid (RG.out.keep b3)
      have LB := hid (LB.out.keep b3)
      have B := hid (B.out.trans (b3.mono B.out.size))
      clear o3 b3
      obtain ⟨D, hD⟩ : ∃ D, w2.heap.size = D := ⟨_, rfl⟩
      go_upto_region 7 with fail
      rw [hD] at LB
      (try rw [hD])
      clear hD
      have dOK : (OK != OK) = false := by simp
      obtain ⟨RV, hRV⟩ : ∃ RV, ruleB y0 y1 y2 y3 y4 y5 y6 = RV := ⟨_, rfl⟩
      have HRV := hid hRV
      clear hRV
      have dRV : (RV != RV) = false := by simp
      go_cut [57] (fun s wx => s = .bool false ∧ Below w4.heap.size w4 wx)
      case first =>
        obtain ⟨c0, c1, c2, c3, c4, c5, c6⟩ := ib7 LB.out
        have RGd := hid (RG.out.keep ((Below.refl w4.heap.size w4).drew))
        have RSd := hid (RS.out.keep ((Below.refl w4.heap.size w4).drew))
        go_region_with ((first
          | (go_at_call 21; refine (caBytes_any _ _ L L _ RGd.out RSd.out).mono ?_; rintro e w5 ⟨rfl, hw5⟩; rw [hw5]; clear hw5)
          | (go_at_call 35; refine (grdRuleOk_any y0 y1 y2 y3 y4 y5 y6 _).mono ?_; rintro e w6 ⟨he, b6⟩; rw [HRV.out] at he; subst he; have BI := hid b6; have c0 := cell_keep b6 c0; have c1 := cell_keep b6 c1; have c2 := cell_keep b6 c2; have c3 := cell_keep b6 c3; have c4 := cell_keep b6 c4; have c5 := cell_keep b6 c5; have c6 := cell_keep b6 c6)
          | (go_at_call 36; refine (specRule_any y0 y1 y2 y3 y4 y5 y6 _).mono ?_; rintro e w7 ⟨he, b7⟩; rw [HRV.out] at he; subst he; have BJ := hid b7; have c0 := cell_keep b7 c0; have c1 := cell_keep b7 c1; have c2 := cell_keep b7 c2; have c3 := cell_keep b7 c3; have c4 := cell_keep b7 c4; have c5 := cell_keep b7 c5; have c6 := cell_keep b7 c6)))
        all_goals
          go_wp2_with fail
          go_meet
          case rel =>
            first
            | exact ⟨rfl, (((Below.refl w4.heap.size w4).drew).trans BI.out).trans (BJ.out.mono BI.out.size)⟩
            | exact ⟨rfl, (((Below.refl w4.heap.size w4).drew).trans BJ.out).trans (BI.out.mono BJ.out.size)⟩
      case rest =>
        obtain ⟨rfl, bx⟩ := hcut
        have RL := hid (RL.out.keep bx)
        have RM := hid (RM.out.keep bx)
        have RG := hid (RG.out.keep bx)
        have LB := hid (LB.out.keep bx)
        have B := hid (B.out.trans (bx.mono B.out.size))
        clear bx RS
        obtain ⟨ti, hti, htz, hts, htb⟩ := infoG
        go_upto_region 9 with fail
        go_cut [12] (fun u wx => OwnI 46 7 wx wc.heap.size u (n + 1) (xs ++ [y0, y1, y2, y3, y4, y5, y6]) ∧ Below wc.heap.size wc wx)
        case first =>
          obtain ⟨c0, c1, c2, c3, c4, c5, c6⟩ := ib7 LB.out
          have hDc := LB.out.2.2
          have nD : some D ≠ (Value.slice (some ⟨wc.heap.size, 0, none⟩) 0 0).ownBlock := by simp [Value.ownBlock]; omega
          have OA : Hid ((wc.drew.alloc (.cells #[] 46)).ownsRow wc.heap.size 46 7 (.slice (some ⟨wc.heap.size, 0, none⟩) 0 0) 0 []) := hid (ownI_none wc.drew)
          have OB : Hid (((wc.drew.alloc (.cells #[] 46)).alloc (.cells #[.int .i64 y0, .int .i64 y1, .int .i64 y2, .int .i64 y3, .int .i64 y4, .int .i64 y5, .int .i64 y6] 46)).ownsRow wc.heap.size 46 7 (.slice (some ⟨wc.heap.size, 0, none⟩) 0 0) 0 []) := hid (OA.out.alloc _)
          have OC : Hid (((wc.drew.alloc (.cells #[.int .i64 y0, .int .i64 y1, .int .i64 y2, .int .i64 y3, .int .i64 y4, .int .i64 y5, .int .i64 y6] 46)).alloc (.cells #[] 46)).ownsRow wc.heap.size 46 7 (.slice (some ⟨wc.heap.size + 1, 0, none⟩) 0 0) 0 []) := hid (by have h := (ownI_none (e := 46) (k := 7) (wc.drew.alloc (.cells #[.int .i64 y0, .int .i64 y1, .int .i64 y2, .int .i64 y3, .int .i64 y4, .int .i64 y5, .int .i64 y6] 46))).low (B' := wc.heap.size) (by simp); simpa [OwnI] using h)
          have BA := hid ((((Below.refl wc.heap.size wc).drew).alloc (Nat.le_refl _) (.cells #[] 46)))
          have BB := hid (BA.out.alloc (by simp) (.cells #[.int .i64 y0, .int .i64 y1, .int .i64 y2, .int .i64 y3, .int .i64 y4, .int .i64 y5, .int .i64 y6] 46))
          have BC := hid ((((Below.refl wc.heap.size wc).drew).alloc (Nat.le_refl _) (.cells #[.int .i64 y0, .int .i64 y1, .int .i64 y2, .int .i64 y3, .int .i64 y4, .int .i64 y5, .int .i64 y6] 46)).alloc (by simp) (.cells #[] 46))
          have NE2 : Hid (∀ j u, ([y0, y1, y2, y3, y4, y5, y6].map (Value.int .i64))[j]? = some u → ((wc.drew.alloc (.cells #[] 46)).alloc (.cells #[.int .i64 y0, .int .i64 y1, .int .i64 y2, .int .i64 y3, .int .i64 y4, .int .i64 y5, .int .i64 y6] 46)).cell? ((⟨wc.heap.size + 1, 0, none⟩ : Addr).add j) = some u) := hid (by have h := news7 (wc.drew.alloc (.cells #[] 46)) [y0, y1, y2, y3, y4, y5, y6] 46; simpa using h)
          have NE3 : Hid (∀ j u, ([y0, y1, y2, y3, y4, y5, y6].map (Value.int .i64))[j]? = some u → ((wc.drew.alloc (.cells #[.int .i64 y0, .int .i64 y1, .int .i64 y2, .int .i64 y3, .int .i64 y4, .int .i64 y5, .int .i64 y6] 46)).alloc (.cells #[] 46)).cell? ((⟨wc.heap.size, 0, none⟩ : Addr).add j) = some u) := hid (fun j u h => cell_keep (below_alloc1 _ _) (news7 wc.drew [y0, y1, y2, y3, y4, y5, y6] 46 j u h))
          by_cases h0 : n = 0
          · subst h0
            obtain rfl : xs = [] := List.length_eq_zero_iff.1 (by simpa using HX.out)
            have hb1 : ∀ q W, Sem.run Try.prog (loadCellsFrom q 0 0 #[]) W = .ok #[] W := fun q W => rfl
            have hb2 : ∀ q W, Sem.run Try.prog (storeCells q []) W = .ok () W := fun q W => rfl
            clear RL hn5
            cases au
            all_goals
              go_region_law ((first | (refine step_append_lies ((wc.drew.alloc (.cells #[] 46)).alloc (.cells #[.int .i64 y0, .int .i64 y1, .int .i64 y2, .int .i64 y3, .int .i64 y4, .int .i64 y5, .int .i64 y6] 46)) rfl (.tmp 60) (.tmp 62) 38 rfl wc.heap.size 46 ti (.agg #[.int .i64 0, .int .i64 0, .int .i64 0, .int .i64 0, .int .i64 0, .int .i64 0, .int .i64 0]) 7 56 Try.underlying38 hti htz hts htb rfl (by omega) _ 0 [] (by first | rfl | simp [Act.eval, Act.put]) OB.out ⟨wc.heap.size + 1, 0, none⟩ 1 1 ([y0, y1, y2, y3, y4, y5, y6].map (Value.int .i64)) (by first | rfl | simp [Act.eval, Act.put]) rfl (NE2.out) (by intro y hy; simp at hy; rcases hy with rfl | rfl | rfl | rfl | rfl | rfl | rfl <;> rfl) (by omega) (by unfold maxLen; omega) (by omega) (by simp; omega) (wc.heap.size + 1 + 1) (by simp) ?_; intro gq cap3 w6 ho3 hg3 hat3 hlt3; have OQ := hid ho3; have GQ := hid hg3) | (refine step_append_lies ((wc.drew.alloc (.cells #[.int .i64 y0, .int .i64 y1, .int .i64 y2, .int .i64 y3, .int .i64 y4, .int .i64 y5, .int .i64 y6] 46)).alloc (.cells #[] 46)) rfl (.tmp 60) (.tmp 62) 38 rfl wc.heap.size 46 ti (.agg #[.int .i64 0, .int .i64 0, .int .i64 0, .int .i64 0, .int .i64 0, .int .i64 0, .int .i64 0]) 7 56 Try.underlying38 hti htz hts htb rfl (by omega) _ 0 [] (by first | rfl | simp [Act.eval, Act.put]) OC.out ⟨wc.heap.size, 0, none⟩ 1 1 ([y0, y1, y2, y3, y4, y5, y6].map (Value.int .i64)) (by first | rfl | simp [Act.eval, Act.put]) rfl (NE3.out) (by intro y hy; simp at hy; rcases hy with rfl | rfl | rfl | rfl | rfl | rfl | rfl <;> rfl) (by omega) (by unfold maxLen; omega) (by omega) (by simp; omega) (wc.heap.size + 1 + 1) (by simp) ?_; intro gq cap3 w6 ho3 hg3 hat3 hlt3; have OQ := hid ho3; have GQ := hid hg3)))
              all_goals
                have BQ : Hid (Below wc.heap.size wc w6) := hid (by
                  first
                  | exact BB.out.grown GQ.out BB.out.size (fun k hk => (OB.out.lt k hk).1)
                  | exact BC.out.grown GQ.out BC.out.size (fun k hk => (OC.out.lt k hk).1))
                have OF : Hid (OwnI 46 7 w6 wc.heap.size (.slice (some ⟨gq, 0, none⟩) (0 + 1) cap3) (0 + 1) ([] ++ [y0, y1, y2, y3, y4, y5, y6])) := hid (ownI_more (n := 0) (xs := []) OQ.out)
                go_wp2_with fail
                go_meet
                case rel => exact ⟨OF.out, BQ.out⟩
          · have hp : 0 < n := by omega
            have HLX : Hid ((xs.map (Value.int .i64)).length = n * 7) := hid (by simpa using HX.out)
            obtain ⟨_, _, a', cap', hva, h3⟩ := RL.out
            simp only [Value.slice.injEq] at hva
            obtain ⟨rfl, _, rfl⟩ := hva
            rcases h3 with h3 | ⟨b, off, rfl, hc⟩
            · exact absurd h3 h0
            have NLX : Hid (∀ W', Below wc.heap.size wc W' → ∀ j u, (xs.map (Value.int .i64))[j]? = some u → W'.cell? ((⟨b, off, none⟩ : Addr).add j) = some u) := hid (fun W' hW' => newsI_rd (fun i hi => cell_keep hW' (hc i hi)))
            have NY2 : Hid (∀ w5, ((wc.drew.alloc (.cells #[] 46)).alloc (.cells #[.int .i64 y0, .int .i64 y1, .int .i64 y2, .int .i64 y3, .int .i64 y4, .int .i64 y5, .int .i64 y6] 46)).grownBy w5 ((Value.slice (some ⟨wc.heap.size, 0, none⟩) 0 0).ownBlock) → ∀ j u, ([y0, y1, y2, y3, y4, y5, y6].map (Value.int .i64))[j]? = some u → w5.cell? ((⟨wc.heap.size + 1, 0, none⟩ : Addr).add j) = some u) := hid (fun w5 hg5 j u h => hg5.cell (NE2.out j u h) (by rw [add_block]; simp [Value.ownBlock]))
            have NY3 : Hid (∀ w5, ((wc.drew.alloc (.cells #[.int .i64 y0, .int .i64 y1, .int .i64 y2, .int .i64 y3, .int .i64 y4, .int .i64 y5, .int .i64 y6] 46)).alloc (.cells #[] 46)).grownBy w5 ((Value.slice (some ⟨wc.heap.size + 1, 0, none⟩) 0 0).ownBlock) → ∀ j u, ([y0, y1, y2, y3, y4, y5, y6].map (Value.int .i64))[j]? = some u → w5.cell? ((⟨wc.heap.size, 0, none⟩ : Addr).add j) = some u) := hid (fun w5 hg5 j u h => hg5.cell (NE3.out j u h) (by rw [add_block]; simp [Value.ownBlock]))
            clear hc
            go_region_law ((first | (refine step_append_lies (wc.drew.alloc (.cells #[] 46)) rfl (.tmp 58) (.tmp 59) 38 rfl wc.heap.size 46 ti (.agg #[.int .i64 0, .int .i64 0, .int .i64 0, .int .i64 0, .int .i64 0, .int .i64 0, .int .i64 0]) 7 56 Try.underlying38 hti htz hts htb rfl (by omega) _ 0 [] (by first | rfl | simp [Act.eval, Act.put]) OA.out ⟨b, off, none⟩ n cu (xs.map (Value.int .i64)) (by first | rfl | simp [Act.eval, Act.put]) HLX.out (NLX.out _ BA.out) (by intro y hy; simp at hy; obtain ⟨z, _, rfl⟩ := hy; rfl) hp (by unfold maxLen; omega) (by omega) (by simp) (wc.heap.size + 1) (by simp) ?_; intro gg cap2 w5 ho2 hg2 hat hlt2; have OP := hid (own_step ho2); have GP := hid hg2; have AT := hid hat; have c0 := hg2.cell (cell_keep BA.out c0) nD; have c1 := hg2.cell (cell_keep BA.out c1) nD; have c2 := hg2.cell (cell_keep BA.out c2) nD; have c3 := hg2.cell (cell_keep BA.out c3) nD; have c4 := hg2.cell (cell_keep BA.out c4) nD; have c5 := hg2.cell (cell_keep BA.out c5) nD; have c6 := hg2.cell (cell_keep BA.out c6) nD) | (refine step_append_lies ((wc.drew.alloc (.cells #[] 46)).alloc (.cells #[.int .i64 y0, .int .i64 y1, .int .i64 y2, .int .i64 y3, .int .i64 y4, .int .i64 y5, .int .i64 y6] 46)) rfl (.tmp 58) (.tmp 59) 38 rfl wc.heap.size 46 ti (.agg #[.int .i64 0, .int .i64 0, .int .i64 0, .int .i64 0, .int .i64 0, .int .i64 0, .int .i64 0]) 7 56 Try.underlying38 hti htz hts htb rfl (by omega) _ 0 [] (by first | rfl | simp [Act.eval, Act.put]) OB.out ⟨b, off, none⟩ n cu (xs.map (Value.int .i64)) (by first | rfl | simp [Act.eval, Act.put]) HLX.out (NLX.out _ BB.out) (by intro y hy; simp at hy; obtain ⟨z, _, rfl⟩ := hy; rfl) hp (by unfold maxLen; omega) (by omega) (by simp; omega) (wc.heap.size + 1 + 1) (by simp) ?_; intro gg cap2 w5 ho2 hg2 hat hlt2; have OP := hid (own_step ho2); have GP := hid hg2; have AT := hid hat) | (refine step_append_lies ((wc.drew.alloc (.cells #[.int .i64 y0, .int .i64 y1, .int .i64 y2, .int .i64 y3, .int .i64 y4, .int .i64 y5, .int .i64 y6] 46)).alloc (.cells #[] 46)) rfl (.tmp 58) (.tmp 59) 38 rfl wc.heap.size 46 ti (.agg #[.int .i64 0, .int .i64 0, .int .i64 0, .int .i64 0, .int .i64 0, .int .i64 0, .int .i64 0]) 7 56 Try.underlying38 hti htz hts htb rfl (by omega) _ 0 [] (by first | rfl | simp [Act.eval, Act.put]) OC.out ⟨b, off, none⟩ n cu (xs.map (Value.int .i64)) (by first | rfl | simp [Act.eval, Act.put]) HLX.out (NLX.out _ BC.out) (by intro y hy; simp at hy; obtain ⟨z, _, rfl⟩ := hy; rfl) hp (by unfold maxLen; omega) (by omega) (by simp; omega) (wc.heap.size + 1 + 1) (by simp) ?_; intro gg cap2 w5 ho2 hg2 hat hlt2; have OP := hid (own_step ho2); have GP := hid hg2; have AT := hid hat) | (refine step_append_lies (w5.alloc (.cells #[.int .i64 y0, .int .i64 y1, .int .i64 y2, .int .i64 y3, .int .i64 y4, .int .i64 y5, .int .i64 y6] 46)) rfl (.tmp 60) (.tmp 62) 38 rfl wc.heap.size 46 ti (.agg #[.int .i64 0, .int .i64 0, .int .i64 0, .int .i64 0, .int .i64 0, .int .i64 0, .int .i64 0]) 7 56 Try.underlying38 hti htz hts htb rfl (by omega) _ n (xs.map (Value.int .i64)) (by first | rfl | simp [Act.eval, Act.put]) (OP.out.alloc _) ⟨w5.heap.size, 0, none⟩ 1 1 ([y0, y1, y2, y3, y4, y5, y6].map (Value.int .i64)) (by first | rfl | simp [Act.eval, Act.put]) rfl (news7 w5 [y0, y1, y2, y3, y4, y5, y6] 46) (by intro y hy; simp at hy; rcases hy with rfl | rfl | rfl | rfl | rfl | rfl | rfl <;> rfl) (by omega) (by unfold maxLen; omega) (by omega) (by have := GP.out.size; simp at this ⊢; omega) (w5.heap.size + 1) (by simp) ?_; intro gq cap3 w6 ho3 hg3 hat3 hlt3; have OQ := hid ho3; have GQ := hid hg3) | (refine step_append_lies w5 rfl (.tmp 60) (.tmp 62) 38 rfl wc.heap.size 46 ti (.agg #[.int .i64 0, .int .i64 0, .int .i64 0, .int .i64 0, .int .i64 0, .int .i64 0, .int .i64 0]) 7 56 Try.underlying38 hti htz hts htb rfl (by omega) _ n (xs.map (Value.int .i64)) (by first | rfl | simp [Act.eval, Act.put]) OP.out ⟨wc.heap.size + 1, 0, none⟩ 1 1 ([y0, y1, y2, y3, y4, y5, y6].map (Value.int .i64)) (by first | rfl | simp [Act.eval, Act.put]) rfl (NY2.out w5 GP.out) (by intro y hy; simp at hy; rcases hy with rfl | rfl | rfl | rfl | rfl | rfl | rfl <;> rfl) (by omega) (by unfold maxLen; omega) (by omega) (by have := GP.out.size; simp at this ⊢; omega) w5.heap.size rfl ?_; intro gq cap3 w6 ho3 hg3 hat3 hlt3; have OQ := hid ho3; have GQ := hid hg3) | (refine step_append_lies w5 rfl (.tmp 60) (.tmp 62) 38 rfl wc.heap.size 46 ti (.agg #[.int .i64 0, .int .i64 0, .int .i64 0, .int .i64 0, .int .i64 0, .int .i64 0, .int .i64 0]) 7 56 Try.underlying38 hti htz hts htb rfl (by omega) _ n (xs.map (Value.int .i64)) (by first | rfl | simp [Act.eval, Act.put]) OP.out ⟨wc.heap.size, 0, none⟩ 1 1 ([y0, y1, y2, y3, y4, y5, y6].map (Value.int .i64)) (by first | rfl | simp [Act.eval, Act.put]) rfl (NY3.out w5 GP.out) (by intro y hy; simp at hy; rcases hy with rfl | rfl | rfl | rfl | rfl | rfl | rfl <;> rfl) (by omega) (by unfold maxLen; omega) (by omega) (by have := GP.out.size; simp at this ⊢; omega) w5.heap.size rfl ?_; intro gq cap3 w6 ho3 hg3 hat3 hlt3; have OQ := hid ho3; have GQ := hid hg3)))
            all_goals
              have BP : Below wc.heap.size wc w5 := by
                first
                | exact BA.out.grown GP.out BA.out.size (fun k hk => (OA.out.lt k hk).1)
                | exact BB.out.grown GP.out BB.out.size (fun k hk => (OB.out.lt k hk).1)
                | exact BC.out.grown GP.out BC.out.size (fun k hk => (OC.out.lt k hk).1)
              have BQ : Hid (Below wc.heap.size wc w6) := hid (by
                first
                | exact (BP.alloc BP.size (.cells #[.int .i64 y0, .int .i64 y1, .int .i64 y2, .int .i64 y3, .int .i64 y4, .int .i64 y5, .int .i64 y6] 46)).grown GQ.out (BP.alloc BP.size (.cells #[.int .i64 y0, .int .i64 y1, .int .i64 y2, .int .i64 y3, .int .i64 y4, .int .i64 y5, .int .i64 y6] 46)).size (fun k hk => (OP.out.lt k hk).1)
                | exact BP.grown GQ.out BP.size (fun k hk => (OP.out.lt k hk).1))
              have OF : Hid (OwnI 46 7 w6 wc.heap.size (.slice (some ⟨gq, 0, none⟩) (n + 1) cap3) (n + 1) (xs ++ [y0, y1, y2, y3, y4, y5, y6])) := hid (ownI_more OQ.out)
              clear BP
              go_wp2_with fail
              go_meet
              case rel => exact ⟨OF.out, BQ.out⟩
        case rest =>
          obtain ⟨ow, bx⟩ := hcut
          have RA := hid (ow.rd (by omega))
          obtain ⟨aa, ca, hu, _⟩ := ownI_form ow
          subst hu
          have RM := hid (RM.out.keep bx)
          have RG := hid (RG.out.keep bx)
          have B := hid (B.out.trans (bx.mono B.out.size))
          clear ow bx RL LB
          have NL2 := doL_lenG (n + 1) (xs ++ [y0, y1, y2, y3, y4, y5, y6]) ms
          obtain ⟨X, hX⟩ : ∃ X, xs ++ [y0, y1, y2, y3, y4, y5, y6] = X := ⟨_, rfl⟩
          have HXX := hid hX
          rw [hX] at RA NL2
          clear hX
          obtain ⟨L2, hL⟩ : ∃ L2, doL (n + 1) X ms = L2 := ⟨_, rfl⟩
          obtain ⟨OK2, hOK⟩ : ∃ OK2, (doR (n + 1) X ms).isSome = OK2 := ⟨_, rfl⟩
          have HO2 := hid (And.intro hL hOK)
          rw [hL] at NL2
          clear hL hOK
          go_wp2_with fail
          refine (grdDo_any _ (n + 1) X av cv ms _ RA.out RM.out hcv).mono ?_
          rintro e w7 ⟨g7, he, o7, b7⟩
          rw [HO2.out.2] at he
          rw [HO2.out.1] at o7
          subst he
          have R7 := hid (o7.rd (by omega))
          have RG := hid (RG.out.keep b7)
          have RA := hid (RA.out.keep b7)
          have B := hid (B.out.trans (b7.mono B.out.size))
          clear o7 b7 RM
          cases hG2 : grdB (n + 1) X
          · have hD : doR (n + 1) X ms = none := by simp [doR, hG2]
            have hf : OK2 = false := by rw [← HO2.out.2, hD]; rfl
            subst hf
            have HG2 := hid hG2
            have HR0 : Hid (ruleB 0 0 0 0 0 0 0 = true) := hid (by decide)
            clear hG2 hD
            go_wp2_with fail
            refine (specGrdOk_any _ (n + 1) X _ RA.out).mono ?_
            rintro e w8 ⟨he, b8⟩
            rw [HG2.out] at he
            subst he
            have B := hid (B.out.trans (b8.mono B.out.size))
            clear b8
            go_wp2_with fail
            refine (grdRuleOk_any 0 0 0 0 0 0 0 _).mono ?_
            rintro e w9 ⟨he, b9⟩
            rw [HR0.out] at he
            subst he
            have B := hid (B.out.trans (b9.mono B.out.size))
            clear b9
            go_wp2
            go_ret
            exact ⟨rfl, B.out⟩
          · have HG2 := hid hG2
            clear hG2
            go_wp2_with fail
            refine (specGrdOk_any _ (n + 1) X _ RA.out).mono ?_
            rintro e w8 ⟨he, b8⟩
            rw [HG2.out] at he
            subst he
            have B := hid (B.out.trans (b8.mono B.out.size))
            have R7 := hid (R7.out.keep b8)
            have RG := hid (RG.out.keep b8)
            clear b8 RA
            cases OK
            · go_wp2
              go_ret
              exact ⟨rfl, B.out⟩
            · obtain ⟨i, hi⟩ := Option.isSome_iff_exists.1 HO.out.2
              have hm := more_do n i xs [y0, y1, y2, y3, y4, y5, y6] ms HX.out (by rw [HXX.out]; exact HG2.out) hi
              rw [HXX.out] at hm
              have hk : OK2 = true := by rw [← HO2.out.2, hm.1]; rfl
              have hl : L2 = L := by rw [← HO2.out.1, hm.2]; exact HO.out.1
              subst hk hl
              clear hm hi
              go_wp2_with fail
              refine (caBytes_any _ _ L2 L2 _ R7.out RG.out).mono ?_
              rintro e w9 ⟨rfl, rfl⟩
              go_wp2
              go_ret
              exact ⟨rfl, B.out⟩
    · have hl1' : (1048576 : Int) < (len1 : Int) := by omega
      have hl0' : (len0 : Int) ≤ 1048576 := by omega
      clear k0 k1
      go_enter Try.func7, Try.ntmps7
      go_wp2
      go_ret
      exact ⟨rfl, Below.refl _ _⟩
  · have hl0' : (1048576 : Int) < (len0 : Int) := by omega
    clear k0 k1
    go_enter Try.func7, Try.ntmps7
    go_wp2
    go_ret
    exact ⟨rfl, Below.refl _ _⟩
theorem own : ownKnob Try.prog.godebug = none := by kernel_rfl
theorem laidOut : laidOutB Try.prog = true := by kernel_rfl
set_option maxRecDepth 100000 in
theorem lifted (os : Os) (started : os.Started) (H : Type) (enc : TypeId × Value → H) :
    ReturnsInHanded {} Try.checked os 7 .any (Rows.fnGrdMoreSpec.pre6 enc Try.prog Try.f7 Rows.fnGrdMoreRow.domain false) (Rows.fnGrdMoreSpec.post enc Try.prog Try.f7 false true false false) := by
  refine returnsInHanded_of_change (C := Try.checked) own started (by kernel_rfl) Try.func7
    (ChangeSpec.witness6 (enc := enc) (C := Try.checked) false ⟨#[], #[.slice none 0 0, .slice none 0 0], []⟩ 8 (by kernel_rfl) (by kernel_rfl) (by kernel_rfl) (by kernel_rfl)) ?_
  intro W base args ds gs before hval0 hW hcnd _
  have hval : ∀ (j : Nat) t v, Try.f7.params[j]? = some t → args[j]? = some v → Value.okWide Try.prog W .any base t v := hval0
  have hW' := hW
  obtain ⟨p, q, hA0, hV, rfl, hfz, hnd⟩ := hW
  have hA : DataW.TrodAll enc Try.prog W 0 (fun _ => true) true Try.f7.params.toList args.toList ds p := hA0
  rw [Try.params7] at hA hval
  obtain ⟨v0, vs0, d0, ds0, p0, q0, hargs, rfl, rfl, h0, r0⟩ := trodAll_cons hA
  obtain ⟨v1, vs1, d1, ds1, p1, q1, rfl, rfl, rfl, h1, r1⟩ := trodAll_cons r0
  obtain ⟨rfl, rfl, rfl⟩ := trodAll_nil r1
  obtain rfl : args = #[v0, v1] := by cases args; simp_all
  obtain ⟨rfl, rfl⟩ := trodVars_none hV
  obtain ⟨a0, len0, cap0, rfl⟩ := okWide_slice Try.underlying22 (hval 0 22 v0 rfl rfl)
  have k0 := h0
  have lt0 : ∀ x ∈ p0, x.block < W.heap.size := by obtain ⟨m, hm⟩ := k0; exact DataW.trod_lt m _ _ _ hm
  obtain ⟨z0, w0⟩ : ∃ zs, IsRow .u8 W a0 len0 cap0 zs := by
    obtain ⟨fuel, hf⟩ := h0
    rcases open_ints Try.underlying22 Try.underlying5 (by kernel_rfl) hf with ⟨hcs, _⟩ | ⟨x, l, c, zs, hcs, _, hl, hm, hz, _, hcell, hwz⟩
    · simp [Value.cells] at hcs
      obtain ⟨rfl, rfl, rfl⟩ := hcs
      exact ⟨[], .inl ⟨rfl, rfl, rfl, rfl⟩⟩
    · simp [Value.cells] at hcs
      obtain ⟨rfl, rfl, rfl⟩ := hcs
      exact ⟨zs, .inr ⟨_, rfl, hl, hm, by simpa using hz, hcell, hwz⟩⟩
  obtain ⟨a1, len1, cap1, rfl⟩ := okWide_slice Try.underlying22 (hval 1 22 v1 rfl rfl)
  have k1 := h1
  have lt1 : ∀ x ∈ p1, x.block < W.heap.size := by obtain ⟨m, hm⟩ := k1; exact DataW.trod_lt m _ _ _ hm
  obtain ⟨z1, w1⟩ : ∃ zs, IsRow .u8 W a1 len1 cap1 zs := by
    obtain ⟨fuel, hf⟩ := h1
    rcases open_ints Try.underlying22 Try.underlying5 (by kernel_rfl) hf with ⟨hcs, _⟩ | ⟨x, l, c, zs, hcs, _, hl, hm, hz, _, hcell, hwz⟩
    · simp [Value.cells] at hcs
      obtain ⟨rfl, rfl, rfl⟩ := hcs
      exact ⟨[], .inl ⟨rfl, rfl, rfl, rfl⟩⟩
    · simp [Value.cells] at hcs
      obtain ⟨rfl, rfl, rfl⟩ := hcs
      exact ⟨zs, .inr ⟨_, rfl, hl, hm, by simpa using hz, hcell, hwz⟩⟩
  clear hA0 hval0
  refine (walk a0 len0 cap0 z0 a1 len1 cap1 z1 W w0 w1).mono fun e W' ⟨he, bel⟩ => ?_
  subst he
  exact ⟨_, rfl, _, _, _, [], _, [], hW', trodAll_mk1 (shut_bool Try.underlying4 _), (trodAll_cons_mk (Below.trod laidOut (by kernel_rfl) (of_decide_eq_true (by kernel_rfl)) k0 bel lt0) (trodAll_cons_mk (Below.trod laidOut (by kernel_rfl) (of_decide_eq_true (by kernel_rfl)) k1 bel lt1) trodAll_mk0)), rfl, bel.frame _, fun h => by cases h⟩

theorem over : Rows.fnGrdMoreRow.holds Try.pinned (OpenSpec.ofChange Rows.fnGrdMoreSpec) :=
  OpenClaim.holds_of_wide 7 Try.f7 rfl rfl rfl rfl rfl rfl rfl ⟨rfl, rfl, rfl, rfl, rfl⟩ rfl rfl rfl rfl rfl (by kernel_rfl) Try.func7 (by kernel_rfl)
    (of_decide_eq_true (by kernel_rfl)) (by unfold Func.isWrapper; first | (rw [if_pos (by decide +kernel)]; kernel_rfl) | (rw [if_neg (by decide +kernel)]; exact ⟨rfl, rfl⟩))
    (fun os started H enc _ => lifted os started H enc)

end Go.Proofs.Ytlkmooefebenlaa.fnGrdMore
namespace Go.Proofs.Ytlkmooefebenlaa
theorem fnGrdMore_holds : Rows.FnGrdMoreSaid := fnGrdMore.over
#print axioms fnGrdMore_holds
end Go.Proofs.Ytlkmooefebenlaa
