/- BoxTake: the contract of the specification's. Conditions: the items read as lists of bytes. -/
import Derived.Test.YtanmapgpplhecaaBoxPutS
namespace Go.Proofs.Ytanmapgpplhecaa
open Go.ChangeShapes Go.WideShapes Go.ChangeAt Go.RowKit Go.Joins Go.Deep
set_option linter.unusedVariables false
set_option linter.unusedSimpArgs false
set_option maxRecDepth 4000
theorem rdS_tail {w : World} {b off n c c' : Nat} {yss : List (List Int)} (h : RdS w (.slice (some ⟨b, off, none⟩) (n + 1) c) yss) (hn : yss.length = n + 1) : RdS w (.slice (some ⟨b, off + 1, none⟩) n c') (yss.drop 1) := by
  obtain ⟨h1, a', cap', hv, h3⟩ := h
  simp only [Value.slice.injEq] at hv
  obtain ⟨rfl, _, rfl⟩ := hv
  have hl : (yss.drop 1).length = n := by simp [hn]
  refine ⟨by omega, some ⟨b, off + 1, none⟩, c', by rw [hl], ?_⟩
  rcases h3 with h3 | ⟨b', off', hb, hc⟩
  · simp [h3] at hn
  · simp only [Option.some.injEq, Addr.mk.injEq, and_true] at hb
    obtain ⟨rfl, rfl⟩ := hb
    refine .inr ⟨b, off + 1, rfl, fun i hi => ?_⟩
    obtain ⟨u, hu, hr⟩ := hc (i + 1) (by omega)
    refine ⟨u, by rw [show off + 1 + i = off + (i + 1) by omega]; exact hu, ?_⟩
    simpa [Nat.add_comm] using hr
theorem rd_nil (w : World) (a : Option Addr) (c : Nat) : Rd w (.slice a 0 c) [] := ⟨by simp, by simp, a, c, rfl, .inl rfl⟩
set_option maxHeartbeats 8000000 in
theorem specTake_any (d : Int) (v : Value) (yss : List (List Int)) (w : World) (hv : RdS w v yss) :
    Calls Try.prog 45 #[.agg #[.int .i64 d, v]] w fun e w' => STakePost d yss w e w' := by
  have RV := hid hv
  obtain ⟨h2, a, cap, rfl, h3⟩ := hv
  clear h3
  have P0 := hid (((Below.refl w.heap.size w).alloc (Nat.le_refl _) (.cells #[.int .i64 d, .slice a yss.length cap] 25)).alloc (by simp) (.cells #[.int .i64 0, .slice none 0 0] 25))
  have VA := hid ((vb_new w [.int .i64 d, .slice a yss.length cap] 25).keep (below_alloc1 _ (.cells #[.int .i64 0, .slice none 0 0] 25)))
  have VR : Hid (VB ((w.alloc (.cells #[.int .i64 d, .slice a yss.length cap] 25)).alloc (.cells #[.int .i64 0, .slice none 0 0] 25)) (w.heap.size + 1) [.int .i64 0, .slice none 0 0]) := hid (by have := vb_new (w.alloc (.cells #[.int .i64 d, .slice a yss.length cap] 25)) [.int .i64 0, .slice none 0 0] 25; simpa using this)
  have RV := hid (RV.out.keep P0.out)
  have PP := P0
  clear P0
  go_enter Try.func45, Try.ntmps45
  go_wp2_with fail
  refine (specBoxOk_any d _ yss _ RV.out).mono ?_
  rintro e w1 ⟨rfl, b1⟩
  have RV := hid (RV.out.keep b1)
  have VA := hid (VA.out.keep b1)
  have VR := hid (VR.out.keep b1)
  have PP := hid (PP.out.trans (b1.mono PP.out.size))
  clear b1
  cases k0 : boxB d yss
  · have E := hid (t_no (d := d) (yss := yss) k0)
    obtain ⟨r0, r1⟩ := vb2 VR.out
    have fr := VR.out.2.1
    have hRw := VR.out.2.2
    have T := hid (vbset2 (.int .i64 0) (.slice none 0 0) VR.out)
    have CG := hid (vbchg2 (S := fun j => j = w.heap.size + 1) (w := w1) (b := w.heap.size + 1) (.int .i64 0) (.slice none 0 0) rfl)
    go_wp2_with fail
    obtain ⟨t0, t1⟩ := vb2 (T.out.keep (below_alloc1 _ (.cells #[] 5)))
    refine bodyPost_ret (v := .tuple #[.agg #[.int .i64 0, .slice none 0 0], .slice (some ⟨w1.heap.size, 0, none⟩) 0 0, .bool false]) (res_stake _ rfl t0 t1 rfl rfl) rfl ?_
    exact ⟨_, _, by rw [E.out.1, E.out.2.2.2], by rw [E.out.2.1]; exact rdS_nil _, by rw [E.out.2.2.1]; exact rd_nil _ _ _, (below_chg PP.out CG.out (by have := PP.out.size; omega) (fun j hj => by have hj : j = w.heap.size + 1 := hj; omega)).alloc (by have := PP.out.size; simpa [World.setCell] using this) _⟩
  obtain ⟨⟨d1, d4⟩, hnd, hy8⟩ := box_of k0
  have HY := hid hy8
  have E := hid (show tD d yss = d ∧ tI d yss = yss.drop 1 ∧ tM d yss = yss.getD 0 [] ∧ tB d yss = decide (0 < yss.length) by simp [tD, tI, tM, tB, k0])
  clear hy8
  obtain ⟨a0, a1⟩ := vb2 VA.out
  go_wp2_with fail
  clear a0 a1
  have HB3 := hid VR.out.2.2
  refine (l7Copy_any d _ yss _ RV.out (by omega)).mono ?_
  rintro e w3 ⟨u, f, rfl, ou, b3⟩
  obtain ⟨ua, uc, rfl⟩ := ou.form
  have OU := hid (ou.low (B' := w.heap.size + 2) (by have := HB3.out; omega))
  clear ou
  have RV := hid (RV.out.keep b3)
  have VA := hid (VA.out.keep b3)
  have VR := hid (VR.out.keep b3)
  have PP := hid (PP.out.trans (b3.mono PP.out.size))
  clear b3
  obtain ⟨W4, hW4⟩ : ∃ W4, w3.alloc (.cells #[.int .i64 d, .slice ua yss.length uc] 25) = W4 := ⟨_, rfl⟩
  have VX := hid (show VB W4 w3.heap.size [.int .i64 d, .slice ua yss.length uc] by rw [← hW4]; exact vb_new w3 [.int .i64 d, .slice ua yss.length uc] 25)
  have b4 : Below w3.heap.size w3 W4 := by rw [← hW4]; exact below_alloc1 _ _
  obtain ⟨r, hr⟩ : ∃ r, w3.heap.size = r := ⟨_, rfl⟩
  have HR1 := hid (show w.heap.size + 1 < r by rw [← hr]; exact VR.out.2.2)
  have HUB := hid (fun j (hj : (Value.slice ua yss.length uc).ownBlock = some j) => (show j < r by rw [← hr]; exact (OU.out.1.lt j hj).2))
  have HFB := hid (fun i (hi : i < yss.length) j (hj : (f i).ownBlock = some j) => (show j < r by rw [← hr]; exact ((OU.out.2 i hi).blk j hj).2))
  have OU := hid (OU.out.keep b4)
  rw [hr] at VX
  have RV := hid (RV.out.keep b4)
  have VA := hid (VA.out.keep b4)
  have VR := hid (VR.out.keep b4)
  have PP := hid (PP.out.trans (b4.mono PP.out.size))
  clear b4
  go_upto_region 4 with fail
  try rw [hW4]
  try rw [hr]
  clear hW4 hr
  obtain ⟨x0, x1⟩ := vb2 VX.out
  have fx := VX.out.2.1
  by_cases h0 : yss.length = 0
  · have hz : ((yss.length : Int) == 0) = true := by simp [h0]
    have HZ := hid (List.length_eq_zero_iff.1 h0)
    clear h0
    obtain ⟨r0, r1⟩ := vb2 VR.out
    have fr := VR.out.2.1
    have hRw := VR.out.2.2
    have T := hid (vbset2 (.int .i64 d) (.slice ua yss.length uc) VR.out)
    have CG := hid (vbchg2 (S := fun j => j = w.heap.size + 1) (w := W4) (b := w.heap.size + 1) (.int .i64 d) (.slice ua yss.length uc) rfl)
    have nRr : ¬ w.heap.size + 1 = r := by have := HR1.out; omega
    have hrW := VX.out.2.2
    go_wp2_with fail
    obtain ⟨t0, t1⟩ := vb2 (T.out.keep (below_alloc1 _ (.cells #[] 5)))
    refine bodyPost_ret (v := .tuple #[.agg #[.int .i64 d, .slice ua yss.length uc], .slice (some ⟨W4.heap.size, 0, none⟩) 0 0, .bool false]) (res_stake _ rfl t0 t1 rfl rfl) rfl ?_
    refine ⟨_, _, by rw [E.out.1, E.out.2.2.2, HZ.out]; rfl, ?_, by rw [E.out.2.2.1, HZ.out]; exact rd_nil _ _ _, (below_chg PP.out CG.out (by have := PP.out.size; omega) (fun j hj => by have hj : j = w.heap.size + 1 := hj; omega)).alloc (by have := PP.out.size; simpa [World.setCell] using this) _⟩
    rw [E.out.2.1, HZ.out]
    exact ⟨by simp, ua, uc, rfl, .inl rfl⟩
  · obtain ⟨n, hn⟩ : ∃ n, yss.length = n + 1 := ⟨yss.length - 1, by omega⟩
    have hz : (((n + 1 : Nat) : Int) == 0) = false := by simp; omega
    obtain ⟨gu, hgu, hcap⟩ : ∃ gu, ua = some ⟨gu, 0, none⟩ ∧ yss.length ≤ uc := by
      obtain ⟨_, ⟨h1, _⟩ | ⟨q, c, cur, h1, _, _, hh, _⟩⟩ := OU.out.1
      · simp at h1; omega
      · simp only [Value.slice.injEq, true_and] at h1
        exact ⟨q, h1.1, by omega⟩
    have hx : W4.cell? ⟨gu, 0, none⟩ = some (f 0) := by
      have := OU.out.1.cells (g := gu) (by rw [hgu]; rfl) 0 (f 0) (by simp [hn])
      simpa [Addr.add] using this
    obtain ⟨xa, xc, hxs, _⟩ := own_form (OU.out.2 0 (by omega))
    have ngr : ¬ gu = r := by have := HUB.out gu (by rw [hgu]; rfl); omega
    have O5 : Hid (∀ s : Value, OwnV (W4.setCell ⟨r, 1, none⟩ s) (w.heap.size + 2) (.slice ua yss.length uc) f yss) := hid (fun s => OU.out.chg2 ((Chg.refl (fun j => j = r) W4).set (p := ⟨r, 1, none⟩) rfl s) (fun j hj e => by have := HUB.out j hj; have e : j = r := e; omega) (fun i hi j hj e => by have := HFB.out i hi j hj; have e : j = r := e; omega))
    have VR5 := hid (fun s : Value => VR.out.off (c := r) (i := 1) (v := s) (by have := HR1.out; omega))
    have PP5 : Hid (∀ s : Value, Below w.heap.size w (W4.setCell ⟨r, 1, none⟩ s)) := hid (fun s => PP.out.setCell (by have := HR1.out; simp; omega) s)
    rw [hxs] at hx
    have HXS := hid hxs
    have HGU := hid hgu
    have HNN := hid hn
    rw [hgu, hn] at x1
    obtain ⟨xn, hxn⟩ : ∃ xn, (yss.getD 0 []).length = xn := ⟨_, rfl⟩
    rw [hxn] at hx
    have HXN := hid hxn
    rw [hxn] at hxs
    have i1 : (1 : Int) ≤ ((n + 1 : Nat) : Int) := by omega
    have i2 : ((n + 1 : Nat) : Int) ≤ (uc : Int) := by omega
    have i3 : (0 : Int) < ((n + 1 : Nat) : Int) := by omega
    have i4 : (1 : Int) ≤ (uc : Int) := by omega
    have HCP := hid hcap
    have HLN := hid (show (yss.drop 1).length ≤ 1000 by simp; omega)
    have HL8 := hid (fun i (hi : i < (yss.drop 1).length) => (show ((yss.drop 1).getD i []).length ≤ 2000000 by have := HY.out (i + 1) (by simp at hi; omega); simpa [Nat.add_comm] using (show (yss.getD (i + 1) []).length ≤ 2000000 by omega)))
    have HDL := hid (show (yss.drop 1).length = n by simp [hn])
    clear hgu hcap hxn RV VA VX hxs h0
    rw [hn]
    clear hn
    by_cases hu1 : uc = 1
    · have hu2 : uc - 1 = 0 := by omega
      go_wp2_with fail
      have TL := hid (show RdS (W4.setCell ⟨r, 1, none⟩ (.slice (some ⟨gu, 0, none⟩) n 0)) (.slice (some ⟨gu, 0, none⟩) n 0) (yss.drop 1) from ⟨by have := HLN.out; omega, some ⟨gu, 0, none⟩, 0, by rw [HDL.out], .inl (List.length_eq_zero_iff.1 (by have := HNN.out; have := HCP.out; have := HDL.out; omega))⟩)
      refine (l7Copy_any d _ (yss.drop 1) _ TL.out HLN.out).mono ?_
      rintro e w6 ⟨u6, f6, rfl, o6, b6⟩
      have fm := o6.form
      rw [HDL.out] at fm
      obtain ⟨ua6, uc6, rfl⟩ := fm
      have X6 := hid ((O5.out (.slice (some ⟨gu, 0, none⟩) n 0)).keep b6)
      have VR := hid ((VR5.out (.slice (some ⟨gu, 0, none⟩) n 0)).keep b6)
      have PP := hid ((PP5.out (.slice (some ⟨gu, 0, none⟩) n 0)).trans (b6.mono (PP5.out (.slice (some ⟨gu, 0, none⟩) n 0)).size))
      have O6 := hid (o6.low (B' := w.heap.size + 2) (by have := (VR5.out (.slice (some ⟨gu, 0, none⟩) n 0)).2.2; omega))
      have XR := hid (show Rd w6 (.slice xa xn xc) (yss.getD 0 []) by have := (X6.out.2 0 (by have := HNN.out; omega)).rd (by have := HY.out 0 (by have := HNN.out; omega); omega); rw [HXS.out, HXN.out] at this; exact this)
      clear o6 b6 TL O5 VR5 PP5 X6
      go_wp2_with fail
      refine (l2Copy_any _ _ _ XR.out).mono ?_
      rintro e w7 ⟨y, rfl, oy, b7⟩
      obtain ⟨ya, yc, rfl, _⟩ := own_form oy
      rw [HXN.out] at oy ⊢
      have OY := hid (oy.low (B' := w.heap.size + 2) (by have := VR.out.2.2; omega))
      have VR := hid (VR.out.keep b7)
      have O6 := hid (O6.out.keep b7)
      have PP := hid (PP.out.trans (b7.mono PP.out.size))
      clear oy b7 XR
      obtain ⟨r0, r1⟩ := vb2 VR.out
      have fr := VR.out.2.1
      have CG := hid (vbchg2 (S := fun j => j = w.heap.size + 1) (w := w7) (b := w.heap.size + 1) (.int .i64 d) (.slice ua6 n uc6) rfl)
      go_wp2_with fail
      obtain ⟨t0, t1⟩ := vb2 (vbset2 (.int .i64 d) (.slice ua6 n uc6) VR.out)
      refine bodyPost_ret (v := .tuple #[.agg #[.int .i64 d, .slice ua6 n uc6], .slice ya xn yc, .bool true]) (res_stake _ rfl t0 t1 rfl rfl) rfl ?_
      refine ⟨_, _, by rw [E.out.1, E.out.2.2.2, show decide (0 < yss.length) = true by have := HNN.out; simp; omega], by rw [E.out.2.1]; exact (O6.out.chg CG.out (fun j hj => by have hj : j = w.heap.size + 1 := hj; omega)).rd (by have := HLN.out; omega) HL8.out, ?_, below_chg PP.out CG.out (by have := PP.out.size; omega) (fun j hj => by have hj : j = w.heap.size + 1 := hj; omega)⟩
      rw [E.out.2.2.1]
      have := (OwnR.chg OY.out CG.out (fun j hj e => by have e : j = w.heap.size + 1 := e; have := (OY.out.blk j hj).1; omega)).rd (by have := HY.out 0 (by have := HNN.out; omega); omega)
      exact this
    · have hu2 : ¬ uc - 1 = 0 := by omega
      have hu3 : ¬ uc = 1 := hu1
      go_wp2_with fail
      have TL := hid (show RdS (W4.setCell ⟨r, 1, none⟩ (.slice (some ⟨gu, 1, none⟩) n (uc - 1))) (.slice (some ⟨gu, 1, none⟩) n (uc - 1)) (yss.drop 1) from rdS_tail (n := n) (c := uc) (off := 0) (by have := (O5.out (.slice (some ⟨gu, 1, none⟩) n (uc - 1))).rd (by have := HLN.out; have := HNN.out; have := HDL.out; omega) (fun i hi => by have := HY.out i hi; omega); rw [HGU.out, HNN.out] at this; exact this) HNN.out)
      refine (l7Copy_any d _ (yss.drop 1) _ TL.out HLN.out).mono ?_
      rintro e w6 ⟨u6, f6, rfl, o6, b6⟩
      have fm := o6.form
      rw [HDL.out] at fm
      obtain ⟨ua6, uc6, rfl⟩ := fm
      have X6 := hid ((O5.out (.slice (some ⟨gu, 1, none⟩) n (uc - 1))).keep b6)
      have VR := hid ((VR5.out (.slice (some ⟨gu, 1, none⟩) n (uc - 1))).keep b6)
      have PP := hid ((PP5.out (.slice (some ⟨gu, 1, none⟩) n (uc - 1))).trans (b6.mono (PP5.out (.slice (some ⟨gu, 1, none⟩) n (uc - 1))).size))
      have O6 := hid (o6.low (B' := w.heap.size + 2) (by have := (VR5.out (.slice (some ⟨gu, 1, none⟩) n (uc - 1))).2.2; omega))
      have XR := hid (show Rd w6 (.slice xa xn xc) (yss.getD 0 []) by have := (X6.out.2 0 (by have := HNN.out; omega)).rd (by have := HY.out 0 (by have := HNN.out; omega); omega); rw [HXS.out, HXN.out] at this; exact this)
      clear o6 b6 TL O5 VR5 PP5 X6
      go_wp2_with fail
      refine (l2Copy_any _ _ _ XR.out).mono ?_
      rintro e w7 ⟨y, rfl, oy, b7⟩
      obtain ⟨ya, yc, rfl, _⟩ := own_form oy
      rw [HXN.out] at oy ⊢
      have OY := hid (oy.low (B' := w.heap.size + 2) (by have := VR.out.2.2; omega))
      have VR := hid (VR.out.keep b7)
      have O6 := hid (O6.out.keep b7)
      have PP := hid (PP.out.trans (b7.mono PP.out.size))
      clear oy b7 XR
      obtain ⟨r0, r1⟩ := vb2 VR.out
      have fr := VR.out.2.1
      have CG := hid (vbchg2 (S := fun j => j = w.heap.size + 1) (w := w7) (b := w.heap.size + 1) (.int .i64 d) (.slice ua6 n uc6) rfl)
      go_wp2_with fail
      obtain ⟨t0, t1⟩ := vb2 (vbset2 (.int .i64 d) (.slice ua6 n uc6) VR.out)
      refine bodyPost_ret (v := .tuple #[.agg #[.int .i64 d, .slice ua6 n uc6], .slice ya xn yc, .bool true]) (res_stake _ rfl t0 t1 rfl rfl) rfl ?_
      refine ⟨_, _, by rw [E.out.1, E.out.2.2.2, show decide (0 < yss.length) = true by have := HNN.out; simp; omega], by rw [E.out.2.1]; exact (O6.out.chg CG.out (fun j hj => by have hj : j = w.heap.size + 1 := hj; omega)).rd (by have := HLN.out; omega) HL8.out, ?_, below_chg PP.out CG.out (by have := PP.out.size; omega) (fun j hj => by have hj : j = w.heap.size + 1 := hj; omega)⟩
      rw [E.out.2.2.1]
      have := (OwnR.chg OY.out CG.out (fun j hj e => by have e : j = w.heap.size + 1 := e; have := (OY.out.blk j hj).1; omega)).rd (by have := HY.out 0 (by have := HNN.out; omega); omega)
      exact this

end Go.Proofs.Ytanmapgpplhecaa
