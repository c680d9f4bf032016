/- BoxTake: the contract of the program's. Conditions: the items read as lists of bytes. -/
import Derived.Test.YtanmapgpplhecaaBoxPutC
namespace Go.Proofs.Ytanmapgpplhecaa
open Go.ChangeShapes Go.WideShapes Go.ChangeAt Go.RowKit Go.Joins Go.Deep
set_option linter.unusedVariables false
set_option linter.unusedSimpArgs false
set_option maxRecDepth 4000
theorem own_nilT (w : World) (B : Nat) : Own w B (.slice none 0 0) [] := ⟨by simp, by simp, .inl ⟨rfl, rfl⟩⟩
set_option maxHeartbeats 8000000 in
theorem boxTake_any (d : Int) (v : Value) (yss : List (List Int)) (w : World) (hv : RdS w v yss) :
    Calls Try.prog 20 #[.agg #[.int .i64 d, v]] w fun e w' => TakePost d yss w e w' := by
  have RV := hid hv
  obtain ⟨h2, a, cap, rfl, h3⟩ := hv
  clear h3
  have P0 := hid (((Below.refl w.heap.size w).alloc (Nat.le_refl _) (.cells #[.int .i64 d, .slice a yss.length cap] 25)).alloc (by simp) (.cells #[.int .i64 0, .slice none 0 0] 25))
  have VA := hid ((vb_new w [.int .i64 d, .slice a yss.length cap] 25).keep (below_alloc1 _ (.cells #[.int .i64 0, .slice none 0 0] 25)))
  have VR : Hid (VB ((w.alloc (.cells #[.int .i64 d, .slice a yss.length cap] 25)).alloc (.cells #[.int .i64 0, .slice none 0 0] 25)) (w.heap.size + 1) [.int .i64 0, .slice none 0 0]) := hid (by have := vb_new (w.alloc (.cells #[.int .i64 d, .slice a yss.length cap] 25)) [.int .i64 0, .slice none 0 0] 25; simpa using this)
  have RV := hid (RV.out.keep P0.out)
  have PP := P0
  clear P0
  go_enter Try.func20, Try.ntmps20
  go_wp2_with fail
  refine (boxOk_any d _ yss _ RV.out).mono ?_
  rintro e w1 ⟨rfl, b1⟩
  have RV := hid (RV.out.keep b1)
  have VA := hid (VA.out.keep b1)
  have VR := hid (VR.out.keep b1)
  have PP := hid (PP.out.trans (b1.mono PP.out.size))
  clear b1
  cases k0 : boxB d yss
  · have E := hid (t_no (d := d) (yss := yss) k0)
    obtain ⟨r0, r1⟩ := vb2 VR.out
    have fr := VR.out.2.1
    go_wp2_with fail
    obtain ⟨t0, t1⟩ := vb2 (vbset2 (.int .i64 0) (.slice none 0 0) VR.out)
    refine bodyPost_ret (v := .tuple #[.agg #[.int .i64 0, .slice none 0 0], .slice none 0 0, .bool false]) (res_take _ rfl t0 t1 rfl rfl) rfl ?_
    exact ⟨.slice none 0 0, fun _ => undef, .slice none 0 0, by rw [E.out.1, E.out.2.2.2], by rw [E.out.2.1]; exact .inl ⟨rfl, rfl⟩, by rw [E.out.2.2.1]; exact own_nilT _ _, by rw [E.out.2.1]; intro i hi; simp at hi, by intro j hj; simp [Value.ownBlock] at hj, below_chg PP.out (vbchg2 (S := fun j => j = w.heap.size + 1) (b := w.heap.size + 1) (.int .i64 0) (.slice none 0 0) rfl) (by have := PP.out.size; omega) (fun j hj => by have hj : j = w.heap.size + 1 := hj; omega)⟩
  obtain ⟨⟨d1, d4⟩, hnd, hy8⟩ := box_of k0
  have RVs := RV
  have VAs := VA
  have VRs := VR
  have PPs := PP
  obtain ⟨D, rfl⟩ := Int.eq_ofNat_of_zero_le (show 0 ≤ d by omega)
  have RV := RVs
  have VA := VAs
  have VR := VRs
  have PP := PPs
  clear RVs VAs VRs PPs
  have HY := hid hy8
  have E := hid (show tD (D : Int) yss = D ∧ tI (D : Int) yss = yss.drop 1 ∧ tM (D : Int) yss = yss.getD 0 [] ∧ tB (D : Int) yss = decide (0 < yss.length) by simp [tD, tI, tM, tB, k0])
  clear hy8
  obtain ⟨a0, a1⟩ := vb2 VA.out
  go_wp2_with fail
  clear a0 a1
  refine (boxOpen_any D _ yss _ RV.out (by omega) (by omega)).mono ?_
  rintro e w3 ⟨h, rfl, hsl, hou, hap, b3⟩
  have HB3 := hid VR.out.2.2
  have HOU := hid (fun i hi => (hou i hi).low (B' := w.heap.size + 2) (by have := HB3.out; omega))
  have HAP := hid hap
  have HSL := hid hsl
  have RV := hid (RV.out.keep b3)
  have VA := hid (VA.out.keep b3)
  have VR := hid (VR.out.keep b3)
  have PP := hid (PP.out.trans (b3.mono PP.out.size))
  clear b3
  clear hou hap
  obtain ⟨p0, l0, c0, e0⟩ := hsl 0 (by omega)
  obtain ⟨p1, l1, c1, e1⟩ := hsl 1 (by omega)
  obtain ⟨p2, l2, c2, e2⟩ := hsl 2 (by omega)
  obtain ⟨p3, l3, c3, e3⟩ := hsl 3 (by omega)
  rw [e0, e1, e2, e3]
  obtain ⟨W4, hW4⟩ : ∃ W4, w3.alloc (.cells #[.slice p0 l0 c0, .slice p1 l1 c1, .slice p2 l2 c2, .slice p3 l3 c3, .int .i64 (D : Int), .int .i64 0, .int .i64 (yss.length : Int)] 72) = W4 := ⟨_, rfl⟩
  have KR := hid (ring_new (s := yss.length) e0 e1 e2 e3 W4 hW4.symm)
  have b4 : Below w3.heap.size w3 W4 := by rw [← hW4]; exact below_alloc1 _ _
  obtain ⟨r, hr⟩ : ∃ r, w3.heap.size = r := ⟨_, rfl⟩
  have HR1 := hid (show w.heap.size + 1 < r by rw [← hr]; exact VR.out.2.2)
  have HRL := hid (show r < W4.heap.size by rw [← hr, ← hW4]; simp)
  have HOB := hid (fun i (hi : i < yss.length) j hj => (show j < r by rw [← hr]; exact ((HOU.out i hi).blk j hj).2))
  have HOU := hid (fun i (hi : i < yss.length) => (HOU.out i hi).keep b4)
  rw [hr] at KR
  clear hsl e0 e1 e2 e3
  have RV := hid (RV.out.keep b4)
  have VA := hid (VA.out.keep b4)
  have VR := hid (VR.out.keep b4)
  have PP := hid (PP.out.trans (b4.mono PP.out.size))
  clear b4
  go_upto_region 4 with fail
  try rw [hW4]
  try rw [hr]
  clear hW4 hr
  by_cases h0 : yss.length = 0
  · have HZ := hid h0
    go_wp2_with fail
    refine (take_none r h D 0 _ (by have := KR.out; rw [HZ.out] at this; exact this)).mono ?_
    rintro e w6 ⟨rfl, rfl⟩
    have KR := hid (show Ring w6 r h D 0 0 by have := KR.out; rw [HZ.out] at this; exact this)
    clear h0
    obtain ⟨k1', k2', k3', k4', k5'⟩ := KR.out
    obtain ⟨p0, l0, c0, e0⟩ := HSL.out 0 (by omega)
    have q0 := k1' 0 (by omega)
    rw [e0] at q0
    obtain ⟨p1, l1, c1, e1⟩ := HSL.out 1 (by omega)
    have q1 := k1' 1 (by omega)
    rw [e1] at q1
    obtain ⟨p2, l2, c2, e2⟩ := HSL.out 2 (by omega)
    have q2 := k1' 2 (by omega)
    rw [e2] at q2
    obtain ⟨p3, l3, c3, e3⟩ := HSL.out 3 (by omega)
    have q3 := k1' 3 (by omega)
    rw [e3] at q3
    clear k1' k5'
    go_wp2_with fail
    have SH := hid (boxShut_any h D 0 0 w6 (by first | omega | (have := HNN.out; omega)) (by omega) HSL.out)
    rw [e0, e1, e2, e3] at SH
    clear k2' k3' k4' q0 q1 q2 q3 e0 e1 e2 e3
    refine SH.out.mono ?_
    rintro e w7 ⟨g, rfl, hg, o7, b7⟩
    clear SH
    have O7 := hid o7
    have HG6 := hid hg
    have HOU := hid (fun i (hi : i < yss.length) => (HOU.out i hi).keep b7)
    have VR := hid (VR.out.keep b7)
    have PP := hid (PP.out.trans (b7.mono PP.out.size))
    clear o7 b7 hg KR
    have CG := hid (vbchg2 (S := fun j => j = w.heap.size + 1) (w := w7) (b := w.heap.size + 1) (.int .i64 (D : Int)) (.slice (some ⟨g, 0, none⟩) 0 0) rfl)
    obtain ⟨r0, r1⟩ := vb2 VR.out
    have fr := VR.out.2.1
    go_wp2_with fail
    obtain ⟨t0, t1⟩ := vb2 (vbset2 (.int .i64 (D : Int)) (.slice (some ⟨g, 0, none⟩) 0 0) VR.out)
    refine bodyPost_ret (v := .tuple #[.agg #[.int .i64 (D : Int), .slice (some ⟨g, 0, none⟩) 0 0], .slice none 0 0, .bool false]) (res_take _ rfl t0 t1 rfl rfl) rfl ?_
    have hnil : yss = [] := List.length_eq_zero_iff.1 HZ.out
    refine ⟨_, fun _ => undef, .slice none 0 0, by rw [E.out.1, E.out.2.2.2, HZ.out]; rfl, ?_, by rw [E.out.2.2.1, hnil]; exact own_nilT _ _, by rw [E.out.2.1, hnil]; intro i hi; simp at hi, by intro j hj; simp [Value.ownBlock] at hj, below_chg PP.out CG.out (by have := PP.out.size; omega) (fun j hj => by have hj : j = w.heap.size + 1 := hj; omega)⟩
    rw [E.out.2.1, hnil]
    refine .inr ⟨g, rfl, by have := HG6.out; have := HRL.out; have := HR1.out; omega, ?_, fun i hi => by simp at hi, fun i j hi => by simp at hi, fun i hi => by simp at hi⟩
    exact row_is (by simpa using ownsRow_chgV O7.out CG.out (fun j hj => by have hj : j = w.heap.size + 1 := hj; have := HG6.out; have := HRL.out; have := HR1.out; omega))
  · obtain ⟨n, hn⟩ : ∃ n, yss.length = n + 1 := ⟨yss.length - 1, by omega⟩
    have HNN := hid hn
    have KR := hid (show Ring W4 r h D 0 (n + 1) by have := KR.out; rw [hn] at this; exact this)
    obtain ⟨ua, ul, uc, hu0⟩ := HSL.out 0 (by omega)
    have HU0 := hid hu0
    clear h0
    rw [hn]
    clear hn
    go_wp2_with fail
    refine (take_any r h D 0 n ua ul uc _ KR.out (by have := HNN.out; omega) (by omega) hu0).mono ?_
    rintro e w6 ⟨rfl, kr, c6⟩
    have KR := hid (show Ring w6 r h D 1 n from kr)
    have ns : ∀ j, j = r → w.heap.size ≤ j := fun j hj => by have := HR1.out; omega
    have HOU := hid (fun i (hi : i < yss.length) => OwnR.chg (HOU.out i hi) c6 (fun j hj e => by have e : j = r := e; have := HOB.out i hi j hj; omega))
    have VR := hid (VR.out.chg c6 (fun e => by have e : w.heap.size + 1 = r := e; have := HR1.out; omega))
    have PP := hid (below_chg PP.out c6 (by have := PP.out.size; omega) ns)
    have Z6 := hid c6.size
    clear kr c6 hu0
    obtain ⟨k1', k2', k3', k4', k5'⟩ := KR.out
    obtain ⟨p0, l0, c0, e0⟩ := HSL.out 0 (by omega)
    have q0 := k1' 0 (by omega)
    rw [e0] at q0
    obtain ⟨p1, l1, c1, e1⟩ := HSL.out 1 (by omega)
    have q1 := k1' 1 (by omega)
    rw [e1] at q1
    obtain ⟨p2, l2, c2, e2⟩ := HSL.out 2 (by omega)
    have q2 := k1' 2 (by omega)
    rw [e2] at q2
    obtain ⟨p3, l3, c3, e3⟩ := HSL.out 3 (by omega)
    have q3 := k1' 3 (by omega)
    rw [e3] at q3
    clear k1' k5'
    go_wp2_with fail
    have SH := hid (boxShut_any h D 1 n w6 (by first | omega | (have := HNN.out; omega)) (by omega) HSL.out)
    rw [e0, e1, e2, e3] at SH
    clear k2' k3' k4' q0 q1 q2 q3 e0 e1 e2 e3
    refine SH.out.mono ?_
    rintro e w7 ⟨g, rfl, hg, o7, b7⟩
    clear SH
    have O7 := hid o7
    have HG6 := hid hg
    have HOU := hid (fun i (hi : i < yss.length) => (HOU.out i hi).keep b7)
    have VR := hid (VR.out.keep b7)
    have PP := hid (PP.out.trans (b7.mono PP.out.size))
    clear o7 b7 hg KR
    have CG := hid (vbchg2 (S := fun j => j = w.heap.size + 1) (w := w7) (b := w.heap.size + 1) (.int .i64 (D : Int)) (.slice (some ⟨g, 0, none⟩) n n) rfl)
    obtain ⟨r0, r1⟩ := vb2 VR.out
    have fr := VR.out.2.1
    go_wp2_with fail
    obtain ⟨t0, t1⟩ := vb2 (vbset2 (.int .i64 (D : Int)) (.slice (some ⟨g, 0, none⟩) n n) VR.out)
    refine bodyPost_ret (v := .tuple #[.agg #[.int .i64 (D : Int), .slice (some ⟨g, 0, none⟩) n n], .slice ua ul uc, .bool true]) (res_take _ rfl t0 t1 rfl rfl) rfl ?_
    have hdl : (yss.drop 1).length = n := by simp [HNN.out]
    have hgr : r < g := by have := HG6.out; have := HRL.out; have := Z6.out; omega
    have OF : ∀ i, i < yss.length → Own ((w7.setCell ⟨w.heap.size + 1, 0, none⟩ (.int .i64 (D : Int))).setCell ⟨w.heap.size + 1, 1, none⟩ (.slice (some ⟨g, 0, none⟩) n n)) (w.heap.size + 2) (h i) (yss.getD i []) := fun i hi => OwnR.chg (HOU.out i hi) CG.out (fun j hj e => by have e : j = w.heap.size + 1 := e; have := ((HOU.out i hi).blk j hj).1; omega)
    refine ⟨_, fun i => h (i + 1), .slice ua ul uc, by rw [E.out.1, E.out.2.2.2, show decide (0 < yss.length) = true by have := HNN.out; simp; omega], ?_, ?_, ?_, ?_, below_chg PP.out CG.out (by have := PP.out.size; omega) (fun j hj => by have hj : j = w.heap.size + 1 := hj; omega)⟩
    · rw [E.out.2.1]
      refine .inr ⟨g, by rw [hdl], by have := HR1.out; omega, ?_, ?_, ?_, ?_⟩
      · rw [hdl]
        have hm4 : (List.range n).map (fun i => h ((1 + i) % 4)) = (List.range n).map (fun i => h (i + 1)) := by
          apply List.map_congr_left
          intro i hi
          rw [List.mem_range] at hi
          have := HNN.out
          rw [show (1 + i) % 4 = i + 1 by omega]
        have o7 := O7.out
        rw [hm4] at o7
        exact row_is (ownsRow_chgV o7 CG.out (fun j hj => by have hj : j = w.heap.size + 1 := hj; have := HR1.out; omega))
      · intro i hi
        rw [hdl] at hi
        have := (OF (i + 1) (by have := HNN.out; omega)).low (B' := w.heap.size) (by omega)
        simpa [Nat.add_comm] using this
      · intro i j hi hj hij
        rw [hdl] at hi hj
        exact HAP.out (i + 1) (j + 1) (by have := HNN.out; omega) (by have := HNN.out; omega) (by omega)
      · intro i hi hb
        rw [hdl] at hi
        have := HOB.out (i + 1) (by have := HNN.out; omega) g hb
        omega
    · rw [E.out.2.2.1, ← HU0.out]
      exact (OF 0 (by have := HNN.out; omega)).low (by omega)
    · rw [E.out.2.1, ← HU0.out]
      intro i hi j hj
      rw [hdl] at hi
      exact HAP.out 0 (i + 1) (by have := HNN.out; omega) (by have := HNN.out; omega) (by omega) j hj
    · rw [← HU0.out]
      intro j hj hb
      have h1 := HOB.out 0 (by have := HNN.out; omega) j hj
      simp only [Value.ownBlock, Option.some.injEq] at hb
      omega

end Go.Proofs.Ytanmapgpplhecaa
