/- What a guard lets through: the contract of the specification's GrdDo. Conditions: the list reads as rules, the message as bytes. -/
import Derived.Test.YtlkmooefebenlaaGrdDo
namespace Go.Proofs.Ytlkmooefebenlaa
open Go.ChangeShapes Go.WideShapes Go.ChangeAt Go.RowKit Go.Joins Go.Deep
set_option linter.unusedVariables false
set_option maxRecDepth 4000
theorem own_cap {w : World} {B n cap : Nat} {a : Option Addr} {zs : List Int} (h : Own w B (.slice a n cap) zs) : zs.length ≤ cap := by
  obtain ⟨_, _, h3⟩ := h
  rcases h3 with ⟨hv, h0⟩ | ⟨g, cap', cur, hv, _, _, hnc, _⟩
  · omega
  · simp only [Value.slice.injEq] at hv
    obtain ⟨_, _, rfl⟩ := hv
    exact hnc
theorem doL_none {n : Nat} {xs ms : List Int} (h : doR n xs ms = none) : doL n xs ms = [] := by unfold doL; rw [h]
theorem doL_some {n i : Nat} {xs ms : List Int} (h : doR n xs ms = some i) : doL n xs ms = thrAt xs ms i := by unfold doL; rw [h]

set_option maxHeartbeats 8000000 in
theorem specGrdDo_any (v : Value) (n : Nat) (xs : List Int) (m : Value) (ms : List Int) (w : World) (hv : RdI 7 w v n xs) (hm : Rd w m ms) :
    Calls Try.prog 30 #[v, m] w fun e w' => ∃ u, e = .returned (.tuple #[u, .bool (doR n xs ms).isSome]) ∧ Own w' w.heap.size u (doL n xs ms) ∧ Below w.heap.size w w' := by
  have RV := hid hv
  have RM := hid hm
  obtain ⟨h1, h2, a, cap, rfl, h3⟩ := hv
  obtain ⟨hm1, hm2, am, cm, rfl, _⟩ := hm
  clear hm1
  cases g : grdB n xs
  · have HN := hid (show doR n xs ms = none by simp [doR, g])
    clear h3
    go_enter Try.func30, Try.ntmps30
    go_wp2_with (go_at_call 31; refine (specGrdOk_any _ n xs _ RV.out).mono ?_; rintro e w1 ⟨rfl, b1⟩; have B1 := hid b1; clear b1)
    refine bodyPost_ret (v := .tuple #[.slice (some ⟨w1.heap.size, 0, none⟩) 0 0, .bool false]) (by simp [results, Try.results30, go_sem]) rfl ?_
    exact ⟨_, by rw [HN.out]; rfl, by rw [doL_none HN.out]; exact (own_none w1).low B1.out.size, B1.out.alloc B1.out.size _⟩
  cases d8 : decide (ms.length ≤ 8)
  · have HN := hid (show doR n xs ms = none by simp only [doR, g, d8]; rfl)
    clear h3
    go_enter Try.func30, Try.ntmps30
    go_wp2_with (first | (go_at_call 31; refine (specGrdOk_any _ n xs _ RV.out).mono ?_; rintro e w1 ⟨rfl, b1⟩; have B1 := hid b1; clear b1) | (go_at_call 27; refine (specMsg_any _ ms _ (RM.out.keep B1.out)).mono ?_; rintro e w2 ⟨rfl, rfl⟩))
    refine bodyPost_ret (v := .tuple #[.slice (some ⟨w2.heap.size, 0, none⟩) 0 0, .bool false]) (by simp [results, Try.results30, go_sem]) rfl ?_
    exact ⟨_, by rw [HN.out]; rfl, by rw [doL_none HN.out]; exact (own_none w2).low B1.out.size, B1.out.alloc B1.out.size _⟩
  have HF := hid (show doR n xs ms = (List.range n).find? (fitAt xs ms) by simp only [doR, g, d8]; rfl)
  have HR := hid (fun (i : Nat) (hi : i < n) => grdB_at g hi)
  go_enter Try.func30, Try.ntmps30
  go_wp2_with (first | (go_at_call 31; refine (specGrdOk_any _ n xs _ RV.out).mono ?_; rintro e w1 ⟨rfl, b1⟩; have B1 := hid b1; clear b1) | (go_at_call 27; refine (specMsg_any _ ms _ (RM.out.keep B1.out)).mono ?_; rintro e w2 ⟨rfl, rfl⟩))
  go_loopw [6] (fun i wr => ∃ k : Nat, k ≤ n ∧ i = .int .i64 k ∧ (∀ i, i < k → fitAt xs ms i = false) ∧ Below w.heap.size w wr) (fun i _ => n - (intOf i).toNat)
  case atStart => exact ⟨0, Nat.zero_le _, rfl, by omega, B1.out⟩
  case round =>
    obtain ⟨k, hk, rfl, hall, hB⟩ := hrel
    by_cases hlt : k < n
    · rcases h3 with rfl | ⟨b, off, rfl, hc⟩
      · omega
      have hkk : k * 7 + 7 ≤ n * 7 := by omega
      have hbl : b < w.heap.size := World.block_lt_of_cell? w ⟨b, off + 0, none⟩ (hc 0 (by omega))
      have HA := hid hall
      have HRK := hid (HR.out k hlt)
      have HFK : Hid (fitAt xs ms k = fitB (xs.getD (k * 7) 0) (xs.getD (k * 7 + 1) 0) (xs.getD (k * 7 + 2) 0) (xs.getD (k * 7 + 3) 0) (xs.getD (k * 7 + 4) 0) ms) := hid rfl
      have HTK : Hid (thrAt xs ms k = thr (xs.getD (k * 7 + 5) 0) (xs.getD (k * 7 + 6) 0) ms) := hid rfl
      have HRU : Hid (ruleB (xs.getD (k * 7) 0) (xs.getD (k * 7 + 1) 0) (xs.getD (k * 7 + 2) 0) (xs.getD (k * 7 + 3) 0) (xs.getD (k * 7 + 4) 0) (xs.getD (k * 7 + 5) 0) (xs.getD (k * 7 + 6) 0) = true) := hid HRK.out
      have HFD := hid (fun (h : fitAt xs ms k = true) => find_range hall h hlt)
      have r0 := cell_keep hB (hc (k * 7) (by omega))
      obtain ⟨y0, hy0⟩ : ∃ y, xs.getD (k * 7) 0 = y := ⟨_, rfl⟩
      rw [hy0] at r0
      have r1 := cell_keep hB (hc (k * 7 + 1) (by omega))
      obtain ⟨y1, hy1⟩ : ∃ y, xs.getD (k * 7 + 1) 0 = y := ⟨_, rfl⟩
      rw [hy1] at r1
      have r2 := cell_keep hB (hc (k * 7 + 2) (by omega))
      obtain ⟨y2, hy2⟩ : ∃ y, xs.getD (k * 7 + 2) 0 = y := ⟨_, rfl⟩
      rw [hy2] at r2
      have r3 := cell_keep hB (hc (k * 7 + 3) (by omega))
      obtain ⟨y3, hy3⟩ : ∃ y, xs.getD (k * 7 + 3) 0 = y := ⟨_, rfl⟩
      rw [hy3] at r3
      have r4 := cell_keep hB (hc (k * 7 + 4) (by omega))
      obtain ⟨y4, hy4⟩ : ∃ y, xs.getD (k * 7 + 4) 0 = y := ⟨_, rfl⟩
      rw [hy4] at r4
      have r5 := cell_keep hB (hc (k * 7 + 5) (by omega))
      obtain ⟨y5, hy5⟩ : ∃ y, xs.getD (k * 7 + 5) 0 = y := ⟨_, rfl⟩
      rw [hy5] at r5
      have r6 := cell_keep hB (hc (k * 7 + 6) (by omega))
      obtain ⟨y6, hy6⟩ : ∃ y, xs.getD (k * 7 + 6) 0 = y := ⟨_, rfl⟩
      rw [hy6] at r6
      simp only [hy0, hy1, hy2, hy3, hy4, hy5, hy6] at HFK HTK HRU
      rw [← Nat.add_assoc] at r1; rw [← Nat.add_assoc] at r2; rw [← Nat.add_assoc] at r3; rw [← Nat.add_assoc] at r4; rw [← Nat.add_assoc] at r5; rw [← Nat.add_assoc] at r6
      have HB := hid hB
      have hfe : fitsB y0 y1 y2 y3 y4 y5 y6 ms = fitB y0 y1 y2 y3 y4 ms := fitsB_yes HRU.out d8
      have HC := hid (rule_cut HRU.out)
      clear hc hB hall hy0 hy1 hy2 hy3 hy4 hy5 hy6
      cases c0 : fitB y0 y1 y2 y3 y4 ms
      · rw [c0] at hfe HFK
        go_wp2_with (go_at_call 51; refine (specFits_any y0 y1 y2 y3 y4 y5 y6 _ ms _ (RM.out.keep HB.out)).mono ?_; rintro e w3 ⟨rfl, b3⟩; have r0 := cell_keep b3 r0; have r1 := cell_keep b3 r1; have r2 := cell_keep b3 r2; have r3 := cell_keep b3 r3; have r4 := cell_keep b3 r4; have r5 := cell_keep b3 r5; have r6 := cell_keep b3 r6; have B3 := hid (HB.out.trans (b3.mono HB.out.size)); clear b3)
        go_roundw
        case rel => exact ⟨k + 1, by omega, by go_num, fun i hi => by
          rcases Nat.lt_succ_iff_lt_or_eq.1 hi with h | h
          · exact HA.out i h
          · rw [h]; exact HFK.out, B3.out⟩
        case measure => simp [intOf]; omega
      · rw [c0] at hfe HFK
        have HD := hid (show doR n xs ms = some k by rw [HF.out]; exact HFD.out HFK.out)
        have HL := hid ((doL_some HD.out).trans HTK.out)
        obtain ⟨C, hC⟩ := Int.eq_ofNat_of_zero_le HC.out.1
        have hC8 : C ≤ 8 := by have := HC.out.2; omega
        subst hC
        go_wp2_with (go_at_call 51; refine (specFits_any y0 y1 y2 y3 y4 y5 (C : Int) _ ms _ (RM.out.keep HB.out)).mono ?_; rintro e w3 ⟨rfl, b3⟩; have r0 := cell_keep b3 r0; have r1 := cell_keep b3 r1; have r2 := cell_keep b3 r2; have r3 := cell_keep b3 r3; have r4 := cell_keep b3 r4; have r5 := cell_keep b3 r5; have r6 := cell_keep b3 r6; have B3 := hid (HB.out.trans (b3.mono HB.out.size)); clear b3)
        refine (l2Copy_any _ ms _ (RM.out.keep B3.out)).mono ?_
        rintro e w4 ⟨u, rfl, o4, b4⟩
        obtain ⟨ua, uc, hu, hug⟩ := own_form o4
        subst hu
        have hcap := own_cap o4
        have r0 := cell_keep b4 r0
        have r1 := cell_keep b4 r1
        have r2 := cell_keep b4 r2
        have r3 := cell_keep b4 r3
        have r4 := cell_keep b4 r4
        have r5 := cell_keep b4 r5
        have r6 := cell_keep b4 r6
        have B4 := hid (B3.out.trans (b4.mono B3.out.size))
        have z3 := B3.out.size
        have O4 := hid o4
        clear b4 o4
        by_cases hz : 0 ≤ y5 ∧ y5 < ms.length
        · obtain ⟨Z, rfl⟩ := Int.eq_ofNat_of_zero_le hz.1
          have hzn : Z < ms.length := by omega
          have t0 : (0 : Int) ≤ (Z : Int) := by omega
          have t1 : (Z : Int) < (ms.length : Int) := by omega
          have t2 : decide ((Z : Int) < (ms.length : Int)) = true := by simpa using t1
          rcases hug with rfl | ⟨g', rfl⟩
          · simp at hzn
          obtain ⟨hcz, hfz, hgz, _⟩ := own_cell O4.out hzn
          have O5 := hid (own_set O4.out hzn (y := 0) (by omega) (by omega))
          have HLL := hid (show (ms.set Z 0).length = ms.length by simp)
          have HZ := hid (show zer (Z : Int) ms = ms.set Z 0 by simp [zer])
          have hgw : w.heap.size ≤ g' := by omega
          have B5 := hid (B4.out.setCell (p := ⟨g', Z, none⟩) hgw (.int .u8 0))
          have r6' := (World.cell?_setCell_other w4 ⟨g', Z, none⟩ ⟨b, off + k * 7 + 6, none⟩ (.int .u8 0) (by simp <;> omega)).trans r6
          generalize ms.getD Z 0 = X at hcz
          clear hz
          by_cases hcut : C < ms.length
          · have RX : Rd (w4.setCell ⟨g', Z, none⟩ (.int .u8 0)) (.slice (some ⟨g', 0, none⟩) (ms.set Z 0).length uc) (ms.set Z 0) := by rw [List.length_set]; exact O5.out.rd (by rw [List.length_set]; omega)
            have RT := hid (rd_takeI (n := C) RX (by rw [List.length_set]; omega))
            clear RX
            have d1 : decide ((C : Int) < (ms.length : Int)) = true := by simp; omega
            have h63 : (C : Int) ≤ (uc : Int) := by omega
            have h63' : C ≤ uc := by omega
            have HE := hid (show doL n xs ms = (ms.set Z 0).take C by rw [HL.out]; unfold thr; rw [HZ.out]; simp)
            go_wp2_with fail
            refine (l2Copy_any _ ((ms.set Z 0).take C) _ RT.out).mono ?_
            rintro e w6 ⟨u6, rfl, o6, b6⟩
            have B6 := hid (B5.out.trans (b6.mono B5.out.size))
            have O6 := hid (o6.low B5.out.size)
            clear o6 b6
            go_wp2
            refine bodyPost_ret (v := .tuple #[u6, .bool true]) (by simp [results, Try.results30, go_sem]) rfl ?_
            exact ⟨_, by rw [HD.out]; rfl, by rw [HE.out]; exact O6.out, B6.out⟩
          · have d1 : decide ((C : Int) < (ms.length : Int)) = false := by simp; omega
            have HE := hid (show doL n xs ms = ms.set Z 0 by rw [HL.out]; unfold thr; rw [HZ.out]; rw [List.take_of_length_le (by rw [List.length_set]; simp; omega)])
            go_wp2_with fail
            refine (l2Copy_any _ (ms.set Z 0) _ (O5.out.rd (by rw [List.length_set]; omega))).mono ?_
            rintro e w6 ⟨u6, rfl, o6, b6⟩
            have B6 := hid (B5.out.trans (b6.mono B5.out.size))
            have O6 := hid (o6.low B5.out.size)
            clear o6 b6
            go_wp2
            refine bodyPost_ret (v := .tuple #[u6, .bool true]) (by simp [results, Try.results30, go_sem]) rfl ?_
            exact ⟨_, by rw [HD.out]; rfl, by rw [HE.out]; exact O6.out, B6.out⟩
        · have HZ := hid (zer_off hz)
          by_cases hneg : 0 ≤ y5
          · have n1 : decide (0 ≤ y5) = true := by simpa using hneg
            have n2 : decide (y5 < (ms.length : Int)) = false := by simp; omega
            clear hz
            by_cases hcut : C < ms.length
            · have RX : Rd w4 (.slice ua (ms).length uc) (ms) := by exact O4.out.rd (by omega)
              have RT := hid (rd_takeI (n := C) RX (by omega))
              clear RX
              have d1 : decide ((C : Int) < (ms.length : Int)) = true := by simp; omega
              have h63 : (C : Int) ≤ (uc : Int) := by omega
              have h63' : C ≤ uc := by omega
              have HE := hid (show doL n xs ms = (ms).take C by rw [HL.out]; unfold thr; rw [HZ.out]; simp)
              go_wp2_with fail
              refine (l2Copy_any _ ((ms).take C) _ RT.out).mono ?_
              rintro e w6 ⟨u6, rfl, o6, b6⟩
              have B6 := hid (B4.out.trans (b6.mono B4.out.size))
              have O6 := hid (o6.low B4.out.size)
              clear o6 b6
              go_wp2
              refine bodyPost_ret (v := .tuple #[u6, .bool true]) (by simp [results, Try.results30, go_sem]) rfl ?_
              exact ⟨_, by rw [HD.out]; rfl, by rw [HE.out]; exact O6.out, B6.out⟩
            · have d1 : decide ((C : Int) < (ms.length : Int)) = false := by simp; omega
              have HE := hid (show doL n xs ms = ms by rw [HL.out]; unfold thr; rw [HZ.out]; rw [List.take_of_length_le (by simp; omega)])
              go_wp2_with fail
              refine (l2Copy_any _ (ms) _ (O4.out.rd (by omega))).mono ?_
              rintro e w6 ⟨u6, rfl, o6, b6⟩
              have B6 := hid (B4.out.trans (b6.mono B4.out.size))
              have O6 := hid (o6.low B4.out.size)
              clear o6 b6
              go_wp2
              refine bodyPost_ret (v := .tuple #[u6, .bool true]) (by simp [results, Try.results30, go_sem]) rfl ?_
              exact ⟨_, by rw [HD.out]; rfl, by rw [HE.out]; exact O6.out, B6.out⟩
          · have n1 : decide (0 ≤ y5) = false := by simpa using hneg
            clear hz
            by_cases hcut : C < ms.length
            · have RX : Rd w4 (.slice ua (ms).length uc) (ms) := by exact O4.out.rd (by omega)
              have RT := hid (rd_takeI (n := C) RX (by omega))
              clear RX
              have d1 : decide ((C : Int) < (ms.length : Int)) = true := by simp; omega
              have h63 : (C : Int) ≤ (uc : Int) := by omega
              have h63' : C ≤ uc := by omega
              have HE := hid (show doL n xs ms = (ms).take C by rw [HL.out]; unfold thr; rw [HZ.out]; simp)
              go_wp2_with fail
              refine (l2Copy_any _ ((ms).take C) _ RT.out).mono ?_
              rintro e w6 ⟨u6, rfl, o6, b6⟩
              have B6 := hid (B4.out.trans (b6.mono B4.out.size))
              have O6 := hid (o6.low B4.out.size)
              clear o6 b6
              go_wp2
              refine bodyPost_ret (v := .tuple #[u6, .bool true]) (by simp [results, Try.results30, go_sem]) rfl ?_
              exact ⟨_, by rw [HD.out]; rfl, by rw [HE.out]; exact O6.out, B6.out⟩
            · have d1 : decide ((C : Int) < (ms.length : Int)) = false := by simp; omega
              have HE := hid (show doL n xs ms = ms by rw [HL.out]; unfold thr; rw [HZ.out]; rw [List.take_of_length_le (by simp; omega)])
              go_wp2_with fail
              refine (l2Copy_any _ (ms) _ (O4.out.rd (by omega))).mono ?_
              rintro e w6 ⟨u6, rfl, o6, b6⟩
              have B6 := hid (B4.out.trans (b6.mono B4.out.size))
              have O6 := hid (o6.low B4.out.size)
              clear o6 b6
              go_wp2
              refine bodyPost_ret (v := .tuple #[u6, .bool true]) (by simp [results, Try.results30, go_sem]) rfl ?_
              exact ⟨_, by rw [HD.out]; rfl, by rw [HE.out]; exact O6.out, B6.out⟩
    · obtain rfl : k = n := by omega
      have HN := hid (show doR k xs ms = none by rw [HF.out]; exact find_none hall)
      have HB := hid hB
      clear h3 hB hall
      go_wp2
      refine bodyPost_ret (v := .tuple #[.slice (some ⟨wr.heap.size, 0, none⟩) 0 0, .bool false]) (by simp [results, Try.results30, go_sem]) rfl ?_
      exact ⟨_, by rw [HN.out]; rfl, by rw [doL_none HN.out]; exact (own_none wr).low HB.out.size, HB.out.alloc HB.out.size _⟩
end Go.Proofs.Ytlkmooefebenlaa
