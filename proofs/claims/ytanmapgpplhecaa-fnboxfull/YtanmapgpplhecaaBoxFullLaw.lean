/- A box that is full stays as it is: whatever is drawn, it takes a message just if it has room. No conditions. -/
import Derived.Test.YtanmapgpplhecaaBoxFullC
import Derived.Test.YtanmapgpplhecaaBoxFullD
import Derived.Test.YtanmapgpplhecaaBoxTakeC
import Derived.Test.YtanmapgpplhecaaBytMsg
namespace Go.Proofs.Ytanmapgpplhecaa
open Go.ChangeShapes Go.WideShapes Go.ChangeAt Go.RowKit Go.Joins Go.Deep
theorem cap_ofG {w : World} {a : Option Addr} {len cap : Nat} {zs : List Int} (h : IsRow .u8 w a len cap zs) : len ≤ cap := by
  rcases h with ⟨_, rfl, rfl, _⟩ | ⟨_, _, h1, _⟩
  · exact Nat.le_refl _
  · exact h1
theorem rdS_cell {w : World} {g n c : Nat} {I : List (List Int)} (h : RdS w (.slice (some ⟨g, 0, none⟩) n c) I) {i : Nat} (hi : i < I.length) : ∃ u, w.cell? ⟨g, i, none⟩ = some u ∧ Rd w u (I.getD i []) := by
  obtain ⟨_, a, cap, hv, h3⟩ := h
  rcases h3 with h3 | ⟨b, off, ha, hc⟩
  · rw [h3] at hi
    simp at hi
  · subst ha
    simp only [Value.slice.injEq, Option.some.injEq, Addr.mk.injEq] at hv
    obtain ⟨u, h1, h2⟩ := hc i hi
    refine ⟨u, ?_, h2⟩
    rw [← hv.1.1, ← hv.1.2.1, Nat.zero_add] at h1
    exact h1
theorem boxB_app {d : Int} {yss : List (List Int)} {ms : List Int} (h : boxB d yss = true) (hm : ms.length ≤ 8) (hl : (yss.length : Int) < d) : boxB d (yss ++ [ms]) = true := by
  obtain ⟨⟨h1, h2⟩, h3, h4⟩ := box_of h
  refine boxB_good (by simp [inB]; omega) (by simp; omega) ?_
  rw [List.all_eq_true]
  intro i hi
  have hi := List.mem_range.1 hi
  simpa using getD_app h4 hm i hi
end Go.Proofs.Ytanmapgpplhecaa
namespace Go.Proofs.Ytanmapgpplhecaa.fnBoxFull
open Go.ChangeShapes Go.WideShapes Go.ChangeAt Go.RowKit Go.Joins Go.Deep
set_option linter.unusedVariables false
set_option linter.unusedSimpArgs false
set_option maxRecDepth 4000
set_option maxHeartbeats 16000000 in
theorem walk (a0 : Option Addr) (len0 cap0 : Nat) (z0 : List Int) (w : World) (k0 : IsRow .u8 w a0 len0 cap0 z0) :
    Calls Try.prog 4 #[.slice a0 len0 cap0] w fun e w' => e = .returned (.bool true) ∧ Below w.heap.size w w' := by
  have m0 := k0.max
  by_cases hl0 : len0 ≤ 1048576
  · have hl0' : (len0 : Int) ≤ 1048576 := by omega
    obtain ⟨zs, hx0, r0⟩ := k0.rd hl0
    have hcp := cap_ofG k0
    have R0 := hid r0
    clear k0 r0 m0
    go_enter Try.func4, Try.ntmps4
    go_wp2_with fail
    refine (drawBoxPut_any a0 len0 cap0 zs _ hx0 R0.out hcp).mono ?_
    rintro e w1 ⟨d, a, cap, yss, ma, mc, ms, rfl, rv, hn20, h9, rm, hm9, b1⟩
    have RV := hid rv
    have RM := hid rm
    have PP := hid b1
    have N20 := hid hn20
    have H9 := hid h9
    have M9 := hid hm9
    clear rv rm b1 h9 R0 hx0 hcp hn20 hm9
    have RV := hid (RV.out.keep (below_alloc1 w1 (.cells #[.int .i64 d, .slice a yss.length cap] 25)))
    have RM := hid (RM.out.keep (below_alloc1 w1 (.cells #[.int .i64 d, .slice a yss.length cap] 25)))
    have PP := hid (PP.out.alloc PP.out.size (.cells #[.int .i64 d, .slice a yss.length cap] 25))
    have V3 := hid (vb_new w1 [.int .i64 d, .slice a yss.length cap] 25)
    have sw1 : (w1.alloc (.cells #[.int .i64 d, .slice a yss.length cap] 25)).heap.size = w1.heap.size + 1 := by simp
    obtain ⟨Ww1, hWw1⟩ : ∃ W, w1.alloc (.cells #[.int .i64 d, .slice a yss.length cap] 25) = W := ⟨_, rfl⟩
    rw [hWw1] at sw1 RV RM V3 PP
    clear sw1
    obtain ⟨x0a, x0b⟩ := vb2 V3.out
    go_wp2_with fail
    try rw [hWw1]
    clear hWw1
    clear x0a x0b
    cases hb : boxB d yss
    · have hb' := hb
      have EE := hid (p_no (d := d) (yss := yss) (ms := ms) (by simp [pOk, hb]))
      have HB := hid hb
      clear hb hb'
      refine (boxPut_any d _ _ yss ms _ RV.out RM.out).mono ?_
      rintro e w2 ⟨u5, f5, rfl, g5, b2⟩
      rw [EE.out.1, EE.out.2.2]
      rw [EE.out.2.1] at g5
      have rx := g5.rd (by simp) (fun i hi => by simp at hi)
      obtain ⟨ua5, uc5, rfl⟩ := g5.form
      rw [List.length_nil] at rx ⊢
      have RX := hid rx
      clear rx g5
      have RV := hid (RV.out.keep b2)
      have RM := hid (RM.out.keep b2)
      have V3 := hid (V3.out.keep b2)
      have PP := hid (PP.out.trans (b2.mono PP.out.size))
      clear b2
      have RV := hid (RV.out.keep (below_alloc1 w2 (.cells #[.int .i64 0, .slice ua5 0 uc5] 25)))
      have RM := hid (RM.out.keep (below_alloc1 w2 (.cells #[.int .i64 0, .slice ua5 0 uc5] 25)))
      have V3 := hid (V3.out.keep (below_alloc1 w2 (.cells #[.int .i64 0, .slice ua5 0 uc5] 25)))
      have RX := hid (RX.out.keep (below_alloc1 w2 (.cells #[.int .i64 0, .slice ua5 0 uc5] 25)))
      have PP := hid (PP.out.alloc PP.out.size (.cells #[.int .i64 0, .slice ua5 0 uc5] 25))
      have V5 := hid (vb_new w2 [.int .i64 0, .slice ua5 0 uc5] 25)
      have sw2 : (w2.alloc (.cells #[.int .i64 0, .slice ua5 0 uc5] 25)).heap.size = w2.heap.size + 1 := by simp
      obtain ⟨Ww2, hWw2⟩ : ∃ W, w2.alloc (.cells #[.int .i64 0, .slice ua5 0 uc5] 25) = W := ⟨_, rfl⟩
      rw [hWw2] at sw2 RV RM V3 RX V5 PP
      clear sw2
      obtain ⟨x0a, x0b⟩ := vb2 V3.out
      go_wp2_with fail
      try rw [hWw2]
      clear hWw2
      clear x0a x0b
      refine (specPut_any d _ _ yss ms _ RV.out RM.out).mono ?_
      rintro e w3 ⟨u7, rfl, r7, b3⟩
      rw [EE.out.1, EE.out.2.2]
      rw [EE.out.2.1] at r7
      obtain ⟨ua7, uc7, rfl⟩ : ∃ a c, u7 = .slice a ([]).length c := by obtain ⟨_, a, c, h, _⟩ := r7; exact ⟨a, c, h⟩
      rw [List.length_nil] at r7 ⊢
      have RW := hid r7
      clear r7
      have RV := hid (RV.out.keep b3)
      have RM := hid (RM.out.keep b3)
      have V3 := hid (V3.out.keep b3)
      have RX := hid (RX.out.keep b3)
      have V5 := hid (V5.out.keep b3)
      have PP := hid (PP.out.trans (b3.mono PP.out.size))
      clear b3
      have RV := hid (RV.out.keep (below_alloc1 w3 (.cells #[.int .i64 0, .slice ua7 0 uc7] 25)))
      have RM := hid (RM.out.keep (below_alloc1 w3 (.cells #[.int .i64 0, .slice ua7 0 uc7] 25)))
      have V3 := hid (V3.out.keep (below_alloc1 w3 (.cells #[.int .i64 0, .slice ua7 0 uc7] 25)))
      have RX := hid (RX.out.keep (below_alloc1 w3 (.cells #[.int .i64 0, .slice ua7 0 uc7] 25)))
      have V5 := hid (V5.out.keep (below_alloc1 w3 (.cells #[.int .i64 0, .slice ua7 0 uc7] 25)))
      have RW := hid (RW.out.keep (below_alloc1 w3 (.cells #[.int .i64 0, .slice ua7 0 uc7] 25)))
      have PP := hid (PP.out.alloc PP.out.size (.cells #[.int .i64 0, .slice ua7 0 uc7] 25))
      have V7 := hid (vb_new w3 [.int .i64 0, .slice ua7 0 uc7] 25)
      have sw3 : (w3.alloc (.cells #[.int .i64 0, .slice ua7 0 uc7] 25)).heap.size = w3.heap.size + 1 := by simp
      obtain ⟨Ww3, hWw3⟩ : ∃ W, w3.alloc (.cells #[.int .i64 0, .slice ua7 0 uc7] 25) = W := ⟨_, rfl⟩
      rw [hWw3] at sw3 RV RM V3 RX V5 RW V7 PP
      clear sw3
      obtain ⟨x0a, x0b⟩ := vb2 V5.out
      obtain ⟨x1a, x1b⟩ := vb2 V7.out
      go_wp2_with fail
      try rw [hWw3]
      clear hWw3
      clear x0a x0b x1a x1b
      refine (caBox_same 0 _ _ [] _ RX.out RW.out).mono ?_
      rintro e w4 ⟨rfl, b4⟩
      have RV := hid (RV.out.keep b4)
      have RM := hid (RM.out.keep b4)
      have V3 := hid (V3.out.keep b4)
      have RX := hid (RX.out.keep b4)
      have V5 := hid (V5.out.keep b4)
      have RW := hid (RW.out.keep b4)
      have V7 := hid (V7.out.keep b4)
      have PP := hid (PP.out.trans (b4.mono PP.out.size))
      clear b4
      clear RW V7
      obtain ⟨x0a, x0b⟩ := vb2 V3.out
      go_wp2_with fail
      clear x0a x0b
      refine (specBoxOk_any d _ yss _ RV.out).mono ?_
      rw [HB.out]
      rintro e w5 ⟨rfl, b5⟩
      have RV := hid (RV.out.keep b5)
      have RM := hid (RM.out.keep b5)
      have V3 := hid (V3.out.keep b5)
      have RX := hid (RX.out.keep b5)
      have V5 := hid (V5.out.keep b5)
      have PP := hid (PP.out.trans (b5.mono PP.out.size))
      clear b5
      go_wp2_with fail
      refine (boxNew_any 1 _).mono ?_
      rw [show newD 1 = 1 by decide]
      rintro e w7 ⟨rfl, b7⟩
      have RV := hid (RV.out.keep b7)
      have RM := hid (RM.out.keep b7)
      have V3 := hid (V3.out.keep b7)
      have RX := hid (RX.out.keep b7)
      have V5 := hid (V5.out.keep b7)
      have PP := hid (PP.out.trans (b7.mono PP.out.size))
      clear b7
      go_wp2_with fail
      refine (boxOk_any 1 _ [] _ (rdS_nil _)).mono ?_
      rw [show boxB 1 [] = true by decide]
      rintro e w8 ⟨rfl, b8⟩
      have RV := hid (RV.out.keep b8)
      have RM := hid (RM.out.keep b8)
      have V3 := hid (V3.out.keep b8)
      have RX := hid (RX.out.keep b8)
      have V5 := hid (V5.out.keep b8)
      have PP := hid (PP.out.trans (b8.mono PP.out.size))
      clear b8
      go_wp2
      go_ret
      exact ⟨rfl, PP.out⟩
    cases hm : decide (ms.length ≤ 8)
    · have HB := hid hb
      have EE := hid (p_no (d := d) (yss := yss) (ms := ms) (by simp [pOk, hm]))
      have HM := hid hm
      clear hb hm
      refine (boxPut_any d _ _ yss ms _ RV.out RM.out).mono ?_
      rintro e w2 ⟨u5, f5, rfl, g5, b2⟩
      rw [EE.out.1, EE.out.2.2]
      rw [EE.out.2.1] at g5
      have rx := g5.rd (by simp) (fun i hi => by simp at hi)
      obtain ⟨ua5, uc5, rfl⟩ := g5.form
      rw [List.length_nil] at rx ⊢
      have RX := hid rx
      clear rx g5
      have RV := hid (RV.out.keep b2)
      have RM := hid (RM.out.keep b2)
      have V3 := hid (V3.out.keep b2)
      have PP := hid (PP.out.trans (b2.mono PP.out.size))
      clear b2
      have RV := hid (RV.out.keep (below_alloc1 w2 (.cells #[.int .i64 0, .slice ua5 0 uc5] 25)))
      have RM := hid (RM.out.keep (below_alloc1 w2 (.cells #[.int .i64 0, .slice ua5 0 uc5] 25)))
      have V3 := hid (V3.out.keep (below_alloc1 w2 (.cells #[.int .i64 0, .slice ua5 0 uc5] 25)))
      have RX := hid (RX.out.keep (below_alloc1 w2 (.cells #[.int .i64 0, .slice ua5 0 uc5] 25)))
      have PP := hid (PP.out.alloc PP.out.size (.cells #[.int .i64 0, .slice ua5 0 uc5] 25))
      have V5 := hid (vb_new w2 [.int .i64 0, .slice ua5 0 uc5] 25)
      have sw2 : (w2.alloc (.cells #[.int .i64 0, .slice ua5 0 uc5] 25)).heap.size = w2.heap.size + 1 := by simp
      obtain ⟨Ww2, hWw2⟩ : ∃ W, w2.alloc (.cells #[.int .i64 0, .slice ua5 0 uc5] 25) = W := ⟨_, rfl⟩
      rw [hWw2] at sw2 RV RM V3 RX V5 PP
      clear sw2
      obtain ⟨x0a, x0b⟩ := vb2 V3.out
      go_wp2_with fail
      try rw [hWw2]
      clear hWw2
      clear x0a x0b
      refine (specPut_any d _ _ yss ms _ RV.out RM.out).mono ?_
      rintro e w3 ⟨u7, rfl, r7, b3⟩
      rw [EE.out.1, EE.out.2.2]
      rw [EE.out.2.1] at r7
      obtain ⟨ua7, uc7, rfl⟩ : ∃ a c, u7 = .slice a ([]).length c := by obtain ⟨_, a, c, h, _⟩ := r7; exact ⟨a, c, h⟩
      rw [List.length_nil] at r7 ⊢
      have RW := hid r7
      clear r7
      have RV := hid (RV.out.keep b3)
      have RM := hid (RM.out.keep b3)
      have V3 := hid (V3.out.keep b3)
      have RX := hid (RX.out.keep b3)
      have V5 := hid (V5.out.keep b3)
      have PP := hid (PP.out.trans (b3.mono PP.out.size))
      clear b3
      have RV := hid (RV.out.keep (below_alloc1 w3 (.cells #[.int .i64 0, .slice ua7 0 uc7] 25)))
      have RM := hid (RM.out.keep (below_alloc1 w3 (.cells #[.int .i64 0, .slice ua7 0 uc7] 25)))
      have V3 := hid (V3.out.keep (below_alloc1 w3 (.cells #[.int .i64 0, .slice ua7 0 uc7] 25)))
      have RX := hid (RX.out.keep (below_alloc1 w3 (.cells #[.int .i64 0, .slice ua7 0 uc7] 25)))
      have V5 := hid (V5.out.keep (below_alloc1 w3 (.cells #[.int .i64 0, .slice ua7 0 uc7] 25)))
      have RW := hid (RW.out.keep (below_alloc1 w3 (.cells #[.int .i64 0, .slice ua7 0 uc7] 25)))
      have PP := hid (PP.out.alloc PP.out.size (.cells #[.int .i64 0, .slice ua7 0 uc7] 25))
      have V7 := hid (vb_new w3 [.int .i64 0, .slice ua7 0 uc7] 25)
      have sw3 : (w3.alloc (.cells #[.int .i64 0, .slice ua7 0 uc7] 25)).heap.size = w3.heap.size + 1 := by simp
      obtain ⟨Ww3, hWw3⟩ : ∃ W, w3.alloc (.cells #[.int .i64 0, .slice ua7 0 uc7] 25) = W := ⟨_, rfl⟩
      rw [hWw3] at sw3 RV RM V3 RX V5 RW V7 PP
      clear sw3
      obtain ⟨x0a, x0b⟩ := vb2 V5.out
      obtain ⟨x1a, x1b⟩ := vb2 V7.out
      go_wp2_with fail
      try rw [hWw3]
      clear hWw3
      clear x0a x0b x1a x1b
      refine (caBox_same 0 _ _ [] _ RX.out RW.out).mono ?_
      rintro e w4 ⟨rfl, b4⟩
      have RV := hid (RV.out.keep b4)
      have RM := hid (RM.out.keep b4)
      have V3 := hid (V3.out.keep b4)
      have RX := hid (RX.out.keep b4)
      have V5 := hid (V5.out.keep b4)
      have RW := hid (RW.out.keep b4)
      have V7 := hid (V7.out.keep b4)
      have PP := hid (PP.out.trans (b4.mono PP.out.size))
      clear b4
      clear RW V7
      obtain ⟨x0a, x0b⟩ := vb2 V3.out
      go_wp2_with fail
      clear x0a x0b
      refine (specBoxOk_any d _ yss _ RV.out).mono ?_
      rw [HB.out]
      rintro e w5 ⟨rfl, b5⟩
      have RV := hid (RV.out.keep b5)
      have RM := hid (RM.out.keep b5)
      have V3 := hid (V3.out.keep b5)
      have RX := hid (RX.out.keep b5)
      have V5 := hid (V5.out.keep b5)
      have PP := hid (PP.out.trans (b5.mono PP.out.size))
      clear b5
      go_wp2_with fail
      refine (specMsg_any _ ms _ RM.out).mono ?_
      rw [HM.out]
      rintro e w6 ⟨rfl, rfl⟩
      go_wp2_with fail
      refine (boxNew_any 1 _).mono ?_
      rw [show newD 1 = 1 by decide]
      rintro e w7 ⟨rfl, b7⟩
      have RV := hid (RV.out.keep b7)
      have RM := hid (RM.out.keep b7)
      have V3 := hid (V3.out.keep b7)
      have RX := hid (RX.out.keep b7)
      have V5 := hid (V5.out.keep b7)
      have PP := hid (PP.out.trans (b7.mono PP.out.size))
      clear b7
      go_wp2_with fail
      refine (boxOk_any 1 _ [] _ (rdS_nil _)).mono ?_
      rw [show boxB 1 [] = true by decide]
      rintro e w8 ⟨rfl, b8⟩
      have RV := hid (RV.out.keep b8)
      have RM := hid (RM.out.keep b8)
      have V3 := hid (V3.out.keep b8)
      have RX := hid (RX.out.keep b8)
      have V5 := hid (V5.out.keep b8)
      have PP := hid (PP.out.trans (b8.mono PP.out.size))
      clear b8
      go_wp2
      go_ret
      exact ⟨rfl, PP.out⟩
    by_cases hl : (yss.length : Int) < d
    · have HB := hid hb
      have HM := hid hm
      have hm8 : ms.length ≤ 8 := by simpa using hm
      have hp : pOk d yss ms = true := by simp [pOk, hb, hm8]
      have BO := hid (box_of hb)
      have EE := hid (p_yes hp hl)
      have HBI := hid (boxB_app hb hm8 hl)
      have M8 := hid hm8
      clear hb hm hp hl hm8
      obtain ⟨n, hn⟩ : ∃ n, yss.length = n := ⟨_, rfl⟩
      have HN := hid hn
      obtain ⟨I, hI⟩ : ∃ I, yss ++ [ms] = I := ⟨_, rfl⟩
      have HIn := hid (show I.getD n [] = ms by rw [← hI, ← hn]; simp)
      have HIl := hid (show I.length = n + 1 by rw [← hI, ← hn]; simp)
      have HI8 := hid (show ∀ i, i < I.length → (I.getD i []).length ≤ 8 by rw [← hI]; exact (box_of HBI.out).2.2)
      obtain ⟨m, hm1⟩ : ∃ m, n + 1 = m := ⟨_, rfl⟩
      rw [hm1] at HIl
      have n20 : n ≤ 20 := by have := N20.out; omega
      have wm : IntKind.i64.wrap ((n : Int) + 1) = (m : Int) := by rw [IntKind.wrap_i64]; omega
      have i0 : (0 : Int) ≤ (n : Int) := by omega
      have i1 : (n : Int) < (m : Int) := by omega
      have i2 : (0 : Int) < (m : Int) := by omega
      have i3 : n < m := by omega
      have i4 : 0 < m := by omega
      rw [hI] at HBI EE
      have HD := hid hm1
      have TD := hid (show tD d I = d by simp [tD, HBI.out])
      have TB := hid (show tB d I = true by simp [tB, HBI.out]; have := HIl.out; omega)
      have TM := hid (show tM d I = I.getD 0 [] by simp [tM, HBI.out])
      have TI := hid (show (tI d I).length = n by simp [tI, HBI.out]; have := HIl.out; have := HD.out; omega)
      have TI8 := hid (show ∀ i, i < (tI d I).length → ((tI d I).getD i []).length ≤ 2000000 by intro i hi; have := HI8.out (1 + i) (by have := TI.out; have := HIl.out; omega); simp only [tI, HBI.out, if_true]; rw [List.getD_eq_getElem?_getD, List.getElem?_drop, ← List.getD_eq_getElem?_getD]; omega)
      clear hI hm1
      rw [hn] at RV V3 ⊢
      clear hn
      refine (boxPut_any d _ _ yss ms _ RV.out RM.out).mono ?_
      rintro e w2 ⟨u5, f5, rfl, g5, b2⟩
      rw [EE.out.1, EE.out.2.2]
      rw [EE.out.2.1] at g5
      obtain ⟨gx, rfl⟩ : ∃ gx, u5 = .slice (some ⟨gx, 0, none⟩) I.length I.length := by
        rcases g5 with ⟨_, h⟩ | ⟨g, h, _⟩
        · have := HIl.out; rw [h] at this; simp at this; omega
        · exact ⟨g, h⟩
      have rx := g5.rd (by have := HIl.out; have := HD.out; omega) (fun i hi => by have := HI8.out i hi; omega)
      rw [HIl.out] at rx ⊢
      have RX := hid rx
      clear rx g5
      have RV := hid (RV.out.keep b2)
      have RM := hid (RM.out.keep b2)
      have V3 := hid (V3.out.keep b2)
      have PP := hid (PP.out.trans (b2.mono PP.out.size))
      clear b2
      have RV := hid (RV.out.keep (below_alloc1 w2 (.cells #[.int .i64 d, .slice (some ⟨gx, 0, none⟩) m m] 25)))
      have RM := hid (RM.out.keep (below_alloc1 w2 (.cells #[.int .i64 d, .slice (some ⟨gx, 0, none⟩) m m] 25)))
      have V3 := hid (V3.out.keep (below_alloc1 w2 (.cells #[.int .i64 d, .slice (some ⟨gx, 0, none⟩) m m] 25)))
      have RX := hid (RX.out.keep (below_alloc1 w2 (.cells #[.int .i64 d, .slice (some ⟨gx, 0, none⟩) m m] 25)))
      have PP := hid (PP.out.alloc PP.out.size (.cells #[.int .i64 d, .slice (some ⟨gx, 0, none⟩) m m] 25))
      have V5 := hid (vb_new w2 [.int .i64 d, .slice (some ⟨gx, 0, none⟩) m m] 25)
      have sw2 : (w2.alloc (.cells #[.int .i64 d, .slice (some ⟨gx, 0, none⟩) m m] 25)).heap.size = w2.heap.size + 1 := by simp
      obtain ⟨Ww2, hWw2⟩ : ∃ W, w2.alloc (.cells #[.int .i64 d, .slice (some ⟨gx, 0, none⟩) m m] 25) = W := ⟨_, rfl⟩
      rw [hWw2] at sw2 RV RM V3 RX V5 PP
      clear sw2
      obtain ⟨x0a, x0b⟩ := vb2 V3.out
      go_wp2_with fail
      try rw [hWw2]
      clear hWw2
      clear x0a x0b
      refine (specPut_any d _ _ yss ms _ RV.out RM.out).mono ?_
      rintro e w3 ⟨u7, rfl, r7, b3⟩
      rw [EE.out.1, EE.out.2.2]
      rw [EE.out.2.1] at r7
      obtain ⟨ua7, uc7, rfl⟩ : ∃ a c, u7 = .slice a (I).length c := by obtain ⟨_, a, c, h, _⟩ := r7; exact ⟨a, c, h⟩
      rw [HIl.out] at r7 ⊢
      have RW := hid r7
      clear r7
      have RV := hid (RV.out.keep b3)
      have RM := hid (RM.out.keep b3)
      have V3 := hid (V3.out.keep b3)
      have RX := hid (RX.out.keep b3)
      have V5 := hid (V5.out.keep b3)
      have PP := hid (PP.out.trans (b3.mono PP.out.size))
      clear b3
      have RV := hid (RV.out.keep (below_alloc1 w3 (.cells #[.int .i64 d, .slice ua7 m uc7] 25)))
      have RM := hid (RM.out.keep (below_alloc1 w3 (.cells #[.int .i64 d, .slice ua7 m uc7] 25)))
      have V3 := hid (V3.out.keep (below_alloc1 w3 (.cells #[.int .i64 d, .slice ua7 m uc7] 25)))
      have RX := hid (RX.out.keep (below_alloc1 w3 (.cells #[.int .i64 d, .slice ua7 m uc7] 25)))
      have V5 := hid (V5.out.keep (below_alloc1 w3 (.cells #[.int .i64 d, .slice ua7 m uc7] 25)))
      have RW := hid (RW.out.keep (below_alloc1 w3 (.cells #[.int .i64 d, .slice ua7 m uc7] 25)))
      have PP := hid (PP.out.alloc PP.out.size (.cells #[.int .i64 d, .slice ua7 m uc7] 25))
      have V7 := hid (vb_new w3 [.int .i64 d, .slice ua7 m uc7] 25)
      have sw3 : (w3.alloc (.cells #[.int .i64 d, .slice ua7 m uc7] 25)).heap.size = w3.heap.size + 1 := by simp
      obtain ⟨Ww3, hWw3⟩ : ∃ W, w3.alloc (.cells #[.int .i64 d, .slice ua7 m uc7] 25) = W := ⟨_, rfl⟩
      rw [hWw3] at sw3 RV RM V3 RX V5 RW V7 PP
      clear sw3
      obtain ⟨x0a, x0b⟩ := vb2 V5.out
      obtain ⟨x1a, x1b⟩ := vb2 V7.out
      go_wp2_with fail
      try rw [hWw3]
      clear hWw3
      clear x0a x0b x1a x1b
      refine (caBox_same d _ _ I _ RX.out RW.out).mono ?_
      rintro e w4 ⟨rfl, b4⟩
      have RV := hid (RV.out.keep b4)
      have RM := hid (RM.out.keep b4)
      have V3 := hid (V3.out.keep b4)
      have RX := hid (RX.out.keep b4)
      have V5 := hid (V5.out.keep b4)
      have RW := hid (RW.out.keep b4)
      have V7 := hid (V7.out.keep b4)
      have PP := hid (PP.out.trans (b4.mono PP.out.size))
      clear b4
      clear RW V7
      obtain ⟨x0a, x0b⟩ := vb2 V3.out
      go_wp2_with fail
      clear x0a x0b
      refine (specBoxOk_any d _ yss _ RV.out).mono ?_
      rw [HB.out]
      rintro e w5 ⟨rfl, b5⟩
      have RV := hid (RV.out.keep b5)
      have RM := hid (RM.out.keep b5)
      have V3 := hid (V3.out.keep b5)
      have RX := hid (RX.out.keep b5)
      have V5 := hid (V5.out.keep b5)
      have PP := hid (PP.out.trans (b5.mono PP.out.size))
      clear b5
      go_wp2_with fail
      refine (specMsg_any _ ms _ RM.out).mono ?_
      rw [HM.out]
      rintro e w6 ⟨rfl, rfl⟩
      obtain ⟨x0a, x0b⟩ := vb2 V5.out
      go_wp2_with fail
      clear x0a x0b
      refine (boxTake_any d _ I _ RX.out).mono ?_
      rintro e w7 ⟨u9, f9, m9, rfl, g9, gm9, _, _, b7⟩
      rw [TD.out, TB.out]
      rw [TM.out] at gm9
      obtain ⟨ua9, uc9, rfl⟩ := g9.form
      obtain ⟨ma9, mc9, rfl, _⟩ := own_form gm9
      have RY := hid (g9.rd (by have := TI.out; omega) TI8.out)
      have RG := hid (gm9.rd (by have := HI8.out 0 (by have := HIl.out; omega); omega))
      rw [TI.out] at RY ⊢
      clear g9 gm9
      have RV := hid (RV.out.keep b7)
      have RM := hid (RM.out.keep b7)
      have V3 := hid (V3.out.keep b7)
      have RX := hid (RX.out.keep b7)
      have V5 := hid (V5.out.keep b7)
      have PP := hid (PP.out.trans (b7.mono PP.out.size))
      clear b7
      have RV := hid (RV.out.keep (below_alloc1 w7 (.cells #[.int .i64 d, .slice ua9 n uc9] 25)))
      have RM := hid (RM.out.keep (below_alloc1 w7 (.cells #[.int .i64 d, .slice ua9 n uc9] 25)))
      have V3 := hid (V3.out.keep (below_alloc1 w7 (.cells #[.int .i64 d, .slice ua9 n uc9] 25)))
      have RX := hid (RX.out.keep (below_alloc1 w7 (.cells #[.int .i64 d, .slice ua9 n uc9] 25)))
      have V5 := hid (V5.out.keep (below_alloc1 w7 (.cells #[.int .i64 d, .slice ua9 n uc9] 25)))
      have RY := hid (RY.out.keep (below_alloc1 w7 (.cells #[.int .i64 d, .slice ua9 n uc9] 25)))
      have RG := hid (RG.out.keep (below_alloc1 w7 (.cells #[.int .i64 d, .slice ua9 n uc9] 25)))
      have PP := hid (PP.out.alloc PP.out.size (.cells #[.int .i64 d, .slice ua9 n uc9] 25))
      have V9 := hid (vb_new w7 [.int .i64 d, .slice ua9 n uc9] 25)
      have sw7 : (w7.alloc (.cells #[.int .i64 d, .slice ua9 n uc9] 25)).heap.size = w7.heap.size + 1 := by simp
      obtain ⟨Ww7, hWw7⟩ : ∃ W, w7.alloc (.cells #[.int .i64 d, .slice ua9 n uc9] 25) = W := ⟨_, rfl⟩
      rw [hWw7] at sw7 RV RM V3 RX V5 RY RG V9 PP
      clear sw7
      obtain ⟨x0a, x0b⟩ := vb2 V5.out
      go_wp2_with fail
      try rw [hWw7]
      clear hWw7
      clear x0a x0b
      refine (boxOk_any d _ I _ RX.out).mono ?_
      rw [HBI.out]
      rintro e w8 ⟨rfl, b8⟩
      have RV := hid (RV.out.keep b8)
      have RM := hid (RM.out.keep b8)
      have V3 := hid (V3.out.keep b8)
      have RX := hid (RX.out.keep b8)
      have V5 := hid (V5.out.keep b8)
      have RY := hid (RY.out.keep b8)
      have RG := hid (RG.out.keep b8)
      have V9 := hid (V9.out.keep b8)
      have PP := hid (PP.out.trans (b8.mono PP.out.size))
      clear b8
      obtain ⟨un, hun, hrn⟩ := rdS_cell RX.out (i := n) (by have := HIl.out; omega)
      obtain ⟨uz, huz, hrz⟩ := rdS_cell RX.out (i := 0) (by have := HIl.out; omega)
      rw [HIn.out] at hrn
      have RN := hid hrn
      have RZ := hid hrz
      obtain ⟨_, _, pn, cn, rfl, _⟩ := hrn
      obtain ⟨_, _, pz, cz, rfl, _⟩ := hrz
      obtain ⟨x0a, x0b⟩ := vb2 V5.out
      obtain ⟨x1a, x1b⟩ := vb2 V3.out
      go_wp2_with fail
      clear x0a x0b x1a x1b
      refine (caBytes_same _ _ ms _ RN.out RM.out).mono ?_
      rintro e w9 ⟨rfl, rfl⟩
      obtain ⟨x0a, x0b⟩ := vb2 V5.out
      go_wp2_with fail
      clear x0a x0b
      refine (caBytes_same _ _ (I.getD 0 []) _ RG.out RZ.out).mono ?_
      rintro e w10 ⟨rfl, rfl⟩
      obtain ⟨x0a, x0b⟩ := vb2 V9.out
      obtain ⟨x1a, x1b⟩ := vb2 V3.out
      go_wp2
      go_ret
      exact ⟨rfl, PP.out⟩
    · have HB := hid hb
      have HM := hid hm
      have hm8 : ms.length ≤ 8 := by simpa using hm
      have hp : pOk d yss ms = true := by simp [pOk, hb, hm8]
      have BO := hid (box_of hb)
      have EE := hid (p_full hp hl)
      have he : (yss.length : Int) = d := by have := BO.out.2.1; omega
      have de : decide ((yss.length : Int) = d) = true := by simpa using he
      have de2 : ((yss.length : Int) == d) = true := by simpa using he
      clear hb hm hm8 hp hl he
      refine (boxPut_any d _ _ yss ms _ RV.out RM.out).mono ?_
      rintro e w2 ⟨u5, f5, rfl, g5, b2⟩
      rw [EE.out.1, EE.out.2.2]
      rw [EE.out.2.1] at g5
      have RX := hid (g5.rd (by have := N20.out; omega) (fun i hi => by have := H9.out i hi; omega))
      obtain ⟨ua5, uc5, rfl⟩ := g5.form
      clear g5
      have RV := hid (RV.out.keep b2)
      have RM := hid (RM.out.keep b2)
      have V3 := hid (V3.out.keep b2)
      have PP := hid (PP.out.trans (b2.mono PP.out.size))
      clear b2
      have RV := hid (RV.out.keep (below_alloc1 w2 (.cells #[.int .i64 d, .slice ua5 yss.length uc5] 25)))
      have RM := hid (RM.out.keep (below_alloc1 w2 (.cells #[.int .i64 d, .slice ua5 yss.length uc5] 25)))
      have V3 := hid (V3.out.keep (below_alloc1 w2 (.cells #[.int .i64 d, .slice ua5 yss.length uc5] 25)))
      have RX := hid (RX.out.keep (below_alloc1 w2 (.cells #[.int .i64 d, .slice ua5 yss.length uc5] 25)))
      have PP := hid (PP.out.alloc PP.out.size (.cells #[.int .i64 d, .slice ua5 yss.length uc5] 25))
      have V5 := hid (vb_new w2 [.int .i64 d, .slice ua5 yss.length uc5] 25)
      have sw2 : (w2.alloc (.cells #[.int .i64 d, .slice ua5 yss.length uc5] 25)).heap.size = w2.heap.size + 1 := by simp
      obtain ⟨Ww2, hWw2⟩ : ∃ W, w2.alloc (.cells #[.int .i64 d, .slice ua5 yss.length uc5] 25) = W := ⟨_, rfl⟩
      rw [hWw2] at sw2 RV RM V3 RX V5 PP
      clear sw2
      obtain ⟨x0a, x0b⟩ := vb2 V3.out
      go_wp2_with fail
      try rw [hWw2]
      clear hWw2
      clear x0a x0b
      refine (specPut_any d _ _ yss ms _ RV.out RM.out).mono ?_
      rintro e w3 ⟨u7, rfl, r7, b3⟩
      rw [EE.out.1, EE.out.2.2]
      rw [EE.out.2.1] at r7
      obtain ⟨ua7, uc7, rfl⟩ : ∃ a c, u7 = .slice a (yss).length c := by obtain ⟨_, a, c, h, _⟩ := r7; exact ⟨a, c, h⟩
      have RW := hid r7
      clear r7
      have RV := hid (RV.out.keep b3)
      have RM := hid (RM.out.keep b3)
      have V3 := hid (V3.out.keep b3)
      have RX := hid (RX.out.keep b3)
      have V5 := hid (V5.out.keep b3)
      have PP := hid (PP.out.trans (b3.mono PP.out.size))
      clear b3
      have RV := hid (RV.out.keep (below_alloc1 w3 (.cells #[.int .i64 d, .slice ua7 yss.length uc7] 25)))
      have RM := hid (RM.out.keep (below_alloc1 w3 (.cells #[.int .i64 d, .slice ua7 yss.length uc7] 25)))
      have V3 := hid (V3.out.keep (below_alloc1 w3 (.cells #[.int .i64 d, .slice ua7 yss.length uc7] 25)))
      have RX := hid (RX.out.keep (below_alloc1 w3 (.cells #[.int .i64 d, .slice ua7 yss.length uc7] 25)))
      have V5 := hid (V5.out.keep (below_alloc1 w3 (.cells #[.int .i64 d, .slice ua7 yss.length uc7] 25)))
      have RW := hid (RW.out.keep (below_alloc1 w3 (.cells #[.int .i64 d, .slice ua7 yss.length uc7] 25)))
      have PP := hid (PP.out.alloc PP.out.size (.cells #[.int .i64 d, .slice ua7 yss.length uc7] 25))
      have V7 := hid (vb_new w3 [.int .i64 d, .slice ua7 yss.length uc7] 25)
      have sw3 : (w3.alloc (.cells #[.int .i64 d, .slice ua7 yss.length uc7] 25)).heap.size = w3.heap.size + 1 := by simp
      obtain ⟨Ww3, hWw3⟩ : ∃ W, w3.alloc (.cells #[.int .i64 d, .slice ua7 yss.length uc7] 25) = W := ⟨_, rfl⟩
      rw [hWw3] at sw3 RV RM V3 RX V5 RW V7 PP
      clear sw3
      obtain ⟨x0a, x0b⟩ := vb2 V5.out
      obtain ⟨x1a, x1b⟩ := vb2 V7.out
      go_wp2_with fail
      try rw [hWw3]
      clear hWw3
      clear x0a x0b x1a x1b
      refine (caBox_same d _ _ yss _ RX.out RW.out).mono ?_
      rintro e w4 ⟨rfl, b4⟩
      have RV := hid (RV.out.keep b4)
      have RM := hid (RM.out.keep b4)
      have V3 := hid (V3.out.keep b4)
      have RX := hid (RX.out.keep b4)
      have V5 := hid (V5.out.keep b4)
      have RW := hid (RW.out.keep b4)
      have V7 := hid (V7.out.keep b4)
      have PP := hid (PP.out.trans (b4.mono PP.out.size))
      clear b4
      clear RW V7
      obtain ⟨x0a, x0b⟩ := vb2 V3.out
      go_wp2_with fail
      clear x0a x0b
      refine (specBoxOk_any d _ yss _ RV.out).mono ?_
      rw [HB.out]
      rintro e w5 ⟨rfl, b5⟩
      have RV := hid (RV.out.keep b5)
      have RM := hid (RM.out.keep b5)
      have V3 := hid (V3.out.keep b5)
      have RX := hid (RX.out.keep b5)
      have V5 := hid (V5.out.keep b5)
      have PP := hid (PP.out.trans (b5.mono PP.out.size))
      clear b5
      go_wp2_with fail
      refine (specMsg_any _ ms _ RM.out).mono ?_
      rw [HM.out]
      rintro e w6 ⟨rfl, rfl⟩
      obtain ⟨x0a, x0b⟩ := vb2 V3.out
      obtain ⟨x1a, x1b⟩ := vb2 V5.out
      go_wp2_with fail
      clear x0a x0b x1a x1b
      refine (caBox_same d _ _ yss _ RX.out RV.out).mono ?_
      rintro e w7 ⟨rfl, b7⟩
      have RV := hid (RV.out.keep b7)
      have RM := hid (RM.out.keep b7)
      have V3 := hid (V3.out.keep b7)
      have RX := hid (RX.out.keep b7)
      have V5 := hid (V5.out.keep b7)
      have PP := hid (PP.out.trans (b7.mono PP.out.size))
      clear b7
      go_wp2
      go_ret
      exact ⟨rfl, PP.out⟩
  · have hl0' : (1048576 : Int) < (len0 : Int) := by omega
    clear k0
    go_enter Try.func4, Try.ntmps4
    go_wp2
    go_ret
    exact ⟨rfl, Below.refl _ _⟩
theorem own : ownKnob Try.prog.godebug = none := by kernel_rfl
theorem laidOut : laidOutB Try.prog = true := by kernel_rfl
set_option maxRecDepth 100000 in
theorem lifted (os : Os) (started : os.Started) (H : Type) (enc : TypeId × Value → H) :
    ReturnsInHanded {} Try.checked os 4 .any (Rows.fnBoxFullSpec.pre6 enc Try.prog Try.f4 Rows.fnBoxFullRow.domain false) (Rows.fnBoxFullSpec.post enc Try.prog Try.f4 false true false false) := by
  refine returnsInHanded_of_change (C := Try.checked) own started (by kernel_rfl) Try.func4
    (ChangeSpec.witness6 (enc := enc) (C := Try.checked) false ⟨#[], #[.slice none 0 0], []⟩ 8 (by kernel_rfl) (by kernel_rfl) (by kernel_rfl) (by kernel_rfl)) ?_
  intro W base args ds gs before hval0 hW hcnd _
  have hval : ∀ (j : Nat) t v, Try.f4.params[j]? = some t → args[j]? = some v → Value.okWide Try.prog W .any base t v := hval0
  have hW' := hW
  obtain ⟨p, q, hA0, hV, rfl, hfz, hnd⟩ := hW
  have hA : DataW.TrodAll enc Try.prog W 0 (fun _ => true) true Try.f4.params.toList args.toList ds p := hA0
  rw [Try.params4] at hA hval
  obtain ⟨v0, vs0, d0, ds0, p0, q0, hargs, rfl, rfl, h0, r0⟩ := trodAll_cons hA
  obtain ⟨rfl, rfl, rfl⟩ := trodAll_nil r0
  obtain rfl : args = #[v0] := by cases args; simp_all
  obtain ⟨rfl, rfl⟩ := trodVars_none hV
  obtain ⟨a0, len0, cap0, rfl⟩ := okWide_slice Try.underlying22 (hval 0 22 v0 rfl rfl)
  have k0 := h0
  have lt0 : ∀ x ∈ p0, x.block < W.heap.size := by obtain ⟨m, hm⟩ := k0; exact DataW.trod_lt m _ _ _ hm
  obtain ⟨z0, w0⟩ : ∃ zs, IsRow .u8 W a0 len0 cap0 zs := by
    obtain ⟨fuel, hf⟩ := h0
    rcases open_ints Try.underlying22 Try.underlying5 (by kernel_rfl) hf with ⟨hcs, _⟩ | ⟨x, l, c, zs, hcs, _, hl, hm, hz, _, hcell, hwz⟩
    · simp [Value.cells] at hcs
      obtain ⟨rfl, rfl, rfl⟩ := hcs
      exact ⟨[], .inl ⟨rfl, rfl, rfl, rfl⟩⟩
    · simp [Value.cells] at hcs
      obtain ⟨rfl, rfl, rfl⟩ := hcs
      exact ⟨zs, .inr ⟨_, rfl, hl, hm, by simpa using hz, hcell, hwz⟩⟩
  clear hA0 hval0
  refine (walk a0 len0 cap0 z0 W w0).mono fun e W' ⟨he, bel⟩ => ?_
  subst he
  exact ⟨_, rfl, _, _, _, [], _, [], hW', trodAll_mk1 (shut_bool Try.underlying4 _), (trodAll_cons_mk (Below.trod laidOut (by kernel_rfl) (of_decide_eq_true (by kernel_rfl)) k0 bel lt0) trodAll_mk0), rfl, bel.frame _, fun h => by cases h⟩

theorem over : Rows.fnBoxFullRow.holds Try.pinned (OpenSpec.ofChange Rows.fnBoxFullSpec) :=
  OpenClaim.holds_of_wide 4 Try.f4 rfl rfl rfl rfl rfl rfl rfl ⟨rfl, rfl, rfl, rfl, rfl⟩ rfl rfl rfl rfl rfl (by kernel_rfl) Try.func4 (by kernel_rfl)
    (of_decide_eq_true (by kernel_rfl)) (by unfold Func.isWrapper; first | (rw [if_pos (by decide +kernel)]; kernel_rfl) | (rw [if_neg (by decide +kernel)]; exact ⟨rfl, rfl⟩))
    (fun os started H enc _ => lifted os started H enc)

end Go.Proofs.Ytanmapgpplhecaa.fnBoxFull
namespace Go.Proofs.Ytanmapgpplhecaa
theorem fnBoxFull_holds : Rows.FnBoxFullSaid := fnBoxFull.over
#print axioms fnBoxFull_holds
end Go.Proofs.Ytanmapgpplhecaa
