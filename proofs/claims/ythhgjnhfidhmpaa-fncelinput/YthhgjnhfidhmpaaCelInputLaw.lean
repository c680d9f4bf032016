/- A byte to read waits in order: whatever is drawn, it comes behind those that wait, if there is room; nothing else of the cell is changed. No conditions. -/
import Derived.Test.YthhgjnhfidhmpaaDrawCelIn
import Derived.Test.YthhgjnhfidhmpaaCaCell
import Derived.Test.YthhgjnhfidhmpaaCelInS
import Derived.Test.YthhgjnhfidhmpaaCelNewC
import Derived.Test.YthhgjnhfidhmpaaRegAp
namespace Go.Proofs.Ythhgjnhfidhmpaa
open Go.ChangeShapes Go.WideShapes Go.ChangeAt Go.RowKit Go.Joins Go.Deep
theorem cap_ofC {w : World} {a : Option Addr} {len cap : Nat} {zs : List Int} (h : IsRow .u8 w a len cap zs) : len ≤ cap := by
  rcases h with ⟨_, rfl, rfl, _⟩ | ⟨_, _, h1, _⟩
  · exact Nat.le_refl _
  · exact h1
theorem ldS {b : Nat} {x y z t : Value} (w : World) (h0 : w.cell? ⟨b, 0, none⟩ = some x) (h1 : w.cell? ⟨b, 1, none⟩ = some y) (h2 : w.cell? ⟨b, 2, none⟩ = some z) (h3 : w.cell? ⟨b, 3, none⟩ = some t) : (Instr.loadAt 25 (.pointer (some ⟨b, 0, none⟩))).run Try.prog w = .ok (.agg #[x, y, z, t]) w := by
  go_simp
theorem ldSl {b k : Nat} {x : Value} (w : World) (h0 : w.cell? ⟨b, k, none⟩ = some x) : (Instr.loadAt 22 (.pointer (some ⟨b, k, none⟩))).run Try.prog w = .ok x w := by
  go_simp
theorem inPost_bad {pc ht n : Int} {xs ys bs : List Int} {w w' : World} {e : Ending} (h : CelInPost false pc ht xs ys bs n w e w') : ∃ u1 v1 i1, e = .returned (.tuple #[.agg #[.int .i64 0, u1, v1, .int .i64 0, i1], .bool false]) ∧ RdI 1 w' u1 0 [] ∧ RdI 1 w' v1 0 [] ∧ Rd w' i1 [] ∧ Below w.heap.size w w' := by
  obtain ⟨u1, v1, i1, he, cl, b⟩ := h
  exact ⟨u1, v1, i1, he, cl.1.rd (by simp), cl.2.1.rd (by simp), cl.2.2.1.rd (by simp), b⟩
theorem inPost_full {pc ht n : Int} {xs ys bs : List Int} {w w' : World} {e : Ending} (hb : ¬ bs.length < 6) (hb7 : bs.length ≤ 7) (h : CelInPost true pc ht xs ys bs n w e w') : ∃ u1 v1 i1, e = .returned (.tuple #[.agg #[.int .i64 pc, u1, v1, .int .i64 ht, i1], .bool false]) ∧ RdI 1 w' u1 4 xs ∧ RdI 1 w' v1 8 ys ∧ Rd w' i1 bs ∧ Below w.heap.size w w' := by
  obtain ⟨u1, v1, i1, he, cl, b⟩ := h
  simp only [hb, if_false, if_true, decide_false, Bool.and_false] at he cl
  exact ⟨u1, v1, i1, he, cl.1.rd (by simp), cl.2.1.rd (by simp), cl.2.2.1.rd (by omega), b⟩
theorem inPost_room {pc ht n : Int} {xs ys bs : List Int} {w w' : World} {e : Ending} (hb : bs.length < 6) {I : List Int} (hI : bs ++ [n] = I) (h : CelInPost true pc ht xs ys bs n w e w') : ∃ u1 v1 i1, e = .returned (.tuple #[.agg #[.int .i64 pc, u1, v1, .int .i64 ht, i1], .bool true]) ∧ RdI 1 w' u1 4 xs ∧ RdI 1 w' v1 8 ys ∧ Rd w' i1 I ∧ Below w.heap.size w w' := by
  subst hI
  obtain ⟨u1, v1, i1, he, cl, b⟩ := h
  simp only [hb, if_true, decide_true, Bool.and_true] at he cl
  exact ⟨u1, v1, i1, he, cl.1.rd (by simp), cl.2.1.rd (by simp), cl.2.2.1.rd (by simp; omega), b⟩
theorem n_big {b : Bool} {n : Int} (h : (b && inB n 0 255) = false) (hb : b = true) (hn : ¬ n < 0) : decide (255 < n) = true := by
  subst hb
  simp [inB] at h
  simp
  omega
theorem cel_of {pc ht : Int} {nr nm : Nat} {xs ys bs : List Int} (h : celB pc nr xs nm ys ht bs = true) : nm = 8 ∧ bs.length ≤ 6 := by
  simp [celB, vmB] at h
  exact ⟨by simpa using h.1.2.2.2.1, h.2⟩
end Go.Proofs.Ythhgjnhfidhmpaa
namespace Go.Proofs.Ythhgjnhfidhmpaa.fnCelInput
open Go.ChangeShapes Go.WideShapes Go.ChangeAt Go.RowKit Go.Joins Go.Deep
set_option linter.unusedVariables false
set_option linter.unusedSimpArgs false
set_option maxRecDepth 4000
set_option maxHeartbeats 16000000 in
theorem walk (a0 : Option Addr) (len0 cap0 : Nat) (z0 : List Int) (w : World) (k0 : IsRow .u8 w a0 len0 cap0 z0) :
    Calls Try.prog 3 #[.slice a0 len0 cap0] w fun e w' => e = .returned (.bool true) ∧ Below w.heap.size w w' := by
  have m0 := k0.max
  by_cases hl0 : len0 ≤ 1048576
  · have hl0' : (len0 : Int) ≤ 1048576 := by omega
    obtain ⟨zs, hx0, r0⟩ := k0.rd hl0
    have hcp := cap_ofC k0
    have R0 := hid r0
    clear k0 r0 m0
    go_enter Try.func3, Try.ntmps3
    go_wp2_with fail
    refine (drawCelInput_any a0 len0 cap0 zs _ hx0 R0.out hcp).mono ?_
    rintro e w1 ⟨pc, ht, n, u, v, i, m, xs, ys, bs, rfl, ru, rv, hm9, ri, hb7, b1⟩
    have RU := hid ru
    have RV := hid rv
    have RI := hid ri
    obtain ⟨_, _, a1, c1, rfl, _⟩ := ru
    obtain ⟨_, _, a2, c2, rfl, _⟩ := rv
    obtain ⟨_, _, a3, c3, rfl, _⟩ := ri
    have PP := hid b1
    clear b1 R0 hx0 hcp
    have Aw1 := below_alloc1 w1 (.cells #[.int .i64 pc, .slice a1 4 c1, .slice a2 m c2, .int .i64 ht, .slice a3 bs.length c3] 27)
    replace RU := hid (RU.out.keep Aw1)
    replace RV := hid (RV.out.keep Aw1)
    replace RI := hid (RI.out.keep Aw1)
    replace PP := hid (PP.out.trans (Aw1.mono PP.out.size))
    have V3 := hid (vb_new w1 [.int .i64 pc, .slice a1 4 c1, .slice a2 m c2, .int .i64 ht, .slice a3 bs.length c3] 27)
    have sw1 : (w1.alloc (.cells #[.int .i64 pc, .slice a1 4 c1, .slice a2 m c2, .int .i64 ht, .slice a3 bs.length c3] 27)).heap.size = w1.heap.size + 1 := by simp
    obtain ⟨Ww1, hWw1⟩ : ∃ W, w1.alloc (.cells #[.int .i64 pc, .slice a1 4 c1, .slice a2 m c2, .int .i64 ht, .slice a3 bs.length c3] 27) = W := ⟨_, rfl⟩
    rw [hWw1] at sw1 RU RV RI V3 PP
    clear Aw1 sw1
    obtain ⟨q0a, q0b, q0c, q0d, q0e⟩ := vb5 V3.out
    go_wp2_with fail
    try rw [hWw1]
    clear hWw1
    clear q0a q0b q0c q0d q0e
    cases hok : (celB pc 4 xs m ys ht bs && inB n 0 255)
    · cases hc : celB pc 4 xs m ys ht bs
      · have HOK := hid hok
        have HC := hid hc
        clear hok hc
        refine (celIn_any pc ht n _ _ _ 4 m xs ys bs _ RU.out RV.out RI.out).mono ?_
        rw [HOK.out]
        intro e w2 h
        obtain ⟨x5, y5, z5, rfl, rx, ry, rz, bb⟩ := inPost_bad h
        clear h
        have X5 := hid rx
        have Y5 := hid ry
        have Z5 := hid rz
        obtain ⟨_, _, xa5, xc5, rfl, _⟩ := rx
        obtain ⟨_, _, ya5, yc5, rfl, _⟩ := ry
        obtain ⟨_, _, za5, zc5, rfl, _⟩ := rz
        replace RU := hid (RU.out.keep bb)
        replace RV := hid (RV.out.keep bb)
        replace RI := hid (RI.out.keep bb)
        replace V3 := hid (V3.out.keep bb)
        replace PP := hid (PP.out.trans (bb.mono PP.out.size))
        clear bb
        have Aw2 := below_alloc1 w2 (.cells #[.int .i64 0, .slice xa5 0 xc5, .slice ya5 0 yc5, .int .i64 0, .slice za5 0 zc5] 27)
        replace RU := hid (RU.out.keep Aw2)
        replace RV := hid (RV.out.keep Aw2)
        replace RI := hid (RI.out.keep Aw2)
        replace V3 := hid (V3.out.keep Aw2)
        replace X5 := hid (X5.out.keep Aw2)
        replace Y5 := hid (Y5.out.keep Aw2)
        replace Z5 := hid (Z5.out.keep Aw2)
        replace PP := hid (PP.out.trans (Aw2.mono PP.out.size))
        have V5 := hid (vb_new w2 [.int .i64 0, .slice xa5 0 xc5, .slice ya5 0 yc5, .int .i64 0, .slice za5 0 zc5] 27)
        have sw2 : (w2.alloc (.cells #[.int .i64 0, .slice xa5 0 xc5, .slice ya5 0 yc5, .int .i64 0, .slice za5 0 zc5] 27)).heap.size = w2.heap.size + 1 := by simp
        obtain ⟨Ww2, hWw2⟩ : ∃ W, w2.alloc (.cells #[.int .i64 0, .slice xa5 0 xc5, .slice ya5 0 yc5, .int .i64 0, .slice za5 0 zc5] 27) = W := ⟨_, rfl⟩
        rw [hWw2] at sw2 RU RV RI V3 X5 Y5 Z5 V5 PP
        clear Aw2 sw2
        obtain ⟨q0a, q0b, q0c, q0d, q0e⟩ := vb5 V3.out
        go_wp2_with fail
        try rw [hWw2]
        clear hWw2
        clear q0a q0b q0c q0d q0e
        refine (specCelIn_any pc ht n _ _ _ 4 m xs ys bs _ RU.out RV.out RI.out).mono ?_
        rw [HOK.out]
        intro e w3 h
        obtain ⟨x7, y7, z7, rfl, rx, ry, rz, bb⟩ := inPost_bad h
        clear h
        have X7 := hid rx
        have Y7 := hid ry
        have Z7 := hid rz
        obtain ⟨_, _, xa7, xc7, rfl, _⟩ := rx
        obtain ⟨_, _, ya7, yc7, rfl, _⟩ := ry
        obtain ⟨_, _, za7, zc7, rfl, _⟩ := rz
        replace RU := hid (RU.out.keep bb)
        replace RV := hid (RV.out.keep bb)
        replace RI := hid (RI.out.keep bb)
        replace V3 := hid (V3.out.keep bb)
        replace X5 := hid (X5.out.keep bb)
        replace Y5 := hid (Y5.out.keep bb)
        replace Z5 := hid (Z5.out.keep bb)
        replace V5 := hid (V5.out.keep bb)
        replace PP := hid (PP.out.trans (bb.mono PP.out.size))
        clear bb
        have Aw3 := below_alloc1 w3 (.cells #[.int .i64 0, .slice xa7 0 xc7, .slice ya7 0 yc7, .int .i64 0, .slice za7 0 zc7] 27)
        replace RU := hid (RU.out.keep Aw3)
        replace RV := hid (RV.out.keep Aw3)
        replace RI := hid (RI.out.keep Aw3)
        replace V3 := hid (V3.out.keep Aw3)
        replace X5 := hid (X5.out.keep Aw3)
        replace Y5 := hid (Y5.out.keep Aw3)
        replace Z5 := hid (Z5.out.keep Aw3)
        replace V5 := hid (V5.out.keep Aw3)
        replace X7 := hid (X7.out.keep Aw3)
        replace Y7 := hid (Y7.out.keep Aw3)
        replace Z7 := hid (Z7.out.keep Aw3)
        replace PP := hid (PP.out.trans (Aw3.mono PP.out.size))
        have V7 := hid (vb_new w3 [.int .i64 0, .slice xa7 0 xc7, .slice ya7 0 yc7, .int .i64 0, .slice za7 0 zc7] 27)
        have sw3 : (w3.alloc (.cells #[.int .i64 0, .slice xa7 0 xc7, .slice ya7 0 yc7, .int .i64 0, .slice za7 0 zc7] 27)).heap.size = w3.heap.size + 1 := by simp
        obtain ⟨Ww3, hWw3⟩ : ∃ W, w3.alloc (.cells #[.int .i64 0, .slice xa7 0 xc7, .slice ya7 0 yc7, .int .i64 0, .slice za7 0 zc7] 27) = W := ⟨_, rfl⟩
        rw [hWw3] at sw3 RU RV RI V3 X5 Y5 Z5 V5 X7 Y7 Z7 V7 PP
        clear Aw3 sw3
        obtain ⟨q0a, q0b, q0c, q0d, q0e⟩ := vb5 V5.out
        obtain ⟨q1a, q1b, q1c, q1d, q1e⟩ := vb5 V7.out
        go_wp2_with fail
        try rw [hWw3]
        clear hWw3
        clear q0a q0b q0c q0d q0e q1a q1b q1c q1d q1e
        refine (caCell_same 0 0 _ _ _ _ _ _ 0 0 [] [] [] _ X5.out Y5.out Z5.out X7.out Y7.out Z7.out).mono ?_
        rintro e w4 ⟨rfl, bb⟩
        replace RU := hid (RU.out.keep bb)
        replace RV := hid (RV.out.keep bb)
        replace RI := hid (RI.out.keep bb)
        replace V3 := hid (V3.out.keep bb)
        replace X5 := hid (X5.out.keep bb)
        replace Y5 := hid (Y5.out.keep bb)
        replace Z5 := hid (Z5.out.keep bb)
        replace V5 := hid (V5.out.keep bb)
        replace X7 := hid (X7.out.keep bb)
        replace Y7 := hid (Y7.out.keep bb)
        replace Z7 := hid (Z7.out.keep bb)
        replace V7 := hid (V7.out.keep bb)
        replace PP := hid (PP.out.trans (bb.mono PP.out.size))
        clear bb
        clear X7 Y7 Z7 V7
        obtain ⟨q0a, q0b, q0c, q0d, q0e⟩ := vb5 V3.out
        go_wp2_with fail
        clear q0a q0b q0c q0d q0e
        refine (specCelOk_any pc ht _ _ _ 4 m xs ys bs _ RU.out RV.out RI.out).mono ?_
        rw [HC.out]
        rintro e w5 ⟨rfl, bb⟩
        replace RU := hid (RU.out.keep bb)
        replace RV := hid (RV.out.keep bb)
        replace RI := hid (RI.out.keep bb)
        replace V3 := hid (V3.out.keep bb)
        replace X5 := hid (X5.out.keep bb)
        replace Y5 := hid (Y5.out.keep bb)
        replace Z5 := hid (Z5.out.keep bb)
        replace V5 := hid (V5.out.keep bb)
        replace PP := hid (PP.out.trans (bb.mono PP.out.size))
        clear bb
        go_wp2_with fail
        refine (celNew_any _).mono ?_
        rintro e w6 ⟨u6, v6, rfl, cl, bb⟩
        have C6 := hid cl
        obtain ⟨xa6, xc6, rfl, _⟩ := ownI_form cl.1
        obtain ⟨ya6, yc6, rfl, _⟩ := ownI_form cl.2.1
        clear cl
        replace RU := hid (RU.out.keep bb)
        replace RV := hid (RV.out.keep bb)
        replace RI := hid (RI.out.keep bb)
        replace V3 := hid (V3.out.keep bb)
        replace X5 := hid (X5.out.keep bb)
        replace Y5 := hid (Y5.out.keep bb)
        replace Z5 := hid (Z5.out.keep bb)
        replace V5 := hid (V5.out.keep bb)
        replace PP := hid (PP.out.trans (bb.mono PP.out.size))
        clear bb
        go_wp2_with fail
        refine (celOk_any 0 0 _ _ _ 4 8 [0, 0, 0, 0] [0, 0, 0, 0, 0, 0, 0, 0] [] _ (C6.out.1.rd (by omega)) (C6.out.2.1.rd (by omega)) (C6.out.2.2.1.rd (by simp))).mono ?_
        rw [show celB 0 4 [0, 0, 0, 0] 8 [0, 0, 0, 0, 0, 0, 0, 0] 0 [] = true by decide]
        rintro e w7 ⟨rfl, bb⟩
        clear C6
        replace RU := hid (RU.out.keep bb)
        replace RV := hid (RV.out.keep bb)
        replace RI := hid (RI.out.keep bb)
        replace V3 := hid (V3.out.keep bb)
        replace X5 := hid (X5.out.keep bb)
        replace Y5 := hid (Y5.out.keep bb)
        replace Z5 := hid (Z5.out.keep bb)
        replace V5 := hid (V5.out.keep bb)
        replace PP := hid (PP.out.trans (bb.mono PP.out.size))
        clear bb
        go_wp2
        go_ret
        exact ⟨rfl, PP.out⟩
      · by_cases hn : n < 0
        · have HOK := hid hok
          have HC := hid hc
          have d1 : decide (n < 0) = true := by simpa using hn
          clear hok hc hn
          refine (celIn_any pc ht n _ _ _ 4 m xs ys bs _ RU.out RV.out RI.out).mono ?_
          rw [HOK.out]
          intro e w2 h
          obtain ⟨x5, y5, z5, rfl, rx, ry, rz, bb⟩ := inPost_bad h
          clear h
          have X5 := hid rx
          have Y5 := hid ry
          have Z5 := hid rz
          obtain ⟨_, _, xa5, xc5, rfl, _⟩ := rx
          obtain ⟨_, _, ya5, yc5, rfl, _⟩ := ry
          obtain ⟨_, _, za5, zc5, rfl, _⟩ := rz
          replace RU := hid (RU.out.keep bb)
          replace RV := hid (RV.out.keep bb)
          replace RI := hid (RI.out.keep bb)
          replace V3 := hid (V3.out.keep bb)
          replace PP := hid (PP.out.trans (bb.mono PP.out.size))
          clear bb
          have Aw2 := below_alloc1 w2 (.cells #[.int .i64 0, .slice xa5 0 xc5, .slice ya5 0 yc5, .int .i64 0, .slice za5 0 zc5] 27)
          replace RU := hid (RU.out.keep Aw2)
          replace RV := hid (RV.out.keep Aw2)
          replace RI := hid (RI.out.keep Aw2)
          replace V3 := hid (V3.out.keep Aw2)
          replace X5 := hid (X5.out.keep Aw2)
          replace Y5 := hid (Y5.out.keep Aw2)
          replace Z5 := hid (Z5.out.keep Aw2)
          replace PP := hid (PP.out.trans (Aw2.mono PP.out.size))
          have V5 := hid (vb_new w2 [.int .i64 0, .slice xa5 0 xc5, .slice ya5 0 yc5, .int .i64 0, .slice za5 0 zc5] 27)
          have sw2 : (w2.alloc (.cells #[.int .i64 0, .slice xa5 0 xc5, .slice ya5 0 yc5, .int .i64 0, .slice za5 0 zc5] 27)).heap.size = w2.heap.size + 1 := by simp
          obtain ⟨Ww2, hWw2⟩ : ∃ W, w2.alloc (.cells #[.int .i64 0, .slice xa5 0 xc5, .slice ya5 0 yc5, .int .i64 0, .slice za5 0 zc5] 27) = W := ⟨_, rfl⟩
          rw [hWw2] at sw2 RU RV RI V3 X5 Y5 Z5 V5 PP
          clear Aw2 sw2
          obtain ⟨q0a, q0b, q0c, q0d, q0e⟩ := vb5 V3.out
          go_wp2_with fail
          try rw [hWw2]
          clear hWw2
          clear q0a q0b q0c q0d q0e
          refine (specCelIn_any pc ht n _ _ _ 4 m xs ys bs _ RU.out RV.out RI.out).mono ?_
          rw [HOK.out]
          intro e w3 h
          obtain ⟨x7, y7, z7, rfl, rx, ry, rz, bb⟩ := inPost_bad h
          clear h
          have X7 := hid rx
          have Y7 := hid ry
          have Z7 := hid rz
          obtain ⟨_, _, xa7, xc7, rfl, _⟩ := rx
          obtain ⟨_, _, ya7, yc7, rfl, _⟩ := ry
          obtain ⟨_, _, za7, zc7, rfl, _⟩ := rz
          replace RU := hid (RU.out.keep bb)
          replace RV := hid (RV.out.keep bb)
          replace RI := hid (RI.out.keep bb)
          replace V3 := hid (V3.out.keep bb)
          replace X5 := hid (X5.out.keep bb)
          replace Y5 := hid (Y5.out.keep bb)
          replace Z5 := hid (Z5.out.keep bb)
          replace V5 := hid (V5.out.keep bb)
          replace PP := hid (PP.out.trans (bb.mono PP.out.size))
          clear bb
          have Aw3 := below_alloc1 w3 (.cells #[.int .i64 0, .slice xa7 0 xc7, .slice ya7 0 yc7, .int .i64 0, .slice za7 0 zc7] 27)
          replace RU := hid (RU.out.keep Aw3)
          replace RV := hid (RV.out.keep Aw3)
          replace RI := hid (RI.out.keep Aw3)
          replace V3 := hid (V3.out.keep Aw3)
          replace X5 := hid (X5.out.keep Aw3)
          replace Y5 := hid (Y5.out.keep Aw3)
          replace Z5 := hid (Z5.out.keep Aw3)
          replace V5 := hid (V5.out.keep Aw3)
          replace X7 := hid (X7.out.keep Aw3)
          replace Y7 := hid (Y7.out.keep Aw3)
          replace Z7 := hid (Z7.out.keep Aw3)
          replace PP := hid (PP.out.trans (Aw3.mono PP.out.size))
          have V7 := hid (vb_new w3 [.int .i64 0, .slice xa7 0 xc7, .slice ya7 0 yc7, .int .i64 0, .slice za7 0 zc7] 27)
          have sw3 : (w3.alloc (.cells #[.int .i64 0, .slice xa7 0 xc7, .slice ya7 0 yc7, .int .i64 0, .slice za7 0 zc7] 27)).heap.size = w3.heap.size + 1 := by simp
          obtain ⟨Ww3, hWw3⟩ : ∃ W, w3.alloc (.cells #[.int .i64 0, .slice xa7 0 xc7, .slice ya7 0 yc7, .int .i64 0, .slice za7 0 zc7] 27) = W := ⟨_, rfl⟩
          rw [hWw3] at sw3 RU RV RI V3 X5 Y5 Z5 V5 X7 Y7 Z7 V7 PP
          clear Aw3 sw3
          obtain ⟨q0a, q0b, q0c, q0d, q0e⟩ := vb5 V5.out
          obtain ⟨q1a, q1b, q1c, q1d, q1e⟩ := vb5 V7.out
          go_wp2_with fail
          try rw [hWw3]
          clear hWw3
          clear q0a q0b q0c q0d q0e q1a q1b q1c q1d q1e
          refine (caCell_same 0 0 _ _ _ _ _ _ 0 0 [] [] [] _ X5.out Y5.out Z5.out X7.out Y7.out Z7.out).mono ?_
          rintro e w4 ⟨rfl, bb⟩
          replace RU := hid (RU.out.keep bb)
          replace RV := hid (RV.out.keep bb)
          replace RI := hid (RI.out.keep bb)
          replace V3 := hid (V3.out.keep bb)
          replace X5 := hid (X5.out.keep bb)
          replace Y5 := hid (Y5.out.keep bb)
          replace Z5 := hid (Z5.out.keep bb)
          replace V5 := hid (V5.out.keep bb)
          replace X7 := hid (X7.out.keep bb)
          replace Y7 := hid (Y7.out.keep bb)
          replace Z7 := hid (Z7.out.keep bb)
          replace V7 := hid (V7.out.keep bb)
          replace PP := hid (PP.out.trans (bb.mono PP.out.size))
          clear bb
          clear X7 Y7 Z7 V7
          obtain ⟨q0a, q0b, q0c, q0d, q0e⟩ := vb5 V3.out
          go_wp2_with fail
          clear q0a q0b q0c q0d q0e
          refine (specCelOk_any pc ht _ _ _ 4 m xs ys bs _ RU.out RV.out RI.out).mono ?_
          rw [HC.out]
          rintro e w5 ⟨rfl, bb⟩
          replace RU := hid (RU.out.keep bb)
          replace RV := hid (RV.out.keep bb)
          replace RI := hid (RI.out.keep bb)
          replace V3 := hid (V3.out.keep bb)
          replace X5 := hid (X5.out.keep bb)
          replace Y5 := hid (Y5.out.keep bb)
          replace Z5 := hid (Z5.out.keep bb)
          replace V5 := hid (V5.out.keep bb)
          replace PP := hid (PP.out.trans (bb.mono PP.out.size))
          clear bb
          go_wp2_with fail
          refine (celNew_any _).mono ?_
          rintro e w6 ⟨u6, v6, rfl, cl, bb⟩
          have C6 := hid cl
          obtain ⟨xa6, xc6, rfl, _⟩ := ownI_form cl.1
          obtain ⟨ya6, yc6, rfl, _⟩ := ownI_form cl.2.1
          clear cl
          replace RU := hid (RU.out.keep bb)
          replace RV := hid (RV.out.keep bb)
          replace RI := hid (RI.out.keep bb)
          replace V3 := hid (V3.out.keep bb)
          replace X5 := hid (X5.out.keep bb)
          replace Y5 := hid (Y5.out.keep bb)
          replace Z5 := hid (Z5.out.keep bb)
          replace V5 := hid (V5.out.keep bb)
          replace PP := hid (PP.out.trans (bb.mono PP.out.size))
          clear bb
          go_wp2_with fail
          refine (celOk_any 0 0 _ _ _ 4 8 [0, 0, 0, 0] [0, 0, 0, 0, 0, 0, 0, 0] [] _ (C6.out.1.rd (by omega)) (C6.out.2.1.rd (by omega)) (C6.out.2.2.1.rd (by simp))).mono ?_
          rw [show celB 0 4 [0, 0, 0, 0] 8 [0, 0, 0, 0, 0, 0, 0, 0] 0 [] = true by decide]
          rintro e w7 ⟨rfl, bb⟩
          clear C6
          replace RU := hid (RU.out.keep bb)
          replace RV := hid (RV.out.keep bb)
          replace RI := hid (RI.out.keep bb)
          replace V3 := hid (V3.out.keep bb)
          replace X5 := hid (X5.out.keep bb)
          replace Y5 := hid (Y5.out.keep bb)
          replace Z5 := hid (Z5.out.keep bb)
          replace V5 := hid (V5.out.keep bb)
          replace PP := hid (PP.out.trans (bb.mono PP.out.size))
          clear bb
          go_wp2
          go_ret
          exact ⟨rfl, PP.out⟩
        · have HOK := hid hok
          have HC := hid hc
          have d1 : decide (n < 0) = false := by simpa using hn
          have d2 := n_big hok hc hn
          clear hok hc hn
          refine (celIn_any pc ht n _ _ _ 4 m xs ys bs _ RU.out RV.out RI.out).mono ?_
          rw [HOK.out]
          intro e w2 h
          obtain ⟨x5, y5, z5, rfl, rx, ry, rz, bb⟩ := inPost_bad h
          clear h
          have X5 := hid rx
          have Y5 := hid ry
          have Z5 := hid rz
          obtain ⟨_, _, xa5, xc5, rfl, _⟩ := rx
          obtain ⟨_, _, ya5, yc5, rfl, _⟩ := ry
          obtain ⟨_, _, za5, zc5, rfl, _⟩ := rz
          replace RU := hid (RU.out.keep bb)
          replace RV := hid (RV.out.keep bb)
          replace RI := hid (RI.out.keep bb)
          replace V3 := hid (V3.out.keep bb)
          replace PP := hid (PP.out.trans (bb.mono PP.out.size))
          clear bb
          have Aw2 := below_alloc1 w2 (.cells #[.int .i64 0, .slice xa5 0 xc5, .slice ya5 0 yc5, .int .i64 0, .slice za5 0 zc5] 27)
          replace RU := hid (RU.out.keep Aw2)
          replace RV := hid (RV.out.keep Aw2)
          replace RI := hid (RI.out.keep Aw2)
          replace V3 := hid (V3.out.keep Aw2)
          replace X5 := hid (X5.out.keep Aw2)
          replace Y5 := hid (Y5.out.keep Aw2)
          replace Z5 := hid (Z5.out.keep Aw2)
          replace PP := hid (PP.out.trans (Aw2.mono PP.out.size))
          have V5 := hid (vb_new w2 [.int .i64 0, .slice xa5 0 xc5, .slice ya5 0 yc5, .int .i64 0, .slice za5 0 zc5] 27)
          have sw2 : (w2.alloc (.cells #[.int .i64 0, .slice xa5 0 xc5, .slice ya5 0 yc5, .int .i64 0, .slice za5 0 zc5] 27)).heap.size = w2.heap.size + 1 := by simp
          obtain ⟨Ww2, hWw2⟩ : ∃ W, w2.alloc (.cells #[.int .i64 0, .slice xa5 0 xc5, .slice ya5 0 yc5, .int .i64 0, .slice za5 0 zc5] 27) = W := ⟨_, rfl⟩
          rw [hWw2] at sw2 RU RV RI V3 X5 Y5 Z5 V5 PP
          clear Aw2 sw2
          obtain ⟨q0a, q0b, q0c, q0d, q0e⟩ := vb5 V3.out
          go_wp2_with fail
          try rw [hWw2]
          clear hWw2
          clear q0a q0b q0c q0d q0e
          refine (specCelIn_any pc ht n _ _ _ 4 m xs ys bs _ RU.out RV.out RI.out).mono ?_
          rw [HOK.out]
          intro e w3 h
          obtain ⟨x7, y7, z7, rfl, rx, ry, rz, bb⟩ := inPost_bad h
          clear h
          have X7 := hid rx
          have Y7 := hid ry
          have Z7 := hid rz
          obtain ⟨_, _, xa7, xc7, rfl, _⟩ := rx
          obtain ⟨_, _, ya7, yc7, rfl, _⟩ := ry
          obtain ⟨_, _, za7, zc7, rfl, _⟩ := rz
          replace RU := hid (RU.out.keep bb)
          replace RV := hid (RV.out.keep bb)
          replace RI := hid (RI.out.keep bb)
          replace V3 := hid (V3.out.keep bb)
          replace X5 := hid (X5.out.keep bb)
          replace Y5 := hid (Y5.out.keep bb)
          replace Z5 := hid (Z5.out.keep bb)
          replace V5 := hid (V5.out.keep bb)
          replace PP := hid (PP.out.trans (bb.mono PP.out.size))
          clear bb
          have Aw3 := below_alloc1 w3 (.cells #[.int .i64 0, .slice xa7 0 xc7, .slice ya7 0 yc7, .int .i64 0, .slice za7 0 zc7] 27)
          replace RU := hid (RU.out.keep Aw3)
          replace RV := hid (RV.out.keep Aw3)
          replace RI := hid (RI.out.keep Aw3)
          replace V3 := hid (V3.out.keep Aw3)
          replace X5 := hid (X5.out.keep Aw3)
          replace Y5 := hid (Y5.out.keep Aw3)
          replace Z5 := hid (Z5.out.keep Aw3)
          replace V5 := hid (V5.out.keep Aw3)
          replace X7 := hid (X7.out.keep Aw3)
          replace Y7 := hid (Y7.out.keep Aw3)
          replace Z7 := hid (Z7.out.keep Aw3)
          replace PP := hid (PP.out.trans (Aw3.mono PP.out.size))
          have V7 := hid (vb_new w3 [.int .i64 0, .slice xa7 0 xc7, .slice ya7 0 yc7, .int .i64 0, .slice za7 0 zc7] 27)
          have sw3 : (w3.alloc (.cells #[.int .i64 0, .slice xa7 0 xc7, .slice ya7 0 yc7, .int .i64 0, .slice za7 0 zc7] 27)).heap.size = w3.heap.size + 1 := by simp
          obtain ⟨Ww3, hWw3⟩ : ∃ W, w3.alloc (.cells #[.int .i64 0, .slice xa7 0 xc7, .slice ya7 0 yc7, .int .i64 0, .slice za7 0 zc7] 27) = W := ⟨_, rfl⟩
          rw [hWw3] at sw3 RU RV RI V3 X5 Y5 Z5 V5 X7 Y7 Z7 V7 PP
          clear Aw3 sw3
          obtain ⟨q0a, q0b, q0c, q0d, q0e⟩ := vb5 V5.out
          obtain ⟨q1a, q1b, q1c, q1d, q1e⟩ := vb5 V7.out
          go_wp2_with fail
          try rw [hWw3]
          clear hWw3
          clear q0a q0b q0c q0d q0e q1a q1b q1c q1d q1e
          refine (caCell_same 0 0 _ _ _ _ _ _ 0 0 [] [] [] _ X5.out Y5.out Z5.out X7.out Y7.out Z7.out).mono ?_
          rintro e w4 ⟨rfl, bb⟩
          replace RU := hid (RU.out.keep bb)
          replace RV := hid (RV.out.keep bb)
          replace RI := hid (RI.out.keep bb)
          replace V3 := hid (V3.out.keep bb)
          replace X5 := hid (X5.out.keep bb)
          replace Y5 := hid (Y5.out.keep bb)
          replace Z5 := hid (Z5.out.keep bb)
          replace V5 := hid (V5.out.keep bb)
          replace X7 := hid (X7.out.keep bb)
          replace Y7 := hid (Y7.out.keep bb)
          replace Z7 := hid (Z7.out.keep bb)
          replace V7 := hid (V7.out.keep bb)
          replace PP := hid (PP.out.trans (bb.mono PP.out.size))
          clear bb
          clear X7 Y7 Z7 V7
          obtain ⟨q0a, q0b, q0c, q0d, q0e⟩ := vb5 V3.out
          go_wp2_with fail
          clear q0a q0b q0c q0d q0e
          refine (specCelOk_any pc ht _ _ _ 4 m xs ys bs _ RU.out RV.out RI.out).mono ?_
          rw [HC.out]
          rintro e w5 ⟨rfl, bb⟩
          replace RU := hid (RU.out.keep bb)
          replace RV := hid (RV.out.keep bb)
          replace RI := hid (RI.out.keep bb)
          replace V3 := hid (V3.out.keep bb)
          replace X5 := hid (X5.out.keep bb)
          replace Y5 := hid (Y5.out.keep bb)
          replace Z5 := hid (Z5.out.keep bb)
          replace V5 := hid (V5.out.keep bb)
          replace PP := hid (PP.out.trans (bb.mono PP.out.size))
          clear bb
          go_wp2_with fail
          refine (celNew_any _).mono ?_
          rintro e w6 ⟨u6, v6, rfl, cl, bb⟩
          have C6 := hid cl
          obtain ⟨xa6, xc6, rfl, _⟩ := ownI_form cl.1
          obtain ⟨ya6, yc6, rfl, _⟩ := ownI_form cl.2.1
          clear cl
          replace RU := hid (RU.out.keep bb)
          replace RV := hid (RV.out.keep bb)
          replace RI := hid (RI.out.keep bb)
          replace V3 := hid (V3.out.keep bb)
          replace X5 := hid (X5.out.keep bb)
          replace Y5 := hid (Y5.out.keep bb)
          replace Z5 := hid (Z5.out.keep bb)
          replace V5 := hid (V5.out.keep bb)
          replace PP := hid (PP.out.trans (bb.mono PP.out.size))
          clear bb
          go_wp2_with fail
          refine (celOk_any 0 0 _ _ _ 4 8 [0, 0, 0, 0] [0, 0, 0, 0, 0, 0, 0, 0] [] _ (C6.out.1.rd (by omega)) (C6.out.2.1.rd (by omega)) (C6.out.2.2.1.rd (by simp))).mono ?_
          rw [show celB 0 4 [0, 0, 0, 0] 8 [0, 0, 0, 0, 0, 0, 0, 0] 0 [] = true by decide]
          rintro e w7 ⟨rfl, bb⟩
          clear C6
          replace RU := hid (RU.out.keep bb)
          replace RV := hid (RV.out.keep bb)
          replace RI := hid (RI.out.keep bb)
          replace V3 := hid (V3.out.keep bb)
          replace X5 := hid (X5.out.keep bb)
          replace Y5 := hid (Y5.out.keep bb)
          replace Z5 := hid (Z5.out.keep bb)
          replace V5 := hid (V5.out.keep bb)
          replace PP := hid (PP.out.trans (bb.mono PP.out.size))
          clear bb
          go_wp2
          go_ret
          exact ⟨rfl, PP.out⟩
    · by_cases hl : bs.length < 6
      · have HOK := hid hok
        have hce := (Bool.and_eq_true_iff.1 hok).1
        have hni := (Bool.and_eq_true_iff.1 hok).2
        have HC := hid hce
        obtain ⟨hm8, hb6⟩ := cel_of hce
        subst hm8
        have hn0 : 0 ≤ n ∧ n ≤ 255 := by simpa [inB] using hni
        have d1 : decide (n < 0) = false := by simp; omega
        have d2 : decide (255 < n) = false := by simp; omega
        have HL := hid hl
        have HN := hid hn0
        have HB6 := hid (show bs.length < 6 from hl)
        obtain ⟨I, hI⟩ : ∃ I, bs ++ [n] = I := ⟨_, rfl⟩
        have HI := hid hI
        clear hI
        clear hce hni hok hb6 hl hn0
        refine (celIn_any pc ht n _ _ _ 4 8 xs ys bs _ RU.out RV.out RI.out).mono ?_
        rw [HOK.out]
        intro e w2 h
        obtain ⟨x5, y5, z5, rfl, rx, ry, rz, bb⟩ := inPost_room HL.out HI.out h
        clear h
        have X5 := hid rx
        have Y5 := hid ry
        have Z5 := hid rz
        obtain ⟨_, _, xa5, xc5, rfl, _⟩ := rx
        obtain ⟨_, _, ya5, yc5, rfl, _⟩ := ry
        obtain ⟨_, _, za5, zc5, rfl, _⟩ := rz
        replace RU := hid (RU.out.keep bb)
        replace RV := hid (RV.out.keep bb)
        replace RI := hid (RI.out.keep bb)
        replace V3 := hid (V3.out.keep bb)
        replace PP := hid (PP.out.trans (bb.mono PP.out.size))
        clear bb
        have Aw2 := below_alloc1 w2 (.cells #[.int .i64 pc, .slice xa5 4 xc5, .slice ya5 8 yc5, .int .i64 ht, .slice za5 I.length zc5] 27)
        replace RU := hid (RU.out.keep Aw2)
        replace RV := hid (RV.out.keep Aw2)
        replace RI := hid (RI.out.keep Aw2)
        replace V3 := hid (V3.out.keep Aw2)
        replace X5 := hid (X5.out.keep Aw2)
        replace Y5 := hid (Y5.out.keep Aw2)
        replace Z5 := hid (Z5.out.keep Aw2)
        replace PP := hid (PP.out.trans (Aw2.mono PP.out.size))
        have V5 := hid (vb_new w2 [.int .i64 pc, .slice xa5 4 xc5, .slice ya5 8 yc5, .int .i64 ht, .slice za5 I.length zc5] 27)
        have sw2 : (w2.alloc (.cells #[.int .i64 pc, .slice xa5 4 xc5, .slice ya5 8 yc5, .int .i64 ht, .slice za5 I.length zc5] 27)).heap.size = w2.heap.size + 1 := by simp
        obtain ⟨Ww2, hWw2⟩ : ∃ W, w2.alloc (.cells #[.int .i64 pc, .slice xa5 4 xc5, .slice ya5 8 yc5, .int .i64 ht, .slice za5 I.length zc5] 27) = W := ⟨_, rfl⟩
        rw [hWw2] at sw2 RU RV RI V3 X5 Y5 Z5 V5 PP
        clear Aw2 sw2
        obtain ⟨q0a, q0b, q0c, q0d, q0e⟩ := vb5 V3.out
        go_wp2_with fail
        try rw [hWw2]
        clear hWw2
        clear q0a q0b q0c q0d q0e
        refine (specCelIn_any pc ht n _ _ _ 4 8 xs ys bs _ RU.out RV.out RI.out).mono ?_
        rw [HOK.out]
        intro e w3 h
        obtain ⟨x7, y7, z7, rfl, rx, ry, rz, bb⟩ := inPost_room HL.out HI.out h
        clear h
        have X7 := hid rx
        have Y7 := hid ry
        have Z7 := hid rz
        obtain ⟨_, _, xa7, xc7, rfl, _⟩ := rx
        obtain ⟨_, _, ya7, yc7, rfl, _⟩ := ry
        obtain ⟨_, _, za7, zc7, rfl, _⟩ := rz
        replace RU := hid (RU.out.keep bb)
        replace RV := hid (RV.out.keep bb)
        replace RI := hid (RI.out.keep bb)
        replace V3 := hid (V3.out.keep bb)
        replace X5 := hid (X5.out.keep bb)
        replace Y5 := hid (Y5.out.keep bb)
        replace Z5 := hid (Z5.out.keep bb)
        replace V5 := hid (V5.out.keep bb)
        replace PP := hid (PP.out.trans (bb.mono PP.out.size))
        clear bb
        have Aw3 := below_alloc1 w3 (.cells #[.int .i64 pc, .slice xa7 4 xc7, .slice ya7 8 yc7, .int .i64 ht, .slice za7 I.length zc7] 27)
        replace RU := hid (RU.out.keep Aw3)
        replace RV := hid (RV.out.keep Aw3)
        replace RI := hid (RI.out.keep Aw3)
        replace V3 := hid (V3.out.keep Aw3)
        replace X5 := hid (X5.out.keep Aw3)
        replace Y5 := hid (Y5.out.keep Aw3)
        replace Z5 := hid (Z5.out.keep Aw3)
        replace V5 := hid (V5.out.keep Aw3)
        replace X7 := hid (X7.out.keep Aw3)
        replace Y7 := hid (Y7.out.keep Aw3)
        replace Z7 := hid (Z7.out.keep Aw3)
        replace PP := hid (PP.out.trans (Aw3.mono PP.out.size))
        have V7 := hid (vb_new w3 [.int .i64 pc, .slice xa7 4 xc7, .slice ya7 8 yc7, .int .i64 ht, .slice za7 I.length zc7] 27)
        have sw3 : (w3.alloc (.cells #[.int .i64 pc, .slice xa7 4 xc7, .slice ya7 8 yc7, .int .i64 ht, .slice za7 I.length zc7] 27)).heap.size = w3.heap.size + 1 := by simp
        obtain ⟨Ww3, hWw3⟩ : ∃ W, w3.alloc (.cells #[.int .i64 pc, .slice xa7 4 xc7, .slice ya7 8 yc7, .int .i64 ht, .slice za7 I.length zc7] 27) = W := ⟨_, rfl⟩
        rw [hWw3] at sw3 RU RV RI V3 X5 Y5 Z5 V5 X7 Y7 Z7 V7 PP
        clear Aw3 sw3
        obtain ⟨q0a, q0b, q0c, q0d, q0e⟩ := vb5 V5.out
        obtain ⟨q1a, q1b, q1c, q1d, q1e⟩ := vb5 V7.out
        go_wp2_with fail
        try rw [hWw3]
        clear hWw3
        clear q0a q0b q0c q0d q0e q1a q1b q1c q1d q1e
        refine (caCell_same pc ht _ _ _ _ _ _ 4 8 xs ys I _ X5.out Y5.out Z5.out X7.out Y7.out Z7.out).mono ?_
        rintro e w4 ⟨rfl, bb⟩
        replace RU := hid (RU.out.keep bb)
        replace RV := hid (RV.out.keep bb)
        replace RI := hid (RI.out.keep bb)
        replace V3 := hid (V3.out.keep bb)
        replace X5 := hid (X5.out.keep bb)
        replace Y5 := hid (Y5.out.keep bb)
        replace Z5 := hid (Z5.out.keep bb)
        replace V5 := hid (V5.out.keep bb)
        replace X7 := hid (X7.out.keep bb)
        replace Y7 := hid (Y7.out.keep bb)
        replace Z7 := hid (Z7.out.keep bb)
        replace V7 := hid (V7.out.keep bb)
        replace PP := hid (PP.out.trans (bb.mono PP.out.size))
        clear bb
        clear X7 Y7 Z7 V7
        obtain ⟨q0a, q0b, q0c, q0d, q0e⟩ := vb5 V3.out
        go_wp2_with fail
        clear q0a q0b q0c q0d q0e
        refine (specCelOk_any pc ht _ _ _ 4 8 xs ys bs _ RU.out RV.out RI.out).mono ?_
        rw [HC.out]
        rintro e w5 ⟨rfl, bb⟩
        replace RU := hid (RU.out.keep bb)
        replace RV := hid (RV.out.keep bb)
        replace RI := hid (RI.out.keep bb)
        replace V3 := hid (V3.out.keep bb)
        replace X5 := hid (X5.out.keep bb)
        replace Y5 := hid (Y5.out.keep bb)
        replace Z5 := hid (Z5.out.keep bb)
        replace V5 := hid (V5.out.keep bb)
        replace PP := hid (PP.out.trans (bb.mono PP.out.size))
        clear bb
        obtain ⟨q0a, q0b, q0c, q0d, q0e⟩ := vb5 V5.out
        obtain ⟨q1a, q1b, q1c, q1d, q1e⟩ := vb5 V3.out
        go_upto_region 12 with fail
        have hw8 : IntKind.u8.wrap n = n := by have := HN.out; rw [IntKind.wrap_u8]; omega
        have HAL : AllLast [(fun u _ => u = .pointer (some ⟨w2.heap.size, 0, none⟩)), (fun u _ => u = .agg #[.int .i64 pc, .slice xa5 4 xc5, .slice ya5 8 yc5, .int .i64 ht]), (fun u _ => u = .pointer (some ⟨w1.heap.size, 0, none⟩)), (fun u _ => u = .agg #[.int .i64 pc, .slice a1 4 c1, .slice a2 8 c2, .int .i64 ht]), (fun u _ => u = .bool true), (fun u _ => u = .bool true), (fun u _ => u = .pointer (some ⟨w2.heap.size, 4, none⟩)), (fun u _ => u = .slice za5 I.length zc5), (fun u _ => EmpS w5.heap.size u), (fun u _ => u = .pointer (some ⟨w1.heap.size, 4, none⟩)), (fun u _ => u = .slice a3 bs.length c3), (RowS w5.heap.size bs), (fun u _ => u = .int .i64 n), (fun u _ => u = .int .u8 n), (LitS w5.heap.size n), (fun u w => Rd w u I), (fun u _ => u = .bool true), (fun u _ => u = .bool true), (fun u _ => u = .bool true)] := ⟨lasts_val _, lasts_val _, lasts_val _, lasts_val _, lasts_val _, lasts_val _, lasts_val _, lasts_val _, lasts_emp _, lasts_val _, lasts_val _, lasts_row _ _, lasts_val _, lasts_val _, lasts_lit _ _, fun u w w' hb h => h.keep hb, lasts_val _, lasts_val _, lasts_val _, trivial⟩
        have HSA : 1 ≤ bs.length → StAll w5.heap.size bs.length 15 0 [(fun u _ => u = .pointer (some ⟨w2.heap.size, 0, none⟩)), (fun u _ => u = .agg #[.int .i64 pc, .slice xa5 4 xc5, .slice ya5 8 yc5, .int .i64 ht]), (fun u _ => u = .pointer (some ⟨w1.heap.size, 0, none⟩)), (fun u _ => u = .agg #[.int .i64 pc, .slice a1 4 c1, .slice a2 8 c2, .int .i64 ht]), (fun u _ => u = .bool true), (fun u _ => u = .bool true), (fun u _ => u = .pointer (some ⟨w2.heap.size, 4, none⟩)), (fun u _ => u = .slice za5 I.length zc5), (fun u _ => EmpS w5.heap.size u), (fun u _ => u = .pointer (some ⟨w1.heap.size, 4, none⟩)), (fun u _ => u = .slice a3 bs.length c3), (RowS w5.heap.size bs), (fun u _ => u = .int .i64 n), (fun u _ => u = .int .u8 n), (LitS w5.heap.size n), (fun u w => Rd w u I), (fun u _ => u = .bool true), (fun u _ => u = .bool true), (fun u _ => u = .bool true)] := fun hn => ⟨.inr (st_val _), .inr (st_val _), .inr (st_val _), .inr (st_val _), .inr (st_val _), .inr (st_val _), .inr (st_val _), .inr (st_val _), .inr st_emp, .inr (st_val _), .inr (st_val _), .inr st_row, .inr (st_val _), .inr (st_val _), .inr (st_lit hn), .inl rfl, .inr (st_val _), .inr (st_val _), .inr (st_val _), trivial⟩
        refine region_bw [(fun u _ => u = .pointer (some ⟨w2.heap.size, 0, none⟩)), (fun u _ => u = .agg #[.int .i64 pc, .slice xa5 4 xc5, .slice ya5 8 yc5, .int .i64 ht]), (fun u _ => u = .pointer (some ⟨w1.heap.size, 0, none⟩)), (fun u _ => u = .agg #[.int .i64 pc, .slice a1 4 c1, .slice a2 8 c2, .int .i64 ht]), (fun u _ => u = .bool true), (fun u _ => u = .bool true), (fun u _ => u = .pointer (some ⟨w2.heap.size, 4, none⟩)), (fun u _ => u = .slice za5 I.length zc5), (fun u _ => EmpS w5.heap.size u), (fun u _ => u = .pointer (some ⟨w1.heap.size, 4, none⟩)), (fun u _ => u = .slice a3 bs.length c3), (RowS w5.heap.size bs), (fun u _ => u = .int .i64 n), (fun u _ => u = .int .u8 n), (LitS w5.heap.size n), (fun u w => Rd w u I), (fun u _ => u = .bool true), (fun u _ => u = .bool true), (fun u _ => u = .bool true)] (by kernel_rfl) (by kernel_rfl) ⟨?_, ?_, ?_, ?_, ?_, ?_, ?_, ?_, ?_, ?_, ?_, ?_, ?_, ?_, ?_, ?_, ?_, ?_, ?_, trivial⟩ ?_
        · exact ob_un (bw_fieldAddr (fun w => by go_simp) (ok_out rfl rfl) rfl)
        · exact ob_un (bw_load (fun w hb => ldS w (cell_keep hb q0a) (cell_keep hb q0b) (cell_keep hb q0c) (cell_keep hb q0d)) (ok_in 0 rfl rfl rfl) rfl)
        · exact ob_un (bw_fieldAddr (fun w => by go_simp) (ok_out rfl rfl) rfl)
        · exact ob_un (bw_load (fun w hb => ldS w (cell_keep hb q1a) (cell_keep hb q1b) (cell_keep hb q1c) (cell_keep hb q1d)) (ok_in 2 rfl rfl rfl) rfl)
        · exact ob_un (bw_call HAL (fun xs w => by go_simp) (fun a' w' hb hat => by
          have e1 : a'.eval (.tmp 67) = .agg #[.int .i64 pc, .slice xa5 4 xc5, .slice ya5 8 yc5, .int .i64 ht] := ok_in 1 rfl rfl rfl a' w' hat
          have e2 : a'.eval (.tmp 69) = .agg #[.int .i64 pc, .slice a1 4 c1, .slice a2 8 c2, .int .i64 ht] := ok_in 3 rfl rfl rfl a' w' hat
          have e : (#[Operand.tmp 67, Operand.tmp 69].map a'.eval) = #[.agg #[.int .i64 pc, .slice xa5 4 xc5, .slice ya5 8 yc5, .int .i64 ht], .agg #[.int .i64 pc, .slice a1 4 c1, .slice a2 8 c2, .int .i64 ht]] := by simp [e1, e2]
          rw [e]
          refine (caState_same pc ht _ _ _ _ 4 8 xs ys w' (X5.out.keep hb) (Y5.out.keep hb) (RU.out.keep hb) (RV.out.keep hb)).mono ?_
          rintro e w' ⟨rfl, b⟩
          exact ⟨_, rfl, rfl, b⟩))
        · exact ob_un (bw_move rfl (ok_in 4 rfl rfl rfl))
        · exact bw_on 5 true rfl rfl (bw_fieldAddr (fun w => by go_simp) (ok_out rfl rfl) rfl)
        · exact bw_on 5 true rfl rfl (bw_load (fun w hb => ldSl w (cell_keep hb q0e)) (ok_in 6 rfl rfl rfl) rfl)
        · exact bw_on 5 true rfl rfl (bw_emp HAL rfl)
        · exact bw_on 5 true rfl rfl (bw_fieldAddr (fun w => by go_simp) (ok_out rfl rfl) rfl)
        · exact bw_on 5 true rfl rfl (bw_load (fun w hb => ldSl w (cell_keep hb q1e)) (ok_in 9 rfl rfl rfl) rfl)
        · exact bw_on 5 true rfl rfl (bw_app1 (js := 8) HAL rfl rfl rfl (ok_in 10 rfl rfl rfl) (fun w hb => RI.out.keep hb) (by omega) rfl)
        · exact bw_on 5 true rfl rfl (bw_move rfl (ok_out rfl rfl))
        · exact bw_on 5 true rfl rfl (bw_val rfl fun k a w hI hat => by
          have e : a.eval (.tmp 78) = .int .i64 n := ok_in 12 rfl rfl rfl a w hat
          simp only [execOp, e]
          go_simp)
        · exact bw_on 5 true rfl rfl (bw_lit HAL HN.out (ok_in 13 rfl rfl rfl) rfl)
        · exact bw_on 5 true rfl rfl (bw_app2 (js := 11) (jx := 14) HAL HSA rfl rfl rfl rfl rfl rfl RI.out.1 HN.out (by omega) HI.out rfl)
        · exact bw_on 5 true rfl rfl (bw_call HAL (fun xs w => by go_simp) (fun a' w' hb hat => by
          have e1 : a'.eval (.tmp 73) = .slice za5 I.length zc5 := ok_in 7 rfl rfl rfl a' w' hat
          have e2 : Rd w' (a'.eval (.tmp 81)) I := ok_of 15 rfl rfl rfl hat
          have e : (#[Operand.tmp 73, Operand.tmp 81].map a'.eval) = #[.slice za5 I.length zc5, a'.eval (.tmp 81)] := by simp [e1]
          rw [e]
          refine (caBytes_eq _ _ I w' (Z5.out.keep hb) e2).mono ?_
          rintro e w' ⟨rfl, rfl⟩
          exact ⟨_, rfl, rfl, Below.refl _ _⟩))
        · exact ob_un (bw_pick true (ok_in 5 rfl rfl rfl) (ok_in 16 rfl rfl rfl) rfl)
        · exact ob_un (bw_assign rfl (ok_in 17 rfl rfl rfl))
        intro uu wz bz hF
        obtain ⟨-, -, -, -, -, -, -, -, -, -, -, -, -, -, -, -, -, -, f18, -⟩ := hF
        have hn : uu 2 = .bool true := f18
        simp only [outTmps, List.setIfInBounds_toArray, List.set_cons_zero, List.set_cons_succ, hn]
        clear f18 HAL HSA q0a q0b q0c q0d q0e q1a q1b q1c q1d q1e
        replace PP := hid (PP.out.trans (bz.mono PP.out.size))
        clear bz
        go_wp2_with fail
        go_ret
        exact ⟨rfl, PP.out⟩
      · have HOK := hid hok
        have hce := (Bool.and_eq_true_iff.1 hok).1
        have hni := (Bool.and_eq_true_iff.1 hok).2
        have HC := hid hce
        obtain ⟨hm8, hb6⟩ := cel_of hce
        subst hm8
        have hn0 : 0 ≤ n ∧ n ≤ 255 := by simpa [inB] using hni
        have d1 : decide (n < 0) = false := by simp; omega
        have d2 : decide (255 < n) = false := by simp; omega
        have HL := hid hl
        have hb6' : bs.length = 6 := by omega
        have e6 : ((bs.length : Int) == 6) = true := by simp; omega
        have HLL := hid hb6'
        have HOK2 := hid hok
        clear hce hni hok hb6 hl hn0 hb6'
        refine (celIn_any pc ht n _ _ _ 4 8 xs ys bs _ RU.out RV.out RI.out).mono ?_
        rw [HOK.out]
        intro e w2 h
        obtain ⟨x5, y5, z5, rfl, rx, ry, rz, bb⟩ := inPost_full HL.out hb7 h
        clear h
        have X5 := hid rx
        have Y5 := hid ry
        have Z5 := hid rz
        obtain ⟨_, _, xa5, xc5, rfl, _⟩ := rx
        obtain ⟨_, _, ya5, yc5, rfl, _⟩ := ry
        obtain ⟨_, _, za5, zc5, rfl, _⟩ := rz
        replace RU := hid (RU.out.keep bb)
        replace RV := hid (RV.out.keep bb)
        replace RI := hid (RI.out.keep bb)
        replace V3 := hid (V3.out.keep bb)
        replace PP := hid (PP.out.trans (bb.mono PP.out.size))
        clear bb
        have Aw2 := below_alloc1 w2 (.cells #[.int .i64 pc, .slice xa5 4 xc5, .slice ya5 8 yc5, .int .i64 ht, .slice za5 bs.length zc5] 27)
        replace RU := hid (RU.out.keep Aw2)
        replace RV := hid (RV.out.keep Aw2)
        replace RI := hid (RI.out.keep Aw2)
        replace V3 := hid (V3.out.keep Aw2)
        replace X5 := hid (X5.out.keep Aw2)
        replace Y5 := hid (Y5.out.keep Aw2)
        replace Z5 := hid (Z5.out.keep Aw2)
        replace PP := hid (PP.out.trans (Aw2.mono PP.out.size))
        have V5 := hid (vb_new w2 [.int .i64 pc, .slice xa5 4 xc5, .slice ya5 8 yc5, .int .i64 ht, .slice za5 bs.length zc5] 27)
        have sw2 : (w2.alloc (.cells #[.int .i64 pc, .slice xa5 4 xc5, .slice ya5 8 yc5, .int .i64 ht, .slice za5 bs.length zc5] 27)).heap.size = w2.heap.size + 1 := by simp
        obtain ⟨Ww2, hWw2⟩ : ∃ W, w2.alloc (.cells #[.int .i64 pc, .slice xa5 4 xc5, .slice ya5 8 yc5, .int .i64 ht, .slice za5 bs.length zc5] 27) = W := ⟨_, rfl⟩
        rw [hWw2] at sw2 RU RV RI V3 X5 Y5 Z5 V5 PP
        clear Aw2 sw2
        obtain ⟨q0a, q0b, q0c, q0d, q0e⟩ := vb5 V3.out
        go_wp2_with fail
        try rw [hWw2]
        clear hWw2
        clear q0a q0b q0c q0d q0e
        refine (specCelIn_any pc ht n _ _ _ 4 8 xs ys bs _ RU.out RV.out RI.out).mono ?_
        rw [HOK.out]
        intro e w3 h
        obtain ⟨x7, y7, z7, rfl, rx, ry, rz, bb⟩ := inPost_full HL.out hb7 h
        clear h
        have X7 := hid rx
        have Y7 := hid ry
        have Z7 := hid rz
        obtain ⟨_, _, xa7, xc7, rfl, _⟩ := rx
        obtain ⟨_, _, ya7, yc7, rfl, _⟩ := ry
        obtain ⟨_, _, za7, zc7, rfl, _⟩ := rz
        replace RU := hid (RU.out.keep bb)
        replace RV := hid (RV.out.keep bb)
        replace RI := hid (RI.out.keep bb)
        replace V3 := hid (V3.out.keep bb)
        replace X5 := hid (X5.out.keep bb)
        replace Y5 := hid (Y5.out.keep bb)
        replace Z5 := hid (Z5.out.keep bb)
        replace V5 := hid (V5.out.keep bb)
        replace PP := hid (PP.out.trans (bb.mono PP.out.size))
        clear bb
        have Aw3 := below_alloc1 w3 (.cells #[.int .i64 pc, .slice xa7 4 xc7, .slice ya7 8 yc7, .int .i64 ht, .slice za7 bs.length zc7] 27)
        replace RU := hid (RU.out.keep Aw3)
        replace RV := hid (RV.out.keep Aw3)
        replace RI := hid (RI.out.keep Aw3)
        replace V3 := hid (V3.out.keep Aw3)
        replace X5 := hid (X5.out.keep Aw3)
        replace Y5 := hid (Y5.out.keep Aw3)
        replace Z5 := hid (Z5.out.keep Aw3)
        replace V5 := hid (V5.out.keep Aw3)
        replace X7 := hid (X7.out.keep Aw3)
        replace Y7 := hid (Y7.out.keep Aw3)
        replace Z7 := hid (Z7.out.keep Aw3)
        replace PP := hid (PP.out.trans (Aw3.mono PP.out.size))
        have V7 := hid (vb_new w3 [.int .i64 pc, .slice xa7 4 xc7, .slice ya7 8 yc7, .int .i64 ht, .slice za7 bs.length zc7] 27)
        have sw3 : (w3.alloc (.cells #[.int .i64 pc, .slice xa7 4 xc7, .slice ya7 8 yc7, .int .i64 ht, .slice za7 bs.length zc7] 27)).heap.size = w3.heap.size + 1 := by simp
        obtain ⟨Ww3, hWw3⟩ : ∃ W, w3.alloc (.cells #[.int .i64 pc, .slice xa7 4 xc7, .slice ya7 8 yc7, .int .i64 ht, .slice za7 bs.length zc7] 27) = W := ⟨_, rfl⟩
        rw [hWw3] at sw3 RU RV RI V3 X5 Y5 Z5 V5 X7 Y7 Z7 V7 PP
        clear Aw3 sw3
        obtain ⟨q0a, q0b, q0c, q0d, q0e⟩ := vb5 V5.out
        obtain ⟨q1a, q1b, q1c, q1d, q1e⟩ := vb5 V7.out
        go_wp2_with fail
        try rw [hWw3]
        clear hWw3
        clear q0a q0b q0c q0d q0e q1a q1b q1c q1d q1e
        refine (caCell_same pc ht _ _ _ _ _ _ 4 8 xs ys bs _ X5.out Y5.out Z5.out X7.out Y7.out Z7.out).mono ?_
        rintro e w4 ⟨rfl, bb⟩
        replace RU := hid (RU.out.keep bb)
        replace RV := hid (RV.out.keep bb)
        replace RI := hid (RI.out.keep bb)
        replace V3 := hid (V3.out.keep bb)
        replace X5 := hid (X5.out.keep bb)
        replace Y5 := hid (Y5.out.keep bb)
        replace Z5 := hid (Z5.out.keep bb)
        replace V5 := hid (V5.out.keep bb)
        replace X7 := hid (X7.out.keep bb)
        replace Y7 := hid (Y7.out.keep bb)
        replace Z7 := hid (Z7.out.keep bb)
        replace V7 := hid (V7.out.keep bb)
        replace PP := hid (PP.out.trans (bb.mono PP.out.size))
        clear bb
        clear X7 Y7 Z7 V7
        obtain ⟨q0a, q0b, q0c, q0d, q0e⟩ := vb5 V3.out
        go_wp2_with fail
        clear q0a q0b q0c q0d q0e
        refine (specCelOk_any pc ht _ _ _ 4 8 xs ys bs _ RU.out RV.out RI.out).mono ?_
        rw [HC.out]
        rintro e w5 ⟨rfl, bb⟩
        replace RU := hid (RU.out.keep bb)
        replace RV := hid (RV.out.keep bb)
        replace RI := hid (RI.out.keep bb)
        replace V3 := hid (V3.out.keep bb)
        replace X5 := hid (X5.out.keep bb)
        replace Y5 := hid (Y5.out.keep bb)
        replace Z5 := hid (Z5.out.keep bb)
        replace V5 := hid (V5.out.keep bb)
        replace PP := hid (PP.out.trans (bb.mono PP.out.size))
        clear bb
        obtain ⟨q0a, q0b, q0c, q0d, q0e⟩ := vb5 V5.out
        obtain ⟨q1a, q1b, q1c, q1d, q1e⟩ := vb5 V3.out
        go_wp2_with fail
        clear q0a q0b q0c q0d q0e q1a q1b q1c q1d q1e
        refine (caCell_same pc ht _ _ _ _ _ _ 4 8 xs ys bs _ X5.out Y5.out Z5.out RU.out RV.out RI.out).mono ?_
        rintro e w6 ⟨rfl, bb⟩
        replace RU := hid (RU.out.keep bb)
        replace RV := hid (RV.out.keep bb)
        replace RI := hid (RI.out.keep bb)
        replace V3 := hid (V3.out.keep bb)
        replace X5 := hid (X5.out.keep bb)
        replace Y5 := hid (Y5.out.keep bb)
        replace Z5 := hid (Z5.out.keep bb)
        replace V5 := hid (V5.out.keep bb)
        replace PP := hid (PP.out.trans (bb.mono PP.out.size))
        clear bb
        obtain ⟨q0a, q0b, q0c, q0d, q0e⟩ := vb5 V3.out
        go_wp2_with fail
        clear q0a q0b q0c q0d q0e
        go_ret
        exact ⟨rfl, PP.out⟩
  · have hl0' : (1048576 : Int) < (len0 : Int) := by omega
    clear k0
    go_enter Try.func3, Try.ntmps3
    go_wp2
    go_ret
    exact ⟨rfl, Below.refl _ _⟩
theorem own : ownKnob Try.prog.godebug = none := by kernel_rfl
theorem laidOut : laidOutB Try.prog = true := by kernel_rfl
set_option maxRecDepth 100000 in
theorem lifted (os : Os) (started : os.Started) (H : Type) (enc : TypeId × Value → H) :
    ReturnsInHanded {} Try.checked os 3 .any (Rows.fnCelInputSpec.pre6 enc Try.prog Try.f3 Rows.fnCelInputRow.domain false) (Rows.fnCelInputSpec.post enc Try.prog Try.f3 false true false false) := by
  refine returnsInHanded_of_change (C := Try.checked) own started (by kernel_rfl) Try.func3
    (ChangeSpec.witness6 (enc := enc) (C := Try.checked) false ⟨#[], #[.slice none 0 0], []⟩ 8 (by kernel_rfl) (by kernel_rfl) (by kernel_rfl) (by kernel_rfl)) ?_
  intro W base args ds gs before hval0 hW hcnd _
  have hval : ∀ (j : Nat) t v, Try.f3.params[j]? = some t → args[j]? = some v → Value.okWide Try.prog W .any base t v := hval0
  have hW' := hW
  obtain ⟨p, q, hA0, hV, rfl, hfz, hnd⟩ := hW
  have hA : DataW.TrodAll enc Try.prog W 0 (fun _ => true) true Try.f3.params.toList args.toList ds p := hA0
  rw [Try.params3] at hA hval
  obtain ⟨v0, vs0, d0, ds0, p0, q0, hargs, rfl, rfl, h0, r0⟩ := trodAll_cons hA
  obtain ⟨rfl, rfl, rfl⟩ := trodAll_nil r0
  obtain rfl : args = #[v0] := by cases args; simp_all
  obtain ⟨rfl, rfl⟩ := trodVars_none hV
  obtain ⟨a0, len0, cap0, rfl⟩ := okWide_slice Try.underlying22 (hval 0 22 v0 rfl rfl)
  have k0 := h0
  have lt0 : ∀ x ∈ p0, x.block < W.heap.size := by obtain ⟨m, hm⟩ := k0; exact DataW.trod_lt m _ _ _ hm
  obtain ⟨z0, w0⟩ : ∃ zs, IsRow .u8 W a0 len0 cap0 zs := by
    obtain ⟨fuel, hf⟩ := h0
    rcases open_ints Try.underlying22 Try.underlying5 (by kernel_rfl) hf with ⟨hcs, _⟩ | ⟨x, l, c, zs, hcs, _, hl, hm, hz, _, hcell, hwz⟩
    · simp [Value.cells] at hcs
      obtain ⟨rfl, rfl, rfl⟩ := hcs
      exact ⟨[], .inl ⟨rfl, rfl, rfl, rfl⟩⟩
    · simp [Value.cells] at hcs
      obtain ⟨rfl, rfl, rfl⟩ := hcs
      exact ⟨zs, .inr ⟨_, rfl, hl, hm, by simpa using hz, hcell, hwz⟩⟩
  clear hA0 hval0
  refine (walk a0 len0 cap0 z0 W w0).mono fun e W' ⟨he, bel⟩ => ?_
  subst he
  exact ⟨_, rfl, _, _, _, [], _, [], hW', trodAll_mk1 (shut_bool Try.underlying4 _), (trodAll_cons_mk (Below.trod laidOut (by kernel_rfl) (of_decide_eq_true (by kernel_rfl)) k0 bel lt0) trodAll_mk0), rfl, bel.frame _, fun h => by cases h⟩

theorem over : Rows.fnCelInputRow.holds Try.pinned (OpenSpec.ofChange Rows.fnCelInputSpec) :=
  OpenClaim.holds_of_wide 3 Try.f3 rfl rfl rfl rfl rfl rfl rfl ⟨rfl, rfl, rfl, rfl, rfl⟩ rfl rfl rfl rfl rfl (by kernel_rfl) Try.func3 (by kernel_rfl)
    (of_decide_eq_true (by kernel_rfl)) (by unfold Func.isWrapper; first | (rw [if_pos (by decide +kernel)]; kernel_rfl) | (rw [if_neg (by decide +kernel)]; exact ⟨rfl, rfl⟩))
    (fun os started H enc _ => lifted os started H enc)

end Go.Proofs.Ythhgjnhfidhmpaa.fnCelInput
namespace Go.Proofs.Ythhgjnhfidhmpaa
theorem fnCelInput_holds : Rows.FnCelInputSaid := fnCelInput.over
#print axioms fnCelInput_holds
end Go.Proofs.Ythhgjnhfidhmpaa
