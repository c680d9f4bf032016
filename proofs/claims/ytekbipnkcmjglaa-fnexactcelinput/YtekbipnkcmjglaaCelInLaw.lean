/- CelInput answers at every cell and number as the specification does, field by field, writes into no argument and keeps nothing of one; its answer owns its memory, behind another call too. No conditions. -/
import Derived.Test.YtekbipnkcmjglaaCelInS
import Derived.Test.YtekbipnkcmjglaaCelMark
import Derived.Test.YtekbipnkcmjglaaRegBw
import Derived.Test.YtekbipnkcmjglaaOpenCel
import Derived.Deep.RegionWith
import Derived.Deep.DeepCutAuto
namespace Go.Proofs.Ytekbipnkcmjglaa.fnExactCelInput
open Go.ChangeShapes Go.WideShapes Go.ChangeAt Go.RowKit Go.Joins Go.Deep
set_option linter.unusedVariables false
set_option linter.unusedSimpArgs false
set_option maxRecDepth 4000
theorem ldC {b : Nat} {x y z t u : Value} (w : World) (h0 : w.cell? ⟨b, 0, none⟩ = some x) (h1 : w.cell? ⟨b, 1, none⟩ = some y) (h2 : w.cell? ⟨b, 2, none⟩ = some z) (h3 : w.cell? ⟨b, 3, none⟩ = some t) (h4 : w.cell? ⟨b, 4, none⟩ = some u) : (Instr.loadAt 27 (.pointer (some ⟨b, 0, none⟩))).run Try.prog w = .ok (.agg #[x, y, z, t, u]) w := by
  go_simp
theorem ldCL {b : Nat} {x y z t u : Value} (w : World) (h0 : w.cell? ⟨b, 0, none⟩ = some x) (h1 : w.cell? ⟨b, 1, none⟩ = some y) (h2 : w.cell? ⟨b, 2, none⟩ = some z) (h3 : w.cell? ⟨b, 3, none⟩ = some t) (h4 : w.cell? ⟨b, 4, none⟩ = some u) : (Instr.loadAt 42 (.pointer (some ⟨b, 0, none⟩))).run Try.prog w = .ok (.agg #[x, y, z, t, u]) w := by
  go_simp
set_option maxHeartbeats 16000000 in
theorem walk (pc : Int) (a1 : Option Addr) (nr c1 : Nat) (z1 : List Int) (a2 : Option Addr) (nm c2 : Nat) (z2 : List Int) (ht : Int) (a3 : Option Addr) (nb c3 : Nat) (z3 : List Int) (num : Int) (w : World) (k1 : IsRowI 1 w a1 nr c1 z1) (k2 : IsRowI 1 w a2 nm c2 z2) (k3 : IsRow .u8 w a3 nb c3 z3) (kn : (Lit.int IntKind.i64 num).wf = true) :
    Calls Try.prog 6 #[.agg #[.int .i64 pc, .slice a1 nr c1, .slice a2 nm c2, .int .i64 ht, .slice a3 nb c3], .int .i64 num] w fun e w' => e = .returned (.bool true) ∧ Below w.heap.size w w' := by
  have m1 := k1.max
  have m2 := k2.max
  have m3 := k3.max
  have PP := hid (below_alloc1 w (.cells #[.int .i64 pc, .slice a1 nr c1, .slice a2 nm c2, .int .i64 ht, .slice a3 nb c3] 42))
  have VA := hid (vb_new w [.int .i64 pc, .slice a1 nr c1, .slice a2 nm c2, .int .i64 ht, .slice a3 nb c3] 42)
  by_cases hl : nr + nm + nb ≤ 1048576
  · obtain ⟨xs, r1⟩ := k1.rd (by omega) (by omega)
    obtain ⟨ys, r2⟩ := k2.rd (by omega) (by omega)
    obtain ⟨bs, hbs, r3⟩ := k3.rd (by omega)
    subst hbs
    have R1 := hid r1
    have R2 := hid r2
    have R3 := hid r3
    have E1 := hid (show (if nr + nm + bs.length ≤ 1048576 then (1048576 : Int) - nr - nm - bs.length else -1) = 1048576 - nr - nm - bs.length by rw [if_pos hl])
    have d1 : decide ((1048576 : Int) - nr - nm - bs.length < 0) = false := by simp; omega
    have hB7 : (if (celB pc nr xs nm ys ht bs && inB num 0 255) then (if bs.length < 6 then bs ++ [num] else bs) else []).length ≤ 1048577 := by
      split
      · split
        · simp; omega
        · omega
      · simp
    have hN4 : (if (celB pc nr xs nm ys ht bs && inB num 0 255) then 4 else 0) ≤ 4 := by split <;> omega
    have hM8 : (if (celB pc nr xs nm ys ht bs && inB num 0 255) then 8 else 0) ≤ 8 := by split <;> omega
    obtain ⟨PC, hPC⟩ : ∃ x, (if (celB pc nr xs nm ys ht bs && inB num 0 255) then pc else 0) = x := ⟨_, rfl⟩
    obtain ⟨HT, hHT⟩ : ∃ x, (if (celB pc nr xs nm ys ht bs && inB num 0 255) then ht else 0) = x := ⟨_, rfl⟩
    obtain ⟨N, hN⟩ : ∃ x, (if (celB pc nr xs nm ys ht bs && inB num 0 255) then 4 else 0) = x := ⟨_, rfl⟩
    obtain ⟨M, hM⟩ : ∃ x, (if (celB pc nr xs nm ys ht bs && inB num 0 255) then 8 else 0) = x := ⟨_, rfl⟩
    obtain ⟨XS, hXS⟩ : ∃ x, (if (celB pc nr xs nm ys ht bs && inB num 0 255) then xs else []) = x := ⟨_, rfl⟩
    obtain ⟨YS, hYS⟩ : ∃ x, (if (celB pc nr xs nm ys ht bs && inB num 0 255) then ys else []) = x := ⟨_, rfl⟩
    obtain ⟨BS, hBS⟩ : ∃ x, (if (celB pc nr xs nm ys ht bs && inB num 0 255) then (if bs.length < 6 then bs ++ [num] else bs) else []) = x := ⟨_, rfl⟩
    obtain ⟨BB, hBB⟩ : ∃ x, ((celB pc nr xs nm ys ht bs && inB num 0 255) && decide (bs.length < 6)) = x := ⟨_, rfl⟩
    rw [hBS] at hB7
    rw [hN] at hN4
    rw [hM] at hM8
    obtain ⟨lb, hlb⟩ : ∃ x, BS.length = x := ⟨_, rfl⟩
    have HLB := hid hlb
    have hlb7 : lb ≤ 1048577 := by omega
    have HPC := hid hPC
    have HHT := hid hHT
    have HN := hid hN
    have HM := hid hM
    have HXS := hid hXS
    have HYS := hid hYS
    have HBS := hid hBS
    have HBB := hid hBB
    have dBB : (BB != BB) = false := by simp
    clear k1 k2 k3 r1 r2 r3 hPC hHT hN hM hXS hYS hBS hBB hlb
    go_enter Try.func6, Try.ntmps6
    go_wp2_with fail
    refine (szCell_any pc ht a1 a2 a3 nr nm bs.length c1 c2 c3 _ (by omega) (by omega) (by omega)).mono ?_
    rw [E1.out]
    rintro e w1 ⟨rfl, bb⟩
    replace VA := hid (VA.out.keep bb)
    replace PP := hid (PP.out.trans (bb.mono PP.out.size))
    clear bb
    obtain ⟨q0a, q0b, q0c, q0d, q0e⟩ := vb5 VA.out
    go_wp2_with fail
    clear q0a q0b q0c q0d q0e
    refine (toCell_any pc ht _ _ _ nr nm xs ys bs _ (R1.out.keep PP.out) (R2.out.keep PP.out) (R3.out.keep PP.out)).mono ?_
    rintro e w2 ⟨u2, v2, i2, rfl, cl, bb⟩
    have X2 := hid cl
    clear cl
    replace VA := hid (VA.out.keep bb)
    replace PP := hid (PP.out.trans (bb.mono PP.out.size))
    clear bb
    go_wp2_with fail
    refine (specCelIn_any pc ht num _ _ _ nr nm xs ys bs _ (X2.out.1.rd (by omega)) (X2.out.2.1.rd (by omega)) (X2.out.2.2.1.rd (by first | omega | (rw [marks_len]; omega)))).mono ?_
    rintro e w3 ⟨u3, v3, i3, rfl, cl, bb⟩
    rw [HPC.out, HHT.out, HBB.out]
    rw [HN.out, HM.out, HXS.out, HYS.out, HBS.out] at cl
    obtain ⟨xa3, xc3, rfl, _⟩ := ownI_form cl.1
    obtain ⟨ya3, yc3, rfl, _⟩ := ownI_form cl.2.1
    obtain ⟨za3, zc3, rfl, _⟩ := own_form cl.2.2.1
    try rw [HLB.out]
    rw [HLB.out] at cl
    have S6 := hid cl
    have y3 := bb.size
    clear cl
    replace VA := hid (VA.out.keep bb)
    replace X2 := hid (X2.out.keep bb)
    replace PP := hid (PP.out.trans (bb.mono PP.out.size))
    clear bb
    clear X2
    have Aw3 := below_alloc1 w3 (.cells #[.int .i64 PC, .slice xa3 N xc3, .slice ya3 M yc3, .int .i64 HT, .slice za3 lb zc3] 27)
    replace VA := hid (VA.out.keep Aw3)
    replace S6 := hid (S6.out.keep Aw3)
    replace PP := hid (PP.out.trans (Aw3.mono PP.out.size))
    have V6 := hid (vb_new w3 [.int .i64 PC, .slice xa3 N xc3, .slice ya3 M yc3, .int .i64 HT, .slice za3 lb zc3] 27)
    have sw3 : (w3.alloc (.cells #[.int .i64 PC, .slice xa3 N xc3, .slice ya3 M yc3, .int .i64 HT, .slice za3 lb zc3] 27)).heap.size = w3.heap.size + 1 := by simp
    obtain ⟨Ww3, hWw3⟩ : ∃ W, w3.alloc (.cells #[.int .i64 PC, .slice xa3 N xc3, .slice ya3 M yc3, .int .i64 HT, .slice za3 lb zc3] 27) = W := ⟨_, rfl⟩
    rw [hWw3] at sw3 VA S6 V6 PP
    clear Aw3
    have yA : w.heap.size < Ww3.heap.size := VA.out.2.2
    obtain ⟨q0a, q0b, q0c, q0d, q0e⟩ := vb5 VA.out
    go_wp2_with fail
    try rw [hWw3]
    clear hWw3
    clear q0a q0b q0c q0d q0e
    refine (toCell_any pc ht _ _ _ nr nm xs ys bs _ (R1.out.keep PP.out) (R2.out.keep PP.out) (R3.out.keep PP.out)).mono ?_
    rintro e w4 ⟨u4, v4, i4, rfl, cl, bb⟩
    obtain ⟨xa4, xc4, rfl, _⟩ := ownI_form cl.1
    obtain ⟨ya4, yc4, rfl, _⟩ := ownI_form cl.2.1
    obtain ⟨za4, zc4, rfl, _⟩ := own_form cl.2.2.1
    have X0 := hid cl
    have y4 := bb.size
    clear cl
    replace VA := hid (VA.out.keep bb)
    replace S6 := hid (S6.out.keep bb)
    replace V6 := hid (V6.out.keep bb)
    replace PP := hid (PP.out.trans (bb.mono PP.out.size))
    clear bb
    have Aw4 := below_alloc1 w4 (.cells #[.int .i64 pc, .slice xa4 nr xc4, .slice ya4 nm yc4, .int .i64 ht, .slice za4 bs.length zc4] 27)
    replace VA := hid (VA.out.keep Aw4)
    replace S6 := hid (S6.out.keep Aw4)
    replace V6 := hid (V6.out.keep Aw4)
    replace X0 := hid (X0.out.keep Aw4)
    replace PP := hid (PP.out.trans (Aw4.mono PP.out.size))
    have V8 := hid (vb_new w4 [.int .i64 pc, .slice xa4 nr xc4, .slice ya4 nm yc4, .int .i64 ht, .slice za4 bs.length zc4] 27)
    have sw4 : (w4.alloc (.cells #[.int .i64 pc, .slice xa4 nr xc4, .slice ya4 nm yc4, .int .i64 ht, .slice za4 bs.length zc4] 27)).heap.size = w4.heap.size + 1 := by simp
    obtain ⟨Ww4, hWw4⟩ : ∃ W, w4.alloc (.cells #[.int .i64 pc, .slice xa4 nr xc4, .slice ya4 nm yc4, .int .i64 ht, .slice za4 bs.length zc4] 27) = W := ⟨_, rfl⟩
    rw [hWw4] at sw4 VA S6 V6 X0 V8 PP
    clear Aw4
    obtain ⟨q0a, q0b, q0c, q0d, q0e⟩ := vb5 V8.out
    go_wp2_with fail
    try rw [hWw4]
    clear hWw4
    clear q0a q0b q0c q0d q0e
    refine (celIn_any pc ht num _ _ _ nr nm xs ys bs _ (X0.out.1.rd (by omega)) (X0.out.2.1.rd (by omega)) (X0.out.2.2.1.rd (by first | omega | (rw [marks_len]; omega)))).mono ?_
    rintro e w5 ⟨u5, v5, i5, rfl, cl, bb⟩
    rw [HPC.out, HHT.out, HBB.out]
    rw [HN.out, HM.out, HXS.out, HYS.out, HBS.out] at cl
    obtain ⟨xa5, xc5, rfl, _⟩ := ownI_form cl.1
    obtain ⟨ya5, yc5, rfl, _⟩ := ownI_form cl.2.1
    obtain ⟨za5, zc5, rfl, _⟩ := own_form cl.2.2.1
    try rw [HLB.out]
    rw [HLB.out] at cl
    have G0 := hid cl
    have y5 := bb.size
    clear cl
    replace VA := hid (VA.out.keep bb)
    replace S6 := hid (S6.out.keep bb)
    replace V6 := hid (V6.out.keep bb)
    replace X0 := hid (X0.out.keep bb)
    replace V8 := hid (V8.out.keep bb)
    replace PP := hid (PP.out.trans (bb.mono PP.out.size))
    clear bb
    have Aw5 := below_alloc1 w5 (.cells #[.int .i64 PC, .slice xa5 N xc5, .slice ya5 M yc5, .int .i64 HT, .slice za5 lb zc5] 27)
    replace VA := hid (VA.out.keep Aw5)
    replace S6 := hid (S6.out.keep Aw5)
    replace V6 := hid (V6.out.keep Aw5)
    replace X0 := hid (X0.out.keep Aw5)
    replace V8 := hid (V8.out.keep Aw5)
    replace G0 := hid (G0.out.keep Aw5)
    replace PP := hid (PP.out.trans (Aw5.mono PP.out.size))
    have V9 := hid (vb_new w5 [.int .i64 PC, .slice xa5 N xc5, .slice ya5 M yc5, .int .i64 HT, .slice za5 lb zc5] 27)
    have sw5 : (w5.alloc (.cells #[.int .i64 PC, .slice xa5 N xc5, .slice ya5 M yc5, .int .i64 HT, .slice za5 lb zc5] 27)).heap.size = w5.heap.size + 1 := by simp
    obtain ⟨Ww5, hWw5⟩ : ∃ W, w5.alloc (.cells #[.int .i64 PC, .slice xa5 N xc5, .slice ya5 M yc5, .int .i64 HT, .slice za5 lb zc5] 27) = W := ⟨_, rfl⟩
    rw [hWw5] at sw5 VA S6 V6 X0 V8 G0 V9 PP
    clear Aw5
    obtain ⟨q0a, q0b, q0c, q0d, q0e⟩ := vb5 V9.out
    obtain ⟨q1a, q1b, q1c, q1d, q1e⟩ := vb5 V6.out
    go_wp2_with fail
    try rw [hWw5]
    clear hWw5
    clear q0a q0b q0c q0d q0e q1a q1b q1c q1d q1e
    refine (eqCell_same PC HT _ _ _ _ _ _ N M XS YS BS _ (G0.out.1.rd (by omega)) (G0.out.2.1.rd (by omega)) (G0.out.2.2.1.rd (by first | omega | (rw [marks_len]; omega))) (S6.out.1.rd (by omega)) (S6.out.2.1.rd (by omega)) (S6.out.2.2.1.rd (by first | omega | (rw [marks_len]; omega)))).mono ?_
    rintro e w6 ⟨rfl, bb⟩
    replace VA := hid (VA.out.keep bb)
    replace S6 := hid (S6.out.keep bb)
    replace V6 := hid (V6.out.keep bb)
    replace X0 := hid (X0.out.keep bb)
    replace V8 := hid (V8.out.keep bb)
    replace G0 := hid (G0.out.keep bb)
    replace V9 := hid (V9.out.keep bb)
    replace PP := hid (PP.out.trans (bb.mono PP.out.size))
    clear bb
    obtain ⟨q0a, q0b, q0c, q0d, q0e⟩ := vb5 V8.out
    obtain ⟨q1a, q1b, q1c, q1d, q1e⟩ := vb5 VA.out
    go_upto_region 10 with fail
    have HAL : AllLast [(fun u _ => u = .agg #[.int .i64 pc, .slice xa4 nr xc4, .slice ya4 nm yc4, .int .i64 ht, .slice za4 bs.length zc4]), (fun u _ => u = .agg #[.int .i64 pc, .slice a1 nr c1, .slice a2 nm c2, .int .i64 ht, .slice a3 bs.length c3]), (fun x w' => ∃ u v i, x = .agg #[.int .i64 pc, u, v, .int .i64 ht, i] ∧ RdI 1 w' u nr xs ∧ RdI 1 w' v nm ys ∧ Rd w' i bs), (fun u _ => u = .bool true), (fun u _ => u = .bool false)] := ⟨lasts_val _, lasts_val _, fun x w w' hb h => (by obtain ⟨u, v, i, h1, h2, h3, h4⟩ := h; exact ⟨u, v, i, h1, h2.keep hb, h3.keep hb, h4.keep hb⟩), lasts_val _, lasts_val _, trivial⟩
    refine region_bw [(fun u _ => u = .agg #[.int .i64 pc, .slice xa4 nr xc4, .slice ya4 nm yc4, .int .i64 ht, .slice za4 bs.length zc4]), (fun u _ => u = .agg #[.int .i64 pc, .slice a1 nr c1, .slice a2 nm c2, .int .i64 ht, .slice a3 bs.length c3]), (fun x w' => ∃ u v i, x = .agg #[.int .i64 pc, u, v, .int .i64 ht, i] ∧ RdI 1 w' u nr xs ∧ RdI 1 w' v nm ys ∧ Rd w' i bs), (fun u _ => u = .bool true), (fun u _ => u = .bool false)] (by kernel_rfl) (by kernel_rfl) ⟨?_, ?_, ?_, ?_, ?_, trivial⟩ ?_
    · exact ob_un (bw_load (fun w hb => ldC w (cell_keep hb q0a) (cell_keep hb q0b) (cell_keep hb q0c) (cell_keep hb q0d) (cell_keep hb q0e)) (ok_out rfl rfl) rfl)
    · exact ob_un (bw_load (fun w hb => ldCL w (cell_keep hb q1a) (cell_keep hb q1b) (cell_keep hb q1c) (cell_keep hb q1d) (cell_keep hb q1e)) (ok_out rfl rfl) rfl)
    · exact ob_un (bw_call HAL (fun xs w => by go_simp) (fun a' w' hb hat => by
      have e1 : a'.eval (.tmp 46) = .agg #[.int .i64 pc, .slice a1 nr c1, .slice a2 nm c2, .int .i64 ht, .slice a3 bs.length c3] := ok_in 1 rfl rfl rfl a' w' hat
      have e : (#[Operand.tmp 46].map a'.eval) = #[.agg #[.int .i64 pc, .slice a1 nr c1, .slice a2 nm c2, .int .i64 ht, .slice a3 bs.length c3]] := by simp [e1]
      rw [e]
      refine (toCell_any pc ht _ _ _ nr nm xs ys bs w' ((R1.out.keep PP.out).keep hb) ((R2.out.keep PP.out).keep hb) ((R3.out.keep PP.out).keep hb)).mono ?_
      rintro e w' ⟨u, v, i, rfl, cl, b⟩
      exact ⟨_, rfl, ⟨u, v, i, rfl, cl.1.rd (by omega), cl.2.1.rd (by omega), cl.2.2.1.rd (by omega)⟩, b⟩))
    · exact ob_un (bw_call HAL (fun xs w => by go_simp) (fun a' w' hb hat => by
      have e1 : a'.eval (.tmp 45) = .agg #[.int .i64 pc, .slice xa4 nr xc4, .slice ya4 nm yc4, .int .i64 ht, .slice za4 bs.length zc4] := ok_in 0 rfl rfl rfl a' w' hat
      obtain ⟨u, v, i, e2, ru, rv, ri⟩ := ok_of 2 rfl rfl rfl hat
      have e : (#[Operand.tmp 45, Operand.tmp 47].map a'.eval) = #[.agg #[.int .i64 pc, .slice xa4 nr xc4, .slice ya4 nm yc4, .int .i64 ht, .slice za4 bs.length zc4], .agg #[.int .i64 pc, u, v, .int .i64 ht, i]] := by simp [e1, e2]
      rw [e]
      refine (eqCell_same pc ht _ _ _ _ _ _ nr nm xs ys bs w' ((X0.out.1.rd (by omega)).keep hb) ((X0.out.2.1.rd (by omega)).keep hb) ((X0.out.2.2.1.rd (by omega)).keep hb) ru rv ri).mono ?_
      rintro e w' ⟨rfl, b⟩
      exact ⟨_, rfl, rfl, b⟩))
    · exact ob_un (bw_un (fun w => by go_simp) (ok_in 3 rfl rfl rfl) rfl)
    intro uu wz bz hF
    obtain ⟨-, -, -, -, f4, -⟩ := hF
    have hn : uu 49 = .bool false := f4
    simp only [outTmps, List.setIfInBounds_toArray, List.set_cons_zero, List.set_cons_succ, hn]
    clear f4 HAL
    clear q0a q0b q0c q0d q0e q1a q1b q1c q1d q1e
    replace VA := hid (VA.out.keep bz)
    replace S6 := hid (S6.out.keep bz)
    replace V6 := hid (V6.out.keep bz)
    replace X0 := hid (X0.out.keep bz)
    replace V8 := hid (V8.out.keep bz)
    replace G0 := hid (G0.out.keep bz)
    replace V9 := hid (V9.out.keep bz)
    replace PP := hid (PP.out.trans (bz.mono PP.out.size))
    clear bz
    obtain ⟨q0a, q0b, q0c, q0d, q0e⟩ := vb5 V8.out
    go_wp2_with fail
    clear q0a q0b q0c q0d q0e
    refine (markCell_any pc ht 1 _ _ _ nr nm _ _ _ _ bs _ X0.out (by omega) (by omega) (by omega) (by omega) (by omega)).mono ?_
    rintro e w7 ⟨rfl, cl, cg⟩
    have SS := hid X0.out.2.2.2.2.2
    clear cl X0
    replace VA := hid (VA.out.offR cg SS.out (by omega))
    replace S6 := hid (S6.out.off cg SS.out (by omega))
    replace V6 := hid (V6.out.offR cg SS.out (by omega))
    replace V8 := hid (V8.out.offR cg SS.out (by omega))
    replace G0 := hid (G0.out.off cg SS.out (by omega))
    replace V9 := hid (V9.out.offR cg SS.out (by omega))
    replace PP := hid (below_off PP.out cg SS.out (by have := PP.out.size; omega) PP.out.size)
    clear cg SS
    have dk : decide ((1 : Int) + nr + nm + bs.length < 0) = false := by simp; omega
    obtain ⟨q0a, q0b, q0c, q0d, q0e⟩ := vb5 V9.out
    obtain ⟨q1a, q1b, q1c, q1d, q1e⟩ := vb5 V6.out
    go_wp2_with fail
    clear q0a q0b q0c q0d q0e q1a q1b q1c q1d q1e
    refine (eqCell_same PC HT _ _ _ _ _ _ N M XS YS BS _ (G0.out.1.rd (by omega)) (G0.out.2.1.rd (by omega)) (G0.out.2.2.1.rd (by first | omega | (rw [marks_len]; omega))) (S6.out.1.rd (by omega)) (S6.out.2.1.rd (by omega)) (S6.out.2.2.1.rd (by first | omega | (rw [marks_len]; omega)))).mono ?_
    rintro e w8 ⟨rfl, bb⟩
    replace VA := hid (VA.out.keep bb)
    replace S6 := hid (S6.out.keep bb)
    replace V6 := hid (V6.out.keep bb)
    replace V8 := hid (V8.out.keep bb)
    replace G0 := hid (G0.out.keep bb)
    replace V9 := hid (V9.out.keep bb)
    replace PP := hid (PP.out.trans (bb.mono PP.out.size))
    clear bb
    obtain ⟨q0a, q0b, q0c, q0d, q0e⟩ := vb5 V9.out
    go_wp2_with fail
    clear q0a q0b q0c q0d q0e
    refine (markCell_any PC HT 1 _ _ _ N M _ _ _ _ BS _ G0.out (by omega) (by omega) (by omega) (by omega) (by omega)).mono ?_
    rintro e w9 ⟨rfl, cl, cg⟩
    have SS := hid G0.out.2.2.2.2.2
    clear G0
    replace VA := hid (VA.out.offR cg SS.out (by omega))
    replace S6 := hid (S6.out.off cg SS.out (by omega))
    replace V6 := hid (V6.out.offR cg SS.out (by omega))
    replace V8 := hid (V8.out.offR cg SS.out (by omega))
    replace V9 := hid (V9.out.offR cg SS.out (by omega))
    replace PP := hid (below_off PP.out cg SS.out (by have := PP.out.size; omega) PP.out.size)
    have G0 := hid cl
    clear cg SS cl
    rw [HLB.out] at G0 ⊢
    have dq : decide ((1 : Int) + N + M + lb < 0) = false := by simp; omega
    have dqm : (((1 : Int) + N + M + lb) != (1 + N + M + lb)) = false := by simp
    obtain ⟨q0a, q0b, q0c, q0d, q0e⟩ := vb5 V9.out
    go_wp2_with fail
    clear q0a q0b q0c q0d q0e
    refine (heldCell_any PC HT 1 _ _ _ N M lb _ (G0.out.1.rd (by omega)) (G0.out.2.1.rd (by omega)) (G0.out.2.2.1.rd (by rw [marks_len]; omega)) (by omega) (by omega)).mono ?_
    rintro e w10 ⟨rfl, bb⟩
    replace VA := hid (VA.out.keep bb)
    replace S6 := hid (S6.out.keep bb)
    replace V6 := hid (V6.out.keep bb)
    replace V8 := hid (V8.out.keep bb)
    replace V9 := hid (V9.out.keep bb)
    replace G0 := hid (G0.out.keep bb)
    replace PP := hid (PP.out.trans (bb.mono PP.out.size))
    clear bb
    obtain ⟨q0a, q0b, q0c, q0d, q0e⟩ := vb5 VA.out
    go_wp2_with fail
    clear q0a q0b q0c q0d q0e
    refine (toCell_any pc ht _ _ _ nr nm xs ys bs _ (R1.out.keep PP.out) (R2.out.keep PP.out) (R3.out.keep PP.out)).mono ?_
    rintro e w11 ⟨u6, v6, i6, rfl, cl, bb⟩
    have X2 := hid cl
    clear cl
    replace VA := hid (VA.out.keep bb)
    replace S6 := hid (S6.out.keep bb)
    replace V6 := hid (V6.out.keep bb)
    replace V8 := hid (V8.out.keep bb)
    replace V9 := hid (V9.out.keep bb)
    replace G0 := hid (G0.out.keep bb)
    replace PP := hid (PP.out.trans (bb.mono PP.out.size))
    clear bb
    go_wp2_with fail
    refine (celIn_any pc ht num _ _ _ nr nm xs ys bs _ (X2.out.1.rd (by omega)) (X2.out.2.1.rd (by omega)) (X2.out.2.2.1.rd (by first | omega | (rw [marks_len]; omega)))).mono ?_
    rintro e w12 ⟨u7, v7, i7, rfl, cl, bb⟩
    rw [HPC.out, HHT.out, HBB.out]
    rw [HN.out, HM.out, HXS.out, HYS.out, HBS.out] at cl
    obtain ⟨xa7, xc7, rfl, _⟩ := ownI_form cl.1
    obtain ⟨ya7, yc7, rfl, _⟩ := ownI_form cl.2.1
    obtain ⟨za7, zc7, rfl, _⟩ := own_form cl.2.2.1
    try rw [HLB.out]
    rw [HLB.out] at cl
    have H0 := hid cl
    have y7 := bb.size
    clear cl
    replace VA := hid (VA.out.keep bb)
    replace S6 := hid (S6.out.keep bb)
    replace V6 := hid (V6.out.keep bb)
    replace V8 := hid (V8.out.keep bb)
    replace V9 := hid (V9.out.keep bb)
    replace G0 := hid (G0.out.keep bb)
    replace X2 := hid (X2.out.keep bb)
    replace PP := hid (PP.out.trans (bb.mono PP.out.size))
    clear bb
    clear X2
    have Aw12 := below_alloc1 w12 (.cells #[.int .i64 PC, .slice xa7 N xc7, .slice ya7 M yc7, .int .i64 HT, .slice za7 lb zc7] 27)
    replace VA := hid (VA.out.keep Aw12)
    replace S6 := hid (S6.out.keep Aw12)
    replace V6 := hid (V6.out.keep Aw12)
    replace V8 := hid (V8.out.keep Aw12)
    replace V9 := hid (V9.out.keep Aw12)
    replace G0 := hid (G0.out.keep Aw12)
    replace H0 := hid (H0.out.keep Aw12)
    replace PP := hid (PP.out.trans (Aw12.mono PP.out.size))
    have V14 := hid (vb_new w12 [.int .i64 PC, .slice xa7 N xc7, .slice ya7 M yc7, .int .i64 HT, .slice za7 lb zc7] 27)
    have sw12 : (w12.alloc (.cells #[.int .i64 PC, .slice xa7 N xc7, .slice ya7 M yc7, .int .i64 HT, .slice za7 lb zc7] 27)).heap.size = w12.heap.size + 1 := by simp
    obtain ⟨Ww12, hWw12⟩ : ∃ W, w12.alloc (.cells #[.int .i64 PC, .slice xa7 N xc7, .slice ya7 M yc7, .int .i64 HT, .slice za7 lb zc7] 27) = W := ⟨_, rfl⟩
    rw [hWw12] at sw12 VA S6 V6 V8 V9 G0 H0 V14 PP
    clear Aw12
    obtain ⟨q0a, q0b, q0c, q0d, q0e⟩ := vb5 V14.out
    obtain ⟨q1a, q1b, q1c, q1d, q1e⟩ := vb5 V6.out
    go_wp2_with fail
    try rw [hWw12]
    clear hWw12
    clear q0a q0b q0c q0d q0e q1a q1b q1c q1d q1e
    refine (eqCell_same PC HT _ _ _ _ _ _ N M XS YS BS _ (H0.out.1.rd (by omega)) (H0.out.2.1.rd (by omega)) (H0.out.2.2.1.rd (by first | omega | (rw [marks_len]; omega))) (S6.out.1.rd (by omega)) (S6.out.2.1.rd (by omega)) (S6.out.2.2.1.rd (by first | omega | (rw [marks_len]; omega)))).mono ?_
    rintro e w13 ⟨rfl, bb⟩
    replace VA := hid (VA.out.keep bb)
    replace S6 := hid (S6.out.keep bb)
    replace V6 := hid (V6.out.keep bb)
    replace V8 := hid (V8.out.keep bb)
    replace V9 := hid (V9.out.keep bb)
    replace G0 := hid (G0.out.keep bb)
    replace H0 := hid (H0.out.keep bb)
    replace V14 := hid (V14.out.keep bb)
    replace PP := hid (PP.out.trans (bb.mono PP.out.size))
    clear bb
    obtain ⟨q0a, q0b, q0c, q0d, q0e⟩ := vb5 V9.out
    go_wp2_with fail
    clear q0a q0b q0c q0d q0e
    refine (heldCell_any PC HT 1 _ _ _ N M lb _ (G0.out.1.rd (by omega)) (G0.out.2.1.rd (by omega)) (G0.out.2.2.1.rd (by rw [marks_len]; omega)) (by omega) (by omega)).mono ?_
    rintro e w14 ⟨rfl, bb⟩
    replace VA := hid (VA.out.keep bb)
    replace S6 := hid (S6.out.keep bb)
    replace V6 := hid (V6.out.keep bb)
    replace V8 := hid (V8.out.keep bb)
    replace V9 := hid (V9.out.keep bb)
    replace G0 := hid (G0.out.keep bb)
    replace H0 := hid (H0.out.keep bb)
    replace V14 := hid (V14.out.keep bb)
    replace PP := hid (PP.out.trans (bb.mono PP.out.size))
    clear bb
    go_wp2
    go_ret
    exact ⟨rfl, PP.out⟩
  · have E1 := hid (show (if nr + nm + nb ≤ 1048576 then (1048576 : Int) - nr - nm - nb else -1) = -1 by rw [if_neg hl])
    clear k1 k2 k3
    go_enter Try.func6, Try.ntmps6
    go_wp2_with fail
    refine (szCell_any pc ht a1 a2 a3 nr nm nb c1 c2 c3 _ (by omega) (by omega) (by omega)).mono ?_
    rw [E1.out]
    rintro e w1 ⟨rfl, b1⟩
    have P1 := hid (PP.out.trans (b1.mono PP.out.size))
    clear b1
    go_wp2
    go_ret
    exact ⟨rfl, P1.out⟩
theorem own : ownKnob Try.prog.godebug = none := by kernel_rfl
theorem laidOut : laidOutB Try.prog = true := by kernel_rfl
set_option maxRecDepth 100000 in
theorem lifted (os : Os) (started : os.Started) (H : Type) (enc : TypeId × Value → H) :
    ReturnsInHanded {} Try.checked os 6 .any (Rows.fnExactCelInputSpec.pre6 enc Try.prog Try.f6 Rows.fnExactCelInputRow.domain false) (Rows.fnExactCelInputSpec.post enc Try.prog Try.f6 false true false false) := by
  refine returnsInHanded_of_change (C := Try.checked) own started (by kernel_rfl) Try.func6
    (ChangeSpec.witness6 (enc := enc) (C := Try.checked) false ⟨#[], #[.agg #[.int .i64 0, .slice none 0 0, .slice none 0 0, .int .i64 0, .slice none 0 0], .int .i64 0], []⟩ 8 (by kernel_rfl) (by kernel_rfl) (by kernel_rfl) (by kernel_rfl)) ?_
  intro W base args ds gs before hval0 hW hcnd _
  have hval : ∀ (j : Nat) t v, Try.f6.params[j]? = some t → args[j]? = some v → Value.okWide Try.prog W .any base t v := hval0
  have hW' := hW
  obtain ⟨p, q, hA0, hV, rfl, hfz, hnd⟩ := hW
  have hA : DataW.TrodAll enc Try.prog W 0 (fun _ => true) true Try.f6.params.toList args.toList ds p := hA0
  rw [Try.params6] at hA hval
  obtain ⟨v0, vs0, d0, ds0, p0, q0, hargs, rfl, rfl, h0, r0⟩ := trodAll_cons hA
  obtain ⟨v1, vs1, d1, ds1, p1, q1, rfl, rfl, rfl, h1, r1⟩ := trodAll_cons r0
  obtain ⟨rfl, rfl, rfl⟩ := trodAll_nil r1
  obtain rfl : args = #[v0, v1] := by cases args; simp_all
  obtain ⟨rfl, rfl⟩ := trodVars_none hV
  have k0 := h0
  have lt0 : ∀ x ∈ p0, x.block < W.heap.size := by obtain ⟨m, hm⟩ := k0; exact DataW.trod_lt m _ _ _ hm
  obtain ⟨pc0, ra0, rl0, rc0, rz0, ma0, ml0, mc0, mz0, ht0, ba0, bl0, bc0, bz0, rfl, rk0, mk0, bk0⟩ := open_cel Try.underlying42 Try.underlying40 (by kernel_rfl) (by kernel_rfl) rfl rfl (by kernel_rfl) (by kernel_rfl) Try.underlying3 Try.underlying3 Try.underlying23 Try.underlying23 Try.underlying3 (by kernel_rfl) Try.underlying22 Try.underlying5 (by kernel_rfl) (hval 0 42 v0 rfl rfl) h0
  obtain ⟨a1, rfl, rfl, rfl, w1⟩ := open_int Try.underlying3 (hval 1 3 v1 rfl rfl) h1
  clear hA0 hval0
  refine (walk pc0 ra0 rl0 rc0 rz0 ma0 ml0 mc0 mz0 ht0 ba0 bl0 bc0 bz0 a1 W rk0 mk0 bk0 w1).mono fun e W' ⟨he, bel⟩ => ?_
  subst he
  exact ⟨_, rfl, _, _, _, [], _, [], hW', trodAll_mk1 (shut_bool Try.underlying4 _), (trodAll_cons_mk (Below.trod laidOut (by kernel_rfl) (of_decide_eq_true (by kernel_rfl)) k0 bel lt0) (trodAll_cons_mk (shut_int Try.underlying3 w1) trodAll_mk0)), rfl, bel.frame _, fun h => by cases h⟩

theorem over : Rows.fnExactCelInputRow.holds Try.pinned (OpenSpec.ofChange Rows.fnExactCelInputSpec) :=
  OpenClaim.holds_of_wide 6 Try.f6 rfl rfl rfl rfl rfl rfl rfl ⟨rfl, rfl, rfl, rfl, rfl⟩ rfl rfl rfl rfl rfl (by kernel_rfl) Try.func6 (by kernel_rfl)
    (of_decide_eq_true (by kernel_rfl)) (by unfold Func.isWrapper; first | (rw [if_pos (by decide +kernel)]; kernel_rfl) | (rw [if_neg (by decide +kernel)]; exact ⟨rfl, rfl⟩))
    (fun os started H enc _ => lifted os started H enc)

end Go.Proofs.Ytekbipnkcmjglaa.fnExactCelInput
namespace Go.Proofs.Ytekbipnkcmjglaa
theorem fnExactCelInput_holds : Rows.FnExactCelInputSaid := fnExactCelInput.over
#print axioms fnExactCelInput_holds
end Go.Proofs.Ytekbipnkcmjglaa

