/- The draw that spoils a rule now and then: seven ints, the reader goes on. -/
import Derived.Test.YtlkmooefebenlaaDrawRule
namespace Go.Proofs.Ytlkmooefebenlaa
open Go.ChangeShapes Go.WideShapes Go.ChangeAt Go.RowKit Go.Joins Go.Deep
set_option linter.unusedVariables false
set_option linter.unusedSimpArgs false
set_option maxRecDepth 4000

set_option maxHeartbeats 8000000 in
theorem drawBad_any (W w : World) (g p : Nat) (y0 y1 y2 y3 y4 y5 y6 : Int) (hr : Rdr W w g p) (hp : p < 990000) :
    Calls Try.prog 72 #[.pointer (some ⟨g, 0, none⟩), .agg #[.int .i64 y0, .int .i64 y1, .int .i64 y2, .int .i64 y3, .int .i64 y4, .int .i64 y5, .int .i64 y6]] w fun e w' => ∃ z0 z1 z2 z3 z4 z5 z6 : Int, e = .returned (.agg #[.int .i64 z0, .int .i64 z1, .int .i64 z2, .int .i64 z3, .int .i64 z4, .int .i64 z5, .int .i64 z6]) ∧ (∃ q, q ≤ p + 2 ∧ Rdr W w' g q) ∧ w.grownBy w' (some g) := by
  have hg : g < w.heap.size := by
    obtain ⟨v, xs, _, _, _, h, _⟩ := hr
    exact World.block_lt_of_cell? w ⟨g, 0, none⟩ h
  have RD := hid ((hr.keep (below_alloc1 w (.cells #[.int .i64 y0, .int .i64 y1, .int .i64 y2, .int .i64 y3, .int .i64 y4, .int .i64 y5, .int .i64 y6] 46))).keep (below_alloc1 _ (.cells #[.int .i64 0, .int .i64 0, .int .i64 0, .int .i64 0, .int .i64 0, .int .i64 0, .int .i64 0] 46)))
  have GR := hid (galloc (galloc (grefl w g) (.cells #[.int .i64 y0, .int .i64 y1, .int .i64 y2, .int .i64 y3, .int .i64 y4, .int .i64 y5, .int .i64 y6] 46)) (.cells #[.int .i64 0, .int .i64 0, .int .i64 0, .int .i64 0, .int .i64 0, .int .i64 0, .int .i64 0] 46))
  have LB : Hid (IB ((w.alloc (.cells #[.int .i64 y0, .int .i64 y1, .int .i64 y2, .int .i64 y3, .int .i64 y4, .int .i64 y5, .int .i64 y6] 46)).alloc (.cells #[.int .i64 0, .int .i64 0, .int .i64 0, .int .i64 0, .int .i64 0, .int .i64 0, .int .i64 0] 46)) w.heap.size [y0, y1, y2, y3, y4, y5, y6]) := hid ((ib_new w [y0, y1, y2, y3, y4, y5, y6] 46).keep (below_alloc1 _ _))
  have RB : Hid (IB ((w.alloc (.cells #[.int .i64 y0, .int .i64 y1, .int .i64 y2, .int .i64 y3, .int .i64 y4, .int .i64 y5, .int .i64 y6] 46)).alloc (.cells #[.int .i64 0, .int .i64 0, .int .i64 0, .int .i64 0, .int .i64 0, .int .i64 0, .int .i64 0] 46)) (w.heap.size + 1) [0, 0, 0, 0, 0, 0, 0]) := hid (by have h := ib_new (w.alloc (.cells #[.int .i64 y0, .int .i64 y1, .int .i64 y2, .int .i64 y3, .int .i64 y4, .int .i64 y5, .int .i64 y6] 46)) [0, 0, 0, 0, 0, 0, 0] 46; simpa using h)
  obtain ⟨B, hB⟩ : ∃ B, w.heap.size = B := ⟨_, rfl⟩
  rw [hB] at LB RB
  have nB : some B ≠ some g := by simp; omega
  have nR : some (B + 1) ≠ some g := by simp; omega
  have hBg : g < B := by omega
  have HBW := hid hB
  clear hr
  go_enter Try.func72, Try.ntmps72
  go_wp2_with fail
  have hBw : w.heap.size ≤ B := by have := HBW.out; omega
  clear hB
  refine (pick_h 16 W _ g p RD.out (by omega) (by omega) (by omega)).mono ?_
  rintro e w1 ⟨x1, rfl, lx1, ux1, RD, HC, HZ, HG⟩
  have GR := hid (gtrans GR.out HG.out)
  have LB := hid (LB.out.grown HG.out nB)
  have RB := hid (RB.out.grown HG.out nR)
  clear HC HZ HG HBW
  by_cases e0 : x1 = 0
  · subst e0
    have nV : ¬ w1.heap.size = g := by have := LB.out.2.2; omega
    have RD := hid (RD.out.keep (below_alloc1 w1 (.cells #[.int .i64 (-1), .int .i64 9] 3)))
    have GR := hid (galloc GR.out (.cells #[.int .i64 (-1), .int .i64 9] 3))
    have LB := hid (LB.out.keep (below_alloc1 w1 (.cells #[.int .i64 (-1), .int .i64 9] 3)))
    have RB := hid (RB.out.keep (below_alloc1 w1 (.cells #[.int .i64 (-1), .int .i64 9] 3)))
    go_wp2_with fail
    refine (pick_h 2 W _ g (p + 1) RD.out (by omega) (by omega) (by omega)).mono ?_
    rintro e w2 ⟨x2, rfl, lx2, ux2, RD, HC, HZ, HG⟩
    have GR := hid (gtrans GR.out HG.out)
    have LB := hid (LB.out.grown HG.out nB)
    have RB := hid (RB.out.grown HG.out nR)
    obtain ⟨m, hm, hcm⟩ := at_pick [-1, 9] 3 x2 lx2 (by simpa using ux2) nV HC.out
    clear HC HZ HG hm
    have cc := (ib7 LB.out).1
    have fc := LB.out.2.1 0
    have LB := hid (LB.out.set (i := 0) (by simp) m)
    have RD := hid (rdr_setB RD.out (q := ⟨B, 0, none⟩) hBg (.int .i64 m))
    have GR := hid (gset GR.out (q := ⟨B, 0, none⟩) (by dsimp only; omega) (.int .i64 m))
    have RB := hid (RB.out.off (i := 0) (v := .int .i64 m) (c := B) (by omega))
    go_upto_region 16 with fail
    clear cc fc hcm
    obtain ⟨V, hV⟩ : ∃ V, w2.setCell ⟨B, 0, none⟩ (.int .i64 m) = V := ⟨_, rfl⟩
    rw [hV] at LB RD GR RB ⊢
    clear hV
    have LB : Hid (IB V B [m, y1, y2, y3, y4, y5, y6]) := LB
    obtain ⟨c0, c1, c2, c3, c4, c5, c6⟩ := ib7 LB.out
    obtain ⟨s0, s1, s2, s3, s4, s5, s6⟩ := ib7 RB.out
    have ff := RB.out.2.1
    obtain ⟨g0, g1, g2, g3, g4, g5, g6⟩ := ib7 (seven_ib rfl RB.out m y1 y2 y3 y4 y5 y6)
    have G0 := hid g0
    have G1 := hid g1
    have G2 := hid g2
    have G3 := hid g3
    have G4 := hid g4
    have G5 := hid g5
    have G6 := hid g6
    clear g0 g1 g2 g3 g4 g5 g6
    go_wp2_with fail
    refine bodyPost_ret (res_l31Bad _ rfl G0.out G1.out G2.out G3.out G4.out G5.out G6.out) rfl ?_
    exact ⟨m, y1, y2, y3, y4, y5, y6, rfl, ⟨_, by omega, seven_rdr (.int .i64 m) (.int .i64 y1) (.int .i64 y2) (.int .i64 y3) (.int .i64 y4) (.int .i64 y5) (.int .i64 y6) RD.out (by omega)⟩, seven_gset (.int .i64 m) (.int .i64 y1) (.int .i64 y2) (.int .i64 y3) (.int .i64 y4) (.int .i64 y5) (.int .i64 y6) GR.out (by omega)⟩
  by_cases e1 : x1 = 1
  · subst e1
    clear e0
    have nV : ¬ w1.heap.size = g := by have := LB.out.2.2; omega
    have RD := hid (RD.out.keep (below_alloc1 w1 (.cells #[.int .i64 (-1), .int .i64 9] 3)))
    have GR := hid (galloc GR.out (.cells #[.int .i64 (-1), .int .i64 9] 3))
    have LB := hid (LB.out.keep (below_alloc1 w1 (.cells #[.int .i64 (-1), .int .i64 9] 3)))
    have RB := hid (RB.out.keep (below_alloc1 w1 (.cells #[.int .i64 (-1), .int .i64 9] 3)))
    go_wp2_with fail
    refine (pick_h 2 W _ g (p + 1) RD.out (by omega) (by omega) (by omega)).mono ?_
    rintro e w2 ⟨x2, rfl, lx2, ux2, RD, HC, HZ, HG⟩
    have GR := hid (gtrans GR.out HG.out)
    have LB := hid (LB.out.grown HG.out nB)
    have RB := hid (RB.out.grown HG.out nR)
    obtain ⟨m, hm, hcm⟩ := at_pick [-1, 9] 3 x2 lx2 (by simpa using ux2) nV HC.out
    clear HC HZ HG hm
    have cc := (ib7 LB.out).2.1
    have fc := LB.out.2.1 1
    have LB := hid (LB.out.set (i := 1) (by simp) m)
    have RD := hid (rdr_setB RD.out (q := ⟨B, 1, none⟩) hBg (.int .i64 m))
    have GR := hid (gset GR.out (q := ⟨B, 1, none⟩) (by dsimp only; omega) (.int .i64 m))
    have RB := hid (RB.out.off (i := 1) (v := .int .i64 m) (c := B) (by omega))
    go_upto_region 16 with fail
    clear cc fc hcm
    obtain ⟨V, hV⟩ : ∃ V, w2.setCell ⟨B, 1, none⟩ (.int .i64 m) = V := ⟨_, rfl⟩
    rw [hV] at LB RD GR RB ⊢
    clear hV
    have LB : Hid (IB V B [y0, m, y2, y3, y4, y5, y6]) := LB
    obtain ⟨c0, c1, c2, c3, c4, c5, c6⟩ := ib7 LB.out
    obtain ⟨s0, s1, s2, s3, s4, s5, s6⟩ := ib7 RB.out
    have ff := RB.out.2.1
    obtain ⟨g0, g1, g2, g3, g4, g5, g6⟩ := ib7 (seven_ib rfl RB.out y0 m y2 y3 y4 y5 y6)
    have G0 := hid g0
    have G1 := hid g1
    have G2 := hid g2
    have G3 := hid g3
    have G4 := hid g4
    have G5 := hid g5
    have G6 := hid g6
    clear g0 g1 g2 g3 g4 g5 g6
    go_wp2_with fail
    refine bodyPost_ret (res_l31Bad _ rfl G0.out G1.out G2.out G3.out G4.out G5.out G6.out) rfl ?_
    exact ⟨y0, m, y2, y3, y4, y5, y6, rfl, ⟨_, by omega, seven_rdr (.int .i64 y0) (.int .i64 m) (.int .i64 y2) (.int .i64 y3) (.int .i64 y4) (.int .i64 y5) (.int .i64 y6) RD.out (by omega)⟩, seven_gset (.int .i64 y0) (.int .i64 m) (.int .i64 y2) (.int .i64 y3) (.int .i64 y4) (.int .i64 y5) (.int .i64 y6) GR.out (by omega)⟩
  by_cases e2 : x1 = 2
  · subst e2
    clear e0
    clear e1
    have nV : ¬ w1.heap.size = g := by have := LB.out.2.2; omega
    have RD := hid (RD.out.keep (below_alloc1 w1 (.cells #[.int .i64 (-2), .int .i64 8] 3)))
    have GR := hid (galloc GR.out (.cells #[.int .i64 (-2), .int .i64 8] 3))
    have LB := hid (LB.out.keep (below_alloc1 w1 (.cells #[.int .i64 (-2), .int .i64 8] 3)))
    have RB := hid (RB.out.keep (below_alloc1 w1 (.cells #[.int .i64 (-2), .int .i64 8] 3)))
    go_wp2_with fail
    refine (pick_h 2 W _ g (p + 1) RD.out (by omega) (by omega) (by omega)).mono ?_
    rintro e w2 ⟨x2, rfl, lx2, ux2, RD, HC, HZ, HG⟩
    have GR := hid (gtrans GR.out HG.out)
    have LB := hid (LB.out.grown HG.out nB)
    have RB := hid (RB.out.grown HG.out nR)
    obtain ⟨m, hm, hcm⟩ := at_pick [-2, 8] 3 x2 lx2 (by simpa using ux2) nV HC.out
    clear HC HZ HG hm
    have cc := (ib7 LB.out).2.2.1
    have fc := LB.out.2.1 2
    have LB := hid (LB.out.set (i := 2) (by simp) m)
    have RD := hid (rdr_setB RD.out (q := ⟨B, 2, none⟩) hBg (.int .i64 m))
    have GR := hid (gset GR.out (q := ⟨B, 2, none⟩) (by dsimp only; omega) (.int .i64 m))
    have RB := hid (RB.out.off (i := 2) (v := .int .i64 m) (c := B) (by omega))
    go_upto_region 16 with fail
    clear cc fc hcm
    obtain ⟨V, hV⟩ : ∃ V, w2.setCell ⟨B, 2, none⟩ (.int .i64 m) = V := ⟨_, rfl⟩
    rw [hV] at LB RD GR RB ⊢
    clear hV
    have LB : Hid (IB V B [y0, y1, m, y3, y4, y5, y6]) := LB
    obtain ⟨c0, c1, c2, c3, c4, c5, c6⟩ := ib7 LB.out
    obtain ⟨s0, s1, s2, s3, s4, s5, s6⟩ := ib7 RB.out
    have ff := RB.out.2.1
    obtain ⟨g0, g1, g2, g3, g4, g5, g6⟩ := ib7 (seven_ib rfl RB.out y0 y1 m y3 y4 y5 y6)
    have G0 := hid g0
    have G1 := hid g1
    have G2 := hid g2
    have G3 := hid g3
    have G4 := hid g4
    have G5 := hid g5
    have G6 := hid g6
    clear g0 g1 g2 g3 g4 g5 g6
    go_wp2_with fail
    refine bodyPost_ret (res_l31Bad _ rfl G0.out G1.out G2.out G3.out G4.out G5.out G6.out) rfl ?_
    exact ⟨y0, y1, m, y3, y4, y5, y6, rfl, ⟨_, by omega, seven_rdr (.int .i64 y0) (.int .i64 y1) (.int .i64 m) (.int .i64 y3) (.int .i64 y4) (.int .i64 y5) (.int .i64 y6) RD.out (by omega)⟩, seven_gset (.int .i64 y0) (.int .i64 y1) (.int .i64 m) (.int .i64 y3) (.int .i64 y4) (.int .i64 y5) (.int .i64 y6) GR.out (by omega)⟩
  by_cases e3 : x1 = 3
  · subst e3
    clear e0
    clear e1
    clear e2
    have nV : ¬ w1.heap.size = g := by have := LB.out.2.2; omega
    have RD := hid (RD.out.keep (below_alloc1 w1 (.cells #[.int .i64 (-1), .int .i64 256] 3)))
    have GR := hid (galloc GR.out (.cells #[.int .i64 (-1), .int .i64 256] 3))
    have LB := hid (LB.out.keep (below_alloc1 w1 (.cells #[.int .i64 (-1), .int .i64 256] 3)))
    have RB := hid (RB.out.keep (below_alloc1 w1 (.cells #[.int .i64 (-1), .int .i64 256] 3)))
    go_wp2_with fail
    refine (pick_h 2 W _ g (p + 1) RD.out (by omega) (by omega) (by omega)).mono ?_
    rintro e w2 ⟨x2, rfl, lx2, ux2, RD, HC, HZ, HG⟩
    have GR := hid (gtrans GR.out HG.out)
    have LB := hid (LB.out.grown HG.out nB)
    have RB := hid (RB.out.grown HG.out nR)
    obtain ⟨m, hm, hcm⟩ := at_pick [-1, 256] 3 x2 lx2 (by simpa using ux2) nV HC.out
    clear HC HZ HG hm
    have cc := (ib7 LB.out).2.2.2.2.1
    have fc := LB.out.2.1 4
    have LB := hid (LB.out.set (i := 4) (by simp) m)
    have RD := hid (rdr_setB RD.out (q := ⟨B, 4, none⟩) hBg (.int .i64 m))
    have GR := hid (gset GR.out (q := ⟨B, 4, none⟩) (by dsimp only; omega) (.int .i64 m))
    have RB := hid (RB.out.off (i := 4) (v := .int .i64 m) (c := B) (by omega))
    go_upto_region 16 with fail
    clear cc fc hcm
    obtain ⟨V, hV⟩ : ∃ V, w2.setCell ⟨B, 4, none⟩ (.int .i64 m) = V := ⟨_, rfl⟩
    rw [hV] at LB RD GR RB ⊢
    clear hV
    have LB : Hid (IB V B [y0, y1, y2, y3, m, y5, y6]) := LB
    obtain ⟨c0, c1, c2, c3, c4, c5, c6⟩ := ib7 LB.out
    obtain ⟨s0, s1, s2, s3, s4, s5, s6⟩ := ib7 RB.out
    have ff := RB.out.2.1
    obtain ⟨g0, g1, g2, g3, g4, g5, g6⟩ := ib7 (seven_ib rfl RB.out y0 y1 y2 y3 m y5 y6)
    have G0 := hid g0
    have G1 := hid g1
    have G2 := hid g2
    have G3 := hid g3
    have G4 := hid g4
    have G5 := hid g5
    have G6 := hid g6
    clear g0 g1 g2 g3 g4 g5 g6
    go_wp2_with fail
    refine bodyPost_ret (res_l31Bad _ rfl G0.out G1.out G2.out G3.out G4.out G5.out G6.out) rfl ?_
    exact ⟨y0, y1, y2, y3, m, y5, y6, rfl, ⟨_, by omega, seven_rdr (.int .i64 y0) (.int .i64 y1) (.int .i64 y2) (.int .i64 y3) (.int .i64 m) (.int .i64 y5) (.int .i64 y6) RD.out (by omega)⟩, seven_gset (.int .i64 y0) (.int .i64 y1) (.int .i64 y2) (.int .i64 y3) (.int .i64 m) (.int .i64 y5) (.int .i64 y6) GR.out (by omega)⟩
  by_cases e4 : x1 = 4
  · subst e4
    clear e0
    clear e1
    clear e2
    clear e3
    have nV : ¬ w1.heap.size = g := by have := LB.out.2.2; omega
    have RD := hid (RD.out.keep (below_alloc1 w1 (.cells #[.int .i64 (-2), .int .i64 8] 3)))
    have GR := hid (galloc GR.out (.cells #[.int .i64 (-2), .int .i64 8] 3))
    have LB := hid (LB.out.keep (below_alloc1 w1 (.cells #[.int .i64 (-2), .int .i64 8] 3)))
    have RB := hid (RB.out.keep (below_alloc1 w1 (.cells #[.int .i64 (-2), .int .i64 8] 3)))
    go_wp2_with fail
    refine (pick_h 2 W _ g (p + 1) RD.out (by omega) (by omega) (by omega)).mono ?_
    rintro e w2 ⟨x2, rfl, lx2, ux2, RD, HC, HZ, HG⟩
    have GR := hid (gtrans GR.out HG.out)
    have LB := hid (LB.out.grown HG.out nB)
    have RB := hid (RB.out.grown HG.out nR)
    obtain ⟨m, hm, hcm⟩ := at_pick [-2, 8] 3 x2 lx2 (by simpa using ux2) nV HC.out
    clear HC HZ HG hm
    have cc := (ib7 LB.out).2.2.2.2.2.1
    have fc := LB.out.2.1 5
    have LB := hid (LB.out.set (i := 5) (by simp) m)
    have RD := hid (rdr_setB RD.out (q := ⟨B, 5, none⟩) hBg (.int .i64 m))
    have GR := hid (gset GR.out (q := ⟨B, 5, none⟩) (by dsimp only; omega) (.int .i64 m))
    have RB := hid (RB.out.off (i := 5) (v := .int .i64 m) (c := B) (by omega))
    go_upto_region 16 with fail
    clear cc fc hcm
    obtain ⟨V, hV⟩ : ∃ V, w2.setCell ⟨B, 5, none⟩ (.int .i64 m) = V := ⟨_, rfl⟩
    rw [hV] at LB RD GR RB ⊢
    clear hV
    have LB : Hid (IB V B [y0, y1, y2, y3, y4, m, y6]) := LB
    obtain ⟨c0, c1, c2, c3, c4, c5, c6⟩ := ib7 LB.out
    obtain ⟨s0, s1, s2, s3, s4, s5, s6⟩ := ib7 RB.out
    have ff := RB.out.2.1
    obtain ⟨g0, g1, g2, g3, g4, g5, g6⟩ := ib7 (seven_ib rfl RB.out y0 y1 y2 y3 y4 m y6)
    have G0 := hid g0
    have G1 := hid g1
    have G2 := hid g2
    have G3 := hid g3
    have G4 := hid g4
    have G5 := hid g5
    have G6 := hid g6
    clear g0 g1 g2 g3 g4 g5 g6
    go_wp2_with fail
    refine bodyPost_ret (res_l31Bad _ rfl G0.out G1.out G2.out G3.out G4.out G5.out G6.out) rfl ?_
    exact ⟨y0, y1, y2, y3, y4, m, y6, rfl, ⟨_, by omega, seven_rdr (.int .i64 y0) (.int .i64 y1) (.int .i64 y2) (.int .i64 y3) (.int .i64 y4) (.int .i64 m) (.int .i64 y6) RD.out (by omega)⟩, seven_gset (.int .i64 y0) (.int .i64 y1) (.int .i64 y2) (.int .i64 y3) (.int .i64 y4) (.int .i64 m) (.int .i64 y6) GR.out (by omega)⟩
  by_cases e5 : x1 = 5
  · subst e5
    clear e0
    clear e1
    clear e2
    clear e3
    clear e4
    have nV : ¬ w1.heap.size = g := by have := LB.out.2.2; omega
    have RD := hid (RD.out.keep (below_alloc1 w1 (.cells #[.int .i64 (-1), .int .i64 9] 3)))
    have GR := hid (galloc GR.out (.cells #[.int .i64 (-1), .int .i64 9] 3))
    have LB := hid (LB.out.keep (below_alloc1 w1 (.cells #[.int .i64 (-1), .int .i64 9] 3)))
    have RB := hid (RB.out.keep (below_alloc1 w1 (.cells #[.int .i64 (-1), .int .i64 9] 3)))
    go_wp2_with fail
    refine (pick_h 2 W _ g (p + 1) RD.out (by omega) (by omega) (by omega)).mono ?_
    rintro e w2 ⟨x2, rfl, lx2, ux2, RD, HC, HZ, HG⟩
    have GR := hid (gtrans GR.out HG.out)
    have LB := hid (LB.out.grown HG.out nB)
    have RB := hid (RB.out.grown HG.out nR)
    obtain ⟨m, hm, hcm⟩ := at_pick [-1, 9] 3 x2 lx2 (by simpa using ux2) nV HC.out
    clear HC HZ HG hm
    have cc := (ib7 LB.out).2.2.2.2.2.2
    have fc := LB.out.2.1 6
    have LB := hid (LB.out.set (i := 6) (by simp) m)
    have RD := hid (rdr_setB RD.out (q := ⟨B, 6, none⟩) hBg (.int .i64 m))
    have GR := hid (gset GR.out (q := ⟨B, 6, none⟩) (by dsimp only; omega) (.int .i64 m))
    have RB := hid (RB.out.off (i := 6) (v := .int .i64 m) (c := B) (by omega))
    go_upto_region 16 with fail
    clear cc fc hcm
    obtain ⟨V, hV⟩ : ∃ V, w2.setCell ⟨B, 6, none⟩ (.int .i64 m) = V := ⟨_, rfl⟩
    rw [hV] at LB RD GR RB ⊢
    clear hV
    have LB : Hid (IB V B [y0, y1, y2, y3, y4, y5, m]) := LB
    obtain ⟨c0, c1, c2, c3, c4, c5, c6⟩ := ib7 LB.out
    obtain ⟨s0, s1, s2, s3, s4, s5, s6⟩ := ib7 RB.out
    have ff := RB.out.2.1
    obtain ⟨g0, g1, g2, g3, g4, g5, g6⟩ := ib7 (seven_ib rfl RB.out y0 y1 y2 y3 y4 y5 m)
    have G0 := hid g0
    have G1 := hid g1
    have G2 := hid g2
    have G3 := hid g3
    have G4 := hid g4
    have G5 := hid g5
    have G6 := hid g6
    clear g0 g1 g2 g3 g4 g5 g6
    go_wp2_with fail
    refine bodyPost_ret (res_l31Bad _ rfl G0.out G1.out G2.out G3.out G4.out G5.out G6.out) rfl ?_
    exact ⟨y0, y1, y2, y3, y4, y5, m, rfl, ⟨_, by omega, seven_rdr (.int .i64 y0) (.int .i64 y1) (.int .i64 y2) (.int .i64 y3) (.int .i64 y4) (.int .i64 y5) (.int .i64 m) RD.out (by omega)⟩, seven_gset (.int .i64 y0) (.int .i64 y1) (.int .i64 y2) (.int .i64 y3) (.int .i64 y4) (.int .i64 y5) (.int .i64 m) GR.out (by omega)⟩
  by_cases e6 : x1 = 6
  · subst e6
    clear e0
    clear e1
    clear e2
    clear e3
    clear e4
    clear e5
    have nV : ¬ w1.heap.size = g := by have := LB.out.2.2; omega
    have RD := hid (RD.out.keep (below_alloc1 w1 (.cells #[.int .i64 (-1), .int .i64 256] 3)))
    have GR := hid (galloc GR.out (.cells #[.int .i64 (-1), .int .i64 256] 3))
    have LB := hid (LB.out.keep (below_alloc1 w1 (.cells #[.int .i64 (-1), .int .i64 256] 3)))
    have RB := hid (RB.out.keep (below_alloc1 w1 (.cells #[.int .i64 (-1), .int .i64 256] 3)))
    go_wp2_with fail
    refine (pick_h 2 W _ g (p + 1) RD.out (by omega) (by omega) (by omega)).mono ?_
    rintro e w2 ⟨x2, rfl, lx2, ux2, RD, HC, HZ, HG⟩
    have GR := hid (gtrans GR.out HG.out)
    have LB := hid (LB.out.grown HG.out nB)
    have RB := hid (RB.out.grown HG.out nR)
    obtain ⟨m, hm, hcm⟩ := at_pick [-1, 256] 3 x2 lx2 (by simpa using ux2) nV HC.out
    clear HC HZ HG hm
    have cc := (ib7 LB.out).2.2.2.1
    have fc := LB.out.2.1 3
    have LB := hid (LB.out.set (i := 3) (by simp) m)
    have RD := hid (rdr_setB RD.out (q := ⟨B, 3, none⟩) hBg (.int .i64 m))
    have GR := hid (gset GR.out (q := ⟨B, 3, none⟩) (by dsimp only; omega) (.int .i64 m))
    have RB := hid (RB.out.off (i := 3) (v := .int .i64 m) (c := B) (by omega))
    go_upto_region 16 with fail
    clear cc fc hcm
    obtain ⟨V, hV⟩ : ∃ V, w2.setCell ⟨B, 3, none⟩ (.int .i64 m) = V := ⟨_, rfl⟩
    rw [hV] at LB RD GR RB ⊢
    clear hV
    have LB : Hid (IB V B [y0, y1, y2, m, y4, y5, y6]) := LB
    obtain ⟨c0, c1, c2, c3, c4, c5, c6⟩ := ib7 LB.out
    obtain ⟨s0, s1, s2, s3, s4, s5, s6⟩ := ib7 RB.out
    have ff := RB.out.2.1
    obtain ⟨g0, g1, g2, g3, g4, g5, g6⟩ := ib7 (seven_ib rfl RB.out y0 y1 y2 m y4 y5 y6)
    have G0 := hid g0
    have G1 := hid g1
    have G2 := hid g2
    have G3 := hid g3
    have G4 := hid g4
    have G5 := hid g5
    have G6 := hid g6
    clear g0 g1 g2 g3 g4 g5 g6
    go_wp2_with fail
    refine bodyPost_ret (res_l31Bad _ rfl G0.out G1.out G2.out G3.out G4.out G5.out G6.out) rfl ?_
    exact ⟨y0, y1, y2, m, y4, y5, y6, rfl, ⟨_, by omega, seven_rdr (.int .i64 y0) (.int .i64 y1) (.int .i64 y2) (.int .i64 m) (.int .i64 y4) (.int .i64 y5) (.int .i64 y6) RD.out (by omega)⟩, seven_gset (.int .i64 y0) (.int .i64 y1) (.int .i64 y2) (.int .i64 m) (.int .i64 y4) (.int .i64 y5) (.int .i64 y6) GR.out (by omega)⟩
  have d0 : (x1 == 0) = false := by simpa using e0
  have d1 : (x1 == 1) = false := by simpa using e1
  have d2 : (x1 == 2) = false := by simpa using e2
  have d3 : (x1 == 3) = false := by simpa using e3
  have d4 : (x1 == 4) = false := by simpa using e4
  have d5 : (x1 == 5) = false := by simpa using e5
  have d6 : (x1 == 6) = false := by simpa using e6
  obtain ⟨c0, c1, c2, c3, c4, c5, c6⟩ := ib7 LB.out
  obtain ⟨s0, s1, s2, s3, s4, s5, s6⟩ := ib7 RB.out
  have ff := RB.out.2.1
  obtain ⟨g0, g1, g2, g3, g4, g5, g6⟩ := ib7 (seven_ib rfl RB.out y0 y1 y2 y3 y4 y5 y6)
  have G0 := hid g0
  have G1 := hid g1
  have G2 := hid g2
  have G3 := hid g3
  have G4 := hid g4
  have G5 := hid g5
  have G6 := hid g6
  clear g0 g1 g2 g3 g4 g5 g6
  go_wp2_with fail
  refine bodyPost_ret (res_l31Bad _ rfl G0.out G1.out G2.out G3.out G4.out G5.out G6.out) rfl ?_
  exact ⟨y0, y1, y2, y3, y4, y5, y6, rfl, ⟨_, by omega, seven_rdr (.int .i64 y0) (.int .i64 y1) (.int .i64 y2) (.int .i64 y3) (.int .i64 y4) (.int .i64 y5) (.int .i64 y6) RD.out (by omega)⟩, seven_gset (.int .i64 y0) (.int .i64 y1) (.int .i64 y2) (.int .i64 y3) (.int .i64 y4) (.int .i64 y5) (.int .i64 y6) GR.out (by omega)⟩
end Go.Proofs.Ytlkmooefebenlaa
