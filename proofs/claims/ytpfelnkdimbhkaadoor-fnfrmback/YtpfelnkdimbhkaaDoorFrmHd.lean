/- The draw of a head: eight ints, the reader goes on. -/
import Derived.Test.YtpfelnkdimbhkaaDoorDrawIBD
import Derived.Deep.DeepCutAuto
namespace Go.Proofs.YtpfelnkdimbhkaaDoor
open Go.ChangeShapes Go.WideShapes Go.ChangeAt Go.RowKit Go.Joins Go.Deep
set_option linter.unusedVariables false
set_option linter.unusedSimpArgs false
set_option maxRecDepth 4000

theorem res_l30Head {W : World} {b : Nat} {x0 x1 x2 x3 x4 x5 x6 x7 : Value} (tmps : Array Value) (ht : tmps[2]?.getD undef = .pointer (some ⟨b, 0, none⟩)) (h0 : W.cell? ⟨b, 0, none⟩ = some x0) (h1 : W.cell? ⟨b, 1, none⟩ = some x1) (h2 : W.cell? ⟨b, 2, none⟩ = some x2) (h3 : W.cell? ⟨b, 3, none⟩ = some x3) (h4 : W.cell? ⟨b, 4, none⟩ = some x4) (h5 : W.cell? ⟨b, 5, none⟩ = some x5) (h6 : W.cell? ⟨b, 6, none⟩ = some x6) (h7 : W.cell? ⟨b, 7, none⟩ = some x7) :
    (results Tryd.f59 tmps).run Tryd.prog W = .ok (.agg #[x0, x1, x2, x3, x4, x5, x6, x7]) W := by
  simp [results, Tryd.results59, go_sem, ht, h0, h1, h2, h3, h4, h5, h6, h7]
theorem eight_ib {w : World} {b : Nat} {zs : List Int} (hz : zs.length = 8) (h : IB w b zs) (y0 y1 y2 y3 y4 y5 y6 y7 : Int) : IB ((((((((w.setCell ⟨b, 0, none⟩ (.int .i64 y0)).setCell ⟨b, 1, none⟩ (.int .i64 y1)).setCell ⟨b, 2, none⟩ (.int .i64 y2)).setCell ⟨b, 3, none⟩ (.int .i64 y3)).setCell ⟨b, 4, none⟩ (.int .i64 y4)).setCell ⟨b, 5, none⟩ (.int .i64 y5)).setCell ⟨b, 6, none⟩ (.int .i64 y6)).setCell ⟨b, 7, none⟩ (.int .i64 y7)) b [y0, y1, y2, y3, y4, y5, y6, y7] := by
  have H := ((((((((h.set (i := 0) (by omega) y0).set (i := 1) (by simp; omega) y1).set (i := 2) (by simp; omega) y2).set (i := 3) (by simp; omega) y3).set (i := 4) (by simp; omega) y4).set (i := 5) (by simp; omega) y5).set (i := 6) (by simp; omega) y6).set (i := 7) (by simp; omega) y7)
  match zs, hz with
  | [a0, a1, a2, a3, a4, a5, a6, a7], _ => simpa using H
theorem eightR {W w : World} {g p b : Nat} (y0 y1 y2 y3 y4 y5 y6 y7 : Value) (h : Rdr W w g p) (hq : g < b) : Rdr W ((((((((w.setCell ⟨b, 0, none⟩ y0).setCell ⟨b, 1, none⟩ y1).setCell ⟨b, 2, none⟩ y2).setCell ⟨b, 3, none⟩ y3).setCell ⟨b, 4, none⟩ y4).setCell ⟨b, 5, none⟩ y5).setCell ⟨b, 6, none⟩ y6).setCell ⟨b, 7, none⟩ y7) g p :=
  rdr_setB (rdr_setB (rdr_setB (rdr_setB (rdr_setB (rdr_setB (rdr_setB (rdr_setB h hq _) hq _) hq _) hq _) hq _) hq _) hq _) hq _
theorem eightG {a w : World} {g b : Nat} (y0 y1 y2 y3 y4 y5 y6 y7 : Value) (h : a.grownBy w (some g)) (hq : a.heap.size ≤ b) : a.grownBy ((((((((w.setCell ⟨b, 0, none⟩ y0).setCell ⟨b, 1, none⟩ y1).setCell ⟨b, 2, none⟩ y2).setCell ⟨b, 3, none⟩ y3).setCell ⟨b, 4, none⟩ y4).setCell ⟨b, 5, none⟩ y5).setCell ⟨b, 6, none⟩ y6).setCell ⟨b, 7, none⟩ y7) (some g) :=
  gset (gset (gset (gset (gset (gset (gset (gset h hq _) hq _) hq _) hq _) hq _) hq _) hq _) hq _
theorem eightO {w : World} {b c : Nat} {zs : List Int} (y0 y1 y2 y3 y4 y5 y6 y7 : Value) (h : IB w c zs) (hn : ¬ b = c) : IB ((((((((w.setCell ⟨b, 0, none⟩ y0).setCell ⟨b, 1, none⟩ y1).setCell ⟨b, 2, none⟩ y2).setCell ⟨b, 3, none⟩ y3).setCell ⟨b, 4, none⟩ y4).setCell ⟨b, 5, none⟩ y5).setCell ⟨b, 6, none⟩ y6).setCell ⟨b, 7, none⟩ y7) c zs :=
  (((((((h.off hn).off hn).off hn).off hn).off hn).off hn).off hn).off hn
theorem ib8 {w : World} {b : Nat} {y0 y1 y2 y3 y4 y5 y6 y7 : Int} (h : IB w b [y0, y1, y2, y3, y4, y5, y6, y7]) : w.cell? ⟨b, 0, none⟩ = some (.int .i64 y0) ∧ w.cell? ⟨b, 1, none⟩ = some (.int .i64 y1) ∧ w.cell? ⟨b, 2, none⟩ = some (.int .i64 y2) ∧ w.cell? ⟨b, 3, none⟩ = some (.int .i64 y3) ∧ w.cell? ⟨b, 4, none⟩ = some (.int .i64 y4) ∧ w.cell? ⟨b, 5, none⟩ = some (.int .i64 y5) ∧ w.cell? ⟨b, 6, none⟩ = some (.int .i64 y6) ∧ w.cell? ⟨b, 7, none⟩ = some (.int .i64 y7) :=
  ⟨h.1 0 (by simp), h.1 1 (by simp), h.1 2 (by simp), h.1 3 (by simp), h.1 4 (by simp), h.1 5 (by simp), h.1 6 (by simp), h.1 7 (by simp)⟩
def HdW8 (W w wx : World) (g lim B R : Nat) : Prop := ∃ q, q ≤ lim ∧ Rdr W wx g q ∧ w.grownBy wx (some g) ∧ (∃ y0 y1 y2 y3 y4 y5 y6 y7 : Int, IB wx B [y0, y1, y2, y3, y4, y5, y6, y7]) ∧ IB wx R [0, 0, 0, 0, 0, 0, 0, 0]

set_option maxHeartbeats 8000000 in
theorem drawHead_any (W w : World) (g p : Nat) (hr : Rdr W w g p) (hp : p < 990000) :
    Calls Tryd.prog 59 #[.pointer (some ⟨g, 0, none⟩)] w fun e w' => ∃ x0 x1 x2 x3 x4 x5 x6 x7 : Int, e = .returned (.agg #[.int .i64 x0, .int .i64 x1, .int .i64 x2, .int .i64 x3, .int .i64 x4, .int .i64 x5, .int .i64 x6, .int .i64 x7]) ∧ (∃ q, q ≤ p + 20 ∧ Rdr W w' g q) ∧ w.grownBy w' (some g) := by
  have hg : g < w.heap.size := by
    obtain ⟨v, xs, _, _, _, h, _⟩ := hr
    exact World.block_lt_of_cell? w ⟨g, 0, none⟩ h
  have RD := hid (hr.keep (below_alloc1 w (.cells #[.int .i64 0, .int .i64 0, .int .i64 0, .int .i64 0, .int .i64 0, .int .i64 0, .int .i64 0, .int .i64 0] 37)))
  have GR := hid (galloc (grefl w g) (.cells #[.int .i64 0, .int .i64 0, .int .i64 0, .int .i64 0, .int .i64 0, .int .i64 0, .int .i64 0, .int .i64 0] 37))
  have RB : Hid (IB (w.alloc (.cells #[.int .i64 0, .int .i64 0, .int .i64 0, .int .i64 0, .int .i64 0, .int .i64 0, .int .i64 0, .int .i64 0] 37)) w.heap.size [0, 0, 0, 0, 0, 0, 0, 0]) := hid (ib_new w [0, 0, 0, 0, 0, 0, 0, 0] 37)
  have ZZ : Hid ((w.alloc (.cells #[.int .i64 0, .int .i64 0, .int .i64 0, .int .i64 0, .int .i64 0, .int .i64 0, .int .i64 0, .int .i64 0] 37)).heap.size = w.heap.size + 1) := hid (by simp)
  have nR : some w.heap.size ≠ some g := by simp; omega
  clear hr
  go_enter Tryd.func59, Tryd.ntmps59
  go_wp2_with fail
  refine (pick_h 4 W _ g (p) RD.out (by omega) (by omega) (by omega)).mono ?_
  rintro e w1 ⟨x1, rfl, lx1, ux1, RD, HC, HZ, HG⟩
  have GR := hid (gtrans GR.out HG.out)
  have RB := hid (RB.out.grown HG.out nR)
  have ZZ := hid (HZ.out.trans ZZ.out)
  clear HC HZ HG
  go_wp2_with fail
  refine (pick_h 4 W _ g (p + 1) RD.out (by omega) (by omega) (by omega)).mono ?_
  rintro e w2 ⟨x2, rfl, lx2, ux2, RD, HC, HZ, HG⟩
  have GR := hid (gtrans GR.out HG.out)
  have RB := hid (RB.out.grown HG.out nR)
  have ZZ := hid (HZ.out.trans ZZ.out)
  clear HC HZ HG
  go_wp2_with fail
  refine (pick_h 10 W _ g (p + 1 + 1) RD.out (by omega) (by omega) (by omega)).mono ?_
  rintro e w3 ⟨x3, rfl, lx3, ux3, RD, HC, HZ, HG⟩
  have GR := hid (gtrans GR.out HG.out)
  have RB := hid (RB.out.grown HG.out nR)
  have ZZ := hid (HZ.out.trans ZZ.out)
  clear HC HZ HG
  go_wp2_with fail
  refine (pick_h 5 W _ g (p + 1 + 1 + 1) RD.out (by omega) (by omega) (by omega)).mono ?_
  rintro e w4 ⟨x4, rfl, lx4, ux4, RD, HC, HZ, HG⟩
  have GR := hid (gtrans GR.out HG.out)
  have RB := hid (RB.out.grown HG.out nR)
  have ZZ := hid (HZ.out.trans ZZ.out)
  clear HC HZ HG
  go_wp2_with fail
  refine (pick_h 5 W _ g (p + 1 + 1 + 1 + 1) RD.out (by omega) (by omega) (by omega)).mono ?_
  rintro e w5 ⟨x5, rfl, lx5, ux5, RD, HC, HZ, HG⟩
  have GR := hid (gtrans GR.out HG.out)
  have RB := hid (RB.out.grown HG.out nR)
  have ZZ := hid (HZ.out.trans ZZ.out)
  clear HC HZ HG
  go_wp2_with fail
  refine (pick_h 4 W _ g (p + 1 + 1 + 1 + 1 + 1) RD.out (by omega) (by omega) (by omega)).mono ?_
  rintro e w6 ⟨x6, rfl, lx6, ux6, RD, HC, HZ, HG⟩
  have GR := hid (gtrans GR.out HG.out)
  have RB := hid (RB.out.grown HG.out nR)
  have ZZ := hid (HZ.out.trans ZZ.out)
  clear HC HZ HG
  go_wp2_with fail
  refine (pick_h 17 W _ g (p + 1 + 1 + 1 + 1 + 1 + 1) RD.out (by omega) (by omega) (by omega)).mono ?_
  rintro e w7 ⟨x7, rfl, lx7, ux7, RD, HC, HZ, HG⟩
  have GR := hid (gtrans GR.out HG.out)
  have RB := hid (RB.out.grown HG.out nR)
  have ZZ := hid (HZ.out.trans ZZ.out)
  clear HC HZ HG
  have q4 : IntKind.i64.wrap (1 + x4) = 1 + x4 := by rw [IntKind.wrap_i64]; omega
  go_upto_region 2 with fail
  have LB : Hid (IB (w7.alloc (.cells #[.int .i64 2, .int .i64 x1, .int .i64 x2, .int .i64 x3, .int .i64 (1 + x4), .int .i64 x5, .int .i64 x6, .int .i64 x7] 37)) w7.heap.size [2, x1, x2, x3, (1 + x4), x5, x6, x7]) := hid (ib_new w7 [2, x1, x2, x3, (1 + x4), x5, x6, x7] 37)
  have RD := hid (RD.out.keep (below_alloc1 w7 (.cells #[.int .i64 2, .int .i64 x1, .int .i64 x2, .int .i64 x3, .int .i64 (1 + x4), .int .i64 x5, .int .i64 x6, .int .i64 x7] 37)))
  have GR := hid (galloc GR.out (.cells #[.int .i64 2, .int .i64 x1, .int .i64 x2, .int .i64 x3, .int .i64 (1 + x4), .int .i64 x5, .int .i64 x6, .int .i64 x7] 37))
  have RB := hid (RB.out.keep (below_alloc1 w7 (.cells #[.int .i64 2, .int .i64 x1, .int .i64 x2, .int .i64 x3, .int .i64 (1 + x4), .int .i64 x5, .int .i64 x6, .int .i64 x7] 37)))
  obtain ⟨V, hV⟩ : ∃ V, w7.alloc (.cells #[.int .i64 2, .int .i64 x1, .int .i64 x2, .int .i64 x3, .int .i64 (1 + x4), .int .i64 x5, .int .i64 x6, .int .i64 x7] 37) = V := ⟨_, rfl⟩
  rw [hV] at LB RD GR RB ⊢
  have hz4 := ZZ.out
  obtain ⟨B, hB⟩ : ∃ B, w7.heap.size = B := ⟨_, rfl⟩
  rw [hB] at LB hz4 ⊢
  have hBg : g < B := by omega
  have hBw : w.heap.size < B := by omega
  have nB : some B ≠ some g := by simp; omega
  clear hV hB ZZ hz4 q4
  go_wp2_with fail
  refine (pick_h 3 W _ g (p + 1 + 1 + 1 + 1 + 1 + 1 + 1) RD.out (by omega) (by omega) (by omega)).mono ?_
  rintro e w8 ⟨x8, rfl, lx8, ux8, RD, HC, HZ, HG⟩
  have GR := hid (gtrans GR.out HG.out)
  have RB := hid (RB.out.grown HG.out nR)
  have LB := hid (LB.out.grown HG.out nB)
  clear HC HZ HG
  go_upto_if 23 with fail
  go_cut [] (fun wx => HdW8 W w wx g (p + 12) B w.heap.size)
  case first =>
    by_cases e8 : x8 = 0
    · subst e8
      go_wp2_with fail
      refine (pick_h 4 W _ g (p + 1 + 1 + 1 + 1 + 1 + 1 + 1 + 1) RD.out (by omega) (by omega) (by omega)).mono ?_
      rintro e w9 ⟨t1, rfl, lt1, ut1, RD, HC, HZ, HG⟩
      have GR := hid (gtrans GR.out HG.out)
      have RB := hid (RB.out.grown HG.out nR)
      have LB := hid (LB.out.grown HG.out nB)
      clear HC HZ HG
      go_wp2_with fail
      refine (pick_h 5 W _ g (p + 1 + 1 + 1 + 1 + 1 + 1 + 1 + 1 + 1) RD.out (by omega) (by omega) (by omega)).mono ?_
      rintro e w10 ⟨t2, rfl, lt2, ut2, RD, HC, HZ, HG⟩
      have GR := hid (gtrans GR.out HG.out)
      have RB := hid (RB.out.grown HG.out nR)
      have LB := hid (LB.out.grown HG.out nB)
      clear HC HZ HG
      go_wp2_with fail
      refine (pick_h 300 W _ g (p + 1 + 1 + 1 + 1 + 1 + 1 + 1 + 1 + 1 + 1) RD.out (by omega) (by omega) (by omega)).mono ?_
      rintro e w11 ⟨t3, rfl, lt3, ut3, RD, HC, HZ, HG⟩
      have GR := hid (gtrans GR.out HG.out)
      have RB := hid (RB.out.grown HG.out nR)
      have LB := hid (LB.out.grown HG.out nB)
      clear HC HZ HG
      have q4 : IntKind.i64.wrap (1 + t2) = 1 + t2 := by rw [IntKind.wrap_i64]; omega
      obtain ⟨c0, c1, c2, c3, c4, c5, c6, c7⟩ := ib8 LB.out
      have ff := LB.out.2.1
      have LB := hid (eight_ib rfl LB.out 1 t1 255 255 (1 + t2) 0 0 t3)
      have RD := hid (eightR (.int .i64 1) (.int .i64 t1) (.int .i64 255) (.int .i64 255) (.int .i64 (1 + t2)) (.int .i64 0) (.int .i64 0) (.int .i64 t3) RD.out hBg)
      have GR := hid (eightG (.int .i64 1) (.int .i64 t1) (.int .i64 255) (.int .i64 255) (.int .i64 (1 + t2)) (.int .i64 0) (.int .i64 0) (.int .i64 t3) GR.out (Nat.le_of_lt hBw))
      have RB := hid (eightO (b := B) (.int .i64 1) (.int .i64 t1) (.int .i64 255) (.int .i64 255) (.int .i64 (1 + t2)) (.int .i64 0) (.int .i64 0) (.int .i64 t3) RB.out (by omega))
      go_wp2_with fail
      go_meet
      case rel => exact ⟨_, by omega, RD.out, GR.out, ⟨_, _, _, _, _, _, _, _, LB.out⟩, RB.out⟩
    · have d8 : (x8 == 0) = false := by simpa using e8
      go_wp2_with fail
      go_meet
      case rel => exact ⟨_, by omega, RD.out, GR.out, ⟨_, _, _, _, _, _, _, _, LB.out⟩, RB.out⟩
  case rest =>
    obtain ⟨q, hq, rd, gr, ⟨y0, y1, y2, y3, y4, y5, y6, y7, lb⟩, rb⟩ := hcut
    clear LB RD GR RB
    have RD := hid rd
    have GR := hid gr
    have LB := hid lb
    have RB := hid rb
    clear rd gr lb rb
    have nV : ¬ wc.heap.size = g := by have := LB.out.2.2; omega
    have RD := hid (RD.out.keep (below_alloc1 wc (.cells #[.int .i64 (-1), .int .i64 4, .int .i64 10, .int .i64 255, .int .i64 256, .int .i64 65535, .int .i64 65536, .int .i64 0] 3)))
    have GR := hid (galloc GR.out (.cells #[.int .i64 (-1), .int .i64 4, .int .i64 10, .int .i64 255, .int .i64 256, .int .i64 65535, .int .i64 65536, .int .i64 0] 3))
    have LB := hid (LB.out.keep (below_alloc1 wc (.cells #[.int .i64 (-1), .int .i64 4, .int .i64 10, .int .i64 255, .int .i64 256, .int .i64 65535, .int .i64 65536, .int .i64 0] 3)))
    have RB := hid (RB.out.keep (below_alloc1 wc (.cells #[.int .i64 (-1), .int .i64 4, .int .i64 10, .int .i64 255, .int .i64 256, .int .i64 65535, .int .i64 65536, .int .i64 0] 3)))
    go_wp2_with fail
    refine (pick_h 8 W _ g q RD.out (by omega) (by omega) (by omega)).mono ?_
    rintro e wa ⟨xa, rfl, lxa, uxa, RD, HC, HZ, HG⟩
    have GR := hid (gtrans GR.out HG.out)
    have RB := hid (RB.out.grown HG.out nR)
    have LB := hid (LB.out.grown HG.out nB)
    obtain ⟨n, hm, hcm⟩ := at_pick [-1, 4, 10, 255, 256, 65535, 65536, 0] 3 xa lxa (by simpa using uxa) nV HC.out
    clear HC HZ HG hm
    go_wp2_with fail
    refine (pick_h 24 W _ g (q + 1) RD.out (by omega) (by omega) (by omega)).mono ?_
    rintro e wb ⟨xb, rfl, lxb, uxb, RD, HC, HZ, HG⟩
    have GR := hid (gtrans GR.out HG.out)
    have RB := hid (RB.out.grown HG.out nR)
    have LB := hid (LB.out.grown HG.out nB)
    clear HC HZ HG
    clear hcm nV
    by_cases e0 : xb = 0
    · subst e0
      have nV : ¬ wb.heap.size = g := by have := LB.out.2.2; omega
      have RD := hid (RD.out.keep (below_alloc1 wb (.cells #[.int .i64 0, .int .i64 3, .int .i64 1, .int .i64 2] 3)))
      have GR := hid (galloc GR.out (.cells #[.int .i64 0, .int .i64 3, .int .i64 1, .int .i64 2] 3))
      have LB := hid (LB.out.keep (below_alloc1 wb (.cells #[.int .i64 0, .int .i64 3, .int .i64 1, .int .i64 2] 3)))
      have RB := hid (RB.out.keep (below_alloc1 wb (.cells #[.int .i64 0, .int .i64 3, .int .i64 1, .int .i64 2] 3)))
      go_wp2_with fail
      refine (pick_h 4 W _ g (q + 1 + 1) RD.out (by omega) (by omega) (by omega)).mono ?_
      rintro e wd ⟨xd, rfl, lxd, uxd, RD, HC, HZ, HG⟩
      have GR := hid (gtrans GR.out HG.out)
      have RB := hid (RB.out.grown HG.out nR)
      have LB := hid (LB.out.grown HG.out nB)
      obtain ⟨m, hm, hcm⟩ := at_pick [0, 3, 1, 2] 3 xd lxd (by simpa using uxd) nV HC.out
      clear HC HZ HG hm
      have cc := (ib8 LB.out).1
      have fc := LB.out.2.1 0
      have LB := hid (LB.out.set (i := 0) (by simp) m)
      have RD := hid (rdr_setB RD.out (q := ⟨B, 0, none⟩) hBg (.int .i64 m))
      have GR := hid (gset GR.out (q := ⟨B, 0, none⟩) (by dsimp only; omega) (.int .i64 m))
      have RB := hid (RB.out.off (i := 0) (v := .int .i64 m) (c := B) (by omega))
      go_upto_region 24 with fail
      clear cc fc
      obtain ⟨V2, hV2⟩ : ∃ V2, wd.setCell ⟨B, 0, none⟩ (.int .i64 m) = V2 := ⟨_, rfl⟩
      rw [hV2] at LB RD GR RB ⊢
      clear hV2
      have LB : Hid (IB V2 B [m, y1, y2, y3, y4, y5, y6, y7]) := LB
      obtain ⟨c0, c1, c2, c3, c4, c5, c6, c7⟩ := ib8 LB.out
      obtain ⟨s0, s1, s2, s3, s4, s5, s6, s7⟩ := ib8 RB.out
      have ff := RB.out.2.1
      have G := hid (ib8 (eight_ib rfl RB.out m y1 y2 y3 y4 y5 y6 y7))
      go_wp2_with fail
      refine bodyPost_ret (res_l30Head _ rfl G.out.1 G.out.2.1 G.out.2.2.1 G.out.2.2.2.1 G.out.2.2.2.2.1 G.out.2.2.2.2.2.1 G.out.2.2.2.2.2.2.1 G.out.2.2.2.2.2.2.2) rfl ?_
      exact ⟨m, y1, y2, y3, y4, y5, y6, y7, rfl, ⟨_, by omega, eightR (.int .i64 m) (.int .i64 y1) (.int .i64 y2) (.int .i64 y3) (.int .i64 y4) (.int .i64 y5) (.int .i64 y6) (.int .i64 y7) RD.out (by omega)⟩, eightG (.int .i64 m) (.int .i64 y1) (.int .i64 y2) (.int .i64 y3) (.int .i64 y4) (.int .i64 y5) (.int .i64 y6) (.int .i64 y7) GR.out (by omega)⟩
    by_cases e1 : xb = 1
    · subst e1
      clear e0
      have cc := (ib8 LB.out).2.1
      have fc := LB.out.2.1 1
      have LB := hid (LB.out.set (i := 1) (by simp) n)
      have RD := hid (rdr_setB RD.out (q := ⟨B, 1, none⟩) hBg (.int .i64 n))
      have GR := hid (gset GR.out (q := ⟨B, 1, none⟩) (by dsimp only; omega) (.int .i64 n))
      have RB := hid (RB.out.off (i := 1) (v := .int .i64 n) (c := B) (by omega))
      go_upto_region 24 with fail
      clear cc fc
      obtain ⟨V2, hV2⟩ : ∃ V2, wb.setCell ⟨B, 1, none⟩ (.int .i64 n) = V2 := ⟨_, rfl⟩
      rw [hV2] at LB RD GR RB ⊢
      clear hV2
      have LB : Hid (IB V2 B [y0, n, y2, y3, y4, y5, y6, y7]) := LB
      obtain ⟨c0, c1, c2, c3, c4, c5, c6, c7⟩ := ib8 LB.out
      obtain ⟨s0, s1, s2, s3, s4, s5, s6, s7⟩ := ib8 RB.out
      have ff := RB.out.2.1
      have G := hid (ib8 (eight_ib rfl RB.out y0 n y2 y3 y4 y5 y6 y7))
      go_wp2_with fail
      refine bodyPost_ret (res_l30Head _ rfl G.out.1 G.out.2.1 G.out.2.2.1 G.out.2.2.2.1 G.out.2.2.2.2.1 G.out.2.2.2.2.2.1 G.out.2.2.2.2.2.2.1 G.out.2.2.2.2.2.2.2) rfl ?_
      exact ⟨y0, n, y2, y3, y4, y5, y6, y7, rfl, ⟨_, by omega, eightR (.int .i64 y0) (.int .i64 n) (.int .i64 y2) (.int .i64 y3) (.int .i64 y4) (.int .i64 y5) (.int .i64 y6) (.int .i64 y7) RD.out (by omega)⟩, eightG (.int .i64 y0) (.int .i64 n) (.int .i64 y2) (.int .i64 y3) (.int .i64 y4) (.int .i64 y5) (.int .i64 y6) (.int .i64 y7) GR.out (by omega)⟩
    by_cases e2 : xb = 2
    · subst e2
      clear e0
      clear e1
      have cc := (ib8 LB.out).2.2.1
      have fc := LB.out.2.1 2
      have LB := hid (LB.out.set (i := 2) (by simp) n)
      have RD := hid (rdr_setB RD.out (q := ⟨B, 2, none⟩) hBg (.int .i64 n))
      have GR := hid (gset GR.out (q := ⟨B, 2, none⟩) (by dsimp only; omega) (.int .i64 n))
      have RB := hid (RB.out.off (i := 2) (v := .int .i64 n) (c := B) (by omega))
      go_upto_region 24 with fail
      clear cc fc
      obtain ⟨V2, hV2⟩ : ∃ V2, wb.setCell ⟨B, 2, none⟩ (.int .i64 n) = V2 := ⟨_, rfl⟩
      rw [hV2] at LB RD GR RB ⊢
      clear hV2
      have LB : Hid (IB V2 B [y0, y1, n, y3, y4, y5, y6, y7]) := LB
      obtain ⟨c0, c1, c2, c3, c4, c5, c6, c7⟩ := ib8 LB.out
      obtain ⟨s0, s1, s2, s3, s4, s5, s6, s7⟩ := ib8 RB.out
      have ff := RB.out.2.1
      have G := hid (ib8 (eight_ib rfl RB.out y0 y1 n y3 y4 y5 y6 y7))
      go_wp2_with fail
      refine bodyPost_ret (res_l30Head _ rfl G.out.1 G.out.2.1 G.out.2.2.1 G.out.2.2.2.1 G.out.2.2.2.2.1 G.out.2.2.2.2.2.1 G.out.2.2.2.2.2.2.1 G.out.2.2.2.2.2.2.2) rfl ?_
      exact ⟨y0, y1, n, y3, y4, y5, y6, y7, rfl, ⟨_, by omega, eightR (.int .i64 y0) (.int .i64 y1) (.int .i64 n) (.int .i64 y3) (.int .i64 y4) (.int .i64 y5) (.int .i64 y6) (.int .i64 y7) RD.out (by omega)⟩, eightG (.int .i64 y0) (.int .i64 y1) (.int .i64 n) (.int .i64 y3) (.int .i64 y4) (.int .i64 y5) (.int .i64 y6) (.int .i64 y7) GR.out (by omega)⟩
    by_cases e3 : xb = 3
    · subst e3
      clear e0
      clear e1
      clear e2
      have cc := (ib8 LB.out).2.2.2.1
      have fc := LB.out.2.1 3
      have LB := hid (LB.out.set (i := 3) (by simp) n)
      have RD := hid (rdr_setB RD.out (q := ⟨B, 3, none⟩) hBg (.int .i64 n))
      have GR := hid (gset GR.out (q := ⟨B, 3, none⟩) (by dsimp only; omega) (.int .i64 n))
      have RB := hid (RB.out.off (i := 3) (v := .int .i64 n) (c := B) (by omega))
      go_upto_region 24 with fail
      clear cc fc
      obtain ⟨V2, hV2⟩ : ∃ V2, wb.setCell ⟨B, 3, none⟩ (.int .i64 n) = V2 := ⟨_, rfl⟩
      rw [hV2] at LB RD GR RB ⊢
      clear hV2
      have LB : Hid (IB V2 B [y0, y1, y2, n, y4, y5, y6, y7]) := LB
      obtain ⟨c0, c1, c2, c3, c4, c5, c6, c7⟩ := ib8 LB.out
      obtain ⟨s0, s1, s2, s3, s4, s5, s6, s7⟩ := ib8 RB.out
      have ff := RB.out.2.1
      have G := hid (ib8 (eight_ib rfl RB.out y0 y1 y2 n y4 y5 y6 y7))
      go_wp2_with fail
      refine bodyPost_ret (res_l30Head _ rfl G.out.1 G.out.2.1 G.out.2.2.1 G.out.2.2.2.1 G.out.2.2.2.2.1 G.out.2.2.2.2.2.1 G.out.2.2.2.2.2.2.1 G.out.2.2.2.2.2.2.2) rfl ?_
      exact ⟨y0, y1, y2, n, y4, y5, y6, y7, rfl, ⟨_, by omega, eightR (.int .i64 y0) (.int .i64 y1) (.int .i64 y2) (.int .i64 n) (.int .i64 y4) (.int .i64 y5) (.int .i64 y6) (.int .i64 y7) RD.out (by omega)⟩, eightG (.int .i64 y0) (.int .i64 y1) (.int .i64 y2) (.int .i64 n) (.int .i64 y4) (.int .i64 y5) (.int .i64 y6) (.int .i64 y7) GR.out (by omega)⟩
    by_cases e4 : xb = 4
    · subst e4
      clear e0
      clear e1
      clear e2
      clear e3
      have cc := (ib8 LB.out).2.2.2.2.1
      have fc := LB.out.2.1 4
      have LB := hid (LB.out.set (i := 4) (by simp) n)
      have RD := hid (rdr_setB RD.out (q := ⟨B, 4, none⟩) hBg (.int .i64 n))
      have GR := hid (gset GR.out (q := ⟨B, 4, none⟩) (by dsimp only; omega) (.int .i64 n))
      have RB := hid (RB.out.off (i := 4) (v := .int .i64 n) (c := B) (by omega))
      go_upto_region 24 with fail
      clear cc fc
      obtain ⟨V2, hV2⟩ : ∃ V2, wb.setCell ⟨B, 4, none⟩ (.int .i64 n) = V2 := ⟨_, rfl⟩
      rw [hV2] at LB RD GR RB ⊢
      clear hV2
      have LB : Hid (IB V2 B [y0, y1, y2, y3, n, y5, y6, y7]) := LB
      obtain ⟨c0, c1, c2, c3, c4, c5, c6, c7⟩ := ib8 LB.out
      obtain ⟨s0, s1, s2, s3, s4, s5, s6, s7⟩ := ib8 RB.out
      have ff := RB.out.2.1
      have G := hid (ib8 (eight_ib rfl RB.out y0 y1 y2 y3 n y5 y6 y7))
      go_wp2_with fail
      refine bodyPost_ret (res_l30Head _ rfl G.out.1 G.out.2.1 G.out.2.2.1 G.out.2.2.2.1 G.out.2.2.2.2.1 G.out.2.2.2.2.2.1 G.out.2.2.2.2.2.2.1 G.out.2.2.2.2.2.2.2) rfl ?_
      exact ⟨y0, y1, y2, y3, n, y5, y6, y7, rfl, ⟨_, by omega, eightR (.int .i64 y0) (.int .i64 y1) (.int .i64 y2) (.int .i64 y3) (.int .i64 n) (.int .i64 y5) (.int .i64 y6) (.int .i64 y7) RD.out (by omega)⟩, eightG (.int .i64 y0) (.int .i64 y1) (.int .i64 y2) (.int .i64 y3) (.int .i64 n) (.int .i64 y5) (.int .i64 y6) (.int .i64 y7) GR.out (by omega)⟩
    by_cases e5 : xb = 5
    · subst e5
      clear e0
      clear e1
      clear e2
      clear e3
      clear e4
      have cc := (ib8 LB.out).2.2.2.2.2.1
      have fc := LB.out.2.1 5
      have LB := hid (LB.out.set (i := 5) (by simp) n)
      have RD := hid (rdr_setB RD.out (q := ⟨B, 5, none⟩) hBg (.int .i64 n))
      have GR := hid (gset GR.out (q := ⟨B, 5, none⟩) (by dsimp only; omega) (.int .i64 n))
      have RB := hid (RB.out.off (i := 5) (v := .int .i64 n) (c := B) (by omega))
      go_upto_region 24 with fail
      clear cc fc
      obtain ⟨V2, hV2⟩ : ∃ V2, wb.setCell ⟨B, 5, none⟩ (.int .i64 n) = V2 := ⟨_, rfl⟩
      rw [hV2] at LB RD GR RB ⊢
      clear hV2
      have LB : Hid (IB V2 B [y0, y1, y2, y3, y4, n, y6, y7]) := LB
      obtain ⟨c0, c1, c2, c3, c4, c5, c6, c7⟩ := ib8 LB.out
      obtain ⟨s0, s1, s2, s3, s4, s5, s6, s7⟩ := ib8 RB.out
      have ff := RB.out.2.1
      have G := hid (ib8 (eight_ib rfl RB.out y0 y1 y2 y3 y4 n y6 y7))
      go_wp2_with fail
      refine bodyPost_ret (res_l30Head _ rfl G.out.1 G.out.2.1 G.out.2.2.1 G.out.2.2.2.1 G.out.2.2.2.2.1 G.out.2.2.2.2.2.1 G.out.2.2.2.2.2.2.1 G.out.2.2.2.2.2.2.2) rfl ?_
      exact ⟨y0, y1, y2, y3, y4, n, y6, y7, rfl, ⟨_, by omega, eightR (.int .i64 y0) (.int .i64 y1) (.int .i64 y2) (.int .i64 y3) (.int .i64 y4) (.int .i64 n) (.int .i64 y6) (.int .i64 y7) RD.out (by omega)⟩, eightG (.int .i64 y0) (.int .i64 y1) (.int .i64 y2) (.int .i64 y3) (.int .i64 y4) (.int .i64 n) (.int .i64 y6) (.int .i64 y7) GR.out (by omega)⟩
    by_cases e6 : xb = 6
    · subst e6
      clear e0
      clear e1
      clear e2
      clear e3
      clear e4
      clear e5
      have cc := (ib8 LB.out).2.2.2.2.2.2.1
      have fc := LB.out.2.1 6
      have LB := hid (LB.out.set (i := 6) (by simp) n)
      have RD := hid (rdr_setB RD.out (q := ⟨B, 6, none⟩) hBg (.int .i64 n))
      have GR := hid (gset GR.out (q := ⟨B, 6, none⟩) (by dsimp only; omega) (.int .i64 n))
      have RB := hid (RB.out.off (i := 6) (v := .int .i64 n) (c := B) (by omega))
      go_upto_region 24 with fail
      clear cc fc
      obtain ⟨V2, hV2⟩ : ∃ V2, wb.setCell ⟨B, 6, none⟩ (.int .i64 n) = V2 := ⟨_, rfl⟩
      rw [hV2] at LB RD GR RB ⊢
      clear hV2
      have LB : Hid (IB V2 B [y0, y1, y2, y3, y4, y5, n, y7]) := LB
      obtain ⟨c0, c1, c2, c3, c4, c5, c6, c7⟩ := ib8 LB.out
      obtain ⟨s0, s1, s2, s3, s4, s5, s6, s7⟩ := ib8 RB.out
      have ff := RB.out.2.1
      have G := hid (ib8 (eight_ib rfl RB.out y0 y1 y2 y3 y4 y5 n y7))
      go_wp2_with fail
      refine bodyPost_ret (res_l30Head _ rfl G.out.1 G.out.2.1 G.out.2.2.1 G.out.2.2.2.1 G.out.2.2.2.2.1 G.out.2.2.2.2.2.1 G.out.2.2.2.2.2.2.1 G.out.2.2.2.2.2.2.2) rfl ?_
      exact ⟨y0, y1, y2, y3, y4, y5, n, y7, rfl, ⟨_, by omega, eightR (.int .i64 y0) (.int .i64 y1) (.int .i64 y2) (.int .i64 y3) (.int .i64 y4) (.int .i64 y5) (.int .i64 n) (.int .i64 y7) RD.out (by omega)⟩, eightG (.int .i64 y0) (.int .i64 y1) (.int .i64 y2) (.int .i64 y3) (.int .i64 y4) (.int .i64 y5) (.int .i64 n) (.int .i64 y7) GR.out (by omega)⟩
    by_cases e7 : xb = 7
    · subst e7
      clear e0
      clear e1
      clear e2
      clear e3
      clear e4
      clear e5
      clear e6
      have cc := (ib8 LB.out).2.2.2.2.2.2.2
      have fc := LB.out.2.1 7
      have LB := hid (LB.out.set (i := 7) (by simp) n)
      have RD := hid (rdr_setB RD.out (q := ⟨B, 7, none⟩) hBg (.int .i64 n))
      have GR := hid (gset GR.out (q := ⟨B, 7, none⟩) (by dsimp only; omega) (.int .i64 n))
      have RB := hid (RB.out.off (i := 7) (v := .int .i64 n) (c := B) (by omega))
      go_upto_region 24 with fail
      clear cc fc
      obtain ⟨V2, hV2⟩ : ∃ V2, wb.setCell ⟨B, 7, none⟩ (.int .i64 n) = V2 := ⟨_, rfl⟩
      rw [hV2] at LB RD GR RB ⊢
      clear hV2
      have LB : Hid (IB V2 B [y0, y1, y2, y3, y4, y5, y6, n]) := LB
      obtain ⟨c0, c1, c2, c3, c4, c5, c6, c7⟩ := ib8 LB.out
      obtain ⟨s0, s1, s2, s3, s4, s5, s6, s7⟩ := ib8 RB.out
      have ff := RB.out.2.1
      have G := hid (ib8 (eight_ib rfl RB.out y0 y1 y2 y3 y4 y5 y6 n))
      go_wp2_with fail
      refine bodyPost_ret (res_l30Head _ rfl G.out.1 G.out.2.1 G.out.2.2.1 G.out.2.2.2.1 G.out.2.2.2.2.1 G.out.2.2.2.2.2.1 G.out.2.2.2.2.2.2.1 G.out.2.2.2.2.2.2.2) rfl ?_
      exact ⟨y0, y1, y2, y3, y4, y5, y6, n, rfl, ⟨_, by omega, eightR (.int .i64 y0) (.int .i64 y1) (.int .i64 y2) (.int .i64 y3) (.int .i64 y4) (.int .i64 y5) (.int .i64 y6) (.int .i64 n) RD.out (by omega)⟩, eightG (.int .i64 y0) (.int .i64 y1) (.int .i64 y2) (.int .i64 y3) (.int .i64 y4) (.int .i64 y5) (.int .i64 y6) (.int .i64 n) GR.out (by omega)⟩
    by_cases e8 : xb = 8
    · subst e8
      clear e0
      clear e1
      clear e2
      clear e3
      clear e4
      clear e5
      clear e6
      clear e7
      have c1 := (ib8 LB.out).2.1
      have cc := (ib8 LB.out).2.2.1
      have fc := LB.out.2.1 2
      have LB := hid (LB.out.set (i := 2) (by simp) y1)
      have RD := hid (rdr_setB RD.out (q := ⟨B, 2, none⟩) hBg (.int .i64 y1))
      have GR := hid (gset GR.out (q := ⟨B, 2, none⟩) (by dsimp only; omega) (.int .i64 y1))
      have RB := hid (RB.out.off (i := 2) (v := .int .i64 y1) (c := B) (by omega))
      go_upto_region 24 with fail
      clear cc fc
      obtain ⟨V2, hV2⟩ : ∃ V2, wb.setCell ⟨B, 2, none⟩ (.int .i64 y1) = V2 := ⟨_, rfl⟩
      rw [hV2] at LB RD GR RB ⊢
      clear hV2
      have LB : Hid (IB V2 B [y0, y1, y1, y3, y4, y5, y6, y7]) := LB
      obtain ⟨c0, c1, c2, c3, c4, c5, c6, c7⟩ := ib8 LB.out
      obtain ⟨s0, s1, s2, s3, s4, s5, s6, s7⟩ := ib8 RB.out
      have ff := RB.out.2.1
      have G := hid (ib8 (eight_ib rfl RB.out y0 y1 y1 y3 y4 y5 y6 y7))
      go_wp2_with fail
      refine bodyPost_ret (res_l30Head _ rfl G.out.1 G.out.2.1 G.out.2.2.1 G.out.2.2.2.1 G.out.2.2.2.2.1 G.out.2.2.2.2.2.1 G.out.2.2.2.2.2.2.1 G.out.2.2.2.2.2.2.2) rfl ?_
      exact ⟨y0, y1, y1, y3, y4, y5, y6, y7, rfl, ⟨_, by omega, eightR (.int .i64 y0) (.int .i64 y1) (.int .i64 y1) (.int .i64 y3) (.int .i64 y4) (.int .i64 y5) (.int .i64 y6) (.int .i64 y7) RD.out (by omega)⟩, eightG (.int .i64 y0) (.int .i64 y1) (.int .i64 y1) (.int .i64 y3) (.int .i64 y4) (.int .i64 y5) (.int .i64 y6) (.int .i64 y7) GR.out (by omega)⟩
    have d0 : (xb == 0) = false := by simpa using e0
    have d1 : (xb == 1) = false := by simpa using e1
    have d2 : (xb == 2) = false := by simpa using e2
    have d3 : (xb == 3) = false := by simpa using e3
    have d4 : (xb == 4) = false := by simpa using e4
    have d5 : (xb == 5) = false := by simpa using e5
    have d6 : (xb == 6) = false := by simpa using e6
    have d7 : (xb == 7) = false := by simpa using e7
    have d8 : (xb == 8) = false := by simpa using e8
    obtain ⟨c0, c1, c2, c3, c4, c5, c6, c7⟩ := ib8 LB.out
    obtain ⟨s0, s1, s2, s3, s4, s5, s6, s7⟩ := ib8 RB.out
    have ff := RB.out.2.1
    have G := hid (ib8 (eight_ib rfl RB.out y0 y1 y2 y3 y4 y5 y6 y7))
    go_wp2_with fail
    refine bodyPost_ret (res_l30Head _ rfl G.out.1 G.out.2.1 G.out.2.2.1 G.out.2.2.2.1 G.out.2.2.2.2.1 G.out.2.2.2.2.2.1 G.out.2.2.2.2.2.2.1 G.out.2.2.2.2.2.2.2) rfl ?_
    exact ⟨y0, y1, y2, y3, y4, y5, y6, y7, rfl, ⟨_, by omega, eightR (.int .i64 y0) (.int .i64 y1) (.int .i64 y2) (.int .i64 y3) (.int .i64 y4) (.int .i64 y5) (.int .i64 y6) (.int .i64 y7) RD.out (by omega)⟩, eightG (.int .i64 y0) (.int .i64 y1) (.int .i64 y2) (.int .i64 y3) (.int .i64 y4) (.int .i64 y5) (.int .i64 y6) (.int .i64 y7) GR.out (by omega)⟩
end Go.Proofs.YtpfelnkdimbhkaaDoor
