/- The draws of a rule, and of one that is spoiled now and then: seven ints, the reader goes on. -/
import Derived.Test.YtlkmooefebenlaaDrawIB
import Derived.Deep.DeepCutAuto
import Derived.Deep.RegionWith
namespace Go.Proofs.Ytlkmooefebenlaa
open Go.ChangeShapes Go.WideShapes Go.ChangeAt Go.RowKit Go.Joins Go.Deep
set_option linter.unusedVariables false
set_option linter.unusedSimpArgs false
set_option maxRecDepth 4000

theorem res_l31Rule {W : World} {b : Nat} {x0 x1 x2 x3 x4 x5 x6 : Value} (tmps : Array Value) (ht : tmps[2]?.getD undef = .pointer (some ⟨b, 0, none⟩)) (h0 : W.cell? ⟨b, 0, none⟩ = some x0) (h1 : W.cell? ⟨b, 1, none⟩ = some x1) (h2 : W.cell? ⟨b, 2, none⟩ = some x2) (h3 : W.cell? ⟨b, 3, none⟩ = some x3) (h4 : W.cell? ⟨b, 4, none⟩ = some x4) (h5 : W.cell? ⟨b, 5, none⟩ = some x5) (h6 : W.cell? ⟨b, 6, none⟩ = some x6) :
    (results Try.f73 tmps).run Try.prog W = .ok (.agg #[x0, x1, x2, x3, x4, x5, x6]) W := by
  simp [results, Try.results73, go_sem, ht, h0, h1, h2, h3, h4, h5, h6]
theorem res_l31Bad {W : World} {b : Nat} {x0 x1 x2 x3 x4 x5 x6 : Value} (tmps : Array Value) (ht : tmps[4]?.getD undef = .pointer (some ⟨b, 0, none⟩)) (h0 : W.cell? ⟨b, 0, none⟩ = some x0) (h1 : W.cell? ⟨b, 1, none⟩ = some x1) (h2 : W.cell? ⟨b, 2, none⟩ = some x2) (h3 : W.cell? ⟨b, 3, none⟩ = some x3) (h4 : W.cell? ⟨b, 4, none⟩ = some x4) (h5 : W.cell? ⟨b, 5, none⟩ = some x5) (h6 : W.cell? ⟨b, 6, none⟩ = some x6) :
    (results Try.f72 tmps).run Try.prog W = .ok (.agg #[x0, x1, x2, x3, x4, x5, x6]) W := by
  simp [results, Try.results72, go_sem, ht, h0, h1, h2, h3, h4, h5, h6]
theorem seven_ib {w : World} {b : Nat} {zs : List Int} (hz : zs.length = 7) (h : IB w b zs) (y0 y1 y2 y3 y4 y5 y6 : Int) : IB (((((((w.setCell ⟨b, 0, none⟩ (.int .i64 y0)).setCell ⟨b, 1, none⟩ (.int .i64 y1)).setCell ⟨b, 2, none⟩ (.int .i64 y2)).setCell ⟨b, 3, none⟩ (.int .i64 y3)).setCell ⟨b, 4, none⟩ (.int .i64 y4)).setCell ⟨b, 5, none⟩ (.int .i64 y5)).setCell ⟨b, 6, none⟩ (.int .i64 y6)) b [y0, y1, y2, y3, y4, y5, y6] := by
  have H := ((((((h.set (i := 0) (by omega) y0).set (i := 1) (by simp; omega) y1).set (i := 2) (by simp; omega) y2).set (i := 3) (by simp; omega) y3).set (i := 4) (by simp; omega) y4).set (i := 5) (by simp; omega) y5).set (i := 6) (by simp; omega) y6
  match zs, hz with
  | [a0, a1, a2, a3, a4, a5, a6], _ => simpa using H
theorem seven_rdr {W w : World} {g p b : Nat} (y0 y1 y2 y3 y4 y5 y6 : Value) (h : Rdr W w g p) (hq : g < b) : Rdr W (((((((w.setCell ⟨b, 0, none⟩ (y0)).setCell ⟨b, 1, none⟩ (y1)).setCell ⟨b, 2, none⟩ (y2)).setCell ⟨b, 3, none⟩ (y3)).setCell ⟨b, 4, none⟩ (y4)).setCell ⟨b, 5, none⟩ (y5)).setCell ⟨b, 6, none⟩ (y6)) g p :=
  rdr_setB (rdr_setB (rdr_setB (rdr_setB (rdr_setB (rdr_setB (rdr_setB h hq _) hq _) hq _) hq _) hq _) hq _) hq _
theorem seven_gset {a w : World} {g b : Nat} (y0 y1 y2 y3 y4 y5 y6 : Value) (h : a.grownBy w (some g)) (hq : a.heap.size ≤ b) : a.grownBy (((((((w.setCell ⟨b, 0, none⟩ (y0)).setCell ⟨b, 1, none⟩ (y1)).setCell ⟨b, 2, none⟩ (y2)).setCell ⟨b, 3, none⟩ (y3)).setCell ⟨b, 4, none⟩ (y4)).setCell ⟨b, 5, none⟩ (y5)).setCell ⟨b, 6, none⟩ (y6)) (some g) :=
  gset (gset (gset (gset (gset (gset (gset h hq _) hq _) hq _) hq _) hq _) hq _) hq _
theorem ib7 {w : World} {b : Nat} {y0 y1 y2 y3 y4 y5 y6 : Int} (h : IB w b [y0, y1, y2, y3, y4, y5, y6]) : w.cell? ⟨b, 0, none⟩ = some (.int .i64 y0) ∧ w.cell? ⟨b, 1, none⟩ = some (.int .i64 y1) ∧ w.cell? ⟨b, 2, none⟩ = some (.int .i64 y2) ∧ w.cell? ⟨b, 3, none⟩ = some (.int .i64 y3) ∧ w.cell? ⟨b, 4, none⟩ = some (.int .i64 y4) ∧ w.cell? ⟨b, 5, none⟩ = some (.int .i64 y5) ∧ w.cell? ⟨b, 6, none⟩ = some (.int .i64 y6) :=
  ⟨h.1 0 (by simp), h.1 1 (by simp), h.1 2 (by simp), h.1 3 (by simp), h.1 4 (by simp), h.1 5 (by simp), h.1 6 (by simp)⟩
/-- the world within a draw of a rule: the reader, the rule's own block, the result's block -/
def RlW (W w wx : World) (g lim B R : Nat) : Prop := ∃ q, q ≤ lim ∧ Rdr W wx g q ∧ w.grownBy wx (some g) ∧ (∃ y0 y1 y2 y3 y4 y5 y6 : Int, IB wx B [y0, y1, y2, y3, y4, y5, y6]) ∧ IB wx R [0, 0, 0, 0, 0, 0, 0]

set_option maxHeartbeats 4000000 in
theorem drawRule_any (W w : World) (g p : Nat) (hr : Rdr W w g p) (hp : p < 990000) :
    Calls Try.prog 73 #[.pointer (some ⟨g, 0, none⟩)] w fun e w' => ∃ y0 y1 y2 y3 y4 y5 y6 : Int, e = .returned (.agg #[.int .i64 y0, .int .i64 y1, .int .i64 y2, .int .i64 y3, .int .i64 y4, .int .i64 y5, .int .i64 y6]) ∧ (∃ q, q ≤ p + 8 ∧ Rdr W w' g q) ∧ w.grownBy w' (some g) := by
  have hg : g < w.heap.size := by
    obtain ⟨v, xs, _, _, _, h, _⟩ := hr
    exact World.block_lt_of_cell? w ⟨g, 0, none⟩ h
  have RD := hid (hr.keep (below_alloc1 w (.cells #[.int .i64 0, .int .i64 0, .int .i64 0, .int .i64 0, .int .i64 0, .int .i64 0, .int .i64 0] 46)))
  have GR := hid (galloc (grefl w g) (.cells #[.int .i64 0, .int .i64 0, .int .i64 0, .int .i64 0, .int .i64 0, .int .i64 0, .int .i64 0] 46))
  have RB : Hid (IB (w.alloc (.cells #[.int .i64 0, .int .i64 0, .int .i64 0, .int .i64 0, .int .i64 0, .int .i64 0, .int .i64 0] 46)) w.heap.size [0, 0, 0, 0, 0, 0, 0]) := hid (ib_new w [0, 0, 0, 0, 0, 0, 0] 46)
  have ZZ : Hid ((w.alloc (.cells #[.int .i64 0, .int .i64 0, .int .i64 0, .int .i64 0, .int .i64 0, .int .i64 0, .int .i64 0] 46)).heap.size = w.heap.size + 1) := hid (by simp)
  have nR : some w.heap.size ≠ some g := by simp; omega
  clear hr
  go_enter Try.func73, Try.ntmps73
  go_wp2_with fail
  refine (pick_any 3 W _ g p RD.out (by omega) (by omega) (by omega)).mono ?_
  rintro e w1 ⟨x1, rfl, lx1, ux1, rd, hc, hf, hz, gr⟩
  have RD := hid rd
  have GR := hid (gtrans GR.out gr)
  have RB := hid (RB.out.grown gr nR)
  have ZZ := hid (hz.trans ZZ.out)
  clear rd hc hf hz gr
  go_wp2_with fail
  refine (pick_any 4 W _ g (p + 1) RD.out (by omega) (by omega) (by omega)).mono ?_
  rintro e w2 ⟨x2, rfl, lx2, ux2, rd, hc, hf, hz, gr⟩
  have RD := hid rd
  have GR := hid (gtrans GR.out gr)
  have RB := hid (RB.out.grown gr nR)
  have ZZ := hid (hz.trans ZZ.out)
  clear rd hc hf hz gr
  go_wp2_with fail
  refine (pick_any 5 W _ g (p + 1 + 1) RD.out (by omega) (by omega) (by omega)).mono ?_
  rintro e w3 ⟨x3, rfl, lx3, ux3, rd, hc, hf, hz, gr⟩
  have RD := hid rd
  have GR := hid (gtrans GR.out gr)
  have RB := hid (RB.out.grown gr nR)
  have ZZ := hid (hz.trans ZZ.out)
  clear rd hc hf hz gr
  have RD := hid (RD.out.keep (below_alloc1 w3 (.cells #[.int .i64 8, .int .i64 8, .int .i64 0, .int .i64 1, .int .i64 3] 3)))
  have GR := hid (galloc GR.out (.cells #[.int .i64 8, .int .i64 8, .int .i64 0, .int .i64 1, .int .i64 3] 3))
  have RB := hid (RB.out.keep (below_alloc1 w3 (.cells #[.int .i64 8, .int .i64 8, .int .i64 0, .int .i64 1, .int .i64 3] 3)))
  have n3 : ¬ w3.heap.size = g := by have := ZZ.out; omega
  have ZZ : Hid ((w3.alloc (.cells #[.int .i64 8, .int .i64 8, .int .i64 0, .int .i64 1, .int .i64 3] 3)).heap.size = w.heap.size + 1 + 1) := hid (by have := ZZ.out; simp; omega)
  go_wp2_with fail
  refine (pick_any 5 W _ g (p + 1 + 1 + 1) RD.out (by omega) (by omega) (by omega)).mono ?_
  rintro e w4 ⟨x4, rfl, lx4, ux4, rd, hc, hf, hz, gr⟩
  obtain ⟨m, hm, hcm⟩ := at_pick [8, 8, 0, 1, 3] 3 x4 lx4 (by simpa using ux4) n3 hc
  have RD := hid rd
  have GR := hid (gtrans GR.out gr)
  have RB := hid (RB.out.grown gr nR)
  have ZZ := hid (hz.trans ZZ.out)
  clear rd hc hf hz gr
  clear hm
  go_upto_region 2 with fail
  have LB : Hid (IB (w4.alloc (.cells #[.int .i64 x1, .int .i64 8, .int .i64 (x2 - 1), .int .i64 0, .int .i64 255, .int .i64 (x3 - 1), .int .i64 m] 46)) w4.heap.size [x1, 8, x2 - 1, 0, 255, x3 - 1, m]) := hid (ib_new w4 [x1, 8, x2 - 1, 0, 255, x3 - 1, m] 46)
  have RD := hid (RD.out.keep (below_alloc1 w4 (.cells #[.int .i64 x1, .int .i64 8, .int .i64 (x2 - 1), .int .i64 0, .int .i64 255, .int .i64 (x3 - 1), .int .i64 m] 46)))
  have GR := hid (galloc GR.out (.cells #[.int .i64 x1, .int .i64 8, .int .i64 (x2 - 1), .int .i64 0, .int .i64 255, .int .i64 (x3 - 1), .int .i64 m] 46))
  have RB := hid (RB.out.keep (below_alloc1 w4 (.cells #[.int .i64 x1, .int .i64 8, .int .i64 (x2 - 1), .int .i64 0, .int .i64 255, .int .i64 (x3 - 1), .int .i64 m] 46)))
  obtain ⟨V, hV⟩ : ∃ V, w4.alloc (.cells #[.int .i64 x1, .int .i64 8, .int .i64 (x2 - 1), .int .i64 0, .int .i64 255, .int .i64 (x3 - 1), .int .i64 m] 46) = V := ⟨_, rfl⟩
  rw [hV] at LB RD GR RB ⊢
  have hz4 := ZZ.out
  obtain ⟨B, hB⟩ : ∃ B, w4.heap.size = B := ⟨_, rfl⟩
  rw [hB] at LB hz4 ⊢
  have hBg : g < B := by omega
  have hBw : w.heap.size < B := by omega
  have nB : some B ≠ some g := by simp; omega
  have hBV := LB.out.2.2
  clear hV hB ZZ hcm n3 hz4
  go_cut [] (fun wx => RlW W w wx g (p + 5) B w.heap.size)
  case first =>
    have c0 : V.cell? ⟨B, 0, none⟩ = some (.int .i64 x1) := (ib7 LB.out).1
    have c1 : V.cell? ⟨B, 1, none⟩ = some (.int .i64 8) := (ib7 LB.out).2.1
    have f1 : V.frozen? ⟨B, 1, none⟩ = false := LB.out.2.1 1
    have nV : ¬ V.heap.size = g := by omega
    have q1 : IntKind.i64.wrap (x1 + 2) = x1 + 2 := by rw [IntKind.wrap_i64]; omega
    have hBb : ¬ B = g := by omega
    have hBVn : ¬ B = V.heap.size := by omega
    have RDa := hid (RD.out.keep (below_alloc1 V (.cells #[.int .i64 8, .int .i64 8, .int .i64 x1, .int .i64 (x1 + 2)] 3)))
    have GRa := hid (galloc GR.out (.cells #[.int .i64 8, .int .i64 8, .int .i64 x1, .int .i64 (x1 + 2)] 3))
    have LBa := hid (LB.out.keep (below_alloc1 V (.cells #[.int .i64 8, .int .i64 8, .int .i64 x1, .int .i64 (x1 + 2)] 3)))
    have RBa := hid (RB.out.keep (below_alloc1 V (.cells #[.int .i64 8, .int .i64 8, .int .i64 x1, .int .i64 (x1 + 2)] 3)))
    go_region_with ((first | (go_at_call 81; refine (pick_h 4 W _ g (p + 4) ?_ (by omega) (by omega) (by omega)).mono ?_; (first | exact rdr_drew RDa.out | exact RDa.out); rintro e w6 ⟨x6, rfl, l6, u6, RD6, HC, HZ, HG⟩; have G6 := hid (gtrans (gdrew GRa.out) HG.out); have LB6 := hid (LBa.out.drew.grown HG.out nB); have RB6 := hid (RBa.out.drew.grown HG.out nR); have h6 := hid (pick_cell V [8, 8, x1, x1 + 2] 3 x6 l6 (by simpa using u6)); obtain ⟨m6, h6⟩ : ∃ m6, w6.cell? ⟨V.heap.size, x6.toNat, none⟩ = some (.int .i64 m6) := (by obtain ⟨m6, _, h7⟩ := h6.out; exact ⟨m6, (HC.out V.heap.size x6.toNat nV).trans h7⟩); have c0 := (ib7 LB6.out).1; have c1 := (ib7 LB6.out).2.1; have f1 := LB6.out.2.1 1) | (go_at_call 81; refine (pick_h 4 W _ g (p + 4) ?_ (by omega) (by omega) (by omega)).mono ?_; (first | exact rdr_drew RD.out | exact RD.out); rintro e w6 ⟨x6, rfl, l6, u6, RD6, HC, HZ, HG⟩; have G6 := hid (gtrans (gdrew GR.out) HG.out); have LB6 := hid (LB.out.drew.grown HG.out nB); have RB6 := hid (RB.out.drew.grown HG.out nR); have hB6 : ¬ B = w6.heap.size := (by have := LB6.out.2.2; omega); have hB7 : ¬ w6.heap.size = B := (by have := LB6.out.2.2; omega); have hB8 : B < w6.heap.size := LB6.out.2.2; obtain ⟨m6, e6⟩ : ∃ m6 : Int, ∀ h, ([.int .i64 8, .int .i64 8, .int .i64 x1, .int .i64 (x1 + 2)] : List Value)[x6.toNat]'h = .int .i64 m6 := row_at [8, 8, x1, x1 + 2] x6.toNat; have c0 := (ib7 LB6.out).1; have c1 := (ib7 LB6.out).2.1; have f1 := LB6.out.2.1 1)))
    all_goals
      go_wp2_with fail
      go_meet
      case rel =>
        first
        | exact ⟨p + 5, by omega, rdr_setB RD6.out hBg _, gset G6.out (by dsimp only; omega) _, ⟨x1, m6, x2 - 1, 0, 255, x3 - 1, m, LB6.out.set (i := 1) (by simp) m6⟩, RB6.out.off (by omega)⟩
        | exact ⟨p + 5, by omega, (rdr_setB RD6.out (q := ⟨B, 1, none⟩) hBg _).keep (below_alloc1 _ _), galloc (gset G6.out (q := ⟨B, 1, none⟩) (by dsimp only; omega) _) _, ⟨x1, m6, x2 - 1, 0, 255, x3 - 1, m, (LB6.out.set (i := 1) (by simp) m6).keep (below_alloc1 _ _)⟩, (RB6.out.off (by omega)).keep (below_alloc1 _ _)⟩
  case rest =>
    obtain ⟨q, hq, rd, gr, ⟨y0, y1, y2, y3, y4, y5, y6, lb⟩, rb⟩ := hcut
    clear LB RD GR RB hBV
    have RD := hid rd
    have GR := hid gr
    have LB := hid lb
    have RB := hid rb
    clear rd gr lb rb
    go_wp2_with fail
    refine (pick_h 2 W _ g q RD.out (by omega) (by omega) (by omega)).mono ?_
    rintro e w7 ⟨x7, rfl, lx7, ux7, RD, HC, HZ, HG⟩
    have GR := hid (gtrans GR.out HG.out)
    have LB := hid (LB.out.grown HG.out nB)
    have RB := hid (RB.out.grown HG.out nR)
    clear HC HZ HG
    by_cases e7 : x7 = 0
    · subst e7
      go_wp2_with fail
      refine (pick_h 128 W _ g (q + 1) RD.out (by omega) (by omega) (by omega)).mono ?_
      rintro e w8 ⟨x8, rfl, lx8, ux8, RD, HC, HZ, HG⟩
      have GR := hid (gtrans GR.out HG.out)
      have LB := hid (LB.out.grown HG.out nB)
      have RB := hid (RB.out.grown HG.out nR)
      clear HC HZ HG
      have c3 := (ib7 LB.out).2.2.2.1
      have f3 := LB.out.2.1 3
      have LB := hid (LB.out.set (i := 3) (by simp) x8)
      have RD := hid (rdr_setB RD.out (q := ⟨B, 3, none⟩) hBg (.int .i64 x8))
      have GR := hid (gset GR.out (q := ⟨B, 3, none⟩) (by dsimp only; omega) (.int .i64 x8))
      have RB := hid (RB.out.off (i := 3) (v := .int .i64 x8) (c := B) (by omega))
      go_wp2_with fail
      clear c3 f3
      obtain ⟨V8, hV8⟩ : ∃ V8, w8.setCell ⟨B, 3, none⟩ (.int .i64 x8) = V8 := ⟨_, rfl⟩
      rw [hV8] at LB RD GR RB ⊢
      clear hV8
      have LB : Hid (IB V8 B [y0, y1, y2, x8, y4, y5, y6]) := LB
      have c3 := (ib7 LB.out).2.2.2.1
      have c4 := (ib7 LB.out).2.2.2.2.1
      have f4 := LB.out.2.1 4
      go_region_with ((go_at_call 81; refine (pick_h 128 W _ g (q + 1 + 1) ?_ (by omega) (by omega) (by omega)).mono ?_; exact rdr_drew RD.out; rintro e w9 ⟨x9, rfl, l9, u9, RD, HC, HZ, HG⟩; have GR := hid (gtrans (gdrew GR.out) HG.out); have LB := hid (LB.out.drew.grown HG.out nB); have RB := hid (RB.out.drew.grown HG.out nR); have c3 := (ib7 LB.out).2.2.2.1; have c4 := (ib7 LB.out).2.2.2.2.1; have f4 := LB.out.2.1 4; have q1 : IntKind.i64.wrap (x8 + x9) = x8 + x9 := (by rw [IntKind.wrap_i64]; omega)))
      all_goals
        have LB := hid (LB.out.set (i := 4) (by simp) (x8 + x9))
        have RD := hid (rdr_setB RD.out (q := ⟨B, 4, none⟩) hBg (.int .i64 (x8 + x9)))
        have GR := hid (gset GR.out (q := ⟨B, 4, none⟩) (by dsimp only; omega) (.int .i64 (x8 + x9)))
        have RB := hid (RB.out.off (i := 4) (v := .int .i64 (x8 + x9)) (c := B) (by omega))
        obtain ⟨V9, hV9⟩ : ∃ V9, w9.setCell ⟨B, 4, none⟩ (.int .i64 (x8 + x9)) = V9 := ⟨_, rfl⟩
        clear c3 c4 f4 q1
        rw [hV9] at LB RD GR RB
        (try rw [hV9])
        clear hV9
        have LB : Hid (IB V9 B [y0, y1, y2, x8, x8 + x9, y5, y6]) := LB
        obtain ⟨c0, c1, c2, c3, c4, c5, c6⟩ := ib7 LB.out
        obtain ⟨s0, s1, s2, s3, s4, s5, s6⟩ := ib7 RB.out
        have ff := RB.out.2.1
        obtain ⟨g0, g1, g2, g3, g4, g5, g6⟩ := ib7 (seven_ib rfl RB.out y0 y1 y2 x8 (x8 + x9) y5 y6)
        have G0 := hid g0
        have G1 := hid g1
        have G2 := hid g2
        have G3 := hid g3
        have G4 := hid g4
        have G5 := hid g5
        have G6 := hid g6
        clear g0 g1 g2 g3 g4 g5 g6
        go_wp2_with fail
        refine bodyPost_ret (res_l31Rule _ rfl G0.out G1.out G2.out G3.out G4.out G5.out G6.out) rfl ?_
        exact ⟨y0, y1, y2, x8, (x8 + x9), y5, y6, rfl, ⟨_, by omega, seven_rdr (.int .i64 y0) (.int .i64 y1) (.int .i64 y2) (.int .i64 x8) (.int .i64 (x8 + x9)) (.int .i64 y5) (.int .i64 y6) RD.out (by omega)⟩, seven_gset (.int .i64 y0) (.int .i64 y1) (.int .i64 y2) (.int .i64 x8) (.int .i64 (x8 + x9)) (.int .i64 y5) (.int .i64 y6) GR.out (by omega)⟩
    · have d7 : (x7 == 0) = false := by simpa using e7
      obtain ⟨c0, c1, c2, c3, c4, c5, c6⟩ := ib7 LB.out
      obtain ⟨s0, s1, s2, s3, s4, s5, s6⟩ := ib7 RB.out
      have ff := RB.out.2.1
      obtain ⟨g0, g1, g2, g3, g4, g5, g6⟩ := ib7 (seven_ib rfl RB.out y0 y1 y2 y3 y4 y5 y6)
      have G0 := hid g0
      have G1 := hid g1
      have G2 := hid g2
      have G3 := hid g3
      have G4 := hid g4
      have G5 := hid g5
      have G6 := hid g6
      clear g0 g1 g2 g3 g4 g5 g6
      go_wp2_with fail
      refine bodyPost_ret (res_l31Rule _ rfl G0.out G1.out G2.out G3.out G4.out G5.out G6.out) rfl ?_
      exact ⟨y0, y1, y2, y3, y4, y5, y6, rfl, ⟨_, by omega, seven_rdr (.int .i64 y0) (.int .i64 y1) (.int .i64 y2) (.int .i64 y3) (.int .i64 y4) (.int .i64 y5) (.int .i64 y6) RD.out (by omega)⟩, seven_gset (.int .i64 y0) (.int .i64 y1) (.int .i64 y2) (.int .i64 y3) (.int .i64 y4) (.int .i64 y5) (.int .i64 y6) GR.out (by omega)⟩
end Go.Proofs.Ytlkmooefebenlaa
