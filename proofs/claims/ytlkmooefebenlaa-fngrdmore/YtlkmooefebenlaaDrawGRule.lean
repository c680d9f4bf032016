/- The draw of a rule: seven ints. -/
import Derived.Test.YtlkmooefebenlaaGrdAid
namespace Go.Proofs.Ytlkmooefebenlaa
open Go.ChangeShapes Go.WideShapes Go.ChangeAt Go.RowKit Go.Joins Go.Deep
set_option linter.unusedVariables false
set_option linter.unusedSimpArgs false
set_option maxRecDepth 4000

theorem seven_below {n : Nat} {a w : World} {b : Nat} (y0 y1 y2 y3 y4 y5 y6 : Value) (h : Below n a w) (hb : n ≤ b) : Below n a (((((((w.setCell ⟨b, 0, none⟩ y0).setCell ⟨b, 1, none⟩ y1).setCell ⟨b, 2, none⟩ y2).setCell ⟨b, 3, none⟩ y3).setCell ⟨b, 4, none⟩ y4).setCell ⟨b, 5, none⟩ y5).setCell ⟨b, 6, none⟩ y6) :=
  ((((((h.setCell (p := ⟨b, 0, none⟩) hb _).setCell (p := ⟨b, 1, none⟩) hb _).setCell (p := ⟨b, 2, none⟩) hb _).setCell (p := ⟨b, 3, none⟩) hb _).setCell (p := ⟨b, 4, none⟩) hb _).setCell (p := ⟨b, 5, none⟩) hb _).setCell (p := ⟨b, 6, none⟩) hb _
theorem res_ruleok {W : World} {b : Nat} {x0 x1 x2 x3 x4 x5 x6 : Value} (tmps : Array Value) (ht : tmps[2]?.getD undef = .pointer (some ⟨b, 0, none⟩)) (h0 : W.cell? ⟨b, 0, none⟩ = some x0) (h1 : W.cell? ⟨b, 1, none⟩ = some x1) (h2 : W.cell? ⟨b, 2, none⟩ = some x2) (h3 : W.cell? ⟨b, 3, none⟩ = some x3) (h4 : W.cell? ⟨b, 4, none⟩ = some x4) (h5 : W.cell? ⟨b, 5, none⟩ = some x5) (h6 : W.cell? ⟨b, 6, none⟩ = some x6) :
    (results Try.f34 tmps).run Try.prog W = .ok (.agg #[x0, x1, x2, x3, x4, x5, x6]) W := by
  simp [results, Try.results34, go_sem, ht, h0, h1, h2, h3, h4, h5, h6]
set_option maxHeartbeats 4000000 in
theorem drawGRule_any (a : Option Addr) (len cap : Nat) (zs : List Int) (w : World) (hn : zs.length = len) (hv : Rd w (.slice a len cap) zs) (hcap : len ≤ cap) :
    Calls Try.prog 34 #[.slice a len cap] w fun e w' => ∃ y0 y1 y2 y3 y4 y5 y6 : Int, e = .returned (.agg #[.int .i64 y0, .int .i64 y1, .int .i64 y2, .int .i64 y3, .int .i64 y4, .int .i64 y5, .int .i64 y6]) ∧ Below w.heap.size w w' := by
  have HV := hid (hv.keep (below_alloc1 w (.cells #[.int .i64 0, .int .i64 0, .int .i64 0, .int .i64 0, .int .i64 0, .int .i64 0, .int .i64 0] 46)))
  have RB : Hid (IB (w.alloc (.cells #[.int .i64 0, .int .i64 0, .int .i64 0, .int .i64 0, .int .i64 0, .int .i64 0, .int .i64 0] 46)) w.heap.size [0, 0, 0, 0, 0, 0, 0]) := hid (ib_new w [0, 0, 0, 0, 0, 0, 0] 46)
  clear hv
  go_enter Try.func34, Try.ntmps34
  go_wp2_with fail
  refine (open_any a len cap zs _ hn HV.out hcap).mono ?_
  rintro e w0 ⟨rfl, rd, bl, hz⟩
  have hs1 : (w.alloc (.cells #[.int .i64 0, .int .i64 0, .int .i64 0, .int .i64 0, .int .i64 0, .int .i64 0, .int .i64 0] 46)).heap.size = w.heap.size + 1 := by simp
  rw [hs1] at hz
  have RD := hid rd
  have RB := hid (RB.out.keep bl)
  have B0 : Hid (Below w.heap.size w w0) := hid ((below_alloc1 w (.cells #[.int .i64 0, .int .i64 0, .int .i64 0, .int .i64 0, .int .i64 0, .int .i64 0, .int .i64 0] 46)).trans (bl.mono (by rw [hs1]; omega)))
  have z0 : w.heap.size + 1 < w0.heap.size := by omega
  clear rd bl HV hz
  rw [hs1] at RD
  clear hs1
  go_wp2_with fail
  refine (drawRule_any (w.alloc (.cells #[.int .i64 0, .int .i64 0, .int .i64 0, .int .i64 0, .int .i64 0, .int .i64 0, .int .i64 0] 46)) _ (w.heap.size + 1) 0 RD.out (by omega)).mono ?_
  rintro e w1 ⟨y0, y1, y2, y3, y4, y5, y6, rfl, ⟨q, hq, rd⟩, gr⟩
  have RD := hid rd
  have RB := hid (RB.out.grown gr (by simp))
  have B1 := hid (B0.out.trans (below_grown' (n := w.heap.size) gr (by omega) (by omega)))
  have z1 : w.heap.size + 1 < w1.heap.size := Nat.lt_of_lt_of_le z0 gr.size
  clear rd gr B0
  go_wp2_with fail
  refine (drawBad_any (w.alloc (.cells #[.int .i64 0, .int .i64 0, .int .i64 0, .int .i64 0, .int .i64 0, .int .i64 0, .int .i64 0] 46)) _ (w.heap.size + 1) q y0 y1 y2 y3 y4 y5 y6 RD.out (by omega)).mono ?_
  rintro e w2 ⟨z0, z1, z2, z3, z4, z5, z6, rfl, _, gr⟩
  have RB := hid (RB.out.grown gr (by simp))
  have B2 := hid (B1.out.trans (below_grown' (n := w.heap.size) gr (by omega) (by omega)))
  clear gr B1
  obtain ⟨s0, s1, s2, s3, s4, s5, s6⟩ := ib7 RB.out
  have ff := RB.out.2.1
  obtain ⟨g0, g1, g2, g3, g4, g5, g6⟩ := ib7 (seven_ib rfl RB.out z0 z1 z2 z3 z4 z5 z6)
  have G := hid (And.intro g0 (And.intro g1 (And.intro g2 (And.intro g3 (And.intro g4 (And.intro g5 g6))))))
  clear g0 g1 g2 g3 g4 g5 g6
  go_wp2_with fail
  refine bodyPost_ret (res_ruleok _ rfl G.out.1 G.out.2.1 G.out.2.2.1 G.out.2.2.2.1 G.out.2.2.2.2.1 G.out.2.2.2.2.2.1 G.out.2.2.2.2.2.2) rfl ?_
  exact ⟨z0, z1, z2, z3, z4, z5, z6, rfl, seven_below _ _ _ _ _ _ _ B2.out (Nat.le_refl _)⟩
end Go.Proofs.Ytlkmooefebenlaa
