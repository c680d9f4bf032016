/- The draw of a cell: a machine and bytes. Conditions: the reader lies as it was opened. -/
import Derived.Test.YthhgjnhfidhmpaaDrawState
import Derived.Test.YthhgjnhfidhmpaaDrawBy
import Derived.Test.YthhgjnhfidhmpaaCelL6
namespace Go.Proofs.Ythhgjnhfidhmpaa
open Go.ChangeShapes Go.WideShapes Go.ChangeAt Go.RowKit Go.Joins Go.Deep
set_option linter.unusedVariables false
set_option linter.unusedSimpArgs false
set_option maxRecDepth 4000
theorem own_grownD {w w' : World} {B g : Nat} {v : Value} {xs : List Int} (h : Own w B v xs) (hg : w.grownBy w' (some g)) (hB : g < B) : Own w' B v xs :=
  OwnR.chg h (S := fun j => j = g) (Chg.of_grown hg (fun j hj => by simpa using hj.symm)) (fun j hj e => by have e : j = g := e; have := (h.blk j hj).1; omega)
theorem ownI_grownD {e : TypeId} {k n : Nat} {w w' : World} {B g : Nat} {v : Value} {xs : List Int} (h : OwnI e k w B v n xs) (hg : w.grownBy w' (some g)) (hB : g < B) : OwnI e k w' B v n xs :=
  h.chg (S := fun j => j = g) (Chg.of_grown hg (fun j hj => by simpa using hj.symm)) (fun j hj e => by have e : j = g := e; have := (h.blk j hj).1; omega)
theorem res_l31cell {W : World} {b : Nat} {x0 x1 x2 x3 x4 : Value} (tmps : Array Value) (ht : tmps[2]?.getD undef = .pointer (some ⟨b, 0, none⟩)) (h0 : W.cell? ⟨b, 0, none⟩ = some x0) (h1 : W.cell? ⟨b, 1, none⟩ = some x1) (h2 : W.cell? ⟨b, 2, none⟩ = some x2) (h3 : W.cell? ⟨b, 3, none⟩ = some x3) (h4 : W.cell? ⟨b, 4, none⟩ = some x4) :
    (results Try.f29 tmps).run Try.prog W = .ok (.agg #[x0, x1, x2, x3, x4]) W := by
  simp [results, Try.results29, go_sem, ht, h0, h1, h2, h3, h4]
/-- what a draw of a cell has: its rows lie at lo or behind it -/
def CelHas (lo : Nat) (u v i : Value) (w : World) : Prop := ∃ m xs ys bs, OwnI 3 1 w lo u 4 xs ∧ OwnI 3 1 w lo v m ys ∧ m ≤ 9 ∧ Own w lo i bs ∧ bs.length ≤ 7
theorem CelHas.grown {lo g : Nat} {u v i : Value} {w w' : World} (h : CelHas lo u v i w) (hg : w.grownBy w' (some g)) (hl : g < lo) : CelHas lo u v i w' := by
  obtain ⟨m, xs, ys, bs, h1, h2, h3, h4, h5⟩ := h
  exact ⟨m, xs, ys, bs, ownI_grownD h1 hg hl, ownI_grownD h2 hg hl, h3, own_grownD h4 hg hl, h5⟩
theorem CelHas.chg {lo b : Nat} {u v i : Value} {w w' : World} (h : CelHas lo u v i w) (hg : Chg (fun j => j = b) w w') (hl : b < lo) : CelHas lo u v i w' := by
  obtain ⟨m, xs, ys, bs, h1, h2, h3, h4, h5⟩ := h
  exact ⟨m, xs, ys, bs, h1.chg hg (fun j hj e => by have e : j = b := e; have := (h1.blk j hj).1; omega), h2.chg hg (fun j hj e => by have e : j = b := e; have := (h2.blk j hj).1; omega), h3, OwnR.chg h4 hg (fun j hj e => by have e : j = b := e; have := (h4.blk j hj).1; omega), h5⟩
theorem CelHas.low {lo lo' : Nat} {u v i : Value} {w : World} (h : CelHas lo' u v i w) (hl : lo ≤ lo') : CelHas lo u v i w := by
  obtain ⟨m, xs, ys, bs, h1, h2, h3, h4, h5⟩ := h
  exact ⟨m, xs, ys, bs, h1.low hl, h2.low hl, h3, h4.low hl, h5⟩
def CelDrawn (W w : World) (g p : Nat) (e : Ending) (w' : World) : Prop :=
  ∃ (pc ht : Int) (u v i : Value), e = .returned (.agg #[.int .i64 pc, u, v, .int .i64 ht, i]) ∧ CelHas w.heap.size u v i w' ∧ (∃ q, q ≤ p + 310 ∧ Rdr W w' g q) ∧ w.grownBy w' (some g)
set_option maxHeartbeats 4000000 in
theorem drawCel_any (W w : World) (g p : Nat) (hr : Rdr W w g p) (hp : p + 310 < 900000) :
    Calls Try.prog 29 #[.pointer (some ⟨g, 0, none⟩)] w fun e w' => CelDrawn W w g p e w' := by
  have hgl : g < w.heap.size := (DW.start (K := 1) hr).rd_lt
  have hWl : W.heap.size ≤ w.heap.size := (DW.start (K := 1) hr).2.2.2.2.2
  have HGL := hid hgl
  have HWL := hid hWl
  have R0 := hid (hr.keep (below_alloc1 w (.cells #[.int .i64 0, .slice none 0 0, .slice none 0 0, .int .i64 0, .slice none 0 0] 27)))
  have G0 := hid (galloc (grefl w g) (.cells #[.int .i64 0, .slice none 0 0, .slice none 0 0, .int .i64 0, .slice none 0 0] 27))
  have V0 := hid (vb_new w [.int .i64 0, .slice none 0 0, .slice none 0 0, .int .i64 0, .slice none 0 0] 27)
  clear hr hgl hWl
  go_enter Try.func29, Try.ntmps29
  go_wp2_with fail
  refine (drawState_any W _ g p 9 R0.out (by omega) (by omega)).mono ?_
  rintro e w1 ⟨pc, ht, u, v, rfl, m, xs, ys, o1, o2, hm9, ⟨q, hq, rd⟩, gr⟩
  obtain ⟨a1, c1, rfl, _⟩ := ownI_form o1
  obtain ⟨a2, c2, rfl, _⟩ := ownI_form o2
  simp only [World.size_alloc] at o1 o2
  have R1 := hid (rd.keep (below_alloc1 w1 (.cells #[.int .i64 0, .int .i64 1, .int .i64 5, .int .i64 6, .int .i64 6, .int .i64 7] 3)))
  have G1 := hid (galloc (gtrans G0.out gr) (.cells #[.int .i64 0, .int .i64 1, .int .i64 5, .int .i64 6, .int .i64 6, .int .i64 7] 3))
  have V1 := hid ((V0.out.grown gr (by have := HGL.out; simp; omega)).keep (below_alloc1 w1 (.cells #[.int .i64 0, .int .i64 1, .int .i64 5, .int .i64 6, .int .i64 6, .int .i64 7] 3)))
  have P1 := hid (o1.keep (below_alloc1 w1 (.cells #[.int .i64 0, .int .i64 1, .int .i64 5, .int .i64 6, .int .i64 6, .int .i64 7] 3)))
  have P2 := hid (o2.keep (below_alloc1 w1 (.cells #[.int .i64 0, .int .i64 1, .int .i64 5, .int .i64 6, .int .i64 6, .int .i64 7] 3)))
  have z1 : w.heap.size < w1.heap.size := by have := gr.size; simp at this; omega
  have nz1 : ¬ w1.heap.size = g := by have := HGL.out; omega
  clear rd gr o1 o2 R0 G0 V0
  go_wp2_with fail
  refine (pick_any 6 W _ g q R1.out (by omega) (by omega) (by omega)).mono ?_
  rintro e w2 ⟨x, rfl, l2, u2, rd, hc2, hf2, hz2, gr⟩
  obtain ⟨z, hz, hcz⟩ := at_pick (w := w1) [0, 1, 5, 6, 6, 7] 3 x l2 (by simpa using u2) nz1 hc2
  have hb : 0 ≤ z ∧ z ≤ 7 := by simp at hz; omega
  obtain ⟨n, rfl⟩ := Int.eq_ofNat_of_zero_le hb.1
  have hn : n ≤ 7 := by omega
  have R2 := hid rd
  have G2 := hid (gtrans G1.out gr)
  have V2 := hid (V1.out.grown gr (by have := HGL.out; simp; omega))
  have P1 := hid (ownI_grownD P1.out gr (by have := HGL.out; omega))
  have P2 := hid (ownI_grownD P2.out gr (by have := HGL.out; omega))
  clear rd gr hc2 hf2 hz2 hz hb R1 G1 V1
  go_wp2_with fail
  refine (drawBytes_any n W _ g _ R2.out (by omega) (by omega)).mono ?_
  rintro e w3 ⟨i, bs, rfl, hbs, ob, rd, gr⟩
  obtain ⟨a3, c3, rfl, _⟩ := own_form ob
  subst hbs
  have z2 : w.heap.size < w2.heap.size := by have h := V2.out.2.2; omega
  have R3 := hid rd
  have G3 := hid (gtrans G2.out gr)
  have V3 := hid (V2.out.grown gr (by have := HGL.out; simp; omega))
  have P1 := hid (ownI_grownD P1.out gr (by have := HGL.out; omega))
  have P2 := hid (ownI_grownD P2.out gr (by have := HGL.out; omega))
  have P3 := hid (ob.low (B' := w.heap.size + 1) (by omega))
  have HB := hid hn
  clear rd gr ob R2 G2 V2 hcz
  obtain ⟨r0, r1, r2, r3, r4⟩ := vb5 V3.out
  have fr := V3.out.2.1
  have T := hid (vbset5 (.int .i64 pc) (.slice a1 4 c1) (.slice a2 m c2) (.int .i64 ht) (.slice a3 bs.length c3) V3.out)
  have CG := hid (vbchg5 (S := fun j => j = w.heap.size) (w := w3) (b := w.heap.size) (.int .i64 pc) (.slice a1 4 c1) (.slice a2 m c2) (.int .i64 ht) (.slice a3 bs.length c3) rfl)
  clear V3
  have FF : Hid (CelHas w.heap.size (.slice a1 4 c1) (.slice a2 m c2) (.slice a3 bs.length c3) (((((w3.setCell ⟨w.heap.size, 0, none⟩ (.int .i64 pc)).setCell ⟨w.heap.size, 1, none⟩ (.slice a1 4 c1)).setCell ⟨w.heap.size, 2, none⟩ (.slice a2 m c2)).setCell ⟨w.heap.size, 3, none⟩ (.int .i64 ht)).setCell ⟨w.heap.size, 4, none⟩ (.slice a3 bs.length c3)) ∧ (∃ qq, qq ≤ p + 310 ∧ Rdr W (((((w3.setCell ⟨w.heap.size, 0, none⟩ (.int .i64 pc)).setCell ⟨w.heap.size, 1, none⟩ (.slice a1 4 c1)).setCell ⟨w.heap.size, 2, none⟩ (.slice a2 m c2)).setCell ⟨w.heap.size, 3, none⟩ (.int .i64 ht)).setCell ⟨w.heap.size, 4, none⟩ (.slice a3 bs.length c3)) g qq) ∧ w.grownBy (((((w3.setCell ⟨w.heap.size, 0, none⟩ (.int .i64 pc)).setCell ⟨w.heap.size, 1, none⟩ (.slice a1 4 c1)).setCell ⟨w.heap.size, 2, none⟩ (.slice a2 m c2)).setCell ⟨w.heap.size, 3, none⟩ (.int .i64 ht)).setCell ⟨w.heap.size, 4, none⟩ (.slice a3 bs.length c3)) (some g)) := by
    have hng : ¬ w.heap.size = g := by have := HGL.out; omega
    have hW := HWL.out
    have h0 : CelHas (w.heap.size + 1) (.slice a1 4 c1) (.slice a2 m c2) (.slice a3 bs.length c3) w3 := ⟨m, xs, ys, bs, P1.out, P2.out, hm9, P3.out, by have := HB.out; omega⟩
    have h1 := h0.chg (b := w.heap.size) CG.out (by omega)
    obtain ⟨m', xs', ys', bs', k1, k2, k3, k4, k5⟩ := h1
    have g1 := gset G3.out (q := ⟨w.heap.size, 0, none⟩) (Nat.le_refl _) (.int .i64 pc)
    have g2 := gset g1 (q := ⟨w.heap.size, 1, none⟩) (Nat.le_refl _) (.slice a1 4 c1)
    have g3 := gset g2 (q := ⟨w.heap.size, 2, none⟩) (Nat.le_refl _) (.slice a2 m c2)
    have g4 := gset g3 (q := ⟨w.heap.size, 3, none⟩) (Nat.le_refl _) (.int .i64 ht)
    have g5 := gset g4 (q := ⟨w.heap.size, 4, none⟩) (Nat.le_refl _) (.slice a3 bs.length c3)
    have d1 := rdr_setN (i := 0) R3.out hng hW (.int .i64 pc)
    have d2 := rdr_setN (i := 1) d1 hng hW (.slice a1 4 c1)
    have d3 := rdr_setN (i := 2) d2 hng hW (.slice a2 m c2)
    have d4 := rdr_setN (i := 3) d3 hng hW (.int .i64 ht)
    have d5 := rdr_setN (i := 4) d4 hng hW (.slice a3 bs.length c3)
    exact hid ⟨⟨m', xs', ys', bs', k1.low (by omega), k2.low (by omega), k3, k4.low (by omega), k5⟩, ⟨q + 1 + bs.length, by have := HB.out; omega, d5⟩, g5⟩
  go_wp2_with fail
  obtain ⟨t0, t1, t2, t3, t4⟩ := vb5 T.out
  refine bodyPost_ret (res_l31cell _ rfl t0 t1 t2 t3 t4) rfl ?_
  exact ⟨pc, ht, _, _, _, rfl, FF.out⟩
end Go.Proofs.Ythhgjnhfidhmpaa
