/- OutNext: the contracts of the program's and of the specification's. No conditions. -/
import Derived.Test.YthpojgolkpdgkaaOutPeerC
import Derived.Test.YthpojgolkpdgkaaOutNum
import Derived.RegionTactic
import Derived.ChangeAlike
import Derived.Deep.DeepCutAuto
namespace Go.Proofs.Ythpojgolkpdgkaa
open Go.ChangeShapes Go.WideShapes Go.ChangeAt Go.RowKit Go.Joins Go.Deep
set_option linter.unusedVariables false
set_option linter.unusedSimpArgs false
set_option maxRecDepth 4000

/-- whether OutNext gives a number away -/
def nxB (b p e s : Int) : Bool := outB b p e s && !decide (e = 200)
def sel (c : Bool) (x y : Int) : Int := if c then x else y
theorem wrap_in {x : Int} (h : 0 ≤ x) (h' : x ≤ 60001) : wrap64 x = x := by unfold wrap64; omega
theorem nxB_at {b p e s : Int} (h : nxB b p e s = true) : outB b p e s = true ∧ ¬ e = 200 := by simpa [nxB] using h
theorem res_next4 {W : World} {b : Nat} {x0 x1 x2 x3 y z u : Value} (tmps : Array Value) (ht : tmps[2]?.getD undef = .pointer (some ⟨b, 0, none⟩)) (h0 : W.cell? ⟨b, 0, none⟩ = some x0) (h1 : W.cell? ⟨b, 1, none⟩ = some x1) (h2 : W.cell? ⟨b, 2, none⟩ = some x2) (h3 : W.cell? ⟨b, 3, none⟩ = some x3)
    (h4 : tmps[3]?.getD undef = y) (h5 : tmps[4]?.getD undef = z) (h6 : tmps[5]?.getD undef = u) :
    (results Try.f18 tmps).run Try.prog W = .ok (.tuple #[.agg #[x0, x1, x2, x3], y, z, u]) W := by
  simp [results, Try.results18, go_sem, ht, h0, h1, h2, h3, h4, h5, h6]
set_option maxHeartbeats 4000000 in
theorem outNext_any (b p e s : Int) (w : World) :
    Calls Try.prog 18 #[.agg #[.int .i64 b, .int .i64 p, .int .i64 e, .int .i64 s]] w fun x w' => x = .returned (Value.tuple #[.agg #[.int .i64 b, .int .i64 p, .int .i64 (sel (nxB b p e s) (nE e s) e), .int .i64 (sel (nxB b p e s) (nS e s) s)], .int .i64 (pk (nxB b p e s) e), .int .i64 (pk (nxB b p e s) s), .bool (nxB b p e s)]) ∧ Below w.heap.size w w' := by
  have PP := hid (((Below.refl w.heap.size w).alloc (Nat.le_refl _) (.cells #[.int .i64 b, .int .i64 p, .int .i64 e, .int .i64 s] 24)).alloc (by simp) (.cells #[.int .i64 0, .int .i64 0, .int .i64 0, .int .i64 0] 24))
  have HB0 : Hid (IB ((w.alloc (.cells #[.int .i64 b, .int .i64 p, .int .i64 e, .int .i64 s] 24)).alloc (.cells #[.int .i64 0, .int .i64 0, .int .i64 0, .int .i64 0] 24)) w.heap.size [b, p, e, s]) := hid ((ib_new w [b, p, e, s] 24).keep (below_alloc1 _ _))
  have HB1 : Hid (IB ((w.alloc (.cells #[.int .i64 b, .int .i64 p, .int .i64 e, .int .i64 s] 24)).alloc (.cells #[.int .i64 0, .int .i64 0, .int .i64 0, .int .i64 0] 24)) (w.heap.size + 1) [0, 0, 0, 0]) := hid (by have := ib_new (w.alloc (.cells #[.int .i64 b, .int .i64 p, .int .i64 e, .int .i64 s] 24)) [0, 0, 0, 0] 24; simpa using this)
  go_enter Try.func18, Try.ntmps18
  go_wp2_with fail
  refine (number_any b p e s _).mono ?_
  rintro x w1 ⟨rfl, hb⟩
  have A1 := hid ((HB0.out.keep hb).keep (below_alloc1 w1 (.cells #[.int .i64 e, .int .i64 s] 74)))
  have R1 := hid ((HB1.out.keep hb).keep (below_alloc1 w1 (.cells #[.int .i64 e, .int .i64 s] 74)))
  have G1 := hid (ib_new w1 [e, s] 74)
  have P1 := hid ((PP.out.trans (hb.mono PP.out.size)).alloc (by have := (PP.out.trans (hb.mono PP.out.size)).size; exact this) (.cells #[.int .i64 e, .int .i64 s] 74))
  have z1 : w.heap.size + 1 < w1.heap.size := by have := hb.size; simp at this; omega
  clear hb PP HB0 HB1
  go_wp2_with fail
  refine (next_any e s _).mono ?_
  rintro x w2 ⟨rfl, hb⟩
  obtain ⟨E1, hE1⟩ : ∃ E1, nE e s = E1 := ⟨_, rfl⟩
  obtain ⟨S1, hS1⟩ : ∃ S1, nS e s = S1 := ⟨_, rfl⟩
  rw [hE1, hS1]
  have HE := hid hE1
  have HS := hid hS1
  clear hE1 hS1
  have A2 := hid ((A1.out.keep hb).keep (below_alloc1 w2 (.cells #[.int .i64 E1, .int .i64 S1] 74)))
  have R2 := hid ((R1.out.keep hb).keep (below_alloc1 w2 (.cells #[.int .i64 E1, .int .i64 S1] 74)))
  have G2 := hid ((G1.out.keep hb).keep (below_alloc1 w2 (.cells #[.int .i64 E1, .int .i64 S1] 74)))
  have H2 := hid (ib_new w2 [E1, S1] 74)
  have P2 := hid ((P1.out.trans (hb.mono P1.out.size)).alloc (P1.out.trans (hb.mono P1.out.size)).size (.cells #[.int .i64 E1, .int .i64 S1] 74))
  have z2 : w1.heap.size < w2.heap.size := by have := hb.size; simp at this; omega
  clear hb A1 R1 G1 P1
  obtain ⟨a0, a1, a2, a3⟩ := ib4 A2.out
  go_wp2_with fail
  clear a0 a1 a2 a3
  refine (outHok_any b p e s _).mono ?_
  rintro x w3 ⟨rfl, hb⟩
  have A3 := hid (A2.out.keep hb)
  have R3 := hid (R2.out.keep hb)
  have G3 := hid (G2.out.keep hb)
  have H3 := hid (H2.out.keep hb)
  have P3 := hid (P2.out.trans (hb.mono P2.out.size))
  clear hb A2 R2 G2 H2 P2
  obtain ⟨a0, a1, a2, a3⟩ := ib4 A3.out
  obtain ⟨r0, r1, r2, r3⟩ := ib4 R3.out
  obtain ⟨g0, g1⟩ := ib2 G3.out
  obtain ⟨h0, h1⟩ := ib2 H3.out
  have fa := A3.out.2.1
  have fr := R3.out.2.1
  cases c0 : outB b p e s
  · have H := hid (show (Value.tuple #[.agg #[.int .i64 b, .int .i64 p, .int .i64 (sel (nxB b p e s) (nE e s) e), .int .i64 (sel (nxB b p e s) (nS e s) s)], .int .i64 (pk (nxB b p e s) e), .int .i64 (pk (nxB b p e s) s), .bool (nxB b p e s)]) = (Value.tuple #[.agg #[.int .i64 b, .int .i64 p, .int .i64 e, .int .i64 s], .int .i64 0, .int .i64 0, .bool false]) by simp [nxB, sel, pk, c0])
    go_wp2_with fail
    obtain ⟨k0, k1, k2, k3⟩ := ib4 (ibset4 b p e s R3.out)
    refine bodyPost_ret (v := Value.tuple #[.agg #[.int .i64 b, .int .i64 p, .int .i64 e, .int .i64 s], .int .i64 0, .int .i64 0, .bool false]) (res_next4 _ rfl k0 k1 k2 k3 rfl rfl rfl) rfl ?_
    exact ⟨by rw [H.out], by have := P3.out; (repeat' (first | exact Below.refl _ _ | assumption | exact Nat.le_refl _ | (refine Below.alloc ?_ ?_ _) | (refine Below.drew ?_) | (refine Below.setCell ?_ ?_ _) | (refine Below.trans ?_ (Below.mono (by assumption) ?_)) | (simp; done) | (simp; omega) | omega))⟩
  by_cases c1 : e = 200
  · subst c1
    have H := hid (show (Value.tuple #[.agg #[.int .i64 b, .int .i64 p, .int .i64 (sel (nxB b p 200 s) (nE 200 s) 200), .int .i64 (sel (nxB b p 200 s) (nS 200 s) s)], .int .i64 (pk (nxB b p 200 s) 200), .int .i64 (pk (nxB b p 200 s) s), .bool (nxB b p 200 s)]) = (Value.tuple #[.agg #[.int .i64 b, .int .i64 p, .int .i64 200, .int .i64 s], .int .i64 0, .int .i64 0, .bool false]) by simp [nxB, sel, pk, c0])
    have e1 : E1 = 200 := by rw [← HE.out]; simp [nE]
    have e2 : S1 = s := by rw [← HS.out]; simp [nS]
    subst e1 e2
    go_wp2_with fail
    obtain ⟨k0, k1, k2, k3⟩ := ib4 (ibset4 b p 200 S1 R3.out)
    refine bodyPost_ret (v := Value.tuple #[.agg #[.int .i64 b, .int .i64 p, .int .i64 200, .int .i64 S1], .int .i64 0, .int .i64 0, .bool false]) (res_next4 _ rfl k0 k1 k2 k3 rfl rfl rfl) rfl ?_
    exact ⟨by rw [H.out], by have := P3.out; (repeat' (first | exact Below.refl _ _ | assumption | exact Nat.le_refl _ | (refine Below.alloc ?_ ?_ _) | (refine Below.drew ?_) | (refine Below.setCell ?_ ?_ _) | (refine Below.trans ?_ (Below.mono (by assumption) ?_)) | (simp; done) | (simp; omega) | omega))⟩
  have hb := hid (outB_at c0)
  by_cases c2 : s = 15
  · subst c2
    have he1 : nE e 15 = e + 1 := by simp only [nE, if_neg c1, if_true]; have := hb.out; rw [wrap_in (by omega) (by omega)]
    have he2 : nS e 15 = 0 := by simp only [nS, if_neg c1, if_true]
    have e1 : E1 = e + 1 := by rw [← HE.out, he1]
    have e2 : S1 = 0 := by rw [← HS.out, he2]
    subst e1 e2
    have H := hid (show (Value.tuple #[.agg #[.int .i64 b, .int .i64 p, .int .i64 (sel (nxB b p e 15) (nE e 15) e), .int .i64 (sel (nxB b p e 15) (nS e 15) 15)], .int .i64 (pk (nxB b p e 15) e), .int .i64 (pk (nxB b p e 15) 15), .bool (nxB b p e 15)]) = (Value.tuple #[.agg #[.int .i64 b, .int .i64 p, .int .i64 (e + 1), .int .i64 (0)], .int .i64 e, .int .i64 15, .bool true]) by simp [nxB, sel, pk, c0, c1, he1, he2])
    clear HE HS he1 he2
    go_wp2_with fail
    go_region
    have A4 := hid ((A3.out.set (i := 2) (by simp) (e + 1)).set (i := 3) (by simp) (0)).drew
    have R4 := hid ((R3.out.off (c := w.heap.size) (i := 2) (v := Value.int .i64 (e + 1)) (by omega)).off (c := w.heap.size) (i := 3) (v := Value.int .i64 (0)) (by omega)).drew
    have G4 := hid ((G3.out.off (c := w.heap.size) (i := 2) (v := Value.int .i64 (e + 1)) (by omega)).off (c := w.heap.size) (i := 3) (v := Value.int .i64 (0)) (by omega)).drew
    have P4 := hid (show Below w.heap.size w ((w3.setCell ⟨w.heap.size, 2, none⟩ (Value.int .i64 (e + 1))).setCell ⟨w.heap.size, 3, none⟩ (Value.int .i64 (0))).drew from ((P3.out.setCell (p := ⟨w.heap.size, 2, none⟩) (Nat.le_refl _) (Value.int .i64 (e + 1))).setCell (p := ⟨w.heap.size, 3, none⟩) (Nat.le_refl _) (Value.int .i64 (0))).drew)
    obtain ⟨W4, hW4⟩ : ∃ W4, ((w3.setCell ⟨w.heap.size, 2, none⟩ (Value.int .i64 (e + 1))).setCell ⟨w.heap.size, 3, none⟩ (Value.int .i64 (0))).drew = W4 := ⟨_, rfl⟩
    rw [hW4] at A4 R4 G4 P4 ⊢
    clear hW4
    have A4 : Hid (IB W4 w.heap.size [b, p, e + 1, 0]) := A4
    clear a0 a1 a2 a3 r0 r1 r2 r3 g0 g1 h0 h1 fa fr A3 R3 G3 H3 P3
    obtain ⟨a0, a1, a2, a3⟩ := ib4 A4.out
    obtain ⟨r0, r1, r2, r3⟩ := ib4 R4.out
    obtain ⟨g0, g1⟩ := ib2 G4.out
    have fr := R4.out.2.1
    go_wp2_with fail
    go_region
    go_wp2_with fail
    obtain ⟨k0, k1, k2, k3⟩ := ib4 (ibset4 b p (e + 1) (0) R4.out).drew
    refine bodyPost_ret (v := Value.tuple #[.agg #[.int .i64 b, .int .i64 p, .int .i64 (e + 1), .int .i64 (0)], .int .i64 e, .int .i64 15, .bool true]) (res_next4 _ rfl k0 k1 k2 k3 rfl rfl rfl) rfl ?_
    exact ⟨by rw [H.out], by have := P4.out; (repeat' (first | exact Below.refl _ _ | assumption | exact Nat.le_refl _ | (refine Below.alloc ?_ ?_ _) | (refine Below.drew ?_) | (refine Below.setCell ?_ ?_ _) | (refine Below.trans ?_ (Below.mono (by assumption) ?_)) | (simp; done) | (simp; omega) | omega))⟩
  have he1 : nE e s = e := by simp only [nE, if_neg c1, if_neg c2]
  have he2 : nS e s = s + 1 := by simp only [nS, if_neg c1, if_neg c2]; have := hb.out; rw [wrap_in (by omega) (by omega)]
  have e1 : E1 = e := by rw [← HE.out, he1]
  have e2 : S1 = s + 1 := by rw [← HS.out, he2]
  subst e1 e2
  have H := hid (show (Value.tuple #[.agg #[.int .i64 b, .int .i64 p, .int .i64 (sel (nxB b p E1 s) (nE E1 s) E1), .int .i64 (sel (nxB b p E1 s) (nS E1 s) s)], .int .i64 (pk (nxB b p E1 s) E1), .int .i64 (pk (nxB b p E1 s) s), .bool (nxB b p E1 s)]) = (Value.tuple #[.agg #[.int .i64 b, .int .i64 p, .int .i64 (E1), .int .i64 (s + 1)], .int .i64 E1, .int .i64 s, .bool true]) by simp [nxB, sel, pk, c0, c1, he1, he2])
  clear HE HS he1 he2
  go_wp2_with fail
  go_region
  have A4 := hid ((A3.out.set (i := 2) (by simp) (E1)).set (i := 3) (by simp) (s + 1)).drew
  have R4 := hid ((R3.out.off (c := w.heap.size) (i := 2) (v := Value.int .i64 (E1)) (by omega)).off (c := w.heap.size) (i := 3) (v := Value.int .i64 (s + 1)) (by omega)).drew
  have G4 := hid ((G3.out.off (c := w.heap.size) (i := 2) (v := Value.int .i64 (E1)) (by omega)).off (c := w.heap.size) (i := 3) (v := Value.int .i64 (s + 1)) (by omega)).drew
  have P4 := hid (show Below w.heap.size w ((w3.setCell ⟨w.heap.size, 2, none⟩ (Value.int .i64 (E1))).setCell ⟨w.heap.size, 3, none⟩ (Value.int .i64 (s + 1))).drew from ((P3.out.setCell (p := ⟨w.heap.size, 2, none⟩) (Nat.le_refl _) (Value.int .i64 (E1))).setCell (p := ⟨w.heap.size, 3, none⟩) (Nat.le_refl _) (Value.int .i64 (s + 1))).drew)
  obtain ⟨W4, hW4⟩ : ∃ W4, ((w3.setCell ⟨w.heap.size, 2, none⟩ (Value.int .i64 (E1))).setCell ⟨w.heap.size, 3, none⟩ (Value.int .i64 (s + 1))).drew = W4 := ⟨_, rfl⟩
  rw [hW4] at A4 R4 G4 P4 ⊢
  clear hW4
  have A4 : Hid (IB W4 w.heap.size [b, p, E1, s + 1]) := A4
  clear a0 a1 a2 a3 r0 r1 r2 r3 g0 g1 h0 h1 fa fr A3 R3 G3 H3 P3
  obtain ⟨a0, a1, a2, a3⟩ := ib4 A4.out
  obtain ⟨r0, r1, r2, r3⟩ := ib4 R4.out
  obtain ⟨g0, g1⟩ := ib2 G4.out
  have fr := R4.out.2.1
  go_wp2_with fail
  go_region
  go_wp2_with fail
  obtain ⟨k0, k1, k2, k3⟩ := ib4 (ibset4 b p (E1) (s + 1) R4.out).drew
  refine bodyPost_ret (v := Value.tuple #[.agg #[.int .i64 b, .int .i64 p, .int .i64 (E1), .int .i64 (s + 1)], .int .i64 E1, .int .i64 s, .bool true]) (res_next4 _ rfl k0 k1 k2 k3 rfl rfl rfl) rfl ?_
  exact ⟨by rw [H.out], by have := P4.out; (repeat' (first | exact Below.refl _ _ | assumption | exact Nat.le_refl _ | (refine Below.alloc ?_ ?_ _) | (refine Below.drew ?_) | (refine Below.setCell ?_ ?_ _) | (refine Below.trans ?_ (Below.mono (by assumption) ?_)) | (simp; done) | (simp; omega) | omega))⟩
theorem res_specNext {W : World} {b : Nat} {x0 x1 x2 x3 y z u : Value} (tmps : Array Value) (ht : tmps[2]?.getD undef = .pointer (some ⟨b, 0, none⟩)) (h0 : W.cell? ⟨b, 0, none⟩ = some x0) (h1 : W.cell? ⟨b, 1, none⟩ = some x1) (h2 : W.cell? ⟨b, 2, none⟩ = some x2) (h3 : W.cell? ⟨b, 3, none⟩ = some x3)
    (h4 : tmps[3]?.getD undef = y) (h5 : tmps[4]?.getD undef = z) (h6 : tmps[5]?.getD undef = u) :
    (results Try.f19 tmps).run Try.prog W = .ok (.tuple #[.agg #[x0, x1, x2, x3], y, z, u]) W := by
  simp [results, Try.results19, go_sem, ht, h0, h1, h2, h3, h4, h5, h6]
set_option maxHeartbeats 4000000 in
theorem specOutNext_any (b p e s : Int) (w : World) :
    Calls Try.prog 19 #[.agg #[.int .i64 b, .int .i64 p, .int .i64 e, .int .i64 s]] w fun x w' => x = .returned (Value.tuple #[.agg #[.int .i64 b, .int .i64 p, .int .i64 (sel (nxB b p e s) (nE e s) e), .int .i64 (sel (nxB b p e s) (nS e s) s)], .int .i64 (pk (nxB b p e s) e), .int .i64 (pk (nxB b p e s) s), .bool (nxB b p e s)]) ∧ Below w.heap.size w w' := by
  have PP := hid (((Below.refl w.heap.size w).alloc (Nat.le_refl _) (.cells #[.int .i64 b, .int .i64 p, .int .i64 e, .int .i64 s] 24)).alloc (by simp) (.cells #[.int .i64 0, .int .i64 0, .int .i64 0, .int .i64 0] 24))
  have HB0 : Hid (IB ((w.alloc (.cells #[.int .i64 b, .int .i64 p, .int .i64 e, .int .i64 s] 24)).alloc (.cells #[.int .i64 0, .int .i64 0, .int .i64 0, .int .i64 0] 24)) w.heap.size [b, p, e, s]) := hid ((ib_new w [b, p, e, s] 24).keep (below_alloc1 _ _))
  have HB1 : Hid (IB ((w.alloc (.cells #[.int .i64 b, .int .i64 p, .int .i64 e, .int .i64 s] 24)).alloc (.cells #[.int .i64 0, .int .i64 0, .int .i64 0, .int .i64 0] 24)) (w.heap.size + 1) [0, 0, 0, 0]) := hid (by have := ib_new (w.alloc (.cells #[.int .i64 b, .int .i64 p, .int .i64 e, .int .i64 s] 24)) [0, 0, 0, 0] 24; simpa using this)
  go_enter Try.func19, Try.ntmps19
  go_wp2_with fail
  refine (specOutOk_any b p e s _).mono ?_
  rintro x w1 ⟨rfl, hb⟩
  have A1 := hid (HB0.out.keep hb)
  have R1 := hid (HB1.out.keep hb)
  have P1 := hid (PP.out.trans (hb.mono PP.out.size))
  have z1 : w.heap.size + 1 < w1.heap.size := by have := hb.size; simp at this; omega
  have z2 : w.heap.size < w1.heap.size := by omega
  clear hb PP HB0 HB1
  obtain ⟨a0, a1, a2, a3⟩ := ib4 A1.out
  obtain ⟨r0, r1, r2, r3⟩ := ib4 R1.out
  have fa := A1.out.2.1
  have fr := R1.out.2.1
  cases c0 : outB b p e s
  · have H := hid (show (Value.tuple #[.agg #[.int .i64 b, .int .i64 p, .int .i64 (sel (nxB b p e s) (nE e s) e), .int .i64 (sel (nxB b p e s) (nS e s) s)], .int .i64 (pk (nxB b p e s) e), .int .i64 (pk (nxB b p e s) s), .bool (nxB b p e s)]) = (Value.tuple #[.agg #[.int .i64 b, .int .i64 p, .int .i64 e, .int .i64 s], .int .i64 0, .int .i64 0, .bool false]) by simp [nxB, sel, pk, c0])
    go_wp2_with fail
    obtain ⟨k0, k1, k2, k3⟩ := ib4 (ibset4 b p e s R1.out)
    refine bodyPost_ret (v := Value.tuple #[.agg #[.int .i64 b, .int .i64 p, .int .i64 e, .int .i64 s], .int .i64 0, .int .i64 0, .bool false]) (res_specNext _ rfl k0 k1 k2 k3 rfl rfl rfl) rfl ?_
    exact ⟨by rw [H.out], by have := P1.out; (repeat' (first | exact Below.refl _ _ | assumption | exact Nat.le_refl _ | (refine Below.alloc ?_ ?_ _) | (refine Below.drew ?_) | (refine Below.setCell ?_ ?_ _) | (refine Below.trans ?_ (Below.mono (by assumption) ?_)) | (simp; done) | (simp; omega) | omega))⟩
  by_cases c1 : e = 200
  · subst c1
    have H := hid (show (Value.tuple #[.agg #[.int .i64 b, .int .i64 p, .int .i64 (sel (nxB b p 200 s) (nE 200 s) 200), .int .i64 (sel (nxB b p 200 s) (nS 200 s) s)], .int .i64 (pk (nxB b p 200 s) 200), .int .i64 (pk (nxB b p 200 s) s), .bool (nxB b p 200 s)]) = (Value.tuple #[.agg #[.int .i64 b, .int .i64 p, .int .i64 200, .int .i64 s], .int .i64 0, .int .i64 0, .bool false]) by simp [nxB, sel, pk, c0])
    go_wp2_with fail
    obtain ⟨k0, k1, k2, k3⟩ := ib4 (ibset4 b p 200 s R1.out)
    refine bodyPost_ret (v := Value.tuple #[.agg #[.int .i64 b, .int .i64 p, .int .i64 200, .int .i64 s], .int .i64 0, .int .i64 0, .bool false]) (res_specNext _ rfl k0 k1 k2 k3 rfl rfl rfl) rfl ?_
    exact ⟨by rw [H.out], by have := P1.out; (repeat' (first | exact Below.refl _ _ | assumption | exact Nat.le_refl _ | (refine Below.alloc ?_ ?_ _) | (refine Below.drew ?_) | (refine Below.setCell ?_ ?_ _) | (refine Below.trans ?_ (Below.mono (by assumption) ?_)) | (simp; done) | (simp; omega) | omega))⟩
  obtain ⟨_, _, ⟨e0, e9⟩, s0, s9⟩ := outB_at c0
  have qe : IntKind.i64.wrap (e + 1) = e + 1 := by rw [IntKind.wrap_i64]; omega
  by_cases c2 : s = 15
  · subst c2
    have he1 : nE e 15 = e + 1 := by simp only [nE, if_neg c1, if_true]; rw [wrap_in (by omega) (by omega)]
    have he2 : nS e 15 = 0 := by simp only [nS, if_neg c1, if_true]
    have H := hid (show (Value.tuple #[.agg #[.int .i64 b, .int .i64 p, .int .i64 (sel (nxB b p e 15) (nE e 15) e), .int .i64 (sel (nxB b p e 15) (nS e 15) 15)], .int .i64 (pk (nxB b p e 15) e), .int .i64 (pk (nxB b p e 15) 15), .bool (nxB b p e 15)]) = (Value.tuple #[.agg #[.int .i64 b, .int .i64 p, .int .i64 (e + 1), .int .i64 (0)], .int .i64 e, .int .i64 15, .bool true]) by simp [nxB, sel, pk, c0, c1, he1, he2])
    clear he1 he2
    have A2 := hid (A1.out.keep (below_alloc1 w1 (.cells #[.int .i64 b, .int .i64 p, .int .i64 (e + 1), .int .i64 (0)] 24)))
    have R2 := hid (R1.out.keep (below_alloc1 w1 (.cells #[.int .i64 b, .int .i64 p, .int .i64 (e + 1), .int .i64 (0)] 24)))
    have L2 : Hid (IB (w1.alloc (.cells #[.int .i64 b, .int .i64 p, .int .i64 (e + 1), .int .i64 (0)] 24)) w1.heap.size [b, p, e + 1, 0]) := hid (ib_new w1 [b, p, e + 1, 0] 24)
    have P2 := hid (P1.out.alloc P1.out.size (.cells #[.int .i64 b, .int .i64 p, .int .i64 (e + 1), .int .i64 (0)] 24))
    go_upto_region 8 with fail
    obtain ⟨W4, hW4⟩ : ∃ W4, w1.alloc (.cells #[.int .i64 b, .int .i64 p, .int .i64 (e + 1), .int .i64 (0)] 24) = W4 := ⟨_, rfl⟩
    rw [hW4] at A2 R2 L2 P2 ⊢
    clear hW4
    clear a0 a1 a2 a3 r0 r1 r2 r3 fa fr
    obtain ⟨a0, a1, a2, a3⟩ := ib4 A2.out
    obtain ⟨r0, r1, r2, r3⟩ := ib4 R2.out
    obtain ⟨l0, l1, l2, l3⟩ := ib4 L2.out
    have fr := R2.out.2.1
    go_region
    go_wp2_with fail
    obtain ⟨k0, k1, k2, k3⟩ := ib4 (ibset4 b p (e + 1) (0) R2.out).drew
    refine bodyPost_ret (v := Value.tuple #[.agg #[.int .i64 b, .int .i64 p, .int .i64 (e + 1), .int .i64 (0)], .int .i64 e, .int .i64 15, .bool true]) (res_specNext _ rfl k0 k1 k2 k3 rfl rfl rfl) rfl ?_
    exact ⟨by rw [H.out], by have := P2.out; (repeat' (first | exact Below.refl _ _ | assumption | exact Nat.le_refl _ | (refine Below.alloc ?_ ?_ _) | (refine Below.drew ?_) | (refine Below.setCell ?_ ?_ _) | (refine Below.trans ?_ (Below.mono (by assumption) ?_)) | (simp; done) | (simp; omega) | omega))⟩
  have he1 : nE e s = e := by simp only [nE, if_neg c1, if_neg c2]
  have he2 : nS e s = s + 1 := by simp only [nS, if_neg c1, if_neg c2]; rw [wrap_in (by omega) (by omega)]
  have qs : IntKind.i64.wrap (s + 1) = s + 1 := by rw [IntKind.wrap_i64]; omega
  have H := hid (show (Value.tuple #[.agg #[.int .i64 b, .int .i64 p, .int .i64 (sel (nxB b p e s) (nE e s) e), .int .i64 (sel (nxB b p e s) (nS e s) s)], .int .i64 (pk (nxB b p e s) e), .int .i64 (pk (nxB b p e s) s), .bool (nxB b p e s)]) = (Value.tuple #[.agg #[.int .i64 b, .int .i64 p, .int .i64 (e), .int .i64 (s + 1)], .int .i64 e, .int .i64 s, .bool true]) by simp [nxB, sel, pk, c0, c1, he1, he2])
  clear he1 he2
  have A2 := hid (A1.out.keep (below_alloc1 w1 (.cells #[.int .i64 b, .int .i64 p, .int .i64 (e), .int .i64 (s + 1)] 24)))
  have R2 := hid (R1.out.keep (below_alloc1 w1 (.cells #[.int .i64 b, .int .i64 p, .int .i64 (e), .int .i64 (s + 1)] 24)))
  have L2 : Hid (IB (w1.alloc (.cells #[.int .i64 b, .int .i64 p, .int .i64 (e), .int .i64 (s + 1)] 24)) w1.heap.size [b, p, e, s + 1]) := hid (ib_new w1 [b, p, e, s + 1] 24)
  have P2 := hid (P1.out.alloc P1.out.size (.cells #[.int .i64 b, .int .i64 p, .int .i64 (e), .int .i64 (s + 1)] 24))
  go_upto_region 8 with fail
  obtain ⟨W4, hW4⟩ : ∃ W4, w1.alloc (.cells #[.int .i64 b, .int .i64 p, .int .i64 (e), .int .i64 (s + 1)] 24) = W4 := ⟨_, rfl⟩
  rw [hW4] at A2 R2 L2 P2 ⊢
  clear hW4
  clear a0 a1 a2 a3 r0 r1 r2 r3 fa fr
  obtain ⟨a0, a1, a2, a3⟩ := ib4 A2.out
  obtain ⟨r0, r1, r2, r3⟩ := ib4 R2.out
  obtain ⟨l0, l1, l2, l3⟩ := ib4 L2.out
  have fr := R2.out.2.1
  go_region
  go_wp2_with fail
  obtain ⟨k0, k1, k2, k3⟩ := ib4 (ibset4 b p (e) (s + 1) R2.out).drew
  refine bodyPost_ret (v := Value.tuple #[.agg #[.int .i64 b, .int .i64 p, .int .i64 (e), .int .i64 (s + 1)], .int .i64 e, .int .i64 s, .bool true]) (res_specNext _ rfl k0 k1 k2 k3 rfl rfl rfl) rfl ?_
  exact ⟨by rw [H.out], by have := P2.out; (repeat' (first | exact Below.refl _ _ | assumption | exact Nat.le_refl _ | (refine Below.alloc ?_ ?_ _) | (refine Below.drew ?_) | (refine Below.setCell ?_ ?_ _) | (refine Below.trans ?_ (Below.mono (by assumption) ?_)) | (simp; done) | (simp; omega) | omega))⟩
end Go.Proofs.Ythpojgolkpdgkaa
