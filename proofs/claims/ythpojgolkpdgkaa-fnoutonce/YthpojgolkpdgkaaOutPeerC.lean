/- OutPeer: the contracts of the program's and of the specification's. No conditions. -/
import Derived.Test.YthpojgolkpdgkaaOutBase
namespace Go.Proofs.Ythpojgolkpdgkaa
open Go.ChangeShapes Go.WideShapes Go.ChangeAt Go.RowKit Go.Joins Go.Deep
set_option linter.unusedVariables false
set_option linter.unusedSimpArgs false
set_option maxRecDepth 4000

/-- whether OutPeer takes a life -/
def prB (b p e s q : Int) : Bool := outB b p e s && inB q 0 60000
def pk (c : Bool) (x : Int) : Int := if c then x else 0
def mx (p q : Int) : Int := if p < q then q else p
theorem res_outPeer_any {W : World} {b : Nat} {x0 x1 x2 x3 : Value} (tmps : Array Value) (ht : tmps[4]?.getD undef = .pointer (some ⟨b, 0, none⟩)) (h0 : W.cell? ⟨b, 0, none⟩ = some x0) (h1 : W.cell? ⟨b, 1, none⟩ = some x1) (h2 : W.cell? ⟨b, 2, none⟩ = some x2) (h3 : W.cell? ⟨b, 3, none⟩ = some x3) :
    (results Try.f23 tmps).run Try.prog W = .ok (.agg #[x0, x1, x2, x3]) W := by
  simp [results, Try.results23, go_sem, ht, h0, h1, h2, h3]
set_option maxHeartbeats 4000000 in
theorem outPeer_any (b p e s q : Int) (w : World) :
    Calls Try.prog 23 #[.agg #[.int .i64 b, .int .i64 p, .int .i64 e, .int .i64 s], .int .i64 q] w fun x w' => x = .returned (.agg #[.int .i64 (pk (prB b p e s q) b), .int .i64 (pk (prB b p e s q) (mx p q)), .int .i64 (pk (prB b p e s q) e), .int .i64 (pk (prB b p e s q) s)]) ∧ Below w.heap.size w w' := by
  cases c0 : outB b p e s
  · have H := hid (show (.agg #[.int .i64 (pk (prB b p e s q) b), .int .i64 (pk (prB b p e s q) (mx p q)), .int .i64 (pk (prB b p e s q) e), .int .i64 (pk (prB b p e s q) s)] : Value) = .agg #[.int .i64 0, .int .i64 0, .int .i64 0, .int .i64 0] by simp [prB, pk, mx, c0])
    have PP := hid (((Below.refl w.heap.size w).alloc (Nat.le_refl _) (.cells #[.int .i64 b, .int .i64 p, .int .i64 e, .int .i64 s] 24)).alloc (by simp) (.cells #[.int .i64 0, .int .i64 0, .int .i64 0, .int .i64 0] 24))
    have HB0 : Hid (IB ((w.alloc (.cells #[.int .i64 b, .int .i64 p, .int .i64 e, .int .i64 s] 24)).alloc (.cells #[.int .i64 0, .int .i64 0, .int .i64 0, .int .i64 0] 24)) w.heap.size [b, p, e, s]) := hid ((ib_new w [b, p, e, s] 24).keep (below_alloc1 _ _))
    have HB1 : Hid (IB ((w.alloc (.cells #[.int .i64 b, .int .i64 p, .int .i64 e, .int .i64 s] 24)).alloc (.cells #[.int .i64 0, .int .i64 0, .int .i64 0, .int .i64 0] 24)) (w.heap.size + 1) [0, 0, 0, 0]) := hid (by have := ib_new (w.alloc (.cells #[.int .i64 b, .int .i64 p, .int .i64 e, .int .i64 s] 24)) [0, 0, 0, 0] 24; simpa using this)
    go_enter Try.func23, Try.ntmps23
    go_wp2_with ((first | (go_at_call 55; refine (outHok_any b p e s _).mono ?_; rintro x w1 ⟨rfl, hb⟩; obtain ⟨q0, q1, q2, q3⟩ := ib4 (HB0.out.keep hb); obtain ⟨r0, r1, r2, r3⟩ := ib4 (HB1.out.keep hb); have ff := (HB0.out.keep hb).2.1; have gg := (HB1.out.keep hb).2.1; have R1 := hid (HB1.out.keep hb); have B1 := hid (PP.out.trans (hb.mono PP.out.size)); clear hb) | (go_at_call 58; refine (within_any _ _ _ _).mono ?_; rintro x w' ⟨rfl, rfl⟩) | (go_at_call 59; refine (greater_any _ _ _).mono ?_; rintro e w' ⟨rfl, rfl⟩)))
    obtain ⟨g0, g1, g2, g3⟩ := ib4 (ibset4 (0) (0) (0) (0) (R1.out))
    refine bodyPost_ret (res_outPeer_any _ rfl g0 g1 g2 g3) rfl ?_
    exact ⟨by rw [H.out], by have := B1.out; (repeat' (first | exact Below.refl _ _ | assumption | exact Nat.le_refl _ | (refine Below.alloc ?_ ?_ _) | (refine Below.drew ?_) | (refine Below.setCell ?_ ?_ _) | (refine Below.trans ?_ (Below.mono (by assumption) ?_)) | (simp; done) | (simp; omega) | omega))⟩
  cases c1 : inB q 0 60000
  · have H := hid (show (.agg #[.int .i64 (pk (prB b p e s q) b), .int .i64 (pk (prB b p e s q) (mx p q)), .int .i64 (pk (prB b p e s q) e), .int .i64 (pk (prB b p e s q) s)] : Value) = .agg #[.int .i64 0, .int .i64 0, .int .i64 0, .int .i64 0] by simp [prB, pk, mx, c0, c1])
    have PP := hid (((Below.refl w.heap.size w).alloc (Nat.le_refl _) (.cells #[.int .i64 b, .int .i64 p, .int .i64 e, .int .i64 s] 24)).alloc (by simp) (.cells #[.int .i64 0, .int .i64 0, .int .i64 0, .int .i64 0] 24))
    have HB0 : Hid (IB ((w.alloc (.cells #[.int .i64 b, .int .i64 p, .int .i64 e, .int .i64 s] 24)).alloc (.cells #[.int .i64 0, .int .i64 0, .int .i64 0, .int .i64 0] 24)) w.heap.size [b, p, e, s]) := hid ((ib_new w [b, p, e, s] 24).keep (below_alloc1 _ _))
    have HB1 : Hid (IB ((w.alloc (.cells #[.int .i64 b, .int .i64 p, .int .i64 e, .int .i64 s] 24)).alloc (.cells #[.int .i64 0, .int .i64 0, .int .i64 0, .int .i64 0] 24)) (w.heap.size + 1) [0, 0, 0, 0]) := hid (by have := ib_new (w.alloc (.cells #[.int .i64 b, .int .i64 p, .int .i64 e, .int .i64 s] 24)) [0, 0, 0, 0] 24; simpa using this)
    go_enter Try.func23, Try.ntmps23
    go_wp2_with ((first | (go_at_call 55; refine (outHok_any b p e s _).mono ?_; rintro x w1 ⟨rfl, hb⟩; obtain ⟨q0, q1, q2, q3⟩ := ib4 (HB0.out.keep hb); obtain ⟨r0, r1, r2, r3⟩ := ib4 (HB1.out.keep hb); have ff := (HB0.out.keep hb).2.1; have gg := (HB1.out.keep hb).2.1; have R1 := hid (HB1.out.keep hb); have B1 := hid (PP.out.trans (hb.mono PP.out.size)); clear hb) | (go_at_call 58; refine (within_any _ _ _ _).mono ?_; rintro x w' ⟨rfl, rfl⟩) | (go_at_call 59; refine (greater_any _ _ _).mono ?_; rintro e w' ⟨rfl, rfl⟩)))
    obtain ⟨g0, g1, g2, g3⟩ := ib4 (ibset4 (0) (0) (0) (0) (R1.out))
    refine bodyPost_ret (res_outPeer_any _ rfl g0 g1 g2 g3) rfl ?_
    exact ⟨by rw [H.out], by have := B1.out; (repeat' (first | exact Below.refl _ _ | assumption | exact Nat.le_refl _ | (refine Below.alloc ?_ ?_ _) | (refine Below.drew ?_) | (refine Below.setCell ?_ ?_ _) | (refine Below.trans ?_ (Below.mono (by assumption) ?_)) | (simp; done) | (simp; omega) | omega))⟩
  by_cases c2 : p < q
  · have H := hid (show (.agg #[.int .i64 (pk (prB b p e s q) b), .int .i64 (pk (prB b p e s q) (mx p q)), .int .i64 (pk (prB b p e s q) e), .int .i64 (pk (prB b p e s q) s)] : Value) = .agg #[.int .i64 b, .int .i64 q, .int .i64 e, .int .i64 s] by simp [prB, pk, mx, c0, c1, c2])
    have PP := hid (((Below.refl w.heap.size w).alloc (Nat.le_refl _) (.cells #[.int .i64 b, .int .i64 p, .int .i64 e, .int .i64 s] 24)).alloc (by simp) (.cells #[.int .i64 0, .int .i64 0, .int .i64 0, .int .i64 0] 24))
    have HB0 : Hid (IB ((w.alloc (.cells #[.int .i64 b, .int .i64 p, .int .i64 e, .int .i64 s] 24)).alloc (.cells #[.int .i64 0, .int .i64 0, .int .i64 0, .int .i64 0] 24)) w.heap.size [b, p, e, s]) := hid ((ib_new w [b, p, e, s] 24).keep (below_alloc1 _ _))
    have HB1 : Hid (IB ((w.alloc (.cells #[.int .i64 b, .int .i64 p, .int .i64 e, .int .i64 s] 24)).alloc (.cells #[.int .i64 0, .int .i64 0, .int .i64 0, .int .i64 0] 24)) (w.heap.size + 1) [0, 0, 0, 0]) := hid (by have := ib_new (w.alloc (.cells #[.int .i64 b, .int .i64 p, .int .i64 e, .int .i64 s] 24)) [0, 0, 0, 0] 24; simpa using this)
    go_enter Try.func23, Try.ntmps23
    go_wp2_with ((first | (go_at_call 55; refine (outHok_any b p e s _).mono ?_; rintro x w1 ⟨rfl, hb⟩; obtain ⟨q0, q1, q2, q3⟩ := ib4 (HB0.out.keep hb); obtain ⟨r0, r1, r2, r3⟩ := ib4 (HB1.out.keep hb); have ff := (HB0.out.keep hb).2.1; have gg := (HB1.out.keep hb).2.1; have R1 := hid (HB1.out.keep hb); have B1 := hid (PP.out.trans (hb.mono PP.out.size)); clear hb) | (go_at_call 58; refine (within_any _ _ _ _).mono ?_; rintro x w' ⟨rfl, rfl⟩) | (go_at_call 59; refine (greater_any _ _ _).mono ?_; rintro e w' ⟨rfl, rfl⟩)))
    obtain ⟨g0, g1, g2, g3⟩ := ib4 (ibset4 (b) (q) (e) (s) ((R1.out.off (c := w.heap.size) (i := 1) (v := .int .i64 q) (by omega))))
    refine bodyPost_ret (res_outPeer_any _ rfl g0 g1 g2 g3) rfl ?_
    exact ⟨by rw [H.out], by have := B1.out; (repeat' (first | exact Below.refl _ _ | assumption | exact Nat.le_refl _ | (refine Below.alloc ?_ ?_ _) | (refine Below.drew ?_) | (refine Below.setCell ?_ ?_ _) | (refine Below.trans ?_ (Below.mono (by assumption) ?_)) | (simp; done) | (simp; omega) | omega))⟩
  have H := hid (show (.agg #[.int .i64 (pk (prB b p e s q) b), .int .i64 (pk (prB b p e s q) (mx p q)), .int .i64 (pk (prB b p e s q) e), .int .i64 (pk (prB b p e s q) s)] : Value) = .agg #[.int .i64 b, .int .i64 p, .int .i64 e, .int .i64 s] by simp [prB, pk, mx, c0, c1, c2])
  have PP := hid (((Below.refl w.heap.size w).alloc (Nat.le_refl _) (.cells #[.int .i64 b, .int .i64 p, .int .i64 e, .int .i64 s] 24)).alloc (by simp) (.cells #[.int .i64 0, .int .i64 0, .int .i64 0, .int .i64 0] 24))
  have HB0 : Hid (IB ((w.alloc (.cells #[.int .i64 b, .int .i64 p, .int .i64 e, .int .i64 s] 24)).alloc (.cells #[.int .i64 0, .int .i64 0, .int .i64 0, .int .i64 0] 24)) w.heap.size [b, p, e, s]) := hid ((ib_new w [b, p, e, s] 24).keep (below_alloc1 _ _))
  have HB1 : Hid (IB ((w.alloc (.cells #[.int .i64 b, .int .i64 p, .int .i64 e, .int .i64 s] 24)).alloc (.cells #[.int .i64 0, .int .i64 0, .int .i64 0, .int .i64 0] 24)) (w.heap.size + 1) [0, 0, 0, 0]) := hid (by have := ib_new (w.alloc (.cells #[.int .i64 b, .int .i64 p, .int .i64 e, .int .i64 s] 24)) [0, 0, 0, 0] 24; simpa using this)
  go_enter Try.func23, Try.ntmps23
  go_wp2_with ((first | (go_at_call 55; refine (outHok_any b p e s _).mono ?_; rintro x w1 ⟨rfl, hb⟩; obtain ⟨q0, q1, q2, q3⟩ := ib4 (HB0.out.keep hb); obtain ⟨r0, r1, r2, r3⟩ := ib4 (HB1.out.keep hb); have ff := (HB0.out.keep hb).2.1; have gg := (HB1.out.keep hb).2.1; have R1 := hid (HB1.out.keep hb); have B1 := hid (PP.out.trans (hb.mono PP.out.size)); clear hb) | (go_at_call 58; refine (within_any _ _ _ _).mono ?_; rintro x w' ⟨rfl, rfl⟩) | (go_at_call 59; refine (greater_any _ _ _).mono ?_; rintro e w' ⟨rfl, rfl⟩)))
  obtain ⟨g0, g1, g2, g3⟩ := ib4 (ibset4 (b) (p) (e) (s) (R1.out))
  refine bodyPost_ret (res_outPeer_any _ rfl g0 g1 g2 g3) rfl ?_
  exact ⟨by rw [H.out], by have := B1.out; (repeat' (first | exact Below.refl _ _ | assumption | exact Nat.le_refl _ | (refine Below.alloc ?_ ?_ _) | (refine Below.drew ?_) | (refine Below.setCell ?_ ?_ _) | (refine Below.trans ?_ (Below.mono (by assumption) ?_)) | (simp; done) | (simp; omega) | omega))⟩
theorem res_specOutPeer_any {W : World} {b : Nat} {x0 x1 x2 x3 : Value} (tmps : Array Value) (ht : tmps[4]?.getD undef = .pointer (some ⟨b, 0, none⟩)) (h0 : W.cell? ⟨b, 0, none⟩ = some x0) (h1 : W.cell? ⟨b, 1, none⟩ = some x1) (h2 : W.cell? ⟨b, 2, none⟩ = some x2) (h3 : W.cell? ⟨b, 3, none⟩ = some x3) :
    (results Try.f24 tmps).run Try.prog W = .ok (.agg #[x0, x1, x2, x3]) W := by
  simp [results, Try.results24, go_sem, ht, h0, h1, h2, h3]
set_option maxHeartbeats 4000000 in
theorem specOutPeer_any (b p e s q : Int) (w : World) :
    Calls Try.prog 24 #[.agg #[.int .i64 b, .int .i64 p, .int .i64 e, .int .i64 s], .int .i64 q] w fun x w' => x = .returned (.agg #[.int .i64 (pk (prB b p e s q) b), .int .i64 (pk (prB b p e s q) (mx p q)), .int .i64 (pk (prB b p e s q) e), .int .i64 (pk (prB b p e s q) s)]) ∧ Below w.heap.size w w' := by
  cases c0 : outB b p e s
  · have H := hid (show (.agg #[.int .i64 (pk (prB b p e s q) b), .int .i64 (pk (prB b p e s q) (mx p q)), .int .i64 (pk (prB b p e s q) e), .int .i64 (pk (prB b p e s q) s)] : Value) = .agg #[.int .i64 0, .int .i64 0, .int .i64 0, .int .i64 0] by simp [prB, pk, mx, c0])
    have PP := hid (((Below.refl w.heap.size w).alloc (Nat.le_refl _) (.cells #[.int .i64 b, .int .i64 p, .int .i64 e, .int .i64 s] 24)).alloc (by simp) (.cells #[.int .i64 0, .int .i64 0, .int .i64 0, .int .i64 0] 24))
    have HB0 : Hid (IB ((w.alloc (.cells #[.int .i64 b, .int .i64 p, .int .i64 e, .int .i64 s] 24)).alloc (.cells #[.int .i64 0, .int .i64 0, .int .i64 0, .int .i64 0] 24)) w.heap.size [b, p, e, s]) := hid ((ib_new w [b, p, e, s] 24).keep (below_alloc1 _ _))
    have HB1 : Hid (IB ((w.alloc (.cells #[.int .i64 b, .int .i64 p, .int .i64 e, .int .i64 s] 24)).alloc (.cells #[.int .i64 0, .int .i64 0, .int .i64 0, .int .i64 0] 24)) (w.heap.size + 1) [0, 0, 0, 0]) := hid (by have := ib_new (w.alloc (.cells #[.int .i64 b, .int .i64 p, .int .i64 e, .int .i64 s] 24)) [0, 0, 0, 0] 24; simpa using this)
    go_enter Try.func24, Try.ntmps24
    go_wp2_with ((first | (go_at_call 20; refine (specOutOk_any b p e s _).mono ?_; rintro x w1 ⟨rfl, hb⟩; obtain ⟨q0, q1, q2, q3⟩ := ib4 (HB0.out.keep hb); obtain ⟨r0, r1, r2, r3⟩ := ib4 (HB1.out.keep hb); have ff := (HB0.out.keep hb).2.1; have gg := (HB1.out.keep hb).2.1; have R1 := hid (HB1.out.keep hb); have B1 := hid (PP.out.trans (hb.mono PP.out.size)); clear hb) | (go_at_call 56; refine (l1In_any _ _ _ _).mono ?_; rintro x w' ⟨rfl, rfl⟩) | fail))
    obtain ⟨g0, g1, g2, g3⟩ := ib4 (ibset4 (0) (0) (0) (0) (R1.out))
    refine bodyPost_ret (res_specOutPeer_any _ rfl g0 g1 g2 g3) rfl ?_
    exact ⟨by rw [H.out], by have := B1.out; (repeat' (first | exact Below.refl _ _ | assumption | exact Nat.le_refl _ | (refine Below.alloc ?_ ?_ _) | (refine Below.drew ?_) | (refine Below.setCell ?_ ?_ _) | (refine Below.trans ?_ (Below.mono (by assumption) ?_)) | (simp; done) | (simp; omega) | omega))⟩
  cases c1 : inB q 0 60000
  · have H := hid (show (.agg #[.int .i64 (pk (prB b p e s q) b), .int .i64 (pk (prB b p e s q) (mx p q)), .int .i64 (pk (prB b p e s q) e), .int .i64 (pk (prB b p e s q) s)] : Value) = .agg #[.int .i64 0, .int .i64 0, .int .i64 0, .int .i64 0] by simp [prB, pk, mx, c0, c1])
    have PP := hid (((Below.refl w.heap.size w).alloc (Nat.le_refl _) (.cells #[.int .i64 b, .int .i64 p, .int .i64 e, .int .i64 s] 24)).alloc (by simp) (.cells #[.int .i64 0, .int .i64 0, .int .i64 0, .int .i64 0] 24))
    have HB0 : Hid (IB ((w.alloc (.cells #[.int .i64 b, .int .i64 p, .int .i64 e, .int .i64 s] 24)).alloc (.cells #[.int .i64 0, .int .i64 0, .int .i64 0, .int .i64 0] 24)) w.heap.size [b, p, e, s]) := hid ((ib_new w [b, p, e, s] 24).keep (below_alloc1 _ _))
    have HB1 : Hid (IB ((w.alloc (.cells #[.int .i64 b, .int .i64 p, .int .i64 e, .int .i64 s] 24)).alloc (.cells #[.int .i64 0, .int .i64 0, .int .i64 0, .int .i64 0] 24)) (w.heap.size + 1) [0, 0, 0, 0]) := hid (by have := ib_new (w.alloc (.cells #[.int .i64 b, .int .i64 p, .int .i64 e, .int .i64 s] 24)) [0, 0, 0, 0] 24; simpa using this)
    go_enter Try.func24, Try.ntmps24
    go_wp2_with ((first | (go_at_call 20; refine (specOutOk_any b p e s _).mono ?_; rintro x w1 ⟨rfl, hb⟩; obtain ⟨q0, q1, q2, q3⟩ := ib4 (HB0.out.keep hb); obtain ⟨r0, r1, r2, r3⟩ := ib4 (HB1.out.keep hb); have ff := (HB0.out.keep hb).2.1; have gg := (HB1.out.keep hb).2.1; have R1 := hid (HB1.out.keep hb); have B1 := hid (PP.out.trans (hb.mono PP.out.size)); clear hb) | (go_at_call 56; refine (l1In_any _ _ _ _).mono ?_; rintro x w' ⟨rfl, rfl⟩) | fail))
    obtain ⟨g0, g1, g2, g3⟩ := ib4 (ibset4 (0) (0) (0) (0) (R1.out))
    refine bodyPost_ret (res_specOutPeer_any _ rfl g0 g1 g2 g3) rfl ?_
    exact ⟨by rw [H.out], by have := B1.out; (repeat' (first | exact Below.refl _ _ | assumption | exact Nat.le_refl _ | (refine Below.alloc ?_ ?_ _) | (refine Below.drew ?_) | (refine Below.setCell ?_ ?_ _) | (refine Below.trans ?_ (Below.mono (by assumption) ?_)) | (simp; done) | (simp; omega) | omega))⟩
  by_cases c2 : p < q
  · have H := hid (show (.agg #[.int .i64 (pk (prB b p e s q) b), .int .i64 (pk (prB b p e s q) (mx p q)), .int .i64 (pk (prB b p e s q) e), .int .i64 (pk (prB b p e s q) s)] : Value) = .agg #[.int .i64 b, .int .i64 q, .int .i64 e, .int .i64 s] by simp [prB, pk, mx, c0, c1, c2])
    have PP := hid (((Below.refl w.heap.size w).alloc (Nat.le_refl _) (.cells #[.int .i64 b, .int .i64 p, .int .i64 e, .int .i64 s] 24)).alloc (by simp) (.cells #[.int .i64 0, .int .i64 0, .int .i64 0, .int .i64 0] 24))
    have HB0 : Hid (IB ((w.alloc (.cells #[.int .i64 b, .int .i64 p, .int .i64 e, .int .i64 s] 24)).alloc (.cells #[.int .i64 0, .int .i64 0, .int .i64 0, .int .i64 0] 24)) w.heap.size [b, p, e, s]) := hid ((ib_new w [b, p, e, s] 24).keep (below_alloc1 _ _))
    have HB1 : Hid (IB ((w.alloc (.cells #[.int .i64 b, .int .i64 p, .int .i64 e, .int .i64 s] 24)).alloc (.cells #[.int .i64 0, .int .i64 0, .int .i64 0, .int .i64 0] 24)) (w.heap.size + 1) [0, 0, 0, 0]) := hid (by have := ib_new (w.alloc (.cells #[.int .i64 b, .int .i64 p, .int .i64 e, .int .i64 s] 24)) [0, 0, 0, 0] 24; simpa using this)
    go_enter Try.func24, Try.ntmps24
    go_wp2_with ((first | (go_at_call 20; refine (specOutOk_any b p e s _).mono ?_; rintro x w1 ⟨rfl, hb⟩; obtain ⟨q0, q1, q2, q3⟩ := ib4 (HB0.out.keep hb); obtain ⟨r0, r1, r2, r3⟩ := ib4 (HB1.out.keep hb); have ff := (HB0.out.keep hb).2.1; have gg := (HB1.out.keep hb).2.1; have R1 := hid (HB1.out.keep hb); have B1 := hid (PP.out.trans (hb.mono PP.out.size)); clear hb) | (go_at_call 56; refine (l1In_any _ _ _ _).mono ?_; rintro x w' ⟨rfl, rfl⟩) | fail))
    obtain ⟨g0, g1, g2, g3⟩ := ib4 (ibset4 (b) (q) (e) (s) ((R1.out.off (c := w.heap.size) (i := 1) (v := .int .i64 q) (by omega))))
    refine bodyPost_ret (res_specOutPeer_any _ rfl g0 g1 g2 g3) rfl ?_
    exact ⟨by rw [H.out], by have := B1.out; (repeat' (first | exact Below.refl _ _ | assumption | exact Nat.le_refl _ | (refine Below.alloc ?_ ?_ _) | (refine Below.drew ?_) | (refine Below.setCell ?_ ?_ _) | (refine Below.trans ?_ (Below.mono (by assumption) ?_)) | (simp; done) | (simp; omega) | omega))⟩
  have H := hid (show (.agg #[.int .i64 (pk (prB b p e s q) b), .int .i64 (pk (prB b p e s q) (mx p q)), .int .i64 (pk (prB b p e s q) e), .int .i64 (pk (prB b p e s q) s)] : Value) = .agg #[.int .i64 b, .int .i64 p, .int .i64 e, .int .i64 s] by simp [prB, pk, mx, c0, c1, c2])
  have PP := hid (((Below.refl w.heap.size w).alloc (Nat.le_refl _) (.cells #[.int .i64 b, .int .i64 p, .int .i64 e, .int .i64 s] 24)).alloc (by simp) (.cells #[.int .i64 0, .int .i64 0, .int .i64 0, .int .i64 0] 24))
  have HB0 : Hid (IB ((w.alloc (.cells #[.int .i64 b, .int .i64 p, .int .i64 e, .int .i64 s] 24)).alloc (.cells #[.int .i64 0, .int .i64 0, .int .i64 0, .int .i64 0] 24)) w.heap.size [b, p, e, s]) := hid ((ib_new w [b, p, e, s] 24).keep (below_alloc1 _ _))
  have HB1 : Hid (IB ((w.alloc (.cells #[.int .i64 b, .int .i64 p, .int .i64 e, .int .i64 s] 24)).alloc (.cells #[.int .i64 0, .int .i64 0, .int .i64 0, .int .i64 0] 24)) (w.heap.size + 1) [0, 0, 0, 0]) := hid (by have := ib_new (w.alloc (.cells #[.int .i64 b, .int .i64 p, .int .i64 e, .int .i64 s] 24)) [0, 0, 0, 0] 24; simpa using this)
  go_enter Try.func24, Try.ntmps24
  go_wp2_with ((first | (go_at_call 20; refine (specOutOk_any b p e s _).mono ?_; rintro x w1 ⟨rfl, hb⟩; obtain ⟨q0, q1, q2, q3⟩ := ib4 (HB0.out.keep hb); obtain ⟨r0, r1, r2, r3⟩ := ib4 (HB1.out.keep hb); have ff := (HB0.out.keep hb).2.1; have gg := (HB1.out.keep hb).2.1; have R1 := hid (HB1.out.keep hb); have B1 := hid (PP.out.trans (hb.mono PP.out.size)); clear hb) | (go_at_call 56; refine (l1In_any _ _ _ _).mono ?_; rintro x w' ⟨rfl, rfl⟩) | fail))
  obtain ⟨g0, g1, g2, g3⟩ := ib4 (ibset4 (b) (p) (e) (s) (R1.out))
  refine bodyPost_ret (res_specOutPeer_any _ rfl g0 g1 g2 g3) rfl ?_
  exact ⟨by rw [H.out], by have := B1.out; (repeat' (first | exact Below.refl _ _ | assumption | exact Nat.le_refl _ | (refine Below.alloc ?_ ?_ _) | (refine Below.drew ?_) | (refine Below.setCell ?_ ?_ _) | (refine Below.trans ?_ (Below.mono (by assumption) ?_)) | (simp; done) | (simp; omega) | omega))⟩
end Go.Proofs.Ythpojgolkpdgkaa
