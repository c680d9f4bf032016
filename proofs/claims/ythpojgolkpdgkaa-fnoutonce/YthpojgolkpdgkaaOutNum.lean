/- Numbers that a half gives away: the contracts of number, last and next. No conditions. -/
import Derived.Test.YthpojgolkpdgkaaOutBase
namespace Go.Proofs.Ythpojgolkpdgkaa
open Go.ChangeShapes Go.WideShapes Go.ChangeAt Go.RowKit Go.Joins Go.Deep
set_option linter.unusedVariables false
set_option linter.unusedSimpArgs false
set_option maxRecDepth 4000

set_option maxHeartbeats 1000000 in
theorem number_any (b p e s : Int) (w : World) :
    Calls Try.prog 53 #[.agg #[.int .i64 b, .int .i64 p, .int .i64 e, .int .i64 s]] w fun x w' => x = .returned (.agg #[.int .i64 e, .int .i64 s]) ∧ Below w.heap.size w w' := by
  go_enter Try.func53, Try.ntmps53
  go_wp2
  go_returns
  exact ⟨rfl, by go_grown⟩

set_option maxHeartbeats 1000000 in
theorem last_any (e s : Int) (w : World) :
    Calls Try.prog 80 #[.agg #[.int .i64 e, .int .i64 s]] w fun x w' => x = .returned (.bool (decide (s = 15))) ∧ Below w.heap.size w w' := by
  go_enter Try.func80, Try.ntmps80
  go_wp2
  all_goals
    go_ret
    exact ⟨ret_bool (by simp [*]), by go_grown⟩

theorem res_next {W : World} {b : Nat} {x0 x1 : Value} (tmps : Array Value) (ht : tmps[2]?.getD undef = .pointer (some ⟨b, 0, none⟩)) (h0 : W.cell? ⟨b, 0, none⟩ = some x0) (h1 : W.cell? ⟨b, 1, none⟩ = some x1) :
    (results Try.f54 tmps).run Try.prog W = .ok (.agg #[x0, x1]) W := by
  simp [results, Try.results54, go_sem, ht, h0, h1]
def nE (e s : Int) : Int := if e = 200 then e else if s = 15 then wrap64 (e + 1) else e
def nS (e s : Int) : Int := if e = 200 then s else if s = 15 then 0 else wrap64 (s + 1)
set_option maxHeartbeats 1000000 in
theorem next_any (e s : Int) (w : World) :
    Calls Try.prog 54 #[.agg #[.int .i64 e, .int .i64 s]] w fun x w' => x = .returned (.agg #[.int .i64 (nE e s), .int .i64 (nS e s)]) ∧ Below w.heap.size w w' := by
  by_cases h1 : e = 200
  · have H := hid (show (Value.agg #[.int .i64 (nE e s), .int .i64 (nS e s)]) = .agg #[.int .i64 (e), .int .i64 (s)] by simp [nE, nS, h1])
    have PP := hid (((Below.refl w.heap.size w).alloc (Nat.le_refl _) (.cells #[.int .i64 e, .int .i64 s] 74)).alloc (by simp) (.cells #[.int .i64 0, .int .i64 0] 74))
    have HB0 : Hid (IB ((w.alloc (.cells #[.int .i64 e, .int .i64 s] 74)).alloc (.cells #[.int .i64 0, .int .i64 0] 74)) w.heap.size [e, s]) := hid ((ib_new w [e, s] 74).keep (below_alloc1 _ _))
    have HB1 : Hid (IB ((w.alloc (.cells #[.int .i64 e, .int .i64 s] 74)).alloc (.cells #[.int .i64 0, .int .i64 0] 74)) (w.heap.size + 1) [0, 0]) := hid (by have := ib_new (w.alloc (.cells #[.int .i64 e, .int .i64 s] 74)) [0, 0] 74; simpa using this)
    go_enter Try.func54, Try.ntmps54
    go_wp2
    go_returns
    exact ⟨by rw [H.out]; simp [h1], by go_grown⟩
  by_cases h2 : s = 15
  · subst h2
    have H := hid (show (Value.agg #[.int .i64 (nE e 15), .int .i64 (nS e 15)]) = .agg #[.int .i64 (wrap64 (e + 1)), .int .i64 (0)] by simp [nE, nS, h1])
    have PP := hid (((Below.refl w.heap.size w).alloc (Nat.le_refl _) (.cells #[.int .i64 e, .int .i64 15] 74)).alloc (by simp) (.cells #[.int .i64 0, .int .i64 0] 74))
    have HB0 : Hid (IB ((w.alloc (.cells #[.int .i64 e, .int .i64 15] 74)).alloc (.cells #[.int .i64 0, .int .i64 0] 74)) w.heap.size [e, 15]) := hid ((ib_new w [e, 15] 74).keep (below_alloc1 _ _))
    have HB1 : Hid (IB ((w.alloc (.cells #[.int .i64 e, .int .i64 15] 74)).alloc (.cells #[.int .i64 0, .int .i64 0] 74)) (w.heap.size + 1) [0, 0]) := hid (by have := ib_new (w.alloc (.cells #[.int .i64 e, .int .i64 15] 74)) [0, 0] 74; simpa using this)
    have hs : decide ((15:Int) = 15) = true := by simp
    have he : (e == 200) = false := by simpa using h1
    go_enter Try.func54, Try.ntmps54
    go_wp2_with ((go_at_call 80; refine (last_any _ _ _).mono ?_; rintro x w1 ⟨rfl, hb⟩; obtain ⟨q0, q1⟩ := ib2 (HB0.out.keep hb); obtain ⟨r0, r1⟩ := ib2 (HB1.out.keep hb); have ff := (HB0.out.keep hb).2.1; have gg := (HB1.out.keep hb).2.1; have R1 := hid (HB1.out.keep hb); have B1 := hid (PP.out.trans (hb.mono PP.out.size)); clear hb))
    obtain ⟨g0, g1⟩ := ib2 (ibset2 (wrap64 (e + 1)) (0) R1.out)
    refine bodyPost_ret (res_next _ rfl g0 g1) rfl ?_
    exact ⟨by rw [H.out], by have := B1.out; (repeat' (first | exact Below.refl _ _ | assumption | exact Nat.le_refl _ | (refine Below.alloc ?_ ?_ _) | (refine Below.drew ?_) | (refine Below.setCell ?_ ?_ _) | (refine Below.trans ?_ (Below.mono (by assumption) ?_)) | (simp; done) | (simp; omega) | omega))⟩
  have H := hid (show (Value.agg #[.int .i64 (nE e s), .int .i64 (nS e s)]) = .agg #[.int .i64 (e), .int .i64 (wrap64 (s + 1))] by simp [nE, nS, h1, h2])
  have PP := hid (((Below.refl w.heap.size w).alloc (Nat.le_refl _) (.cells #[.int .i64 e, .int .i64 s] 74)).alloc (by simp) (.cells #[.int .i64 0, .int .i64 0] 74))
  have HB0 : Hid (IB ((w.alloc (.cells #[.int .i64 e, .int .i64 s] 74)).alloc (.cells #[.int .i64 0, .int .i64 0] 74)) w.heap.size [e, s]) := hid ((ib_new w [e, s] 74).keep (below_alloc1 _ _))
  have HB1 : Hid (IB ((w.alloc (.cells #[.int .i64 e, .int .i64 s] 74)).alloc (.cells #[.int .i64 0, .int .i64 0] 74)) (w.heap.size + 1) [0, 0]) := hid (by have := ib_new (w.alloc (.cells #[.int .i64 e, .int .i64 s] 74)) [0, 0] 74; simpa using this)
  have hs : decide (s = 15) = false := by simp [h2]
  have he : (e == 200) = false := by simpa using h1
  go_enter Try.func54, Try.ntmps54
  go_wp2_with ((go_at_call 80; refine (last_any _ _ _).mono ?_; rintro x w1 ⟨rfl, hb⟩; obtain ⟨q0, q1⟩ := ib2 (HB0.out.keep hb); obtain ⟨r0, r1⟩ := ib2 (HB1.out.keep hb); have ff := (HB0.out.keep hb).2.1; have gg := (HB1.out.keep hb).2.1; have R1 := hid (HB1.out.keep hb); have B1 := hid (PP.out.trans (hb.mono PP.out.size)); clear hb))
  obtain ⟨g0, g1⟩ := ib2 (ibset2 (e) (wrap64 (s + 1)) R1.out)
  refine bodyPost_ret (res_next _ rfl g0 g1) rfl ?_
  exact ⟨by rw [H.out], by have := B1.out; (repeat' (first | exact Below.refl _ _ | assumption | exact Nat.le_refl _ | (refine Below.alloc ?_ ?_ _) | (refine Below.drew ?_) | (refine Below.setCell ?_ ?_ _) | (refine Below.trans ?_ (Below.mono (by assumption) ?_)) | (simp; done) | (simp; omega) | omega))⟩
end Go.Proofs.Ythpojgolkpdgkaa
