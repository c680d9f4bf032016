/- InHear: the contracts of the program's and of the specification's. No conditions. -/
import Derived.Test.YthpojgolkpdgkaaInFreshC
namespace Go.Proofs.Ythpojgolkpdgkaa
open Go.ChangeShapes Go.WideShapes Go.ChangeAt Go.RowKit Go.Joins Go.Deep
set_option linter.unusedVariables false
set_option linter.unusedSimpArgs false
set_option maxRecDepth 4000

/-- what InHear leaves of a field -/
def hr (c f : Bool) (x y : Int) : Int := if c then (if f then x else y) else 0
theorem frB_at {B E S b e s : Int} (h : frB B E S b e s = true) : (1 ≤ b ∧ b ≤ 60000) ∧ (0 ≤ e ∧ e ≤ 200) ∧ 0 ≤ s ∧ s ≤ 15 := by
  simp only [frB, Bool.and_eq_true] at h
  simpa [nuB, inB] using h.2.1
theorem res_inHear_any {W : World} {b : Nat} {x0 x1 x2 : Value} (tmps : Array Value) (ht : tmps[8]?.getD undef = .pointer (some ⟨b, 0, none⟩)) (h0 : W.cell? ⟨b, 0, none⟩ = some x0) (h1 : W.cell? ⟨b, 1, none⟩ = some x1) (h2 : W.cell? ⟨b, 2, none⟩ = some x2) :
    (results Try.f28 tmps).run Try.prog W = .ok (.agg #[x0, x1, x2]) W := by
  simp [results, Try.results28, go_sem, ht, h0, h1, h2]
set_option maxHeartbeats 4000000 in
theorem inHear_any (B E S b e s : Int) (w : World) :
    Calls Try.prog 28 #[.agg #[.int .i64 B, .int .i64 E, .int .i64 S], .int .i64 b, .int .i64 e, .int .i64 s] w fun x w' => x = .returned (.agg #[.int .i64 (hr (inhB B E S) (frB B E S b e s) b B), .int .i64 (hr (inhB B E S) (frB B E S b e s) e E), .int .i64 (hr (inhB B E S) (frB B E S b e s) (s + 1) S)]) ∧ Below w.heap.size w w' := by
  have PP := hid (((Below.refl w.heap.size w).alloc (Nat.le_refl _) (.cells #[.int .i64 B, .int .i64 E, .int .i64 S] 36)).alloc (by simp) (.cells #[.int .i64 0, .int .i64 0, .int .i64 0] 36))
  have HB0 : Hid (IB ((w.alloc (.cells #[.int .i64 B, .int .i64 E, .int .i64 S] 36)).alloc (.cells #[.int .i64 0, .int .i64 0, .int .i64 0] 36)) w.heap.size [B, E, S]) := hid ((ib_new w [B, E, S] 36).keep (below_alloc1 _ _))
  have HB1 : Hid (IB ((w.alloc (.cells #[.int .i64 B, .int .i64 E, .int .i64 S] 36)).alloc (.cells #[.int .i64 0, .int .i64 0, .int .i64 0] 36)) (w.heap.size + 1) [0, 0, 0]) := hid (by have := ib_new (w.alloc (.cells #[.int .i64 B, .int .i64 E, .int .i64 S] 36)) [0, 0, 0] 36; simpa using this)
  cases c0 : inhB B E S
  · have H := hid (show (.agg #[.int .i64 (hr (inhB B E S) (frB B E S b e s) b B), .int .i64 (hr (inhB B E S) (frB B E S b e s) e E), .int .i64 (hr (inhB B E S) (frB B E S b e s) (s + 1) S)] : Value) = .agg #[.int .i64 (0), .int .i64 (0), .int .i64 (0)] by simp [hr, c0])
    go_enter Try.func28, Try.ntmps28
    go_wp2_with ((first | (go_at_call 61; refine (inHok_any B E S _).mono ?_; rintro x w1 ⟨rfl, hb⟩; have A1 := hid (HB0.out.keep hb); have R1 := hid (HB1.out.keep hb); have P1 := hid (PP.out.trans (hb.mono PP.out.size)); clear hb; obtain ⟨a0, a1, a2⟩ := ib3 A1.out; obtain ⟨r0, r1, r2⟩ := ib3 R1.out; have fr := R1.out.2.1) | (go_at_call 30; refine (inFresh_any B E S b e s _).mono ?_; rintro x w2 ⟨rfl, hb⟩; have A1 := hid (A1.out.keep hb); have R1 := hid (R1.out.keep hb); have P1 := hid (P1.out.trans (hb.mono P1.out.size)); clear hb a0 a1 a2 r0 r1 r2 fr; obtain ⟨a0, a1, a2⟩ := ib3 A1.out; obtain ⟨r0, r1, r2⟩ := ib3 R1.out; have fr := R1.out.2.1)))
    obtain ⟨k0, k1, k2⟩ := ib3 (ibset3 (0) (0) (0) R1.out)
    refine bodyPost_ret (v := .agg #[.int .i64 (0), .int .i64 (0), .int .i64 (0)]) (res_inHear_any _ rfl k0 k1 k2) rfl ?_
    exact ⟨by simp [hr, c0], by have := P1.out; (repeat' (first | exact Below.refl _ _ | assumption | exact Nat.le_refl _ | (refine Below.alloc ?_ ?_ _) | (refine Below.drew ?_) | (refine Below.setCell ?_ ?_ _) | (refine Below.trans ?_ (Below.mono (by assumption) ?_)) | (simp; done) | (simp; omega) | omega))⟩
  cases c1 : frB B E S b e s
  · have H := hid (show (.agg #[.int .i64 (hr (inhB B E S) (frB B E S b e s) b B), .int .i64 (hr (inhB B E S) (frB B E S b e s) e E), .int .i64 (hr (inhB B E S) (frB B E S b e s) (s + 1) S)] : Value) = .agg #[.int .i64 (B), .int .i64 (E), .int .i64 (S)] by simp [hr, c0, c1])
    go_enter Try.func28, Try.ntmps28
    go_wp2_with ((first | (go_at_call 61; refine (inHok_any B E S _).mono ?_; rintro x w1 ⟨rfl, hb⟩; have A1 := hid (HB0.out.keep hb); have R1 := hid (HB1.out.keep hb); have P1 := hid (PP.out.trans (hb.mono PP.out.size)); clear hb; obtain ⟨a0, a1, a2⟩ := ib3 A1.out; obtain ⟨r0, r1, r2⟩ := ib3 R1.out; have fr := R1.out.2.1) | (go_at_call 30; refine (inFresh_any B E S b e s _).mono ?_; rintro x w2 ⟨rfl, hb⟩; have A1 := hid (A1.out.keep hb); have R1 := hid (R1.out.keep hb); have P1 := hid (P1.out.trans (hb.mono P1.out.size)); clear hb a0 a1 a2 r0 r1 r2 fr; obtain ⟨a0, a1, a2⟩ := ib3 A1.out; obtain ⟨r0, r1, r2⟩ := ib3 R1.out; have fr := R1.out.2.1)))
    obtain ⟨k0, k1, k2⟩ := ib3 (ibset3 (B) (E) (S) R1.out)
    refine bodyPost_ret (v := .agg #[.int .i64 (B), .int .i64 (E), .int .i64 (S)]) (res_inHear_any _ rfl k0 k1 k2) rfl ?_
    exact ⟨by simp [hr, c0, c1], by have := P1.out; (repeat' (first | exact Below.refl _ _ | assumption | exact Nat.le_refl _ | (refine Below.alloc ?_ ?_ _) | (refine Below.drew ?_) | (refine Below.setCell ?_ ?_ _) | (refine Below.trans ?_ (Below.mono (by assumption) ?_)) | (simp; done) | (simp; omega) | omega))⟩
  obtain ⟨_, _, s0, s9⟩ := frB_at c1
  have qs : IntKind.i64.wrap (s + 1) = s + 1 := by rw [IntKind.wrap_i64]; omega
  have H := hid (show (.agg #[.int .i64 (hr (inhB B E S) (frB B E S b e s) b B), .int .i64 (hr (inhB B E S) (frB B E S b e s) e E), .int .i64 (hr (inhB B E S) (frB B E S b e s) (s + 1) S)] : Value) = .agg #[.int .i64 (b), .int .i64 (e), .int .i64 (s + 1)] by simp [hr, c0, c1])
  go_enter Try.func28, Try.ntmps28
  go_wp2_with ((first | (go_at_call 61; refine (inHok_any B E S _).mono ?_; rintro x w1 ⟨rfl, hb⟩; have A1 := hid (HB0.out.keep hb); have R1 := hid (HB1.out.keep hb); have P1 := hid (PP.out.trans (hb.mono PP.out.size)); clear hb; obtain ⟨a0, a1, a2⟩ := ib3 A1.out; obtain ⟨r0, r1, r2⟩ := ib3 R1.out; have fr := R1.out.2.1) | (go_at_call 30; refine (inFresh_any B E S b e s _).mono ?_; rintro x w2 ⟨rfl, hb⟩; have A1 := hid (A1.out.keep hb); have R1 := hid (R1.out.keep hb); have P1 := hid (P1.out.trans (hb.mono P1.out.size)); clear hb a0 a1 a2 r0 r1 r2 fr; obtain ⟨a0, a1, a2⟩ := ib3 A1.out; obtain ⟨r0, r1, r2⟩ := ib3 R1.out; have fr := R1.out.2.1)))
  obtain ⟨k0, k1, k2⟩ := ib3 (ibset3 (b) (e) (s + 1) R1.out)
  refine bodyPost_ret (v := .agg #[.int .i64 (b), .int .i64 (e), .int .i64 (s + 1)]) (res_inHear_any _ rfl k0 k1 k2) rfl ?_
  exact ⟨by simp [hr, c0, c1], by have := P1.out; (repeat' (first | exact Below.refl _ _ | assumption | exact Nat.le_refl _ | (refine Below.alloc ?_ ?_ _) | (refine Below.drew ?_) | (refine Below.setCell ?_ ?_ _) | (refine Below.trans ?_ (Below.mono (by assumption) ?_)) | (simp; done) | (simp; omega) | omega))⟩
theorem res_specInHear_any {W : World} {b : Nat} {x0 x1 x2 : Value} (tmps : Array Value) (ht : tmps[8]?.getD undef = .pointer (some ⟨b, 0, none⟩)) (h0 : W.cell? ⟨b, 0, none⟩ = some x0) (h1 : W.cell? ⟨b, 1, none⟩ = some x1) (h2 : W.cell? ⟨b, 2, none⟩ = some x2) :
    (results Try.f29 tmps).run Try.prog W = .ok (.agg #[x0, x1, x2]) W := by
  simp [results, Try.results29, go_sem, ht, h0, h1, h2]
set_option maxHeartbeats 4000000 in
theorem specInHear_any (B E S b e s : Int) (w : World) :
    Calls Try.prog 29 #[.agg #[.int .i64 B, .int .i64 E, .int .i64 S], .int .i64 b, .int .i64 e, .int .i64 s] w fun x w' => x = .returned (.agg #[.int .i64 (hr (inhB B E S) (frB B E S b e s) b B), .int .i64 (hr (inhB B E S) (frB B E S b e s) e E), .int .i64 (hr (inhB B E S) (frB B E S b e s) (s + 1) S)]) ∧ Below w.heap.size w w' := by
  have PP := hid (((Below.refl w.heap.size w).alloc (Nat.le_refl _) (.cells #[.int .i64 B, .int .i64 E, .int .i64 S] 36)).alloc (by simp) (.cells #[.int .i64 0, .int .i64 0, .int .i64 0] 36))
  have HB0 : Hid (IB ((w.alloc (.cells #[.int .i64 B, .int .i64 E, .int .i64 S] 36)).alloc (.cells #[.int .i64 0, .int .i64 0, .int .i64 0] 36)) w.heap.size [B, E, S]) := hid ((ib_new w [B, E, S] 36).keep (below_alloc1 _ _))
  have HB1 : Hid (IB ((w.alloc (.cells #[.int .i64 B, .int .i64 E, .int .i64 S] 36)).alloc (.cells #[.int .i64 0, .int .i64 0, .int .i64 0] 36)) (w.heap.size + 1) [0, 0, 0]) := hid (by have := ib_new (w.alloc (.cells #[.int .i64 B, .int .i64 E, .int .i64 S] 36)) [0, 0, 0] 36; simpa using this)
  cases c0 : inhB B E S
  · have H := hid (show (.agg #[.int .i64 (hr (inhB B E S) (frB B E S b e s) b B), .int .i64 (hr (inhB B E S) (frB B E S b e s) e E), .int .i64 (hr (inhB B E S) (frB B E S b e s) (s + 1) S)] : Value) = .agg #[.int .i64 (0), .int .i64 (0), .int .i64 (0)] by simp [hr, c0])
    go_enter Try.func29, Try.ntmps29
    go_wp2_with ((first | (go_at_call 32; refine (specInOk_any B E S _).mono ?_; rintro x w1 ⟨rfl, hb⟩; have A1 := hid (HB0.out.keep hb); have R1 := hid (HB1.out.keep hb); have P1 := hid (PP.out.trans (hb.mono PP.out.size)); clear hb; obtain ⟨a0, a1, a2⟩ := ib3 A1.out; obtain ⟨r0, r1, r2⟩ := ib3 R1.out; have fr := R1.out.2.1) | (go_at_call 31; refine (specFresh_any B E S b e s _).mono ?_; rintro x w2 ⟨rfl, hb⟩; have A1 := hid (A1.out.keep hb); have R1 := hid (R1.out.keep hb); have P1 := hid (P1.out.trans (hb.mono P1.out.size)); clear hb a0 a1 a2 r0 r1 r2 fr; obtain ⟨a0, a1, a2⟩ := ib3 A1.out; obtain ⟨r0, r1, r2⟩ := ib3 R1.out; have fr := R1.out.2.1)))
    obtain ⟨k0, k1, k2⟩ := ib3 (ibset3 (0) (0) (0) R1.out)
    refine bodyPost_ret (v := .agg #[.int .i64 (0), .int .i64 (0), .int .i64 (0)]) (res_specInHear_any _ rfl k0 k1 k2) rfl ?_
    exact ⟨by simp [hr, c0], by have := P1.out; (repeat' (first | exact Below.refl _ _ | assumption | exact Nat.le_refl _ | (refine Below.alloc ?_ ?_ _) | (refine Below.drew ?_) | (refine Below.setCell ?_ ?_ _) | (refine Below.trans ?_ (Below.mono (by assumption) ?_)) | (simp; done) | (simp; omega) | omega))⟩
  cases c1 : frB B E S b e s
  · have H := hid (show (.agg #[.int .i64 (hr (inhB B E S) (frB B E S b e s) b B), .int .i64 (hr (inhB B E S) (frB B E S b e s) e E), .int .i64 (hr (inhB B E S) (frB B E S b e s) (s + 1) S)] : Value) = .agg #[.int .i64 (B), .int .i64 (E), .int .i64 (S)] by simp [hr, c0, c1])
    go_enter Try.func29, Try.ntmps29
    go_wp2_with ((first | (go_at_call 32; refine (specInOk_any B E S _).mono ?_; rintro x w1 ⟨rfl, hb⟩; have A1 := hid (HB0.out.keep hb); have R1 := hid (HB1.out.keep hb); have P1 := hid (PP.out.trans (hb.mono PP.out.size)); clear hb; obtain ⟨a0, a1, a2⟩ := ib3 A1.out; obtain ⟨r0, r1, r2⟩ := ib3 R1.out; have fr := R1.out.2.1) | (go_at_call 31; refine (specFresh_any B E S b e s _).mono ?_; rintro x w2 ⟨rfl, hb⟩; have A1 := hid (A1.out.keep hb); have R1 := hid (R1.out.keep hb); have P1 := hid (P1.out.trans (hb.mono P1.out.size)); clear hb a0 a1 a2 r0 r1 r2 fr; obtain ⟨a0, a1, a2⟩ := ib3 A1.out; obtain ⟨r0, r1, r2⟩ := ib3 R1.out; have fr := R1.out.2.1)))
    obtain ⟨k0, k1, k2⟩ := ib3 (ibset3 (B) (E) (S) R1.out)
    refine bodyPost_ret (v := .agg #[.int .i64 (B), .int .i64 (E), .int .i64 (S)]) (res_specInHear_any _ rfl k0 k1 k2) rfl ?_
    exact ⟨by simp [hr, c0, c1], by have := P1.out; (repeat' (first | exact Below.refl _ _ | assumption | exact Nat.le_refl _ | (refine Below.alloc ?_ ?_ _) | (refine Below.drew ?_) | (refine Below.setCell ?_ ?_ _) | (refine Below.trans ?_ (Below.mono (by assumption) ?_)) | (simp; done) | (simp; omega) | omega))⟩
  obtain ⟨_, _, s0, s9⟩ := frB_at c1
  have qs : IntKind.i64.wrap (s + 1) = s + 1 := by rw [IntKind.wrap_i64]; omega
  have H := hid (show (.agg #[.int .i64 (hr (inhB B E S) (frB B E S b e s) b B), .int .i64 (hr (inhB B E S) (frB B E S b e s) e E), .int .i64 (hr (inhB B E S) (frB B E S b e s) (s + 1) S)] : Value) = .agg #[.int .i64 (b), .int .i64 (e), .int .i64 (s + 1)] by simp [hr, c0, c1])
  go_enter Try.func29, Try.ntmps29
  go_wp2_with ((first | (go_at_call 32; refine (specInOk_any B E S _).mono ?_; rintro x w1 ⟨rfl, hb⟩; have A1 := hid (HB0.out.keep hb); have R1 := hid (HB1.out.keep hb); have P1 := hid (PP.out.trans (hb.mono PP.out.size)); clear hb; obtain ⟨a0, a1, a2⟩ := ib3 A1.out; obtain ⟨r0, r1, r2⟩ := ib3 R1.out; have fr := R1.out.2.1) | (go_at_call 31; refine (specFresh_any B E S b e s _).mono ?_; rintro x w2 ⟨rfl, hb⟩; have A1 := hid (A1.out.keep hb); have R1 := hid (R1.out.keep hb); have P1 := hid (P1.out.trans (hb.mono P1.out.size)); clear hb a0 a1 a2 r0 r1 r2 fr; obtain ⟨a0, a1, a2⟩ := ib3 A1.out; obtain ⟨r0, r1, r2⟩ := ib3 R1.out; have fr := R1.out.2.1)))
  obtain ⟨k0, k1, k2⟩ := ib3 (ibset3 (b) (e) (s + 1) R1.out)
  refine bodyPost_ret (v := .agg #[.int .i64 (b), .int .i64 (e), .int .i64 (s + 1)]) (res_specInHear_any _ rfl k0 k1 k2) rfl ?_
  exact ⟨by simp [hr, c0, c1], by have := P1.out; (repeat' (first | exact Below.refl _ _ | assumption | exact Nat.le_refl _ | (refine Below.alloc ?_ ?_ _) | (refine Below.drew ?_) | (refine Below.setCell ?_ ?_ _) | (refine Below.trans ?_ (Below.mono (by assumption) ?_)) | (simp; done) | (simp; omega) | omega))⟩
end Go.Proofs.Ythpojgolkpdgkaa
