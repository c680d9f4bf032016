/- InFresh: the contracts of the program's and of the specification's. No conditions. -/
import Derived.Test.YthpojgolkpdgkaaInAhead
namespace Go.Proofs.Ythpojgolkpdgkaa
open Go.ChangeShapes Go.WideShapes Go.ChangeAt Go.RowKit Go.Joins Go.Deep
set_option linter.unusedVariables false
set_option linter.unusedSimpArgs false
set_option maxRecDepth 4000

/-- whether a number is fresh -/
def frB (B E S b e s : Int) : Bool := inhB B E S && (nuB b e s && !lexB b e s B E S)
set_option maxHeartbeats 4000000 in
theorem inFresh_any (B E S b e s : Int) (w : World) :
    Calls Try.prog 30 #[.agg #[.int .i64 B, .int .i64 E, .int .i64 S], .int .i64 b, .int .i64 e, .int .i64 s] w fun x w' => x = .returned (.bool (frB B E S b e s)) ∧ Below w.heap.size w w' := by
  have PP := hid (((Below.refl w.heap.size w).alloc (Nat.le_refl _) (.cells #[.int .i64 B, .int .i64 E, .int .i64 S] 36)).alloc (by simp) (.cells #[.int .i64 b, .int .i64 e, .int .i64 s] 82))
  have HB0 : Hid (IB ((w.alloc (.cells #[.int .i64 B, .int .i64 E, .int .i64 S] 36)).alloc (.cells #[.int .i64 b, .int .i64 e, .int .i64 s] 82)) w.heap.size [B, E, S]) := hid ((ib_new w [B, E, S] 36).keep (below_alloc1 _ _))
  have HB1 : Hid (IB ((w.alloc (.cells #[.int .i64 B, .int .i64 E, .int .i64 S] 36)).alloc (.cells #[.int .i64 b, .int .i64 e, .int .i64 s] 82)) (w.heap.size + 1) [b, e, s]) := hid (by have := ib_new (w.alloc (.cells #[.int .i64 B, .int .i64 E, .int .i64 S] 36)) [b, e, s] 82; simpa using this)
  obtain ⟨y0, y1, y2⟩ := ib3 HB0.out
  cases c0 : inhB B E S
  · have H := hid (show frB B E S b e s = false by simp [frB, c0])
    go_enter Try.func30, Try.ntmps30
    go_wp2_with fail
    go_region_with ((first | (go_at_call 61; refine (inHok_any B E S _).mono ?_; rintro x w1 ⟨rfl, hb⟩; have A1 := hid (HB0.out.drew.keep hb); have N1 := hid (HB1.out.drew.keep hb); have P1 := hid (PP.out.drew.trans (hb.mono PP.out.drew.size)); clear hb; obtain ⟨a0, a1, a2⟩ := ib3 A1.out; obtain ⟨n0, n1, n2⟩ := ib3 N1.out)))
    all_goals
      go_wp2
      go_ret
      exact ⟨ret_bool H.out.symm, P1.out⟩
  cases c1 : nuB b e s
  · have H := hid (show frB B E S b e s = false by simp [frB, c0, c1])
    go_enter Try.func30, Try.ntmps30
    go_wp2_with fail
    go_region_with ((first | (go_at_call 61; refine (inHok_any B E S _).mono ?_; rintro x w1 ⟨rfl, hb⟩; have A1 := hid (HB0.out.drew.keep hb); have N1 := hid (HB1.out.drew.keep hb); have P1 := hid (PP.out.drew.trans (hb.mono PP.out.drew.size)); clear hb; obtain ⟨a0, a1, a2⟩ := ib3 A1.out; obtain ⟨n0, n1, n2⟩ := ib3 N1.out) | (go_at_call 62; refine (numOk_any b e s _).mono ?_; rintro x w2 ⟨rfl, hb⟩; have A2 := hid (A1.out.keep hb); have N2 := hid (N1.out.keep hb); have P2 := hid (P1.out.trans (hb.mono P1.out.size)); clear hb; obtain ⟨a0, a1, a2⟩ := ib3 A2.out; obtain ⟨n0, n1, n2⟩ := ib3 N2.out)))
    all_goals
      go_wp2
      go_ret
      exact ⟨ret_bool H.out.symm, P2.out⟩
  have H := hid (show frB B E S b e s = (!lexB b e s B E S) by simp [frB, c0, c1])
  go_enter Try.func30, Try.ntmps30
  go_wp2_with fail
  go_region_with ((first | (go_at_call 61; refine (inHok_any B E S _).mono ?_; rintro x w1 ⟨rfl, hb⟩; have A1 := hid (HB0.out.drew.keep hb); have N1 := hid (HB1.out.drew.keep hb); have P1 := hid (PP.out.drew.trans (hb.mono PP.out.drew.size)); clear hb; obtain ⟨a0, a1, a2⟩ := ib3 A1.out; obtain ⟨n0, n1, n2⟩ := ib3 N1.out) | (go_at_call 62; refine (numOk_any b e s _).mono ?_; rintro x w2 ⟨rfl, hb⟩; have A2 := hid (A1.out.keep hb); have N2 := hid (N1.out.keep hb); have P2 := hid (P1.out.trans (hb.mono P1.out.size)); clear hb; obtain ⟨a0, a1, a2⟩ := ib3 A2.out; obtain ⟨n0, n1, n2⟩ := ib3 N2.out) | (go_at_call 64; refine (inNext_any B E S _).mono ?_; rintro x w3 ⟨rfl, hb⟩; have N3 := hid (N2.out.keep hb); have P3 := hid (P2.out.trans (hb.mono P2.out.size)); clear hb; obtain ⟨n0, n1, n2⟩ := ib3 N3.out) | (go_at_call 63; refine (ahead_any b e s B E S _).mono ?_; rintro x w4 ⟨rfl, hb⟩; have P4 := hid (P3.out.trans (hb.mono P3.out.size)); clear hb)))
  all_goals
    go_wp2
    go_ret
    exact ⟨ret_bool H.out.symm, P4.out⟩

set_option maxHeartbeats 4000000 in
theorem specFresh_any (B E S b e s : Int) (w : World) :
    Calls Try.prog 31 #[.agg #[.int .i64 B, .int .i64 E, .int .i64 S], .int .i64 b, .int .i64 e, .int .i64 s] w fun x w' => x = .returned (.bool (frB B E S b e s)) ∧ Below w.heap.size w w' := by
  have PP := hid ((Below.refl w.heap.size w).alloc (Nat.le_refl _) (.cells #[.int .i64 B, .int .i64 E, .int .i64 S] 36))
  have HB0 := hid (ib_new w [B, E, S] 36)
  cases c0 : inhB B E S
  · have H := hid (show frB B E S b e s = false by simp [frB, nuB, c0])
    go_enter Try.func31, Try.ntmps31
    go_wp2_with ((first | (go_at_call 32; refine (specInOk_any B E S _).mono ?_; rintro x w1 ⟨rfl, hb⟩; have A1 := hid (HB0.out.keep hb); have P1 := hid (PP.out.trans (hb.mono PP.out.size)); clear hb; obtain ⟨a0, a1, a2⟩ := ib3 A1.out) | (go_at_call 56; refine (l1In_any _ _ _ _).mono ?_; rintro x w' ⟨rfl, rfl⟩) | (go_at_call 65; refine (less_any _ _ _ _ _ _ _).mono ?_; rintro x w' ⟨rfl, rfl⟩)))
    go_ret
    exact ⟨ret_bool H.out.symm, P1.out⟩
  cases c1 : inB b 1 60000
  · have H := hid (show frB B E S b e s = false by simp [frB, nuB, c0, c1])
    go_enter Try.func31, Try.ntmps31
    go_wp2_with ((first | (go_at_call 32; refine (specInOk_any B E S _).mono ?_; rintro x w1 ⟨rfl, hb⟩; have A1 := hid (HB0.out.keep hb); have P1 := hid (PP.out.trans (hb.mono PP.out.size)); clear hb; obtain ⟨a0, a1, a2⟩ := ib3 A1.out) | (go_at_call 56; refine (l1In_any _ _ _ _).mono ?_; rintro x w' ⟨rfl, rfl⟩) | (go_at_call 65; refine (less_any _ _ _ _ _ _ _).mono ?_; rintro x w' ⟨rfl, rfl⟩)))
    go_ret
    exact ⟨ret_bool H.out.symm, P1.out⟩
  cases c2 : inB e 0 200
  · have H := hid (show frB B E S b e s = false by simp [frB, nuB, c0, c1, c2])
    go_enter Try.func31, Try.ntmps31
    go_wp2_with ((first | (go_at_call 32; refine (specInOk_any B E S _).mono ?_; rintro x w1 ⟨rfl, hb⟩; have A1 := hid (HB0.out.keep hb); have P1 := hid (PP.out.trans (hb.mono PP.out.size)); clear hb; obtain ⟨a0, a1, a2⟩ := ib3 A1.out) | (go_at_call 56; refine (l1In_any _ _ _ _).mono ?_; rintro x w' ⟨rfl, rfl⟩) | (go_at_call 65; refine (less_any _ _ _ _ _ _ _).mono ?_; rintro x w' ⟨rfl, rfl⟩)))
    go_ret
    exact ⟨ret_bool H.out.symm, P1.out⟩
  cases c3 : inB s 0 15
  · have H := hid (show frB B E S b e s = false by simp [frB, nuB, c0, c1, c2, c3])
    go_enter Try.func31, Try.ntmps31
    go_wp2_with ((first | (go_at_call 32; refine (specInOk_any B E S _).mono ?_; rintro x w1 ⟨rfl, hb⟩; have A1 := hid (HB0.out.keep hb); have P1 := hid (PP.out.trans (hb.mono PP.out.size)); clear hb; obtain ⟨a0, a1, a2⟩ := ib3 A1.out) | (go_at_call 56; refine (l1In_any _ _ _ _).mono ?_; rintro x w' ⟨rfl, rfl⟩) | (go_at_call 65; refine (less_any _ _ _ _ _ _ _).mono ?_; rintro x w' ⟨rfl, rfl⟩)))
    go_ret
    exact ⟨ret_bool H.out.symm, P1.out⟩
  have H := hid (show frB B E S b e s = (!lexB b e s B E S) by simp [frB, nuB, c0, c1, c2, c3])
  go_enter Try.func31, Try.ntmps31
  go_wp2_with ((first | (go_at_call 32; refine (specInOk_any B E S _).mono ?_; rintro x w1 ⟨rfl, hb⟩; have A1 := hid (HB0.out.keep hb); have P1 := hid (PP.out.trans (hb.mono PP.out.size)); clear hb; obtain ⟨a0, a1, a2⟩ := ib3 A1.out) | (go_at_call 56; refine (l1In_any _ _ _ _).mono ?_; rintro x w' ⟨rfl, rfl⟩) | (go_at_call 65; refine (less_any _ _ _ _ _ _ _).mono ?_; rintro x w' ⟨rfl, rfl⟩)))
  go_ret
  exact ⟨ret_bool H.out.symm, P1.out⟩
end Go.Proofs.Ythpojgolkpdgkaa
