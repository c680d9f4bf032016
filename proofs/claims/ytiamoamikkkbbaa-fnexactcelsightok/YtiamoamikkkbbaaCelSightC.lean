/- Whether a sight is ok: the contracts of the program's and of the specification's; the laws' helpers on sights. Conditions: the bytes read. -/
import Derived.Test.YtiamoamikkkbbaaCelSight
namespace Go.Proofs.Ytiamoamikkkbbaa
open Go.ChangeShapes Go.WideShapes Go.ChangeAt Go.RowKit Go.Joins Go.Deep
set_option linter.unusedVariables false
set_option linter.unusedSimpArgs false
set_option maxRecDepth 4000

/-- whether a sight is ok -/
def sightB (k y : Int) (n : Nat) : Bool := inB k 1 10 && (inB y 0 9 && (decide (n ≤ 8) && (decide (k ≤ 4) || y == 0)))
theorem sawBytes_any (k : Int) (a : Option Addr) (n c : Nat) (w : World) :
    Calls Try.prog 89 #[.agg #[.int .i64 k, .slice a n c]] w fun e w' => e = .returned (.slice a n c) ∧ Below w.heap.size w w' := by
  go_enter Try.func89, Try.ntmps89
  go_wp2
  go_ret
  exact ⟨rfl, by go_grown⟩
theorem in14 {k : Int} (h : inB k 1 4 = true) : inB k 1 10 = true ∧ decide (k ≤ 4) = true := by
  have : 1 ≤ k ∧ k ≤ 4 := by simpa [inB] using h
  exact ⟨by simp [inB]; omega, by simp; omega⟩
theorem in510 {k : Int} (h : inB k 5 10 = true) : inB k 1 10 = true := by
  have : 5 ≤ k ∧ k ≤ 10 := by simpa [inB] using h
  simp [inB]; omega
theorem in_no {k : Int} (h0 : inB k 1 4 = false) (h : inB k 5 10 = false) : inB k 1 10 = false := by
  simp [inB] at h0 h ⊢; omega
theorem in_mid {k : Int} (h0 : inB k 1 4 = false) (h : inB k 5 10 = true) : decide (k ≤ 4) = false := by
  have : 5 ≤ k ∧ k ≤ 10 := by simpa [inB] using h
  simp; omega
set_option maxHeartbeats 4000000 in
theorem sightOk_any (k y : Int) (v : Value) (bs : List Int) (w : World) (hv : Rd w v bs) :
    Calls Try.prog 26 #[.agg #[.int .i64 k, .int .i64 y, v]] w fun e w' => e = .returned (.bool (sightB k y bs.length)) ∧ Below w.heap.size w w' := by
  have RB := hid hv
  obtain ⟨_, _, a, c, rfl, _⟩ := hv
  obtain ⟨n, hn⟩ : ∃ n, bs.length = n := ⟨_, rfl⟩
  rw [hn] at RB ⊢
  have HN := hid hn
  clear hn
  have B0 := hid (below_alloc1 w (.cells #[.int .i64 k, .int .i64 y, .slice a n c] 51))
  cases c0 : inB k 1 4
  · cases c1 : inB k 5 10
    · have d := in_no c0 c1
      have H := hid (show sightB k y n = false by simp [sightB, d])
      go_enter Try.func26, Try.ntmps26
      go_wp2_with ((first | (go_at_call 51; refine (sawNo_any k y a n c _ c0 (.inl c1)).mono ?_; rintro e w1 ⟨rfl, hb⟩; have P1 := hid (B0.out.trans (hb.mono B0.out.size)); clear hb) | (go_at_call 32; refine (within_any _ _ _ _).mono ?_; rintro e w' ⟨rfl, rfl⟩) | (go_at_call 53; refine (implMsg_any _ bs _ (RB.out.keep P1.out)).mono ?_; rintro e w' ⟨rfl, rfl⟩; rw [HN.out])))
      go_ret
      exact ⟨ret_bool H.out.symm, P1.out⟩
    · have d := in510 c1
      have d4 := in_mid c0 c1
      by_cases hy : y = 0
      · subst hy
        have d0 : inB 0 0 9 = true := by decide
        have H := hid (show sightB k 0 n = decide (n ≤ 8) by simp [sightB, d, d4, d0])
        go_enter Try.func26, Try.ntmps26
        go_wp2_with ((first | (go_at_call 51; refine (sawAl_any k a n c _ c0 c1).mono ?_; rintro e w1 ⟨rfl, hb⟩; have P1 := hid (B0.out.trans (hb.mono B0.out.size)); clear hb) | (go_at_call 52; refine (celWayAl_any k a n c _).mono ?_; rintro e w2 ⟨rfl, hb⟩; have P1 := hid (P1.out.trans (hb.mono P1.out.size)); clear hb) | (go_at_call 32; refine (within_any _ _ _ _).mono ?_; rintro e w' ⟨rfl, rfl⟩) | (go_at_call 89; refine (sawBytes_any k a n c _).mono ?_; rintro e w3 ⟨rfl, hb⟩; have P1 := hid (P1.out.trans (hb.mono P1.out.size)); clear hb) | (go_at_call 53; refine (implMsg_any _ bs _ (RB.out.keep P1.out)).mono ?_; rintro e w' ⟨rfl, rfl⟩; rw [HN.out])))
        go_ret
        exact ⟨ret_bool H.out.symm, P1.out⟩
      · have g : (y == 0) = false := by simpa using hy
        have H := hid (show sightB k y n = false by simp [sightB, d, d4, hy])
        go_enter Try.func26, Try.ntmps26
        go_wp2_with ((first | (go_at_call 51; refine (sawNo_any k y a n c _ c0 (.inr hy)).mono ?_; rintro e w1 ⟨rfl, hb⟩; have P1 := hid (B0.out.trans (hb.mono B0.out.size)); clear hb) | (go_at_call 32; refine (within_any _ _ _ _).mono ?_; rintro e w' ⟨rfl, rfl⟩) | (go_at_call 53; refine (implMsg_any _ bs _ (RB.out.keep P1.out)).mono ?_; rintro e w' ⟨rfl, rfl⟩; rw [HN.out])))
        go_ret
        exact ⟨ret_bool H.out.symm, P1.out⟩
  · obtain ⟨d, d4⟩ := in14 c0
    cases c2 : inB y 0 9
    · have H := hid (show sightB k y n = false by simp [sightB, d, d4, c2])
      go_enter Try.func26, Try.ntmps26
      go_wp2_with ((first | (go_at_call 51; refine (sawBy_any k y a n c _ c0).mono ?_; rintro e w1 ⟨rfl, hb⟩; have P1 := hid (B0.out.trans (hb.mono B0.out.size)); clear hb) | (go_at_call 52; refine (celWayBy_any k y a n c _).mono ?_; rintro e w2 ⟨rfl, hb⟩; have P1 := hid (P1.out.trans (hb.mono P1.out.size)); clear hb) | (go_at_call 32; refine (within_any _ _ _ _).mono ?_; rintro e w' ⟨rfl, rfl⟩) | (go_at_call 89; refine (sawBytes_any k a n c _).mono ?_; rintro e w3 ⟨rfl, hb⟩; have P1 := hid (P1.out.trans (hb.mono P1.out.size)); clear hb) | (go_at_call 53; refine (implMsg_any _ bs _ (RB.out.keep P1.out)).mono ?_; rintro e w' ⟨rfl, rfl⟩; rw [HN.out])))
      go_ret
      exact ⟨ret_bool H.out.symm, P1.out⟩
    · have H := hid (show sightB k y n = decide (n ≤ 8) by simp [sightB, d, d4, c2])
      go_enter Try.func26, Try.ntmps26
      go_wp2_with ((first | (go_at_call 51; refine (sawBy_any k y a n c _ c0).mono ?_; rintro e w1 ⟨rfl, hb⟩; have P1 := hid (B0.out.trans (hb.mono B0.out.size)); clear hb) | (go_at_call 52; refine (celWayBy_any k y a n c _).mono ?_; rintro e w2 ⟨rfl, hb⟩; have P1 := hid (P1.out.trans (hb.mono P1.out.size)); clear hb) | (go_at_call 32; refine (within_any _ _ _ _).mono ?_; rintro e w' ⟨rfl, rfl⟩) | (go_at_call 89; refine (sawBytes_any k a n c _).mono ?_; rintro e w3 ⟨rfl, hb⟩; have P1 := hid (P1.out.trans (hb.mono P1.out.size)); clear hb) | (go_at_call 53; refine (implMsg_any _ bs _ (RB.out.keep P1.out)).mono ?_; rintro e w' ⟨rfl, rfl⟩; rw [HN.out])))
      go_ret
      exact ⟨ret_bool H.out.symm, P1.out⟩
set_option maxHeartbeats 4000000 in
theorem specSightOk_any (k y : Int) (v : Value) (bs : List Int) (w : World) (hv : Rd w v bs) :
    Calls Try.prog 24 #[.agg #[.int .i64 k, .int .i64 y, v]] w fun e w' => e = .returned (.bool (sightB k y bs.length)) ∧ Below w.heap.size w w' := by
  have RB := hid hv
  obtain ⟨_, _, a, c, rfl, _⟩ := hv
  obtain ⟨n, hn⟩ : ∃ n, bs.length = n := ⟨_, rfl⟩
  rw [hn] at RB ⊢
  have HN := hid hn
  clear hn
  have B0 := hid (below_alloc1 w (.cells #[.int .i64 k, .int .i64 y, .slice a n c] 51))
  cases c0 : inB k 1 10
  · have H := hid (show sightB k y n = false by simp [sightB, c0])
    go_enter Try.func24, Try.ntmps24
    go_wp2_with ((first | (go_at_call 34; refine (l1In_any _ _ _ _).mono ?_; rintro e w' ⟨rfl, rfl⟩) | (go_at_call 50; refine (specMsg_any _ bs _ (RB.out.keep B0.out)).mono ?_; rintro e w' ⟨rfl, rfl⟩; rw [HN.out])))
    go_ret
    exact ⟨ret_bool H.out.symm, B0.out⟩
  cases c1 : inB y 0 9
  · have H := hid (show sightB k y n = false by simp [sightB, c0, c1])
    go_enter Try.func24, Try.ntmps24
    go_wp2_with ((first | (go_at_call 34; refine (l1In_any _ _ _ _).mono ?_; rintro e w' ⟨rfl, rfl⟩) | (go_at_call 50; refine (specMsg_any _ bs _ (RB.out.keep B0.out)).mono ?_; rintro e w' ⟨rfl, rfl⟩; rw [HN.out])))
    go_ret
    exact ⟨ret_bool H.out.symm, B0.out⟩
  cases c2 : decide (n ≤ 8)
  · have H := hid (show sightB k y n = false by simp [sightB, c0, c1, c2])
    go_enter Try.func24, Try.ntmps24
    go_wp2_with ((first | (go_at_call 34; refine (l1In_any _ _ _ _).mono ?_; rintro e w' ⟨rfl, rfl⟩) | (go_at_call 50; refine (specMsg_any _ bs _ (RB.out.keep B0.out)).mono ?_; rintro e w' ⟨rfl, rfl⟩; rw [HN.out])))
    go_ret
    exact ⟨ret_bool H.out.symm, B0.out⟩
  cases c3 : decide (k ≤ 4)
  · cases c4 : y == 0
    · have H := hid (show sightB k y n = false by simp [sightB, c0, c1, c2, c3, c4])
      go_enter Try.func24, Try.ntmps24
      go_wp2_with ((first | (go_at_call 34; refine (l1In_any _ _ _ _).mono ?_; rintro e w' ⟨rfl, rfl⟩) | (go_at_call 50; refine (specMsg_any _ bs _ (RB.out.keep B0.out)).mono ?_; rintro e w' ⟨rfl, rfl⟩; rw [HN.out])))
      go_ret
      exact ⟨ret_bool H.out.symm, B0.out⟩
    · have H := hid (show sightB k y n = true by simp [sightB, c0, c1, c2, c3, c4])
      go_enter Try.func24, Try.ntmps24
      go_wp2_with ((first | (go_at_call 34; refine (l1In_any _ _ _ _).mono ?_; rintro e w' ⟨rfl, rfl⟩) | (go_at_call 50; refine (specMsg_any _ bs _ (RB.out.keep B0.out)).mono ?_; rintro e w' ⟨rfl, rfl⟩; rw [HN.out])))
      go_ret
      exact ⟨ret_bool H.out.symm, B0.out⟩
  · have H := hid (show sightB k y n = true by simp [sightB, c0, c1, c2, c3])
    go_enter Try.func24, Try.ntmps24
    go_wp2_with ((first | (go_at_call 34; refine (l1In_any _ _ _ _).mono ?_; rintro e w' ⟨rfl, rfl⟩) | (go_at_call 50; refine (specMsg_any _ bs _ (RB.out.keep B0.out)).mono ?_; rintro e w' ⟨rfl, rfl⟩; rw [HN.out])))
    go_ret
    exact ⟨ret_bool H.out.symm, B0.out⟩
end Go.Proofs.Ytiamoamikkkbbaa
