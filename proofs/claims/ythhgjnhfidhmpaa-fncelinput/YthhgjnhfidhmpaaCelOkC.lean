/- Whether a cell is ok: the contracts of the program's and of the specification's, the laws' szCelCell. Conditions: the lists read. -/
import Derived.Test.YthhgjnhfidhmpaaCelBase
import Derived.Test.YthhgjnhfidhmpaaVmOk
namespace Go.Proofs.Ythhgjnhfidhmpaa
open Go.ChangeShapes Go.WideShapes Go.ChangeAt Go.RowKit Go.Joins Go.Deep
set_option linter.unusedVariables false
set_option linter.unusedSimpArgs false
set_option maxRecDepth 4000

/-- whether a cell is ok -/
def celB (pc : Int) (nr : Nat) (xs : List Int) (nm : Nat) (ys : List Int) (ht : Int) (bs : List Int) : Bool := vmB pc nr xs nm ys ht && decide (bs.length ≤ 6)
theorem greater_any (x y : Int) (w : World) :
    Calls Try.prog 57 #[.int .i64 x, .int .i64 y] w fun e w' => e = .returned (.bool (decide (y < x))) ∧ w' = w := by
  go_enter Try.func57, Try.ntmps57
  go_wp2
  go_ret
  exact ⟨rfl, rfl⟩
set_option maxHeartbeats 2000000 in
theorem celOkm_any (pc ht : Int) (r m i : Value) (nr nm : Nat) (xs ys bs : List Int) (w : World) (hr : RdI 1 w r nr xs) (hm : RdI 1 w m nm ys) (hi : Rd w i bs) :
    Calls Try.prog 31 #[.agg #[.int .i64 pc, r, m, .int .i64 ht, i]] w fun e w' => e = .returned (.bool (celB pc nr xs nm ys ht bs)) ∧ Below w.heap.size w w' := by
  have R := hid hr
  have M := hid hm
  have I := hid hi
  obtain ⟨_, _, a1, c1, rfl, _⟩ := hr
  obtain ⟨_, _, a2, c2, rfl, _⟩ := hm
  obtain ⟨_, _, a3, c3, rfl, _⟩ := hi
  obtain ⟨nb, hnb⟩ : ∃ nb, bs.length = nb := ⟨_, rfl⟩
  rw [hnb] at I
  have HN := hid hnb
  clear hnb
  have B0 := hid (below_alloc1 w (.cells #[.int .i64 pc, .slice a1 nr c1, .slice a2 nm c2, .int .i64 ht, .slice a3 nb c3] 27))
  have VA := hid (vb_new w [.int .i64 pc, .slice a1 nr c1, .slice a2 nm c2, .int .i64 ht, .slice a3 nb c3] 27)
  have HB := HN
  rw [HN.out]
  cases c0 : vmB pc nr xs nm ys ht
  · have H := hid (show celB pc nr xs nm ys ht bs = false by simp [celB, c0])
    clear HN
    go_enter Try.func31, Try.ntmps31
    go_wp2_with ((first | (go_at_call 56; refine (vmOk_any pc ht _ _ nr nm xs ys _ (R.out.keep B0.out) (M.out.keep B0.out)).mono ?_; rintro e w1 ⟨rfl, hb⟩; obtain ⟨q0, q1, q2, q3, q4⟩ := vb5 (VA.out.keep hb); have P1 := hid (B0.out.trans (hb.mono B0.out.size)); clear hb) | (go_at_call 57; refine (greater_any _ _ _).mono ?_; rintro x w' ⟨rfl, rfl⟩)))
    go_ret
    exact ⟨ret_bool H.out.symm, P1.out⟩
  by_cases c1 : nb ≤ 6
  · have d1 : decide ((6 : Int) < (nb : Int)) = false := by simp; omega
    have H := hid (show celB pc nr xs nm ys ht bs = true by simp [celB, c0, HN.out, c1])
    clear HN
    go_enter Try.func31, Try.ntmps31
    go_wp2_with ((first | (go_at_call 56; refine (vmOk_any pc ht _ _ nr nm xs ys _ (R.out.keep B0.out) (M.out.keep B0.out)).mono ?_; rintro e w1 ⟨rfl, hb⟩; obtain ⟨q0, q1, q2, q3, q4⟩ := vb5 (VA.out.keep hb); have P1 := hid (B0.out.trans (hb.mono B0.out.size)); clear hb) | (go_at_call 57; refine (greater_any _ _ _).mono ?_; rintro x w' ⟨rfl, rfl⟩)))
    go_ret
    exact ⟨ret_bool H.out.symm, P1.out⟩
  · have d1 : decide ((6 : Int) < (nb : Int)) = true := by simp; omega
    have H := hid (show celB pc nr xs nm ys ht bs = false by simp [celB, c0, HN.out, c1])
    clear HN
    go_enter Try.func31, Try.ntmps31
    go_wp2_with ((first | (go_at_call 56; refine (vmOk_any pc ht _ _ nr nm xs ys _ (R.out.keep B0.out) (M.out.keep B0.out)).mono ?_; rintro e w1 ⟨rfl, hb⟩; obtain ⟨q0, q1, q2, q3, q4⟩ := vb5 (VA.out.keep hb); have P1 := hid (B0.out.trans (hb.mono B0.out.size)); clear hb) | (go_at_call 57; refine (greater_any _ _ _).mono ?_; rintro x w' ⟨rfl, rfl⟩)))
    go_ret
    exact ⟨ret_bool H.out.symm, P1.out⟩
set_option maxHeartbeats 2000000 in
theorem specCelOk_any (pc ht : Int) (r m i : Value) (nr nm : Nat) (xs ys bs : List Int) (w : World) (hr : RdI 1 w r nr xs) (hm : RdI 1 w m nm ys) (hi : Rd w i bs) :
    Calls Try.prog 12 #[.agg #[.int .i64 pc, r, m, .int .i64 ht, i]] w fun e w' => e = .returned (.bool (celB pc nr xs nm ys ht bs)) ∧ Below w.heap.size w w' := by
  have R := hid hr
  have M := hid hm
  have I := hid hi
  obtain ⟨_, _, a1, c1, rfl, _⟩ := hr
  obtain ⟨_, _, a2, c2, rfl, _⟩ := hm
  obtain ⟨_, _, a3, c3, rfl, _⟩ := hi
  obtain ⟨nb, hnb⟩ : ∃ nb, bs.length = nb := ⟨_, rfl⟩
  rw [hnb] at I
  have HN := hid hnb
  clear hnb
  have B0 := hid (below_alloc1 w (.cells #[.int .i64 pc, .slice a1 nr c1, .slice a2 nm c2, .int .i64 ht, .slice a3 nb c3] 27))
  have VA := hid (vb_new w [.int .i64 pc, .slice a1 nr c1, .slice a2 nm c2, .int .i64 ht, .slice a3 nb c3] 27)
  have HB := HN
  rw [HN.out]
  cases c0 : vmB pc nr xs nm ys ht
  · have H := hid (show celB pc nr xs nm ys ht bs = false by simp [celB, c0])
    clear HN
    go_enter Try.func12, Try.ntmps12
    go_wp2_with ((first | (go_at_call 36; refine (specVmOk_any pc ht _ _ nr nm xs ys _ (R.out.keep B0.out) (M.out.keep B0.out)).mono ?_; rintro e w1 ⟨rfl, hb⟩; obtain ⟨q0, q1, q2, q3, q4⟩ := vb5 (VA.out.keep hb); have P1 := hid (B0.out.trans (hb.mono B0.out.size)); clear hb)))
    go_ret
    exact ⟨ret_bool H.out.symm, P1.out⟩
  by_cases c1 : nb ≤ 6
  · have d1 : decide ((nb : Int) ≤ 6) = true := by simp; omega
    have H := hid (show celB pc nr xs nm ys ht bs = true by simp [celB, c0, HN.out, c1])
    clear HN
    go_enter Try.func12, Try.ntmps12
    go_wp2_with ((first | (go_at_call 36; refine (specVmOk_any pc ht _ _ nr nm xs ys _ (R.out.keep B0.out) (M.out.keep B0.out)).mono ?_; rintro e w1 ⟨rfl, hb⟩; obtain ⟨q0, q1, q2, q3, q4⟩ := vb5 (VA.out.keep hb); have P1 := hid (B0.out.trans (hb.mono B0.out.size)); clear hb)))
    go_ret
    exact ⟨ret_bool H.out.symm, P1.out⟩
  · have d1 : decide ((nb : Int) ≤ 6) = false := by simp; omega
    have H := hid (show celB pc nr xs nm ys ht bs = false by simp [celB, c0, HN.out, c1])
    clear HN
    go_enter Try.func12, Try.ntmps12
    go_wp2_with ((first | (go_at_call 36; refine (specVmOk_any pc ht _ _ nr nm xs ys _ (R.out.keep B0.out) (M.out.keep B0.out)).mono ?_; rintro e w1 ⟨rfl, hb⟩; obtain ⟨q0, q1, q2, q3, q4⟩ := vb5 (VA.out.keep hb); have P1 := hid (B0.out.trans (hb.mono B0.out.size)); clear hb)))
    go_ret
    exact ⟨ret_bool H.out.symm, P1.out⟩
set_option maxHeartbeats 2000000 in
theorem celOk_any (pc ht : Int) (r m i : Value) (nr nm : Nat) (xs ys bs : List Int) (w : World) (hr : RdI 1 w r nr xs) (hm : RdI 1 w m nm ys) (hi : Rd w i bs) :
    Calls Try.prog 13 #[.agg #[.int .i64 pc, r, m, .int .i64 ht, i]] w fun e w' => e = .returned (.bool (celB pc nr xs nm ys ht bs)) ∧ Below w.heap.size w w' := by
  have R := hid hr
  have M := hid hm
  have I := hid hi
  obtain ⟨_, _, a1, c1, rfl, _⟩ := hr
  obtain ⟨_, _, a2, c2, rfl, _⟩ := hm
  obtain ⟨_, _, a3, c3, rfl, _⟩ := hi
  have B0 := hid (below_alloc1 w (.cells #[.int .i64 pc, .slice a1 nr c1, .slice a2 nm c2, .int .i64 ht, .slice a3 bs.length c3] 27))
  go_enter Try.func13, Try.ntmps13
  go_wp2_with fail
  refine (celOkm_any pc ht _ _ _ nr nm xs ys bs _ (R.out.keep B0.out) (M.out.keep B0.out) (I.out.keep B0.out)).mono ?_
  rintro x w1 ⟨rfl, hb⟩
  go_wp2
  go_ret
  exact ⟨rfl, B0.out.trans (hb.mono B0.out.size)⟩
set_option maxHeartbeats 1000000 in
theorem szBytes_any (a : Option Addr) (len cap : Nat) (left : Int) (w : World) (hl : len ≤ 9223372036854775807) (l0 : 0 ≤ left) (l1 : left ≤ 9223372036854775807) :
    Calls Try.prog 47 #[.slice a len cap, .int .i64 left] w fun e w' => e = .returned (.int .i64 (if left - len < 0 then -1 else left - len)) ∧ w' = w := by
  by_cases h : left - (len : Int) < 0
  · have d : decide (left - (len : Int) < 0) = true := by simpa using h
    rw [if_pos h]
    go_enter Try.func47, Try.ntmps47
    go_wp2
    go_ret
    exact ⟨rfl, rfl⟩
  · have d : decide (left - (len : Int) < 0) = false := by simpa using h
    rw [if_neg h]
    go_enter Try.func47, Try.ntmps47
    go_wp2
    go_ret
    exact ⟨rfl, rfl⟩
set_option maxHeartbeats 2000000 in
theorem szCell_any (pc ht : Int) (a1 a2 a3 : Option Addr) (nr nm nb c1 c2 c3 : Nat) (w : World) (h1 : nr ≤ 9223372036854775807) (h2 : nm ≤ 9223372036854775807) (h3 : nb ≤ 9223372036854775807) :
    Calls Try.prog 21 #[.agg #[.int .i64 pc, .slice a1 nr c1, .slice a2 nm c2, .int .i64 ht, .slice a3 nb c3], .int .i64 1048576] w fun e w' => e = .returned (.int .i64 (if nr + nm + nb ≤ 1048576 then 1048576 - nr - nm - nb else -1)) ∧ Below w.heap.size w w' := by
  have VA := hid (vb_new w [.int .i64 pc, .slice a1 nr c1, .slice a2 nm c2, .int .i64 ht, .slice a3 nb c3] 42)
  have B0 := hid (below_alloc1 w (.cells #[.int .i64 pc, .slice a1 nr c1, .slice a2 nm c2, .int .i64 ht, .slice a3 nb c3] 42))
  by_cases q1 : nr + nm ≤ 1048576
  · have E1 := hid (show (if (1048576 : Int) - nr < 0 then -1 else if (1048576 : Int) - nr - nm < 0 then -1 else (1048576 : Int) - nr - nm) = 1048576 - nr - nm by rw [if_neg (by omega), if_neg (by omega)])
    have d1 : decide ((1048576 : Int) - nr - nm < 0) = false := by simp; omega
    by_cases q2 : nr + nm + nb ≤ 1048576
    · rw [if_pos q2]
      have E2 := hid (show (if ((1048576 : Int) - nr - nm) - nb < 0 then -1 else ((1048576 : Int) - nr - nm) - nb) = 1048576 - nr - nm - nb by rw [if_neg (by omega)])
      have d2 : decide ((1048576 : Int) - nr - nm - nb < 0) = false := by simp; omega
      go_enter Try.func21, Try.ntmps21
      go_wp2_with fail
      refine (szVm_any pc ht a1 a2 nr nm c1 c2 1048576 _ h1 h2 (by omega) (by omega)).mono ?_
      rw [E1.out]
      rintro e w1 ⟨rfl, b1⟩
      obtain ⟨_, _, _, _, x4⟩ := vb5 (VA.out.keep b1)
      have P1 := hid (B0.out.trans (b1.mono B0.out.size))
      clear b1
      go_wp2_with fail
      refine (szBytes_any _ nb _ _ _ h3 (by omega) (by omega)).mono ?_
      rw [E2.out]
      rintro e w2 ⟨rfl, rfl⟩
      go_wp2
      go_ret
      exact ⟨rfl, P1.out⟩
    · rw [if_neg q2]
      have E2 := hid (show (if ((1048576 : Int) - nr - nm) - nb < 0 then -1 else ((1048576 : Int) - nr - nm) - nb) = -1 by rw [if_pos (by omega)])
      go_enter Try.func21, Try.ntmps21
      go_wp2_with fail
      refine (szVm_any pc ht a1 a2 nr nm c1 c2 1048576 _ h1 h2 (by omega) (by omega)).mono ?_
      rw [E1.out]
      rintro e w1 ⟨rfl, b1⟩
      obtain ⟨_, _, _, _, x4⟩ := vb5 (VA.out.keep b1)
      have P1 := hid (B0.out.trans (b1.mono B0.out.size))
      clear b1
      go_wp2_with fail
      refine (szBytes_any _ nb _ _ _ h3 (by omega) (by omega)).mono ?_
      rw [E2.out]
      rintro e w2 ⟨rfl, rfl⟩
      go_wp2
      go_ret
      exact ⟨rfl, P1.out⟩
  · rw [if_neg (by omega)]
    have E1 := hid (show (if (1048576 : Int) - nr < 0 then -1 else if (1048576 : Int) - nr - nm < 0 then -1 else (1048576 : Int) - nr - nm) = -1 by
      by_cases h : (1048576 : Int) - nr < 0
      · rw [if_pos h]
      · rw [if_neg h, if_pos (by omega)])
    go_enter Try.func21, Try.ntmps21
    go_wp2_with fail
    refine (szVm_any pc ht a1 a2 nr nm c1 c2 1048576 _ h1 h2 (by omega) (by omega)).mono ?_
    rw [E1.out]
    rintro e w1 ⟨rfl, b1⟩
    have P1 := hid (B0.out.trans (b1.mono B0.out.size))
    clear b1
    go_wp2
    go_ret
    exact ⟨rfl, P1.out⟩
end Go.Proofs.Ythhgjnhfidhmpaa
