/- Whether a machine is ok: the contracts of the program and of the specification; the laws' toVmState and szVmState. Conditions: the lists read as ints. -/
import Derived.Test.YtbpomeegpkdekaaVmBase
import Derived.Test.YtbpomeegpkdekaaAllUp
namespace Go.Proofs.Ytbpomeegpkdekaa
open Go.ChangeShapes Go.WideShapes Go.ChangeAt Go.RowKit Go.Joins Go.Deep
set_option linter.unusedVariables false
set_option maxRecDepth 4000

/-- all are bytes -/
def bytesB (xs : List Int) : Bool := xs.all fun y => inB y 0 255

set_option maxHeartbeats 1000000 in
theorem bytes6_no (v : Value) (n : Nat) (m : Int) (ys : List Int) (w : World) (hv : RdI 1 w v n ys) (hm : ¬ (n : Int) = m) :
    Calls Try.prog 60 #[v, .int .i64 m] w fun e w' => e = .returned (.bool false) ∧ w' = w := by
  obtain ⟨h1, h2, a, cap, rfl, h3⟩ := hv
  have d : ((n : Int) != m) = true := by simpa using hm
  clear h3 h1
  go_enter Try.func60, Try.ntmps60
  go_wp2
  go_ret
  exact ⟨rfl, rfl⟩

set_option maxHeartbeats 1000000 in
theorem bytes6_any (v : Value) (n : Nat) (ys : List Int) (w : World) (hv : RdI 1 w v n ys) :
    Calls Try.prog 60 #[v, .int .i64 (n : Int)] w fun e w' => e = .returned (.bool (bytesB ys)) ∧ w' = w := by
  obtain ⟨h1, h2, a, cap, rfl, h3⟩ := hv
  rw [Nat.mul_one] at h1
  go_enter Try.func60, Try.ntmps60
  go_wp2_with fail
  go_loop [5] (fun i => ∃ k : Nat, k ≤ n ∧ i = .int .i64 k ∧ (ys.take k).all (fun y => inB y 0 255) = true) (fun i => n - (intOf i).toNat)
  case atStart => exact ⟨0, Nat.zero_le _, rfl, rfl⟩
  case round =>
    obtain ⟨k, hk, rfl, hall⟩ := hrel
    by_cases hlt : k < n
    · rcases h3 with h3 | ⟨b, off, rfl, hc⟩
      · omega
      have hcx := hc k (by omega)
      have HS := hid (all_take_succ ys (fun y => inB y 0 255) k (by omega))
      have HM := hid (mem_getD (ys := ys) (k := k) (by omega))
      have HA := hid hall
      obtain ⟨y, hy⟩ : ∃ y, y = ys.getD k 0 := ⟨_, rfl⟩
      rw [← hy] at hcx
      have HY := hid hy
      clear hc hall hy
      cases hb : inB y 0 255
      · go_wp2_with (go_at_call 59; refine (l1In_any _ _ _ _).mono ?_; rintro e w' ⟨rfl, rfl⟩)
        go_ret
        refine ⟨ret_bool ?_, rfl⟩
        have h2 : inB (ys.getD k 0) 0 255 = false := by rw [← HY.out]; exact hb
        exact (List.all_eq_false.2 ⟨_, HM.out, by rw [h2]; decide⟩).symm
      · go_wp2_with (go_at_call 59; refine (l1In_any _ _ _ _).mono ?_; rintro e w' ⟨rfl, rfl⟩)
        go_round
        case rel =>
          refine ⟨k + 1, by omega, by go_num, ?_⟩
          rw [HS.out, HA.out]
          show inB (ys.getD k 0) 0 255 = true
          rw [← HY.out]; exact hb
        case measure => simp [intOf]; omega
    · obtain rfl : k = n := by omega
      rw [← h1, List.take_length] at hall
      have HA := hid hall
      clear hall h3
      go_wp2
      go_ret
      exact ⟨ret_bool HA.out.symm, rfl⟩

/-- whether a machine is ok -/
def vmB (pc : Int) (nr : Nat) (xs : List Int) (nm : Nat) (ys : List Int) (ht : Int) : Bool := inB pc 0 24 && (nr == 4 && (bytesB xs && (nm == 8 && (bytesB ys && inB ht 0 2))))

set_option maxHeartbeats 2000000 in
theorem vmOk_any (pc ht : Int) (r m : Value) (nr nm : Nat) (xs ys : List Int) (w : World) (hr : RdI 1 w r nr xs) (hm : RdI 1 w m nm ys) :
    Calls Try.prog 19 #[.agg #[.int .i64 pc, r, m, .int .i64 ht]] w fun e w' => e = .returned (.bool (vmB pc nr xs nm ys ht)) ∧ Below w.heap.size w w' := by
  have RR0 := hid hr
  have RM0 := hid hm
  obtain ⟨_, n1, a1, c1, rfl, _⟩ := hr
  obtain ⟨_, n2, a2, c2, rfl, _⟩ := hm
  have RR := hid (RR0.out.keep (below_alloc1 w (.cells #[.int .i64 pc, .slice a1 nr c1, .slice a2 nm c2, .int .i64 ht] 25)))
  have RM := hid (RM0.out.keep (below_alloc1 w (.cells #[.int .i64 pc, .slice a1 nr c1, .slice a2 nm c2, .int .i64 ht] 25)))
  cases c0 : (inB pc 0 24)
  · have H := hid (show vmB pc nr xs nm ys ht = false by simp [vmB, c0])
    go_enter Try.func19, Try.ntmps19
    go_wp2_with ((first | (go_at_call 62; refine (within_any _ _ _ _).mono ?_; rintro e w' ⟨rfl, rfl⟩) | (go_at_call 63; refine (allUpTo_any 255 _ _ xs _ RR.out).mono ?_; clear RR; rintro e w' ⟨rfl, rfl⟩; try (rw [show (xs.all fun y => inB y 0 255) = bytesB xs from rfl, c2])) | (go_at_call 63; refine (allUpTo_any 255 _ _ ys _ RM.out).mono ?_; rintro e w' ⟨rfl, rfl⟩; try (rw [show (ys.all fun y => inB y 0 255) = bytesB ys from rfl, c4]))))
    go_ret
    exact ⟨ret_bool H.out.symm, below_alloc1 _ _⟩
  cases c1 : (nr == 4)
  · have H := hid (show vmB pc nr xs nm ys ht = false by simp [vmB, c1])
    have d1 : ((nr : Int) == 4) = false := by simp at c1; simpa using (by omega : ¬ (nr : Int) = 4)
    have e1 : ¬ (nr : Int) = 4 := by simp at c1; omega
    go_enter Try.func19, Try.ntmps19
    go_wp2_with ((first | (go_at_call 62; refine (within_any _ _ _ _).mono ?_; rintro e w' ⟨rfl, rfl⟩) | (go_at_call 63; refine (allUpTo_any 255 _ _ xs _ RR.out).mono ?_; clear RR; rintro e w' ⟨rfl, rfl⟩; try (rw [show (xs.all fun y => inB y 0 255) = bytesB xs from rfl, c2])) | (go_at_call 63; refine (allUpTo_any 255 _ _ ys _ RM.out).mono ?_; rintro e w' ⟨rfl, rfl⟩; try (rw [show (ys.all fun y => inB y 0 255) = bytesB ys from rfl, c4]))))
    go_ret
    exact ⟨ret_bool H.out.symm, below_alloc1 _ _⟩
  obtain rfl : nr = 4 := by simpa using c1
  cases c2 : (bytesB xs)
  · have H := hid (show vmB pc 4 xs nm ys ht = false by simp [vmB, c2])
    go_enter Try.func19, Try.ntmps19
    go_wp2_with ((first | (go_at_call 62; refine (within_any _ _ _ _).mono ?_; rintro e w' ⟨rfl, rfl⟩) | (go_at_call 63; refine (allUpTo_any 255 _ _ xs _ RR.out).mono ?_; clear RR; rintro e w' ⟨rfl, rfl⟩; try (rw [show (xs.all fun y => inB y 0 255) = bytesB xs from rfl, c2])) | (go_at_call 63; refine (allUpTo_any 255 _ _ ys _ RM.out).mono ?_; rintro e w' ⟨rfl, rfl⟩; try (rw [show (ys.all fun y => inB y 0 255) = bytesB ys from rfl, c4]))))
    go_ret
    exact ⟨ret_bool H.out.symm, below_alloc1 _ _⟩
  cases c3 : (nm == 8)
  · have H := hid (show vmB pc 4 xs nm ys ht = false by simp [vmB, c3])
    have d3 : ((nm : Int) == 8) = false := by simp at c3; simpa using (by omega : ¬ (nm : Int) = 8)
    have e3 : ¬ (nm : Int) = 8 := by simp at c3; omega
    go_enter Try.func19, Try.ntmps19
    go_wp2_with ((first | (go_at_call 62; refine (within_any _ _ _ _).mono ?_; rintro e w' ⟨rfl, rfl⟩) | (go_at_call 63; refine (allUpTo_any 255 _ _ xs _ RR.out).mono ?_; clear RR; rintro e w' ⟨rfl, rfl⟩; try (rw [show (xs.all fun y => inB y 0 255) = bytesB xs from rfl, c2])) | (go_at_call 63; refine (allUpTo_any 255 _ _ ys _ RM.out).mono ?_; rintro e w' ⟨rfl, rfl⟩; try (rw [show (ys.all fun y => inB y 0 255) = bytesB ys from rfl, c4]))))
    go_ret
    exact ⟨ret_bool H.out.symm, below_alloc1 _ _⟩
  obtain rfl : nm = 8 := by simpa using c3
  cases c4 : (bytesB ys)
  · have H := hid (show vmB pc 4 xs 8 ys ht = false by simp [vmB, c4])
    go_enter Try.func19, Try.ntmps19
    go_wp2_with ((first | (go_at_call 62; refine (within_any _ _ _ _).mono ?_; rintro e w' ⟨rfl, rfl⟩) | (go_at_call 63; refine (allUpTo_any 255 _ _ xs _ RR.out).mono ?_; clear RR; rintro e w' ⟨rfl, rfl⟩; try (rw [show (xs.all fun y => inB y 0 255) = bytesB xs from rfl, c2])) | (go_at_call 63; refine (allUpTo_any 255 _ _ ys _ RM.out).mono ?_; rintro e w' ⟨rfl, rfl⟩; try (rw [show (ys.all fun y => inB y 0 255) = bytesB ys from rfl, c4]))))
    go_ret
    exact ⟨ret_bool H.out.symm, below_alloc1 _ _⟩
  cases c5 : (inB ht 0 2)
  · have H := hid (show vmB pc 4 xs 8 ys ht = false by simp [vmB, c5])
    go_enter Try.func19, Try.ntmps19
    go_wp2_with ((first | (go_at_call 62; refine (within_any _ _ _ _).mono ?_; rintro e w' ⟨rfl, rfl⟩) | (go_at_call 63; refine (allUpTo_any 255 _ _ xs _ RR.out).mono ?_; clear RR; rintro e w' ⟨rfl, rfl⟩; try (rw [show (xs.all fun y => inB y 0 255) = bytesB xs from rfl, c2])) | (go_at_call 63; refine (allUpTo_any 255 _ _ ys _ RM.out).mono ?_; rintro e w' ⟨rfl, rfl⟩; try (rw [show (ys.all fun y => inB y 0 255) = bytesB ys from rfl, c4]))))
    go_ret
    exact ⟨ret_bool H.out.symm, below_alloc1 _ _⟩
  have H := hid (show vmB pc 4 xs 8 ys ht = true by simp [vmB, c0, c2, c4, c5])
  go_enter Try.func19, Try.ntmps19
  go_wp2_with ((first | (go_at_call 62; refine (within_any _ _ _ _).mono ?_; rintro e w' ⟨rfl, rfl⟩) | (go_at_call 63; refine (allUpTo_any 255 _ _ xs _ RR.out).mono ?_; clear RR; rintro e w' ⟨rfl, rfl⟩; try (rw [show (xs.all fun y => inB y 0 255) = bytesB xs from rfl, c2])) | (go_at_call 63; refine (allUpTo_any 255 _ _ ys _ RM.out).mono ?_; rintro e w' ⟨rfl, rfl⟩; try (rw [show (ys.all fun y => inB y 0 255) = bytesB ys from rfl, c4]))))
  go_ret
  exact ⟨ret_bool H.out.symm, below_alloc1 _ _⟩

set_option maxHeartbeats 2000000 in
theorem specVmOk_any (pc ht : Int) (r m : Value) (nr nm : Nat) (xs ys : List Int) (w : World) (hr : RdI 1 w r nr xs) (hm : RdI 1 w m nm ys) :
    Calls Try.prog 17 #[.agg #[.int .i64 pc, r, m, .int .i64 ht]] w fun e w' => e = .returned (.bool (vmB pc nr xs nm ys ht)) ∧ Below w.heap.size w w' := by
  have RR0 := hid hr
  have RM0 := hid hm
  obtain ⟨_, n1, a1, c1, rfl, _⟩ := hr
  obtain ⟨_, n2, a2, c2, rfl, _⟩ := hm
  have RR := hid (RR0.out.keep (below_alloc1 w (.cells #[.int .i64 pc, .slice a1 nr c1, .slice a2 nm c2, .int .i64 ht] 25)))
  have RM := hid (RM0.out.keep (below_alloc1 w (.cells #[.int .i64 pc, .slice a1 nr c1, .slice a2 nm c2, .int .i64 ht] 25)))
  cases c0 : (inB pc 0 24)
  · have H := hid (show vmB pc nr xs nm ys ht = false by simp [vmB, c0])
    go_enter Try.func17, Try.ntmps17
    go_wp2_with ((first | (go_at_call 59; refine (l1In_any _ _ _ _).mono ?_; rintro e w' ⟨rfl, rfl⟩) | (go_at_call 60; refine (bytes6_any _ 4 xs _ RR.out).mono ?_; clear RR; rintro e w' ⟨rfl, rfl⟩) | (go_at_call 60; refine (bytes6_any _ 8 ys _ RM.out).mono ?_; rintro e w' ⟨rfl, rfl⟩)))
    go_ret
    exact ⟨ret_bool H.out.symm, below_alloc1 _ _⟩
  cases c1 : (nr == 4)
  · have H := hid (show vmB pc nr xs nm ys ht = false by simp [vmB, c1])
    have d1 : ((nr : Int) == 4) = false := by simp at c1; simpa using (by omega : ¬ (nr : Int) = 4)
    have e1 : ¬ (nr : Int) = 4 := by simp at c1; omega
    go_enter Try.func17, Try.ntmps17
    go_wp2_with ((first | (go_at_call 59; refine (l1In_any _ _ _ _).mono ?_; rintro e w' ⟨rfl, rfl⟩) | (go_at_call 60; refine (bytes6_no _ nr 4 xs _ RR.out e1).mono ?_; clear RR; rintro e w' ⟨rfl, rfl⟩) | (go_at_call 60; refine (bytes6_any _ 8 ys _ RM.out).mono ?_; rintro e w' ⟨rfl, rfl⟩)))
    go_ret
    exact ⟨ret_bool H.out.symm, below_alloc1 _ _⟩
  obtain rfl : nr = 4 := by simpa using c1
  cases c2 : (bytesB xs)
  · have H := hid (show vmB pc 4 xs nm ys ht = false by simp [vmB, c2])
    go_enter Try.func17, Try.ntmps17
    go_wp2_with ((first | (go_at_call 59; refine (l1In_any _ _ _ _).mono ?_; rintro e w' ⟨rfl, rfl⟩) | (go_at_call 60; refine (bytes6_any _ 4 xs _ RR.out).mono ?_; clear RR; rintro e w' ⟨rfl, rfl⟩) | (go_at_call 60; refine (bytes6_any _ 8 ys _ RM.out).mono ?_; rintro e w' ⟨rfl, rfl⟩)))
    go_ret
    exact ⟨ret_bool H.out.symm, below_alloc1 _ _⟩
  cases c3 : (nm == 8)
  · have H := hid (show vmB pc 4 xs nm ys ht = false by simp [vmB, c3])
    have d3 : ((nm : Int) == 8) = false := by simp at c3; simpa using (by omega : ¬ (nm : Int) = 8)
    have e3 : ¬ (nm : Int) = 8 := by simp at c3; omega
    go_enter Try.func17, Try.ntmps17
    go_wp2_with ((first | (go_at_call 59; refine (l1In_any _ _ _ _).mono ?_; rintro e w' ⟨rfl, rfl⟩) | (go_at_call 60; refine (bytes6_any _ 4 xs _ RR.out).mono ?_; clear RR; rintro e w' ⟨rfl, rfl⟩) | (go_at_call 60; refine (bytes6_no _ nm 8 ys _ RM.out e3).mono ?_; rintro e w' ⟨rfl, rfl⟩)))
    go_ret
    exact ⟨ret_bool H.out.symm, below_alloc1 _ _⟩
  obtain rfl : nm = 8 := by simpa using c3
  cases c4 : (bytesB ys)
  · have H := hid (show vmB pc 4 xs 8 ys ht = false by simp [vmB, c4])
    go_enter Try.func17, Try.ntmps17
    go_wp2_with ((first | (go_at_call 59; refine (l1In_any _ _ _ _).mono ?_; rintro e w' ⟨rfl, rfl⟩) | (go_at_call 60; refine (bytes6_any _ 4 xs _ RR.out).mono ?_; clear RR; rintro e w' ⟨rfl, rfl⟩) | (go_at_call 60; refine (bytes6_any _ 8 ys _ RM.out).mono ?_; rintro e w' ⟨rfl, rfl⟩)))
    go_ret
    exact ⟨ret_bool H.out.symm, below_alloc1 _ _⟩
  cases c5 : (inB ht 0 2)
  · have H := hid (show vmB pc 4 xs 8 ys ht = false by simp [vmB, c5])
    go_enter Try.func17, Try.ntmps17
    go_wp2_with ((first | (go_at_call 59; refine (l1In_any _ _ _ _).mono ?_; rintro e w' ⟨rfl, rfl⟩) | (go_at_call 60; refine (bytes6_any _ 4 xs _ RR.out).mono ?_; clear RR; rintro e w' ⟨rfl, rfl⟩) | (go_at_call 60; refine (bytes6_any _ 8 ys _ RM.out).mono ?_; rintro e w' ⟨rfl, rfl⟩)))
    go_ret
    exact ⟨ret_bool H.out.symm, below_alloc1 _ _⟩
  have H := hid (show vmB pc 4 xs 8 ys ht = true by simp [vmB, c0, c2, c4, c5])
  go_enter Try.func17, Try.ntmps17
  go_wp2_with ((first | (go_at_call 59; refine (l1In_any _ _ _ _).mono ?_; rintro e w' ⟨rfl, rfl⟩) | (go_at_call 60; refine (bytes6_any _ 4 xs _ RR.out).mono ?_; clear RR; rintro e w' ⟨rfl, rfl⟩) | (go_at_call 60; refine (bytes6_any _ 8 ys _ RM.out).mono ?_; rintro e w' ⟨rfl, rfl⟩)))
  go_ret
  exact ⟨ret_bool H.out.symm, below_alloc1 _ _⟩
end Go.Proofs.Ytbpomeegpkdekaa
