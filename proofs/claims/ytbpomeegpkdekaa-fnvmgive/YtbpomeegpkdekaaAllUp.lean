/- Whether all of a list lie within a bound: the contract of the program's allUpTo. Condition: the list reads as ints. -/
import Derived.Test.YtbpomeegpkdekaaIntS
import Derived.Test.YtbpomeegpkdekaaInBase
namespace Go.Proofs.Ytbpomeegpkdekaa
open Go.ChangeShapes Go.WideShapes Go.ChangeAt Go.RowKit Go.Joins Go.Deep
set_option linter.unusedVariables false
set_option maxRecDepth 4000

theorem all_take_succ (ys : List Int) (p : Int → Bool) (k : Nat) (h : k < ys.length) : (ys.take (k + 1)).all p = ((ys.take k).all p && p (ys.getD k 0)) := by
  rw [List.take_succ_eq_append_getElem h, List.all_append]; simp [h]
theorem mem_getD {ys : List Int} {k : Nat} (h : k < ys.length) : ys.getD k 0 ∈ ys := by rw [List.getD_eq_getElem?_getD, List.getElem?_eq_getElem h]; exact List.getElem_mem h
set_option maxHeartbeats 1000000 in
theorem allUpTo_any (hi : Int) (v : Value) (n : Nat) (ys : List Int) (w : World) (hv : RdI 1 w v n ys) :
    Calls Try.prog 63 #[.int .i64 hi, v] w fun e w' => e = .returned (.bool (ys.all fun y => inB y 0 hi)) ∧ w' = w := by
  obtain ⟨h1, h2, a, cap, rfl, h3⟩ := hv
  rw [Nat.mul_one] at h1
  go_enter Try.func63, Try.ntmps63
  go_wp2_with fail
  go_loop [9] (fun i => ∃ k : Nat, k ≤ n ∧ i = .int .i64 k ∧ (ys.take k).all (fun y => inB y 0 hi) = true) (fun i => n - (intOf i).toNat)
  case atStart => exact ⟨0, Nat.zero_le _, rfl, rfl⟩
  case round =>
    obtain ⟨k, hk, rfl, hall⟩ := hrel
    by_cases hlt : k < n
    · rcases h3 with h3 | ⟨b, off, rfl, hc⟩
      · omega
      have hcx := hc k (by omega)
      have HS := hid (all_take_succ ys (fun y => inB y 0 hi) k (by omega))
      have HM := hid (mem_getD (ys := ys) (k := k) (by omega))
      have HA := hid hall
      obtain ⟨y, hy⟩ : ∃ y, y = ys.getD k 0 := ⟨_, rfl⟩
      rw [← hy] at hcx
      have HY := hid hy
      clear hc hall hy
      cases hb : inB y 0 hi
      · go_wp2_with (go_at_call 62; refine (within_any _ _ _ _).mono ?_; rintro e w' ⟨rfl, rfl⟩)
        go_ret
        refine ⟨ret_bool ?_, rfl⟩
        have h2 : inB (ys.getD k 0) 0 hi = false := by rw [← HY.out]; exact hb
        exact (List.all_eq_false.2 ⟨_, HM.out, by rw [h2]; decide⟩).symm
      · go_wp2_with (go_at_call 62; refine (within_any _ _ _ _).mono ?_; rintro e w' ⟨rfl, rfl⟩)
        go_round
        case rel =>
          refine ⟨k + 1, by omega, by go_num, ?_⟩
          rw [HS.out, HA.out]
          show inB (ys.getD k 0) 0 hi = true
          rw [← HY.out]; exact hb
        case measure => simp [intOf]; omega
    · obtain rfl : k = n := by omega
      rw [← h1, List.take_length] at hall
      have HA := hid hall
      clear hall h3
      go_wp2
      go_ret
      exact ⟨ret_bool HA.out.symm, rfl⟩

end Go.Proofs.Ytbpomeegpkdekaa
