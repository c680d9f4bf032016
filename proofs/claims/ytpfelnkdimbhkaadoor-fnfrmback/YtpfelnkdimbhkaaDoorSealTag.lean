/- The contracts of the look whether something may be sealed, and of SealTag of the program and of the specification. Conditions: head and body read as bytes. -/
import Derived.Test.YtpfelnkdimbhkaaDoorSealKey
import Derived.Test.YtpfelnkdimbhkaaDoorSealRaised
namespace Go.Proofs.YtpfelnkdimbhkaaDoor
open Go.ChangeShapes Go.WideShapes Go.ChangeAt Go.RowKit Go.Joins Go.Deep
set_option linter.unusedVariables false
set_option maxRecDepth 4000

/-- whether something may be sealed -/
def mayB (key seq : Int) (n m : Nat) : Bool := inB key 0 4294967295 && (inB seq 0 65535 && (decide (n ≤ 64) && decide (m ≤ 64)))
theorem mayB_iff {key seq : Int} {n m : Nat} : mayB key seq n m = true ↔ (0 ≤ key ∧ key ≤ 4294967295) ∧ (0 ≤ seq ∧ seq ≤ 65535) ∧ n ≤ 64 ∧ m ≤ 64 := by simp [mayB, inB]

set_option maxHeartbeats 1000000 in
theorem sealMay_any (key seq : Int) (a b : Option Addr) (n m c d : Nat) (w : World) (hn : n ≤ 2000000) (hm : m ≤ 2000000) :
    Calls Tryd.prog 49 #[.int .i64 key, .int .i64 seq, .slice a n c, .slice b m d] w fun e w' => e = .returned (.bool (mayB key seq n m)) ∧ w' = w := by
  cases h1 : inB key 0 4294967295
  · have H := hid (show mayB key seq n m = false by simp [mayB, h1])
    go_enter Tryd.func49, Tryd.ntmps49
    go_wp2_with (go_at_call 40; refine (within_any _ _ _ _).mono ?_; rintro e w' ⟨rfl, rfl⟩)
    go_ret
    exact ⟨ret_bool H.out.symm, rfl⟩
  cases h2 : inB seq 0 65535
  · have H := hid (show mayB key seq n m = false by simp [mayB, h2])
    go_enter Tryd.func49, Tryd.ntmps49
    go_wp2_with (go_at_call 40; refine (within_any _ _ _ _).mono ?_; rintro e w' ⟨rfl, rfl⟩)
    go_ret
    exact ⟨ret_bool H.out.symm, rfl⟩
  by_cases h3 : n ≤ 64
  · by_cases h4 : m ≤ 64
    · have H := hid (show mayB key seq n m = true by simp [mayB, h1, h2, h3, h4])
      have g3 : (n : Int) ≤ 64 := by omega
      have g4 : (m : Int) ≤ 64 := by omega
      have b3 : decide ((n : Int) ≤ 64) = true := by simpa using g3
      have b4 : decide ((m : Int) ≤ 64) = true := by simpa using g4
      go_enter Tryd.func49, Tryd.ntmps49
      go_wp2_with (go_at_call 40; refine (within_any _ _ _ _).mono ?_; rintro e w' ⟨rfl, rfl⟩)
      go_ret
      exact ⟨ret_bool H.out.symm, rfl⟩
    · have H := hid (show mayB key seq n m = false by simp [mayB, h4])
      have b3 : decide ((n : Int) ≤ 64) = true := by simp; omega
      have b4 : decide ((m : Int) ≤ 64) = false := by simp; omega
      go_enter Tryd.func49, Tryd.ntmps49
      go_wp2_with (go_at_call 40; refine (within_any _ _ _ _).mono ?_; rintro e w' ⟨rfl, rfl⟩)
      go_ret
      exact ⟨ret_bool H.out.symm, rfl⟩
  · have H := hid (show mayB key seq n m = false by simp [mayB, h3])
    have b3 : decide ((n : Int) ≤ 64) = false := by simp; omega
    go_enter Tryd.func49, Tryd.ntmps49
    go_wp2_with (go_at_call 40; refine (within_any _ _ _ _).mono ?_; rintro e w' ⟨rfl, rfl⟩)
    go_ret
    exact ⟨ret_bool H.out.symm, rfl⟩

set_option maxHeartbeats 1000000 in
theorem l3Ok_any (key seq : Int) (a b : Option Addr) (n m c d : Nat) (w : World) (hn : n ≤ 2000000) (hm : m ≤ 2000000) :
    Calls Tryd.prog 51 #[.int .i64 key, .int .i64 seq, .slice a n c, .slice b m d] w fun e w' => e = .returned (.bool (mayB key seq n m)) ∧ w' = w := by
  cases h1 : inB key 0 4294967295
  · have H := hid (show mayB key seq n m = false by simp [mayB, h1])
    go_enter Tryd.func51, Tryd.ntmps51
    go_wp2_with (go_at_call 42; refine (l1In_any _ _ _ _).mono ?_; rintro e w' ⟨rfl, rfl⟩)
    go_ret
    exact ⟨ret_bool H.out.symm, rfl⟩
  cases h2 : inB seq 0 65535
  · have H := hid (show mayB key seq n m = false by simp [mayB, h2])
    go_enter Tryd.func51, Tryd.ntmps51
    go_wp2_with (go_at_call 42; refine (l1In_any _ _ _ _).mono ?_; rintro e w' ⟨rfl, rfl⟩)
    go_ret
    exact ⟨ret_bool H.out.symm, rfl⟩
  by_cases h3 : n ≤ 64
  · by_cases h4 : m ≤ 64
    · have H := hid (show mayB key seq n m = true by simp [mayB, h1, h2, h3, h4])
      have g3 : (n : Int) ≤ 64 := by omega
      have g4 : (m : Int) ≤ 64 := by omega
      have b3 : decide ((n : Int) ≤ 64) = true := by simpa using g3
      have b4 : decide ((m : Int) ≤ 64) = true := by simpa using g4
      go_enter Tryd.func51, Tryd.ntmps51
      go_wp2_with (go_at_call 42; refine (l1In_any _ _ _ _).mono ?_; rintro e w' ⟨rfl, rfl⟩)
      go_ret
      exact ⟨ret_bool H.out.symm, rfl⟩
    · have H := hid (show mayB key seq n m = false by simp [mayB, h4])
      have b3 : decide ((n : Int) ≤ 64) = true := by simp; omega
      have b4 : decide ((m : Int) ≤ 64) = false := by simp; omega
      go_enter Tryd.func51, Tryd.ntmps51
      go_wp2_with (go_at_call 42; refine (l1In_any _ _ _ _).mono ?_; rintro e w' ⟨rfl, rfl⟩)
      go_ret
      exact ⟨ret_bool H.out.symm, rfl⟩
  · have H := hid (show mayB key seq n m = false by simp [mayB, h3])
    have b3 : decide ((n : Int) ≤ 64) = false := by simp; omega
    go_enter Tryd.func51, Tryd.ntmps51
    go_wp2_with (go_at_call 42; refine (l1In_any _ _ _ _).mono ?_; rintro e w' ⟨rfl, rfl⟩)
    go_ret
    exact ⟨ret_bool H.out.symm, rfl⟩
end Go.Proofs.YtpfelnkdimbhkaaDoor
