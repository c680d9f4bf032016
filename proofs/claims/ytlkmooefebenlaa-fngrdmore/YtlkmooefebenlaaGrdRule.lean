/- Rules of a guard: whether one is ok, the contracts of the program and of the specification; whether one fits a message. Conditions: the message's value reads as bytes. -/
import Derived.Test.YtlkmooefebenlaaInBase
import Derived.Test.YtlkmooefebenlaaAggInts
import Derived.Test.YtlkmooefebenlaaBytMsg
namespace Go.Proofs.Ytlkmooefebenlaa
open Go.ChangeShapes Go.WideShapes Go.ChangeAt Go.RowKit Go.Joins
set_option linter.unusedVariables false
set_option maxRecDepth 4000

/-- whether a rule is ok -/
def ruleB (mi ma t lo hi z c : Int) : Bool := inB mi 0 8 && (inB ma mi 8 && (inB t (-1) 7 && (inB lo 0 255 && (inB hi lo 255 && (inB z (-1) 7 && (inB c 0 8))))))

set_option maxHeartbeats 1000000 in
theorem ruleOk_any (mi ma t lo hi z c : Int) (w : World) :
    Calls Try.prog 71 #[.agg #[.int .i64 mi, .int .i64 ma, .int .i64 t, .int .i64 lo, .int .i64 hi, .int .i64 z, .int .i64 c]] w fun x w' => x = .returned (.bool (ruleB mi ma t lo hi z c)) ∧ Below w.heap.size w w' := by
  cases c0 : (inB mi 0 8)
  · have H := hid (show ruleB mi ma t lo hi z c = false by simp [ruleB, c0])
    go_enter Try.func71, Try.ntmps71
    go_wp2_with ((go_at_call 53; refine (within_any _ _ _ _).mono ?_; rintro e w' ⟨rfl, rfl⟩))
    go_ret
    exact ⟨ret_bool H.out.symm, by (repeat' (first | exact Below.refl _ _ | assumption | exact Nat.le_refl _ | (refine Below.alloc ?_ ?_ _) | (refine Below.drew ?_) | (refine Below.setCell ?_ ?_ _) | (refine Below.trans ?_ (Below.mono (by assumption) ?_)) | (simp; done) | (simp; omega) | omega))⟩
  cases c1 : (inB ma mi 8)
  · have H := hid (show ruleB mi ma t lo hi z c = false by simp [ruleB, c1])
    go_enter Try.func71, Try.ntmps71
    go_wp2_with ((go_at_call 53; refine (within_any _ _ _ _).mono ?_; rintro e w' ⟨rfl, rfl⟩))
    go_ret
    exact ⟨ret_bool H.out.symm, by (repeat' (first | exact Below.refl _ _ | assumption | exact Nat.le_refl _ | (refine Below.alloc ?_ ?_ _) | (refine Below.drew ?_) | (refine Below.setCell ?_ ?_ _) | (refine Below.trans ?_ (Below.mono (by assumption) ?_)) | (simp; done) | (simp; omega) | omega))⟩
  cases c2 : (inB t (-1) 7)
  · have H := hid (show ruleB mi ma t lo hi z c = false by simp [ruleB, c2])
    go_enter Try.func71, Try.ntmps71
    go_wp2_with ((go_at_call 53; refine (within_any _ _ _ _).mono ?_; rintro e w' ⟨rfl, rfl⟩))
    go_ret
    exact ⟨ret_bool H.out.symm, by (repeat' (first | exact Below.refl _ _ | assumption | exact Nat.le_refl _ | (refine Below.alloc ?_ ?_ _) | (refine Below.drew ?_) | (refine Below.setCell ?_ ?_ _) | (refine Below.trans ?_ (Below.mono (by assumption) ?_)) | (simp; done) | (simp; omega) | omega))⟩
  cases c3 : (inB lo 0 255)
  · have H := hid (show ruleB mi ma t lo hi z c = false by simp [ruleB, c3])
    go_enter Try.func71, Try.ntmps71
    go_wp2_with ((go_at_call 53; refine (within_any _ _ _ _).mono ?_; rintro e w' ⟨rfl, rfl⟩))
    go_ret
    exact ⟨ret_bool H.out.symm, by (repeat' (first | exact Below.refl _ _ | assumption | exact Nat.le_refl _ | (refine Below.alloc ?_ ?_ _) | (refine Below.drew ?_) | (refine Below.setCell ?_ ?_ _) | (refine Below.trans ?_ (Below.mono (by assumption) ?_)) | (simp; done) | (simp; omega) | omega))⟩
  cases c4 : (inB hi lo 255)
  · have H := hid (show ruleB mi ma t lo hi z c = false by simp [ruleB, c4])
    go_enter Try.func71, Try.ntmps71
    go_wp2_with ((go_at_call 53; refine (within_any _ _ _ _).mono ?_; rintro e w' ⟨rfl, rfl⟩))
    go_ret
    exact ⟨ret_bool H.out.symm, by (repeat' (first | exact Below.refl _ _ | assumption | exact Nat.le_refl _ | (refine Below.alloc ?_ ?_ _) | (refine Below.drew ?_) | (refine Below.setCell ?_ ?_ _) | (refine Below.trans ?_ (Below.mono (by assumption) ?_)) | (simp; done) | (simp; omega) | omega))⟩
  cases c5 : (inB z (-1) 7)
  · have H := hid (show ruleB mi ma t lo hi z c = false by simp [ruleB, c5])
    go_enter Try.func71, Try.ntmps71
    go_wp2_with ((go_at_call 53; refine (within_any _ _ _ _).mono ?_; rintro e w' ⟨rfl, rfl⟩))
    go_ret
    exact ⟨ret_bool H.out.symm, by (repeat' (first | exact Below.refl _ _ | assumption | exact Nat.le_refl _ | (refine Below.alloc ?_ ?_ _) | (refine Below.drew ?_) | (refine Below.setCell ?_ ?_ _) | (refine Below.trans ?_ (Below.mono (by assumption) ?_)) | (simp; done) | (simp; omega) | omega))⟩
  cases c6 : (inB c 0 8)
  · have H := hid (show ruleB mi ma t lo hi z c = false by simp [ruleB, c6])
    go_enter Try.func71, Try.ntmps71
    go_wp2_with ((go_at_call 53; refine (within_any _ _ _ _).mono ?_; rintro e w' ⟨rfl, rfl⟩))
    go_ret
    exact ⟨ret_bool H.out.symm, by (repeat' (first | exact Below.refl _ _ | assumption | exact Nat.le_refl _ | (refine Below.alloc ?_ ?_ _) | (refine Below.drew ?_) | (refine Below.setCell ?_ ?_ _) | (refine Below.trans ?_ (Below.mono (by assumption) ?_)) | (simp; done) | (simp; omega) | omega))⟩
  have H := hid (show ruleB mi ma t lo hi z c = true by simp [ruleB, c0, c1, c2, c3, c4, c5, c6])
  go_enter Try.func71, Try.ntmps71
  go_wp2_with ((go_at_call 53; refine (within_any _ _ _ _).mono ?_; rintro e w' ⟨rfl, rfl⟩))
  go_ret
  exact ⟨ret_bool H.out.symm, by (repeat' (first | exact Below.refl _ _ | assumption | exact Nat.le_refl _ | (refine Below.alloc ?_ ?_ _) | (refine Below.drew ?_) | (refine Below.setCell ?_ ?_ _) | (refine Below.trans ?_ (Below.mono (by assumption) ?_)) | (simp; done) | (simp; omega) | omega))⟩

set_option maxHeartbeats 1000000 in
theorem specRule_any (mi ma t lo hi z c : Int) (w : World) :
    Calls Try.prog 36 #[.agg #[.int .i64 mi, .int .i64 ma, .int .i64 t, .int .i64 lo, .int .i64 hi, .int .i64 z, .int .i64 c]] w fun x w' => x = .returned (.bool (ruleB mi ma t lo hi z c)) ∧ Below w.heap.size w w' := by
  cases c0 : (inB mi 0 8)
  · have H := hid (show ruleB mi ma t lo hi z c = false by simp [ruleB, c0])
    go_enter Try.func36, Try.ntmps36
    go_wp2_with ((go_at_call 54; refine (l1In_any _ _ _ _).mono ?_; rintro e w' ⟨rfl, rfl⟩))
    go_ret
    exact ⟨ret_bool H.out.symm, by (repeat' (first | exact Below.refl _ _ | assumption | exact Nat.le_refl _ | (refine Below.alloc ?_ ?_ _) | (refine Below.drew ?_) | (refine Below.setCell ?_ ?_ _) | (refine Below.trans ?_ (Below.mono (by assumption) ?_)) | (simp; done) | (simp; omega) | omega))⟩
  cases c1 : (inB ma mi 8)
  · have H := hid (show ruleB mi ma t lo hi z c = false by simp [ruleB, c1])
    go_enter Try.func36, Try.ntmps36
    go_wp2_with ((go_at_call 54; refine (l1In_any _ _ _ _).mono ?_; rintro e w' ⟨rfl, rfl⟩))
    go_ret
    exact ⟨ret_bool H.out.symm, by (repeat' (first | exact Below.refl _ _ | assumption | exact Nat.le_refl _ | (refine Below.alloc ?_ ?_ _) | (refine Below.drew ?_) | (refine Below.setCell ?_ ?_ _) | (refine Below.trans ?_ (Below.mono (by assumption) ?_)) | (simp; done) | (simp; omega) | omega))⟩
  cases c2 : (inB t (-1) 7)
  · have H := hid (show ruleB mi ma t lo hi z c = false by simp [ruleB, c2])
    go_enter Try.func36, Try.ntmps36
    go_wp2_with ((go_at_call 54; refine (l1In_any _ _ _ _).mono ?_; rintro e w' ⟨rfl, rfl⟩))
    go_ret
    exact ⟨ret_bool H.out.symm, by (repeat' (first | exact Below.refl _ _ | assumption | exact Nat.le_refl _ | (refine Below.alloc ?_ ?_ _) | (refine Below.drew ?_) | (refine Below.setCell ?_ ?_ _) | (refine Below.trans ?_ (Below.mono (by assumption) ?_)) | (simp; done) | (simp; omega) | omega))⟩
  cases c3 : (inB lo 0 255)
  · have H := hid (show ruleB mi ma t lo hi z c = false by simp [ruleB, c3])
    go_enter Try.func36, Try.ntmps36
    go_wp2_with ((go_at_call 54; refine (l1In_any _ _ _ _).mono ?_; rintro e w' ⟨rfl, rfl⟩))
    go_ret
    exact ⟨ret_bool H.out.symm, by (repeat' (first | exact Below.refl _ _ | assumption | exact Nat.le_refl _ | (refine Below.alloc ?_ ?_ _) | (refine Below.drew ?_) | (refine Below.setCell ?_ ?_ _) | (refine Below.trans ?_ (Below.mono (by assumption) ?_)) | (simp; done) | (simp; omega) | omega))⟩
  cases c4 : (inB hi lo 255)
  · have H := hid (show ruleB mi ma t lo hi z c = false by simp [ruleB, c4])
    go_enter Try.func36, Try.ntmps36
    go_wp2_with ((go_at_call 54; refine (l1In_any _ _ _ _).mono ?_; rintro e w' ⟨rfl, rfl⟩))
    go_ret
    exact ⟨ret_bool H.out.symm, by (repeat' (first | exact Below.refl _ _ | assumption | exact Nat.le_refl _ | (refine Below.alloc ?_ ?_ _) | (refine Below.drew ?_) | (refine Below.setCell ?_ ?_ _) | (refine Below.trans ?_ (Below.mono (by assumption) ?_)) | (simp; done) | (simp; omega) | omega))⟩
  cases c5 : (inB z (-1) 7)
  · have H := hid (show ruleB mi ma t lo hi z c = false by simp [ruleB, c5])
    go_enter Try.func36, Try.ntmps36
    go_wp2_with ((go_at_call 54; refine (l1In_any _ _ _ _).mono ?_; rintro e w' ⟨rfl, rfl⟩))
    go_ret
    exact ⟨ret_bool H.out.symm, by (repeat' (first | exact Below.refl _ _ | assumption | exact Nat.le_refl _ | (refine Below.alloc ?_ ?_ _) | (refine Below.drew ?_) | (refine Below.setCell ?_ ?_ _) | (refine Below.trans ?_ (Below.mono (by assumption) ?_)) | (simp; done) | (simp; omega) | omega))⟩
  cases c6 : (inB c 0 8)
  · have H := hid (show ruleB mi ma t lo hi z c = false by simp [ruleB, c6])
    go_enter Try.func36, Try.ntmps36
    go_wp2_with ((go_at_call 54; refine (l1In_any _ _ _ _).mono ?_; rintro e w' ⟨rfl, rfl⟩))
    go_ret
    exact ⟨ret_bool H.out.symm, by (repeat' (first | exact Below.refl _ _ | assumption | exact Nat.le_refl _ | (refine Below.alloc ?_ ?_ _) | (refine Below.drew ?_) | (refine Below.setCell ?_ ?_ _) | (refine Below.trans ?_ (Below.mono (by assumption) ?_)) | (simp; done) | (simp; omega) | omega))⟩
  have H := hid (show ruleB mi ma t lo hi z c = true by simp [ruleB, c0, c1, c2, c3, c4, c5, c6])
  go_enter Try.func36, Try.ntmps36
  go_wp2_with ((go_at_call 54; refine (l1In_any _ _ _ _).mono ?_; rintro e w' ⟨rfl, rfl⟩))
  go_ret
  exact ⟨ret_bool H.out.symm, by (repeat' (first | exact Below.refl _ _ | assumption | exact Nat.le_refl _ | (refine Below.alloc ?_ ?_ _) | (refine Below.drew ?_) | (refine Below.setCell ?_ ?_ _) | (refine Below.trans ?_ (Below.mono (by assumption) ?_)) | (simp; done) | (simp; omega) | omega))⟩

set_option maxHeartbeats 1000000 in
theorem grdRuleOk_any (mi ma t lo hi z c : Int) (w : World) :
    Calls Try.prog 35 #[.agg #[.int .i64 mi, .int .i64 ma, .int .i64 t, .int .i64 lo, .int .i64 hi, .int .i64 z, .int .i64 c]] w fun x w' => x = .returned (.bool (ruleB mi ma t lo hi z c)) ∧ Below w.heap.size w w' := by
  go_enter Try.func35, Try.ntmps35
  go_wp2_with fail
  refine (ruleOk_any mi ma t lo hi z c _).mono ?_
  rintro e w1 ⟨rfl, hb⟩
  go_wp2
  go_ret
  exact ⟨rfl, (below_alloc1 _ _).trans (hb.mono (by simp))⟩
set_option maxHeartbeats 1000000 in
theorem toRule_any (mi ma t lo hi z c : Int) (w : World) :
    Calls Try.prog 47 #[.agg #[.int .i64 mi, .int .i64 ma, .int .i64 t, .int .i64 lo, .int .i64 hi, .int .i64 z, .int .i64 c]] w fun x w' => x = .returned (.agg #[.int .i64 mi, .int .i64 ma, .int .i64 t, .int .i64 lo, .int .i64 hi, .int .i64 z, .int .i64 c]) ∧ Below w.heap.size w w' := by
  go_enter Try.func47, Try.ntmps47
  go_wp2
  go_returns
  exact ⟨rfl, by go_grown⟩
end Go.Proofs.Ytlkmooefebenlaa
