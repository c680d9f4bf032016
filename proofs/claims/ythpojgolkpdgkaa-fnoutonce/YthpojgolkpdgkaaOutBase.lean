/- The sending half of a tunnel (document, chapter 11): the contracts of OutOpen, OutOk, OutPeer and OutNext, of the program and of the specification. No conditions. -/
import Derived.Test.YthpojgolkpdgkaaInBase
import Derived.Test.YthpojgolkpdgkaaAggInts
import Derived.Test.YthpojgolkpdgkaaIBk
namespace Go.Proofs.Ythpojgolkpdgkaa
open Go.ChangeShapes Go.WideShapes Go.ChangeAt Go.RowKit Go.Joins Go.Deep
set_option linter.unusedVariables false
set_option linter.unusedSimpArgs false
set_option maxRecDepth 4000

/-- whether a half is ok -/
def outB (b p e s : Int) : Bool := inB b 1 60000 && (inB p 0 60000 && (inB e 0 200 && inB s 0 15))
theorem inB_at {n lo hi : Int} (h : inB n lo hi = true) : lo ≤ n ∧ n ≤ hi := by simpa [inB] using h
theorem outB_at {b p e s : Int} (h : outB b p e s = true) : (1 ≤ b ∧ b ≤ 60000) ∧ (0 ≤ p ∧ p ≤ 60000) ∧ (0 ≤ e ∧ e ≤ 200) ∧ 0 ≤ s ∧ s ≤ 15 := by
  simpa [outB, inB] using h
theorem greater_any (x y : Int) (w : World) :
    Calls Try.prog 59 #[.int .i64 x, .int .i64 y] w fun e w' => e = .returned (.bool (decide (y < x))) ∧ w' = w := by
  go_enter Try.func59, Try.ntmps59
  go_wp2
  go_ret
  exact ⟨rfl, rfl⟩
set_option maxHeartbeats 1000000 in
theorem outHok_any (b p e s : Int) (w : World) :
    Calls Try.prog 55 #[.agg #[.int .i64 b, .int .i64 p, .int .i64 e, .int .i64 s]] w fun x w' => x = .returned (.bool (outB b p e s)) ∧ Below w.heap.size w w' := by
  cases c0 : (inB b 1 60000)
  · have H := hid (show outB b p e s = false by simp [outB, c0])
    go_enter Try.func55, Try.ntmps55
    go_wp2_with ((go_at_call 58; refine (within_any _ _ _ _).mono ?_; rintro e w' ⟨rfl, rfl⟩))
    go_ret
    exact ⟨ret_bool H.out.symm, by (repeat' (first | exact Below.refl _ _ | assumption | exact Nat.le_refl _ | (refine Below.alloc ?_ ?_ _) | (refine Below.drew ?_) | (refine Below.setCell ?_ ?_ _) | (refine Below.trans ?_ (Below.mono (by assumption) ?_)) | (simp; done) | (simp; omega) | omega))⟩
  cases c1 : (inB p 0 60000)
  · have H := hid (show outB b p e s = false by simp [outB, c1])
    go_enter Try.func55, Try.ntmps55
    go_wp2_with ((go_at_call 58; refine (within_any _ _ _ _).mono ?_; rintro e w' ⟨rfl, rfl⟩))
    go_ret
    exact ⟨ret_bool H.out.symm, by (repeat' (first | exact Below.refl _ _ | assumption | exact Nat.le_refl _ | (refine Below.alloc ?_ ?_ _) | (refine Below.drew ?_) | (refine Below.setCell ?_ ?_ _) | (refine Below.trans ?_ (Below.mono (by assumption) ?_)) | (simp; done) | (simp; omega) | omega))⟩
  cases c2 : (inB e 0 200)
  · have H := hid (show outB b p e s = false by simp [outB, c2])
    go_enter Try.func55, Try.ntmps55
    go_wp2_with ((go_at_call 58; refine (within_any _ _ _ _).mono ?_; rintro e w' ⟨rfl, rfl⟩))
    go_ret
    exact ⟨ret_bool H.out.symm, by (repeat' (first | exact Below.refl _ _ | assumption | exact Nat.le_refl _ | (refine Below.alloc ?_ ?_ _) | (refine Below.drew ?_) | (refine Below.setCell ?_ ?_ _) | (refine Below.trans ?_ (Below.mono (by assumption) ?_)) | (simp; done) | (simp; omega) | omega))⟩
  cases c3 : (inB s 0 15)
  · have H := hid (show outB b p e s = false by simp [outB, c3])
    go_enter Try.func55, Try.ntmps55
    go_wp2_with ((go_at_call 58; refine (within_any _ _ _ _).mono ?_; rintro e w' ⟨rfl, rfl⟩))
    go_ret
    exact ⟨ret_bool H.out.symm, by (repeat' (first | exact Below.refl _ _ | assumption | exact Nat.le_refl _ | (refine Below.alloc ?_ ?_ _) | (refine Below.drew ?_) | (refine Below.setCell ?_ ?_ _) | (refine Below.trans ?_ (Below.mono (by assumption) ?_)) | (simp; done) | (simp; omega) | omega))⟩
  have H := hid (show outB b p e s = true by simp [outB, c0, c1, c2, c3])
  go_enter Try.func55, Try.ntmps55
  go_wp2_with ((go_at_call 58; refine (within_any _ _ _ _).mono ?_; rintro e w' ⟨rfl, rfl⟩))
  go_ret
  exact ⟨ret_bool H.out.symm, by (repeat' (first | exact Below.refl _ _ | assumption | exact Nat.le_refl _ | (refine Below.alloc ?_ ?_ _) | (refine Below.drew ?_) | (refine Below.setCell ?_ ?_ _) | (refine Below.trans ?_ (Below.mono (by assumption) ?_)) | (simp; done) | (simp; omega) | omega))⟩
set_option maxHeartbeats 1000000 in
theorem specOutOk_any (b p e s : Int) (w : World) :
    Calls Try.prog 20 #[.agg #[.int .i64 b, .int .i64 p, .int .i64 e, .int .i64 s]] w fun x w' => x = .returned (.bool (outB b p e s)) ∧ Below w.heap.size w w' := by
  cases c0 : (inB b 1 60000)
  · have H := hid (show outB b p e s = false by simp [outB, c0])
    go_enter Try.func20, Try.ntmps20
    go_wp2_with ((go_at_call 56; refine (l1In_any _ _ _ _).mono ?_; rintro e w' ⟨rfl, rfl⟩))
    go_ret
    exact ⟨ret_bool H.out.symm, by (repeat' (first | exact Below.refl _ _ | assumption | exact Nat.le_refl _ | (refine Below.alloc ?_ ?_ _) | (refine Below.drew ?_) | (refine Below.setCell ?_ ?_ _) | (refine Below.trans ?_ (Below.mono (by assumption) ?_)) | (simp; done) | (simp; omega) | omega))⟩
  cases c1 : (inB p 0 60000)
  · have H := hid (show outB b p e s = false by simp [outB, c1])
    go_enter Try.func20, Try.ntmps20
    go_wp2_with ((go_at_call 56; refine (l1In_any _ _ _ _).mono ?_; rintro e w' ⟨rfl, rfl⟩))
    go_ret
    exact ⟨ret_bool H.out.symm, by (repeat' (first | exact Below.refl _ _ | assumption | exact Nat.le_refl _ | (refine Below.alloc ?_ ?_ _) | (refine Below.drew ?_) | (refine Below.setCell ?_ ?_ _) | (refine Below.trans ?_ (Below.mono (by assumption) ?_)) | (simp; done) | (simp; omega) | omega))⟩
  cases c2 : (inB e 0 200)
  · have H := hid (show outB b p e s = false by simp [outB, c2])
    go_enter Try.func20, Try.ntmps20
    go_wp2_with ((go_at_call 56; refine (l1In_any _ _ _ _).mono ?_; rintro e w' ⟨rfl, rfl⟩))
    go_ret
    exact ⟨ret_bool H.out.symm, by (repeat' (first | exact Below.refl _ _ | assumption | exact Nat.le_refl _ | (refine Below.alloc ?_ ?_ _) | (refine Below.drew ?_) | (refine Below.setCell ?_ ?_ _) | (refine Below.trans ?_ (Below.mono (by assumption) ?_)) | (simp; done) | (simp; omega) | omega))⟩
  cases c3 : (inB s 0 15)
  · have H := hid (show outB b p e s = false by simp [outB, c3])
    go_enter Try.func20, Try.ntmps20
    go_wp2_with ((go_at_call 56; refine (l1In_any _ _ _ _).mono ?_; rintro e w' ⟨rfl, rfl⟩))
    go_ret
    exact ⟨ret_bool H.out.symm, by (repeat' (first | exact Below.refl _ _ | assumption | exact Nat.le_refl _ | (refine Below.alloc ?_ ?_ _) | (refine Below.drew ?_) | (refine Below.setCell ?_ ?_ _) | (refine Below.trans ?_ (Below.mono (by assumption) ?_)) | (simp; done) | (simp; omega) | omega))⟩
  have H := hid (show outB b p e s = true by simp [outB, c0, c1, c2, c3])
  go_enter Try.func20, Try.ntmps20
  go_wp2_with ((go_at_call 56; refine (l1In_any _ _ _ _).mono ?_; rintro e w' ⟨rfl, rfl⟩))
  go_ret
  exact ⟨ret_bool H.out.symm, by (repeat' (first | exact Below.refl _ _ | assumption | exact Nat.le_refl _ | (refine Below.alloc ?_ ?_ _) | (refine Below.drew ?_) | (refine Below.setCell ?_ ?_ _) | (refine Below.trans ?_ (Below.mono (by assumption) ?_)) | (simp; done) | (simp; omega) | omega))⟩
set_option maxHeartbeats 1000000 in
theorem outOk_any (b p e s : Int) (w : World) :
    Calls Try.prog 21 #[.agg #[.int .i64 b, .int .i64 p, .int .i64 e, .int .i64 s]] w fun x w' => x = .returned (.bool (outB b p e s)) ∧ Below w.heap.size w w' := by
  go_enter Try.func21, Try.ntmps21
  go_wp2_with fail
  refine (outHok_any b p e s _).mono ?_
  rintro x w1 ⟨rfl, hb⟩
  go_wp2
  go_ret
  exact ⟨rfl, (below_alloc1 _ _).trans (hb.mono (by simp))⟩
set_option maxHeartbeats 1000000 in
theorem toOut_any (b p e s : Int) (w : World) :
    Calls Try.prog 41 #[.agg #[.int .i64 b, .int .i64 p, .int .i64 e, .int .i64 s]] w fun x w' => x = .returned (.agg #[.int .i64 b, .int .i64 p, .int .i64 e, .int .i64 s]) ∧ Below w.heap.size w w' := by
  go_enter Try.func41, Try.ntmps41
  go_wp2
  go_returns
  exact ⟨rfl, by go_grown⟩
set_option maxHeartbeats 1000000 in
theorem eqOut_same (b p e s : Int) (w : World) :
    Calls Try.prog 40 #[.agg #[.int .i64 b, .int .i64 p, .int .i64 e, .int .i64 s], .agg #[.int .i64 b, .int .i64 p, .int .i64 e, .int .i64 s]] w fun x w' => x = .returned (.bool true) ∧ Below w.heap.size w w' := by
  go_enter Try.func40, Try.ntmps40
  go_wp2
  go_ret
  exact ⟨rfl, by go_grown⟩

/-- what OutOpen begins with -/
def opn (b : Int) : Int := if inB b 1 60000 then b else 0
set_option maxHeartbeats 1000000 in
theorem outOpen_any (b : Int) (w : World) :
    Calls Try.prog 25 #[.int .i64 b] w fun x w' => x = .returned (.agg #[.int .i64 (opn b), .int .i64 0, .int .i64 0, .int .i64 0]) ∧ Below w.heap.size w w' := by
  cases c0 : inB b 1 60000
  · have H := hid (show opn b = 0 by simp [opn, c0])
    go_enter Try.func25, Try.ntmps25
    go_wp2_with ((go_at_call 58; refine (within_any _ _ _ _).mono ?_; rintro e w' ⟨rfl, rfl⟩))
    go_returns
    exact ⟨by rw [H.out], by go_grown⟩
  · have H := hid (show opn b = b by simp [opn, c0])
    go_enter Try.func25, Try.ntmps25
    go_wp2_with ((go_at_call 58; refine (within_any _ _ _ _).mono ?_; rintro e w' ⟨rfl, rfl⟩))
    go_returns
    exact ⟨by rw [H.out], by go_grown⟩
set_option maxHeartbeats 1000000 in
theorem specOutOpen_any (b : Int) (w : World) :
    Calls Try.prog 26 #[.int .i64 b] w fun x w' => x = .returned (.agg #[.int .i64 (opn b), .int .i64 0, .int .i64 0, .int .i64 0]) ∧ Below w.heap.size w w' := by
  cases c0 : inB b 1 60000
  · have H := hid (show opn b = 0 by simp [opn, c0])
    go_enter Try.func26, Try.ntmps26
    go_wp2_with ((go_at_call 56; refine (l1In_any _ _ _ _).mono ?_; rintro e w' ⟨rfl, rfl⟩))
    go_returns
    exact ⟨by rw [H.out], by go_grown⟩
  · have H := hid (show opn b = b by simp [opn, c0])
    go_enter Try.func26, Try.ntmps26
    go_wp2_with ((go_at_call 56; refine (l1In_any _ _ _ _).mono ?_; rintro e w' ⟨rfl, rfl⟩))
    go_returns
    exact ⟨by rw [H.out], by go_grown⟩
end Go.Proofs.Ythpojgolkpdgkaa
