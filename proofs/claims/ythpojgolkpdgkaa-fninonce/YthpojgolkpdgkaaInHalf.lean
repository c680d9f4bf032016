/- The hearing half of a tunnel (document, chapter 12): the contracts of its small functions, of the program and of the specification. No conditions. -/
import Derived.Test.YthpojgolkpdgkaaInBase
import Derived.Test.YthpojgolkpdgkaaAggInts
import Derived.Test.YthpojgolkpdgkaaIBk
namespace Go.Proofs.Ythpojgolkpdgkaa
open Go.ChangeShapes Go.WideShapes Go.ChangeAt Go.RowKit Go.Joins Go.Deep
set_option linter.unusedVariables false
set_option linter.unusedSimpArgs false
set_option maxRecDepth 4000

/-- whether a half is ok -/
def inhB (b e s : Int) : Bool := inB b 0 60000 && (inB e 0 200 && inB s 0 16)
/-- whether a number is one -/
def nuB (b e s : Int) : Bool := inB b 1 60000 && (inB e 0 200 && inB s 0 15)
/-- whether the one of two triples comes first -/
def lexB (a b c d e f : Int) : Bool := if a = d then (if b = e then decide (c < f) else decide (b < e)) else decide (a < d)
theorem greater_any (x y : Int) (w : World) :
    Calls Try.prog 59 #[.int .i64 x, .int .i64 y] w fun e w' => e = .returned (.bool (decide (y < x))) ∧ w' = w := by
  go_enter Try.func59, Try.ntmps59
  go_wp2
  go_ret
  exact ⟨rfl, rfl⟩
set_option maxHeartbeats 1000000 in
theorem inHok_any (b e s : Int) (w : World) :
    Calls Try.prog 61 #[.agg #[.int .i64 b, .int .i64 e, .int .i64 s]] w fun x w' => x = .returned (.bool (inhB b e s)) ∧ Below w.heap.size w w' := by
  cases c0 : (inB b 0 60000)
  · have H := hid (show inhB b e s = false by simp [inhB, c0])
    go_enter Try.func61, Try.ntmps61
    go_wp2_with ((go_at_call 58; refine (within_any _ _ _ _).mono ?_; rintro e w' ⟨rfl, rfl⟩))
    go_ret
    exact ⟨ret_bool H.out.symm, by (repeat' (first | exact Below.refl _ _ | assumption | exact Nat.le_refl _ | (refine Below.alloc ?_ ?_ _) | (refine Below.drew ?_) | (refine Below.setCell ?_ ?_ _) | (refine Below.trans ?_ (Below.mono (by assumption) ?_)) | (simp; done) | (simp; omega) | omega))⟩
  cases c1 : (inB e 0 200)
  · have H := hid (show inhB b e s = false by simp [inhB, c1])
    go_enter Try.func61, Try.ntmps61
    go_wp2_with ((go_at_call 58; refine (within_any _ _ _ _).mono ?_; rintro e w' ⟨rfl, rfl⟩))
    go_ret
    exact ⟨ret_bool H.out.symm, by (repeat' (first | exact Below.refl _ _ | assumption | exact Nat.le_refl _ | (refine Below.alloc ?_ ?_ _) | (refine Below.drew ?_) | (refine Below.setCell ?_ ?_ _) | (refine Below.trans ?_ (Below.mono (by assumption) ?_)) | (simp; done) | (simp; omega) | omega))⟩
  cases c2 : (inB s 0 16)
  · have H := hid (show inhB b e s = false by simp [inhB, c2])
    go_enter Try.func61, Try.ntmps61
    go_wp2_with ((go_at_call 58; refine (within_any _ _ _ _).mono ?_; rintro e w' ⟨rfl, rfl⟩))
    go_ret
    exact ⟨ret_bool H.out.symm, by (repeat' (first | exact Below.refl _ _ | assumption | exact Nat.le_refl _ | (refine Below.alloc ?_ ?_ _) | (refine Below.drew ?_) | (refine Below.setCell ?_ ?_ _) | (refine Below.trans ?_ (Below.mono (by assumption) ?_)) | (simp; done) | (simp; omega) | omega))⟩
  have H := hid (show inhB b e s = true by simp [inhB, c0, c1, c2])
  go_enter Try.func61, Try.ntmps61
  go_wp2_with ((go_at_call 58; refine (within_any _ _ _ _).mono ?_; rintro e w' ⟨rfl, rfl⟩))
  go_ret
  exact ⟨ret_bool H.out.symm, by (repeat' (first | exact Below.refl _ _ | assumption | exact Nat.le_refl _ | (refine Below.alloc ?_ ?_ _) | (refine Below.drew ?_) | (refine Below.setCell ?_ ?_ _) | (refine Below.trans ?_ (Below.mono (by assumption) ?_)) | (simp; done) | (simp; omega) | omega))⟩
set_option maxHeartbeats 1000000 in
theorem specInOk_any (b e s : Int) (w : World) :
    Calls Try.prog 32 #[.agg #[.int .i64 b, .int .i64 e, .int .i64 s]] w fun x w' => x = .returned (.bool (inhB b e s)) ∧ Below w.heap.size w w' := by
  cases c0 : (inB b 0 60000)
  · have H := hid (show inhB b e s = false by simp [inhB, c0])
    go_enter Try.func32, Try.ntmps32
    go_wp2_with ((go_at_call 56; refine (l1In_any _ _ _ _).mono ?_; rintro e w' ⟨rfl, rfl⟩))
    go_ret
    exact ⟨ret_bool H.out.symm, by (repeat' (first | exact Below.refl _ _ | assumption | exact Nat.le_refl _ | (refine Below.alloc ?_ ?_ _) | (refine Below.drew ?_) | (refine Below.setCell ?_ ?_ _) | (refine Below.trans ?_ (Below.mono (by assumption) ?_)) | (simp; done) | (simp; omega) | omega))⟩
  cases c1 : (inB e 0 200)
  · have H := hid (show inhB b e s = false by simp [inhB, c1])
    go_enter Try.func32, Try.ntmps32
    go_wp2_with ((go_at_call 56; refine (l1In_any _ _ _ _).mono ?_; rintro e w' ⟨rfl, rfl⟩))
    go_ret
    exact ⟨ret_bool H.out.symm, by (repeat' (first | exact Below.refl _ _ | assumption | exact Nat.le_refl _ | (refine Below.alloc ?_ ?_ _) | (refine Below.drew ?_) | (refine Below.setCell ?_ ?_ _) | (refine Below.trans ?_ (Below.mono (by assumption) ?_)) | (simp; done) | (simp; omega) | omega))⟩
  cases c2 : (inB s 0 16)
  · have H := hid (show inhB b e s = false by simp [inhB, c2])
    go_enter Try.func32, Try.ntmps32
    go_wp2_with ((go_at_call 56; refine (l1In_any _ _ _ _).mono ?_; rintro e w' ⟨rfl, rfl⟩))
    go_ret
    exact ⟨ret_bool H.out.symm, by (repeat' (first | exact Below.refl _ _ | assumption | exact Nat.le_refl _ | (refine Below.alloc ?_ ?_ _) | (refine Below.drew ?_) | (refine Below.setCell ?_ ?_ _) | (refine Below.trans ?_ (Below.mono (by assumption) ?_)) | (simp; done) | (simp; omega) | omega))⟩
  have H := hid (show inhB b e s = true by simp [inhB, c0, c1, c2])
  go_enter Try.func32, Try.ntmps32
  go_wp2_with ((go_at_call 56; refine (l1In_any _ _ _ _).mono ?_; rintro e w' ⟨rfl, rfl⟩))
  go_ret
  exact ⟨ret_bool H.out.symm, by (repeat' (first | exact Below.refl _ _ | assumption | exact Nat.le_refl _ | (refine Below.alloc ?_ ?_ _) | (refine Below.drew ?_) | (refine Below.setCell ?_ ?_ _) | (refine Below.trans ?_ (Below.mono (by assumption) ?_)) | (simp; done) | (simp; omega) | omega))⟩
set_option maxHeartbeats 1000000 in
theorem numOk_any (b e s : Int) (w : World) :
    Calls Try.prog 62 #[.agg #[.int .i64 b, .int .i64 e, .int .i64 s]] w fun x w' => x = .returned (.bool (nuB b e s)) ∧ Below w.heap.size w w' := by
  cases c0 : (inB b 1 60000)
  · have H := hid (show nuB b e s = false by simp [nuB, c0])
    go_enter Try.func62, Try.ntmps62
    go_wp2_with ((go_at_call 58; refine (within_any _ _ _ _).mono ?_; rintro e w' ⟨rfl, rfl⟩))
    go_ret
    exact ⟨ret_bool H.out.symm, by (repeat' (first | exact Below.refl _ _ | assumption | exact Nat.le_refl _ | (refine Below.alloc ?_ ?_ _) | (refine Below.drew ?_) | (refine Below.setCell ?_ ?_ _) | (refine Below.trans ?_ (Below.mono (by assumption) ?_)) | (simp; done) | (simp; omega) | omega))⟩
  cases c1 : (inB e 0 200)
  · have H := hid (show nuB b e s = false by simp [nuB, c1])
    go_enter Try.func62, Try.ntmps62
    go_wp2_with ((go_at_call 58; refine (within_any _ _ _ _).mono ?_; rintro e w' ⟨rfl, rfl⟩))
    go_ret
    exact ⟨ret_bool H.out.symm, by (repeat' (first | exact Below.refl _ _ | assumption | exact Nat.le_refl _ | (refine Below.alloc ?_ ?_ _) | (refine Below.drew ?_) | (refine Below.setCell ?_ ?_ _) | (refine Below.trans ?_ (Below.mono (by assumption) ?_)) | (simp; done) | (simp; omega) | omega))⟩
  cases c2 : (inB s 0 15)
  · have H := hid (show nuB b e s = false by simp [nuB, c2])
    go_enter Try.func62, Try.ntmps62
    go_wp2_with ((go_at_call 58; refine (within_any _ _ _ _).mono ?_; rintro e w' ⟨rfl, rfl⟩))
    go_ret
    exact ⟨ret_bool H.out.symm, by (repeat' (first | exact Below.refl _ _ | assumption | exact Nat.le_refl _ | (refine Below.alloc ?_ ?_ _) | (refine Below.drew ?_) | (refine Below.setCell ?_ ?_ _) | (refine Below.trans ?_ (Below.mono (by assumption) ?_)) | (simp; done) | (simp; omega) | omega))⟩
  have H := hid (show nuB b e s = true by simp [nuB, c0, c1, c2])
  go_enter Try.func62, Try.ntmps62
  go_wp2_with ((go_at_call 58; refine (within_any _ _ _ _).mono ?_; rintro e w' ⟨rfl, rfl⟩))
  go_ret
  exact ⟨ret_bool H.out.symm, by (repeat' (first | exact Below.refl _ _ | assumption | exact Nat.le_refl _ | (refine Below.alloc ?_ ?_ _) | (refine Below.drew ?_) | (refine Below.setCell ?_ ?_ _) | (refine Below.trans ?_ (Below.mono (by assumption) ?_)) | (simp; done) | (simp; omega) | omega))⟩
set_option maxHeartbeats 1000000 in
theorem inOk_any (b e s : Int) (w : World) :
    Calls Try.prog 33 #[.agg #[.int .i64 b, .int .i64 e, .int .i64 s]] w fun x w' => x = .returned (.bool (inhB b e s)) ∧ Below w.heap.size w w' := by
  go_enter Try.func33, Try.ntmps33
  go_wp2_with fail
  refine (inHok_any b e s _).mono ?_
  rintro x w1 ⟨rfl, hb⟩
  go_wp2
  go_ret
  exact ⟨rfl, (below_alloc1 _ _).trans (hb.mono (by simp))⟩
set_option maxHeartbeats 1000000 in
theorem toIn_any (b e s : Int) (w : World) :
    Calls Try.prog 42 #[.agg #[.int .i64 b, .int .i64 e, .int .i64 s]] w fun x w' => x = .returned (.agg #[.int .i64 b, .int .i64 e, .int .i64 s]) ∧ Below w.heap.size w w' := by
  go_enter Try.func42, Try.ntmps42
  go_wp2
  go_returns
  exact ⟨rfl, by go_grown⟩
set_option maxHeartbeats 1000000 in
theorem eqIn_same (b e s : Int) (w : World) :
    Calls Try.prog 43 #[.agg #[.int .i64 b, .int .i64 e, .int .i64 s], .agg #[.int .i64 b, .int .i64 e, .int .i64 s]] w fun x w' => x = .returned (.bool true) ∧ Below w.heap.size w w' := by
  go_enter Try.func43, Try.ntmps43
  go_wp2
  go_ret
  exact ⟨rfl, by go_grown⟩
set_option maxHeartbeats 1000000 in
theorem inNext_any (b e s : Int) (w : World) :
    Calls Try.prog 64 #[.agg #[.int .i64 b, .int .i64 e, .int .i64 s]] w fun x w' => x = .returned (.agg #[.int .i64 b, .int .i64 e, .int .i64 s]) ∧ Below w.heap.size w w' := by
  go_enter Try.func64, Try.ntmps64
  go_wp2
  go_returns
  exact ⟨rfl, by go_grown⟩
set_option maxHeartbeats 1000000 in
theorem less_any (a b c d e f : Int) (w : World) :
    Calls Try.prog 65 #[.int .i64 a, .int .i64 b, .int .i64 c, .int .i64 d, .int .i64 e, .int .i64 f] w fun x w' => x = .returned (.bool (lexB a b c d e f)) ∧ w' = w := by
  by_cases h1 : a = d
  · have H1 := hid h1
    by_cases h2 : b = e
    · subst h1 h2
      have H := hid (show lexB a b c a b f = decide (c < f) by simp [lexB])
      go_enter Try.func65, Try.ntmps65
      go_wp2
      go_ret
      exact ⟨ret_bool H.out.symm, rfl⟩
    · subst h1
      have H := hid (show lexB a b c a e f = decide (b < e) by simp [lexB, h2])
      have g2 : (b == e) = false := by simpa using h2
      go_enter Try.func65, Try.ntmps65
      go_wp2
      go_ret
      exact ⟨ret_bool H.out.symm, rfl⟩
  · have H := hid (show lexB a b c d e f = decide (a < d) by simp [lexB, h1])
    have g1 : (a == d) = false := by simpa using h1
    go_enter Try.func65, Try.ntmps65
    go_wp2
    go_ret
    exact ⟨ret_bool H.out.symm, rfl⟩
end Go.Proofs.Ythpojgolkpdgkaa
