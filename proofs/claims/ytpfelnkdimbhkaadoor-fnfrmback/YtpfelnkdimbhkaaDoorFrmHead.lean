/- Whether a head is ok: the contracts of the program and of the specification. No conditions. -/
import Derived.Test.YtpfelnkdimbhkaaDoorInBase
import Derived.Test.YtpfelnkdimbhkaaDoorAggInts
namespace Go.Proofs.YtpfelnkdimbhkaaDoor
open Go.ChangeShapes Go.WideShapes Go.ChangeAt Go.RowKit Go.Joins
set_option linter.unusedVariables false
set_option maxRecDepth 4000

/-- who says it, and by which number; a hello; a word; a head -/
def orgB (f b s : Int) : Bool := inB f 0 3 && (inB b 1 65535 && inB s 0 65535)
def helB (t y p e : Int) : Bool := t == 255 && (y == 255 && (p == 0 && e == 0))
def wrdB (f t y p e : Int) : Bool := inB t 0 3 && ((t != f) && (inB y 0 9 && (inB p 0 65535 && inB e 0 255)))
def wholeB (f b s t y p e : Int) : Bool := orgB f b s && wrdB f t y p e
def headB (k f t y b p e s : Int) : Bool := orgB f b s && ((k == 1 && helB t y p e) || (k == 2 && wrdB f t y p e))

set_option maxHeartbeats 1000000 in
theorem origin_any (f b s : Int) (w : World) :
    Calls Tryd.prog 99 #[.agg #[.int .i64 f, .int .i64 b, .int .i64 s]] w fun x w' => x = .returned (.bool (orgB f b s)) ∧ Below w.heap.size w w' := by
  cases c0 : (inB f 0 3)
  · have H := hid (show orgB f b s = false by simp [c0, orgB])
    go_enter Tryd.func99, Tryd.ntmps99
    go_wp2_with ((go_at_call 40; refine (within_any _ _ _ _).mono ?_; rintro e w' ⟨rfl, rfl⟩))
    go_ret
    exact ⟨ret_bool H.out.symm, by (repeat' (first | exact Below.refl _ _ | assumption | exact Nat.le_refl _ | (refine Below.alloc ?_ ?_ _) | (refine Below.drew ?_) | (refine Below.setCell ?_ ?_ _) | (refine Below.trans ?_ (Below.mono (by assumption) ?_)) | (simp; done) | (simp; omega) | omega))⟩
  cases c1 : (inB b 1 65535)
  · have H := hid (show orgB f b s = false by simp [c1, orgB])
    go_enter Tryd.func99, Tryd.ntmps99
    go_wp2_with ((go_at_call 40; refine (within_any _ _ _ _).mono ?_; rintro e w' ⟨rfl, rfl⟩))
    go_ret
    exact ⟨ret_bool H.out.symm, by (repeat' (first | exact Below.refl _ _ | assumption | exact Nat.le_refl _ | (refine Below.alloc ?_ ?_ _) | (refine Below.drew ?_) | (refine Below.setCell ?_ ?_ _) | (refine Below.trans ?_ (Below.mono (by assumption) ?_)) | (simp; done) | (simp; omega) | omega))⟩
  cases c2 : (inB s 0 65535)
  · have H := hid (show orgB f b s = false by simp [c2, orgB])
    go_enter Tryd.func99, Tryd.ntmps99
    go_wp2_with ((go_at_call 40; refine (within_any _ _ _ _).mono ?_; rintro e w' ⟨rfl, rfl⟩))
    go_ret
    exact ⟨ret_bool H.out.symm, by (repeat' (first | exact Below.refl _ _ | assumption | exact Nat.le_refl _ | (refine Below.alloc ?_ ?_ _) | (refine Below.drew ?_) | (refine Below.setCell ?_ ?_ _) | (refine Below.trans ?_ (Below.mono (by assumption) ?_)) | (simp; done) | (simp; omega) | omega))⟩
  have H := hid (show orgB f b s = true by simp [c0, c1, c2, orgB])
  go_enter Tryd.func99, Tryd.ntmps99
  go_wp2_with ((go_at_call 40; refine (within_any _ _ _ _).mono ?_; rintro e w' ⟨rfl, rfl⟩))
  go_ret
  exact ⟨ret_bool H.out.symm, by (repeat' (first | exact Below.refl _ _ | assumption | exact Nat.le_refl _ | (refine Below.alloc ?_ ?_ _) | (refine Below.drew ?_) | (refine Below.setCell ?_ ?_ _) | (refine Below.trans ?_ (Below.mono (by assumption) ?_)) | (simp; done) | (simp; omega) | omega))⟩

set_option maxHeartbeats 2000000 in
theorem word_any (f b s t y p e : Int) (w : World) :
    Calls Tryd.prog 100 #[.agg #[.int .i64 f, .int .i64 b, .int .i64 s, .int .i64 t, .int .i64 y, .int .i64 p, .int .i64 e]] w fun x w' => x = .returned (.bool (wholeB f b s t y p e)) ∧ Below w.heap.size w w' := by
  cases c0 : (orgB f b s)
  · have H := hid (show wholeB f b s t y p e = false by simp [c0, wholeB])
    go_enter Tryd.func100, Tryd.ntmps100
    go_wp2_with (first | (go_at_call 40; refine (within_any _ _ _ _).mono ?_; rintro e w' ⟨rfl, rfl⟩) | (go_at_call 99; refine (origin_any _ _ _ _).mono ?_; rintro e w' ⟨rfl, hb⟩; obtain ⟨hc, _⟩ := bcell hb; have hz := hb.size; (try simp at hz); have hq := Nat.lt_of_lt_of_le (Nat.lt_succ_self _) hz))
    go_ret
    exact ⟨ret_bool H.out.symm, by (repeat' (first | exact Below.refl _ _ | assumption | exact Nat.le_refl _ | (refine Below.alloc ?_ ?_ _) | (refine Below.drew ?_) | (refine Below.setCell ?_ ?_ _) | (refine Below.trans ?_ (Below.mono (by assumption) ?_)) | (simp; done) | (simp; omega) | omega))⟩
  cases c1 : (t != f)
  · have H := hid (show wholeB f b s t y p e = false by simp [c1, wholeB, wrdB])
    go_enter Tryd.func100, Tryd.ntmps100
    go_wp2_with (first | (go_at_call 40; refine (within_any _ _ _ _).mono ?_; rintro e w' ⟨rfl, rfl⟩) | (go_at_call 99; refine (origin_any _ _ _ _).mono ?_; rintro e w' ⟨rfl, hb⟩; obtain ⟨hc, _⟩ := bcell hb; have hz := hb.size; (try simp at hz); have hq := Nat.lt_of_lt_of_le (Nat.lt_succ_self _) hz))
    go_ret
    exact ⟨ret_bool H.out.symm, by (repeat' (first | exact Below.refl _ _ | assumption | exact Nat.le_refl _ | (refine Below.alloc ?_ ?_ _) | (refine Below.drew ?_) | (refine Below.setCell ?_ ?_ _) | (refine Below.trans ?_ (Below.mono (by assumption) ?_)) | (simp; done) | (simp; omega) | omega))⟩
  cases c2 : (inB t 0 3)
  · have H := hid (show wholeB f b s t y p e = false by simp [c2, wholeB, wrdB])
    go_enter Tryd.func100, Tryd.ntmps100
    go_wp2_with (first | (go_at_call 40; refine (within_any _ _ _ _).mono ?_; rintro e w' ⟨rfl, rfl⟩) | (go_at_call 99; refine (origin_any _ _ _ _).mono ?_; rintro e w' ⟨rfl, hb⟩; obtain ⟨hc, _⟩ := bcell hb; have hz := hb.size; (try simp at hz); have hq := Nat.lt_of_lt_of_le (Nat.lt_succ_self _) hz))
    go_ret
    exact ⟨ret_bool H.out.symm, by (repeat' (first | exact Below.refl _ _ | assumption | exact Nat.le_refl _ | (refine Below.alloc ?_ ?_ _) | (refine Below.drew ?_) | (refine Below.setCell ?_ ?_ _) | (refine Below.trans ?_ (Below.mono (by assumption) ?_)) | (simp; done) | (simp; omega) | omega))⟩
  cases c3 : (inB y 0 9)
  · have H := hid (show wholeB f b s t y p e = false by simp [c3, wholeB, wrdB])
    go_enter Tryd.func100, Tryd.ntmps100
    go_wp2_with (first | (go_at_call 40; refine (within_any _ _ _ _).mono ?_; rintro e w' ⟨rfl, rfl⟩) | (go_at_call 99; refine (origin_any _ _ _ _).mono ?_; rintro e w' ⟨rfl, hb⟩; obtain ⟨hc, _⟩ := bcell hb; have hz := hb.size; (try simp at hz); have hq := Nat.lt_of_lt_of_le (Nat.lt_succ_self _) hz))
    go_ret
    exact ⟨ret_bool H.out.symm, by (repeat' (first | exact Below.refl _ _ | assumption | exact Nat.le_refl _ | (refine Below.alloc ?_ ?_ _) | (refine Below.drew ?_) | (refine Below.setCell ?_ ?_ _) | (refine Below.trans ?_ (Below.mono (by assumption) ?_)) | (simp; done) | (simp; omega) | omega))⟩
  cases c4 : (inB p 0 65535)
  · have H := hid (show wholeB f b s t y p e = false by simp [c4, wholeB, wrdB])
    go_enter Tryd.func100, Tryd.ntmps100
    go_wp2_with (first | (go_at_call 40; refine (within_any _ _ _ _).mono ?_; rintro e w' ⟨rfl, rfl⟩) | (go_at_call 99; refine (origin_any _ _ _ _).mono ?_; rintro e w' ⟨rfl, hb⟩; obtain ⟨hc, _⟩ := bcell hb; have hz := hb.size; (try simp at hz); have hq := Nat.lt_of_lt_of_le (Nat.lt_succ_self _) hz))
    go_ret
    exact ⟨ret_bool H.out.symm, by (repeat' (first | exact Below.refl _ _ | assumption | exact Nat.le_refl _ | (refine Below.alloc ?_ ?_ _) | (refine Below.drew ?_) | (refine Below.setCell ?_ ?_ _) | (refine Below.trans ?_ (Below.mono (by assumption) ?_)) | (simp; done) | (simp; omega) | omega))⟩
  cases c5 : (inB e 0 255)
  · have H := hid (show wholeB f b s t y p e = false by simp [c5, wholeB, wrdB])
    go_enter Tryd.func100, Tryd.ntmps100
    go_wp2_with (first | (go_at_call 40; refine (within_any _ _ _ _).mono ?_; rintro e w' ⟨rfl, rfl⟩) | (go_at_call 99; refine (origin_any _ _ _ _).mono ?_; rintro e w' ⟨rfl, hb⟩; obtain ⟨hc, _⟩ := bcell hb; have hz := hb.size; (try simp at hz); have hq := Nat.lt_of_lt_of_le (Nat.lt_succ_self _) hz))
    go_ret
    exact ⟨ret_bool H.out.symm, by (repeat' (first | exact Below.refl _ _ | assumption | exact Nat.le_refl _ | (refine Below.alloc ?_ ?_ _) | (refine Below.drew ?_) | (refine Below.setCell ?_ ?_ _) | (refine Below.trans ?_ (Below.mono (by assumption) ?_)) | (simp; done) | (simp; omega) | omega))⟩
  have H := hid (show wholeB f b s t y p e = true by simp [c0, c1, c2, c3, c4, c5, wholeB, wrdB])
  go_enter Tryd.func100, Tryd.ntmps100
  go_wp2_with (first | (go_at_call 40; refine (within_any _ _ _ _).mono ?_; rintro e w' ⟨rfl, rfl⟩) | (go_at_call 99; refine (origin_any _ _ _ _).mono ?_; rintro e w' ⟨rfl, hb⟩; obtain ⟨hc, _⟩ := bcell hb; have hz := hb.size; (try simp at hz); have hq := Nat.lt_of_lt_of_le (Nat.lt_succ_self _) hz))
  go_ret
  exact ⟨ret_bool H.out.symm, by (repeat' (first | exact Below.refl _ _ | assumption | exact Nat.le_refl _ | (refine Below.alloc ?_ ?_ _) | (refine Below.drew ?_) | (refine Below.setCell ?_ ?_ _) | (refine Below.trans ?_ (Below.mono (by assumption) ?_)) | (simp; done) | (simp; omega) | omega))⟩

set_option maxHeartbeats 1000000 in
theorem sorted_word (k f t y b p e s : Int) (w : World) (c0 : (k == 2) = true) :
    Calls Tryd.prog 62 #[.agg #[.int .i64 k, .int .i64 f, .int .i64 t, .int .i64 y, .int .i64 b, .int .i64 p, .int .i64 e, .int .i64 s]] w fun x w' => x = .returned (.iface 109 (.agg #[.int .i64 f, .int .i64 b, .int .i64 s, .int .i64 t, .int .i64 y, .int .i64 p, .int .i64 e])) ∧ Below w.heap.size w w' := by
  go_enter Tryd.func62, Tryd.ntmps62
  go_wp2
  go_ret
  exact ⟨rfl, by (repeat' (first | exact Below.refl _ _ | assumption | exact Nat.le_refl _ | (refine Below.alloc ?_ ?_ _) | (refine Below.drew ?_) | (refine Below.setCell ?_ ?_ _) | (refine Below.trans ?_ (Below.mono (by assumption) ?_)) | (simp; done) | (simp; omega) | omega))⟩
set_option maxHeartbeats 1000000 in
theorem sorted_hello (k f t y b p e s : Int) (w : World) (c0 : (k == 2) = false) (c1 : (k == 1) = true) (h : helB t y p e = true) :
    Calls Tryd.prog 62 #[.agg #[.int .i64 k, .int .i64 f, .int .i64 t, .int .i64 y, .int .i64 b, .int .i64 p, .int .i64 e, .int .i64 s]] w fun x w' => x = .returned (.iface 111 (.agg #[.int .i64 f, .int .i64 b, .int .i64 s])) ∧ Below w.heap.size w w' := by
  simp only [helB, Bool.and_eq_true] at h
  obtain ⟨h1, h2, h3, h4⟩ := h
  go_enter Tryd.func62, Tryd.ntmps62
  go_wp2
  go_ret
  exact ⟨rfl, by (repeat' (first | exact Below.refl _ _ | assumption | exact Nat.le_refl _ | (refine Below.alloc ?_ ?_ _) | (refine Below.drew ?_) | (refine Below.setCell ?_ ?_ _) | (refine Below.trans ?_ (Below.mono (by assumption) ?_)) | (simp; done) | (simp; omega) | omega))⟩
set_option maxHeartbeats 2000000 in
theorem sorted_nil (k f t y b p e s : Int) (w : World) (c0 : (k == 2) = false) (h : (k == 1 && helB t y p e) = false) :
    Calls Tryd.prog 62 #[.agg #[.int .i64 k, .int .i64 f, .int .i64 t, .int .i64 y, .int .i64 b, .int .i64 p, .int .i64 e, .int .i64 s]] w fun x w' => x = .returned .nilIface ∧ Below w.heap.size w w' := by
  cases c1 : (k == 1)
  · clear h
    go_enter Tryd.func62, Tryd.ntmps62
    go_wp2
    go_ret
    exact ⟨rfl, by (repeat' (first | exact Below.refl _ _ | assumption | exact Nat.le_refl _ | (refine Below.alloc ?_ ?_ _) | (refine Below.drew ?_) | (refine Below.setCell ?_ ?_ _) | (refine Below.trans ?_ (Below.mono (by assumption) ?_)) | (simp; done) | (simp; omega) | omega))⟩
  cases c2 : (t == 255)
  · clear h
    go_enter Tryd.func62, Tryd.ntmps62
    go_wp2
    go_ret
    exact ⟨rfl, by (repeat' (first | exact Below.refl _ _ | assumption | exact Nat.le_refl _ | (refine Below.alloc ?_ ?_ _) | (refine Below.drew ?_) | (refine Below.setCell ?_ ?_ _) | (refine Below.trans ?_ (Below.mono (by assumption) ?_)) | (simp; done) | (simp; omega) | omega))⟩
  cases c3 : (y == 255)
  · clear h
    go_enter Tryd.func62, Tryd.ntmps62
    go_wp2
    go_ret
    exact ⟨rfl, by (repeat' (first | exact Below.refl _ _ | assumption | exact Nat.le_refl _ | (refine Below.alloc ?_ ?_ _) | (refine Below.drew ?_) | (refine Below.setCell ?_ ?_ _) | (refine Below.trans ?_ (Below.mono (by assumption) ?_)) | (simp; done) | (simp; omega) | omega))⟩
  cases c4 : (p == 0)
  · clear h
    go_enter Tryd.func62, Tryd.ntmps62
    go_wp2
    go_ret
    exact ⟨rfl, by (repeat' (first | exact Below.refl _ _ | assumption | exact Nat.le_refl _ | (refine Below.alloc ?_ ?_ _) | (refine Below.drew ?_) | (refine Below.setCell ?_ ?_ _) | (refine Below.trans ?_ (Below.mono (by assumption) ?_)) | (simp; done) | (simp; omega) | omega))⟩
  cases c5 : (e == 0)
  · clear h
    go_enter Tryd.func62, Tryd.ntmps62
    go_wp2
    go_ret
    exact ⟨rfl, by (repeat' (first | exact Below.refl _ _ | assumption | exact Nat.le_refl _ | (refine Below.alloc ?_ ?_ _) | (refine Below.drew ?_) | (refine Below.setCell ?_ ?_ _) | (refine Below.trans ?_ (Below.mono (by assumption) ?_)) | (simp; done) | (simp; omega) | omega))⟩
  simp [helB, c1, c2, c3, c4, c5] at h

set_option maxHeartbeats 2000000 in
theorem headOk_any (k f t y b p e s : Int) (w : World) :
    Calls Tryd.prog 26 #[.agg #[.int .i64 k, .int .i64 f, .int .i64 t, .int .i64 y, .int .i64 b, .int .i64 p, .int .i64 e, .int .i64 s]] w fun x w' => x = .returned (.bool (headB k f t y b p e s)) ∧ Below w.heap.size w w' := by
  cases c0 : (k == 2)
  · cases c1 : (k == 1 && helB t y p e)
    · have H := hid (show headB k f t y b p e s = false by simp only [headB, c0, c1]; simp)
      go_enter Tryd.func26, Tryd.ntmps26
      go_wp2_with fail
      refine (sorted_nil _ _ _ _ _ _ _ _ _ c0 c1).mono ?_
      rintro x w1 ⟨rfl, hb⟩
      have hz := hb.size
      simp at hz
      go_wp2
      go_ret
      exact ⟨ret_bool H.out.symm, by (repeat' (first | exact Below.refl _ _ | assumption | exact Nat.le_refl _ | (refine Below.alloc ?_ ?_ _) | (refine Below.drew ?_) | (refine Below.setCell ?_ ?_ _) | (refine Below.trans ?_ (Below.mono (by assumption) ?_)) | (simp; done) | (simp; omega) | omega))⟩
    · have H := hid (show headB k f t y b p e s = orgB f b s by simp only [headB, c0, c1]; simp)
      have c1' := Bool.and_eq_true_iff.1 c1
      go_enter Tryd.func26, Tryd.ntmps26
      go_wp2_with fail
      refine (sorted_hello _ _ _ _ _ _ _ _ _ c0 c1'.1 c1'.2).mono ?_
      rintro x w1 ⟨rfl, hb⟩
      have hz := hb.size
      simp at hz
      go_wp2_with (go_at_call 99; refine (origin_any _ _ _ _).mono ?_; rintro e w2 ⟨rfl, hb2⟩)
      go_ret
      exact ⟨ret_bool H.out.symm, by (repeat' (first | exact Below.refl _ _ | assumption | exact Nat.le_refl _ | (refine Below.alloc ?_ ?_ _) | (refine Below.drew ?_) | (refine Below.setCell ?_ ?_ _) | (refine Below.trans ?_ (Below.mono (by assumption) ?_)) | (simp; done) | (simp; omega) | omega))⟩
  · have hk1 : (k == 1) = false := by
      have := beq_iff_eq.1 c0
      subst this; rfl
    have H := hid (show headB k f t y b p e s = wholeB f b s t y p e by simp only [headB, wholeB, c0, hk1]; simp)
    go_enter Tryd.func26, Tryd.ntmps26
    go_wp2_with fail
    refine (sorted_word _ _ _ _ _ _ _ _ _ c0).mono ?_
    rintro x w1 ⟨rfl, hb⟩
    have hz := hb.size
    simp at hz
    go_wp2_with (go_at_call 100; refine (word_any _ _ _ _ _ _ _ _).mono ?_; rintro e w2 ⟨rfl, hb2⟩)
    go_ret
    exact ⟨ret_bool H.out.symm, by (repeat' (first | exact Below.refl _ _ | assumption | exact Nat.le_refl _ | (refine Below.alloc ?_ ?_ _) | (refine Below.drew ?_) | (refine Below.setCell ?_ ?_ _) | (refine Below.trans ?_ (Below.mono (by assumption) ?_)) | (simp; done) | (simp; omega) | omega))⟩

set_option maxHeartbeats 4000000 in
theorem specHead_any (k f t y b p e s : Int) (w : World) :
    Calls Tryd.prog 60 #[.agg #[.int .i64 k, .int .i64 f, .int .i64 t, .int .i64 y, .int .i64 b, .int .i64 p, .int .i64 e, .int .i64 s]] w fun x w' => x = .returned (.bool (headB k f t y b p e s)) ∧ Below w.heap.size w w' := by
  cases c0 : (inB f 0 3)
  · have H := hid (show headB k f t y b p e s = false by simp [c0, headB, orgB])
    go_enter Tryd.func60, Tryd.ntmps60
    go_wp2_with ((go_at_call 42; refine (l1In_any _ _ _ _).mono ?_; rintro e w' ⟨rfl, rfl⟩))
    go_ret
    exact ⟨ret_bool H.out.symm, by (repeat' (first | exact Below.refl _ _ | assumption | exact Nat.le_refl _ | (refine Below.alloc ?_ ?_ _) | (refine Below.drew ?_) | (refine Below.setCell ?_ ?_ _) | (refine Below.trans ?_ (Below.mono (by assumption) ?_)) | (simp; done) | (simp; omega) | omega))⟩
  cases c1 : (inB b 1 65535)
  · have H := hid (show headB k f t y b p e s = false by simp [c1, headB, orgB])
    go_enter Tryd.func60, Tryd.ntmps60
    go_wp2_with ((go_at_call 42; refine (l1In_any _ _ _ _).mono ?_; rintro e w' ⟨rfl, rfl⟩))
    go_ret
    exact ⟨ret_bool H.out.symm, by (repeat' (first | exact Below.refl _ _ | assumption | exact Nat.le_refl _ | (refine Below.alloc ?_ ?_ _) | (refine Below.drew ?_) | (refine Below.setCell ?_ ?_ _) | (refine Below.trans ?_ (Below.mono (by assumption) ?_)) | (simp; done) | (simp; omega) | omega))⟩
  cases c2 : (inB s 0 65535)
  · have H := hid (show headB k f t y b p e s = false by simp [c2, headB, orgB])
    go_enter Tryd.func60, Tryd.ntmps60
    go_wp2_with ((go_at_call 42; refine (l1In_any _ _ _ _).mono ?_; rintro e w' ⟨rfl, rfl⟩))
    go_ret
    exact ⟨ret_bool H.out.symm, by (repeat' (first | exact Below.refl _ _ | assumption | exact Nat.le_refl _ | (refine Below.alloc ?_ ?_ _) | (refine Below.drew ?_) | (refine Below.setCell ?_ ?_ _) | (refine Below.trans ?_ (Below.mono (by assumption) ?_)) | (simp; done) | (simp; omega) | omega))⟩
  cases c3 : (k == 1)
  · cases c4 : (k == 2)
    · have H := hid (show headB k f t y b p e s = false by simp [c3, c4, headB])
      go_enter Tryd.func60, Tryd.ntmps60
      go_wp2_with ((go_at_call 42; refine (l1In_any _ _ _ _).mono ?_; rintro e w' ⟨rfl, rfl⟩))
      go_ret
      exact ⟨ret_bool H.out.symm, by (repeat' (first | exact Below.refl _ _ | assumption | exact Nat.le_refl _ | (refine Below.alloc ?_ ?_ _) | (refine Below.drew ?_) | (refine Below.setCell ?_ ?_ _) | (refine Below.trans ?_ (Below.mono (by assumption) ?_)) | (simp; done) | (simp; omega) | omega))⟩
    cases c5 : (inB t 0 3)
    · have H := hid (show headB k f t y b p e s = false by simp [c3, c5, headB, wrdB])
      go_enter Tryd.func60, Tryd.ntmps60
      go_wp2_with ((go_at_call 42; refine (l1In_any _ _ _ _).mono ?_; rintro e w' ⟨rfl, rfl⟩))
      go_ret
      exact ⟨ret_bool H.out.symm, by (repeat' (first | exact Below.refl _ _ | assumption | exact Nat.le_refl _ | (refine Below.alloc ?_ ?_ _) | (refine Below.drew ?_) | (refine Below.setCell ?_ ?_ _) | (refine Below.trans ?_ (Below.mono (by assumption) ?_)) | (simp; done) | (simp; omega) | omega))⟩
    cases c6 : (t != f)
    · have H := hid (show headB k f t y b p e s = false by simp [c3, c6, headB, wrdB])
      go_enter Tryd.func60, Tryd.ntmps60
      go_wp2_with ((go_at_call 42; refine (l1In_any _ _ _ _).mono ?_; rintro e w' ⟨rfl, rfl⟩))
      go_ret
      exact ⟨ret_bool H.out.symm, by (repeat' (first | exact Below.refl _ _ | assumption | exact Nat.le_refl _ | (refine Below.alloc ?_ ?_ _) | (refine Below.drew ?_) | (refine Below.setCell ?_ ?_ _) | (refine Below.trans ?_ (Below.mono (by assumption) ?_)) | (simp; done) | (simp; omega) | omega))⟩
    cases c7 : (inB y 0 9)
    · have H := hid (show headB k f t y b p e s = false by simp [c3, c7, headB, wrdB])
      go_enter Tryd.func60, Tryd.ntmps60
      go_wp2_with ((go_at_call 42; refine (l1In_any _ _ _ _).mono ?_; rintro e w' ⟨rfl, rfl⟩))
      go_ret
      exact ⟨ret_bool H.out.symm, by (repeat' (first | exact Below.refl _ _ | assumption | exact Nat.le_refl _ | (refine Below.alloc ?_ ?_ _) | (refine Below.drew ?_) | (refine Below.setCell ?_ ?_ _) | (refine Below.trans ?_ (Below.mono (by assumption) ?_)) | (simp; done) | (simp; omega) | omega))⟩
    cases c8 : (inB p 0 65535)
    · have H := hid (show headB k f t y b p e s = false by simp [c3, c8, headB, wrdB])
      go_enter Tryd.func60, Tryd.ntmps60
      go_wp2_with ((go_at_call 42; refine (l1In_any _ _ _ _).mono ?_; rintro e w' ⟨rfl, rfl⟩))
      go_ret
      exact ⟨ret_bool H.out.symm, by (repeat' (first | exact Below.refl _ _ | assumption | exact Nat.le_refl _ | (refine Below.alloc ?_ ?_ _) | (refine Below.drew ?_) | (refine Below.setCell ?_ ?_ _) | (refine Below.trans ?_ (Below.mono (by assumption) ?_)) | (simp; done) | (simp; omega) | omega))⟩
    cases c9 : (inB e 0 255)
    · have H := hid (show headB k f t y b p e s = false by simp [c3, c9, headB, wrdB])
      go_enter Tryd.func60, Tryd.ntmps60
      go_wp2_with ((go_at_call 42; refine (l1In_any _ _ _ _).mono ?_; rintro e w' ⟨rfl, rfl⟩))
      go_ret
      exact ⟨ret_bool H.out.symm, by (repeat' (first | exact Below.refl _ _ | assumption | exact Nat.le_refl _ | (refine Below.alloc ?_ ?_ _) | (refine Below.drew ?_) | (refine Below.setCell ?_ ?_ _) | (refine Below.trans ?_ (Below.mono (by assumption) ?_)) | (simp; done) | (simp; omega) | omega))⟩
    have H := hid (show headB k f t y b p e s = true by simp [c0, c1, c2, c3, c4, c5, c6, c7, c8, c9, headB, orgB, wrdB])
    go_enter Tryd.func60, Tryd.ntmps60
    go_wp2_with ((go_at_call 42; refine (l1In_any _ _ _ _).mono ?_; rintro e w' ⟨rfl, rfl⟩))
    go_ret
    exact ⟨ret_bool H.out.symm, by (repeat' (first | exact Below.refl _ _ | assumption | exact Nat.le_refl _ | (refine Below.alloc ?_ ?_ _) | (refine Below.drew ?_) | (refine Below.setCell ?_ ?_ _) | (refine Below.trans ?_ (Below.mono (by assumption) ?_)) | (simp; done) | (simp; omega) | omega))⟩
  · have c4 : (k == 2) = false := by
      have := beq_iff_eq.1 c3
      subst this; rfl
    cases c5 : (t == 255)
    · have H := hid (show headB k f t y b p e s = false by simp [c4, c5, headB, helB])
      go_enter Tryd.func60, Tryd.ntmps60
      go_wp2_with ((go_at_call 42; refine (l1In_any _ _ _ _).mono ?_; rintro e w' ⟨rfl, rfl⟩))
      go_ret
      exact ⟨ret_bool H.out.symm, by (repeat' (first | exact Below.refl _ _ | assumption | exact Nat.le_refl _ | (refine Below.alloc ?_ ?_ _) | (refine Below.drew ?_) | (refine Below.setCell ?_ ?_ _) | (refine Below.trans ?_ (Below.mono (by assumption) ?_)) | (simp; done) | (simp; omega) | omega))⟩
    cases c6 : (y == 255)
    · have H := hid (show headB k f t y b p e s = false by simp [c4, c6, headB, helB])
      go_enter Tryd.func60, Tryd.ntmps60
      go_wp2_with ((go_at_call 42; refine (l1In_any _ _ _ _).mono ?_; rintro e w' ⟨rfl, rfl⟩))
      go_ret
      exact ⟨ret_bool H.out.symm, by (repeat' (first | exact Below.refl _ _ | assumption | exact Nat.le_refl _ | (refine Below.alloc ?_ ?_ _) | (refine Below.drew ?_) | (refine Below.setCell ?_ ?_ _) | (refine Below.trans ?_ (Below.mono (by assumption) ?_)) | (simp; done) | (simp; omega) | omega))⟩
    cases c7 : (p == 0)
    · have H := hid (show headB k f t y b p e s = false by simp [c4, c7, headB, helB])
      go_enter Tryd.func60, Tryd.ntmps60
      go_wp2_with ((go_at_call 42; refine (l1In_any _ _ _ _).mono ?_; rintro e w' ⟨rfl, rfl⟩))
      go_ret
      exact ⟨ret_bool H.out.symm, by (repeat' (first | exact Below.refl _ _ | assumption | exact Nat.le_refl _ | (refine Below.alloc ?_ ?_ _) | (refine Below.drew ?_) | (refine Below.setCell ?_ ?_ _) | (refine Below.trans ?_ (Below.mono (by assumption) ?_)) | (simp; done) | (simp; omega) | omega))⟩
    cases c8 : (e == 0)
    · have H := hid (show headB k f t y b p e s = false by simp [c4, c8, headB, helB])
      go_enter Tryd.func60, Tryd.ntmps60
      go_wp2_with ((go_at_call 42; refine (l1In_any _ _ _ _).mono ?_; rintro e w' ⟨rfl, rfl⟩))
      go_ret
      exact ⟨ret_bool H.out.symm, by (repeat' (first | exact Below.refl _ _ | assumption | exact Nat.le_refl _ | (refine Below.alloc ?_ ?_ _) | (refine Below.drew ?_) | (refine Below.setCell ?_ ?_ _) | (refine Below.trans ?_ (Below.mono (by assumption) ?_)) | (simp; done) | (simp; omega) | omega))⟩
    have H := hid (show headB k f t y b p e s = true by simp [c0, c1, c2, c3, c5, c6, c7, c8, headB, helB, orgB])
    go_enter Tryd.func60, Tryd.ntmps60
    go_wp2_with ((go_at_call 42; refine (l1In_any _ _ _ _).mono ?_; rintro e w' ⟨rfl, rfl⟩))
    go_ret
    exact ⟨ret_bool H.out.symm, by (repeat' (first | exact Below.refl _ _ | assumption | exact Nat.le_refl _ | (refine Below.alloc ?_ ?_ _) | (refine Below.drew ?_) | (refine Below.setCell ?_ ?_ _) | (refine Below.trans ?_ (Below.mono (by assumption) ?_)) | (simp; done) | (simp; omega) | omega))⟩
end Go.Proofs.YtpfelnkdimbhkaaDoor
