/- Whether a rule fits a message: the contracts of the program and of the specification. Conditions: the message's value reads as bytes; the method's own contract asks a rule whose At is not below -1. -/
import Derived.Test.YtlkmooefebenlaaGrdRule
import Derived.Deep.QuietTactic
import Derived.BigQuiet
namespace Go.Proofs.Ytlkmooefebenlaa
open Go.ChangeShapes Go.WideShapes Go.ChangeAt Go.RowKit Go.Joins Go.Deep
set_option linter.unusedVariables false
set_option maxRecDepth 4000

/-- whether a rule that is ok fits a message -/
def fitB (mi ma t lo hi : Int) (xs : List Int) : Bool := inB xs.length mi ma && (t == -1 || (decide (t < xs.length) && inB (xs.getD t.toNat 0) lo hi))
def fitsB (mi ma t lo hi z c : Int) (xs : List Int) : Bool := ruleB mi ma t lo hi z c && (decide (xs.length ≤ 8) && fitB mi ma t lo hi xs)
theorem fitB_no {mi ma t lo hi : Int} {xs : List Int} (h : inB xs.length mi ma = false) : fitB mi ma t lo hi xs = false := by simp [fitB, h]
theorem fitB_all {mi ma t lo hi : Int} {xs : List Int} (h : inB xs.length mi ma = true) (ht : t = -1) : fitB mi ma t lo hi xs = true := by simp [fitB, h, ht]
theorem fitB_short {mi ma t lo hi : Int} {xs : List Int} (h : inB xs.length mi ma = true) (ht : ¬ t = -1) (hl : ¬ t < xs.length) : fitB mi ma t lo hi xs = false := by simp [fitB, h, ht, hl]
theorem fitB_at {mi ma t lo hi : Int} {xs : List Int} (h : inB xs.length mi ma = true) (ht : ¬ t = -1) (hl : t < xs.length) : fitB mi ma t lo hi xs = inB (xs.getD t.toNat 0) lo hi := by simp [fitB, h, ht, hl]
theorem rule_at {mi ma t lo hi z c : Int} (h : ruleB mi ma t lo hi z c = true) : -1 ≤ t ∧ t ≤ 7 := by
  simp only [ruleB, Bool.and_eq_true] at h
  simpa [inB] using h.2.2.1

set_option maxHeartbeats 2000000 in
theorem fits_any (mi ma t lo hi z c : Int) (v : Value) (xs : List Int) (w : World) (hv : Rd w v xs) (ht : -1 ≤ t) :
    Calls Try.prog 69 #[.agg #[.int .i64 mi, .int .i64 ma, .int .i64 t, .int .i64 lo, .int .i64 hi, .int .i64 z, .int .i64 c], v] w fun x w' => x = .returned (.bool (fitB mi ma t lo hi xs)) ∧ Below w.heap.size w w' := by
  obtain ⟨h1, h2, a, cap, rfl, h3⟩ := hv
  cases h : inB xs.length mi ma
  · have H := hid (fitB_no (t := t) (lo := lo) (hi := hi) h)
    clear h3 h1
    go_enter Try.func69, Try.ntmps69
    go_wp2_with (go_at_call 53; refine (within_any _ _ _ _).mono ?_; rintro e w' ⟨rfl, rfl⟩)
    go_ret
    exact ⟨ret_bool H.out.symm, by (repeat' (first | exact Below.refl _ _ | assumption | exact Nat.le_refl _ | (refine Below.alloc ?_ ?_ _) | (refine Below.drew ?_) | (refine Below.setCell ?_ ?_ _) | (refine Below.trans ?_ (Below.mono (by assumption) ?_)) | (simp; done) | (simp; omega) | omega))⟩
  by_cases c1 : t = -1
  · have H := hid (fitB_all (lo := lo) (hi := hi) h c1)
    subst c1
    clear h3 h1
    go_enter Try.func69, Try.ntmps69
    go_wp2_with (go_at_call 53; refine (within_any _ _ _ _).mono ?_; rintro e w' ⟨rfl, rfl⟩)
    go_ret
    exact ⟨ret_bool H.out.symm, by (repeat' (first | exact Below.refl _ _ | assumption | exact Nat.le_refl _ | (refine Below.alloc ?_ ?_ _) | (refine Below.drew ?_) | (refine Below.setCell ?_ ?_ _) | (refine Below.trans ?_ (Below.mono (by assumption) ?_)) | (simp; done) | (simp; omega) | omega))⟩
  have d1 : (t == -1) = false := beq_eq_false_iff_ne.2 c1
  obtain ⟨T, rfl⟩ := Int.eq_ofNat_of_zero_le (show 0 ≤ t by omega)
  by_cases c2 : T < xs.length
  · have H := hid (fitB_at (lo := lo) (hi := hi) h c1 (by omega))
    rcases h3 with rfl | ⟨b, off, rfl, hc⟩
    · simp at c2
    have hX := h1 (xs.getD T 0) (by rw [List.getD_eq_getElem?_getD, List.getElem?_eq_getElem c2]; exact List.getElem_mem c2)
    have hcx := cell_keep (below_alloc1 w (.cells #[.int .i64 mi, .int .i64 ma, .int .i64 (T : Int), .int .i64 lo, .int .i64 hi, .int .i64 z, .int .i64 c] 46)) (hc T c2)
    simp only [Int.toNat_natCast] at H
    generalize xs.getD T 0 = X at hcx H hX
    have hd : decide ((T : Int) < (xs.length : Int)) = true := by simp; omega
    have t0 : (0 : Int) ≤ (T : Int) := by omega
    have t1 : (T : Int) < (xs.length : Int) := by omega
    clear hc h1
    go_enter Try.func69, Try.ntmps69
    go_wp2_with (go_at_call 53; refine (within_any _ _ _ _).mono ?_; rintro e w' ⟨rfl, rfl⟩)
    go_quiet ((go_at_call 53; exact Calls.quiet_of_same (within_any _ _ _ _)))
    go_wp2
    go_ret
    exact ⟨ret_bool H.out.symm, (below_alloc1 _ _).trans (below_draws _ _ _)⟩
  · have H := hid (fitB_short (lo := lo) (hi := hi) h c1 (by omega))
    have hd : decide ((T : Int) < (xs.length : Int)) = false := by simp; omega
    clear h3 h1
    go_enter Try.func69, Try.ntmps69
    go_wp2_with (go_at_call 53; refine (within_any _ _ _ _).mono ?_; rintro e w' ⟨rfl, rfl⟩)
    go_quiet (fail)
    go_wp2
    go_ret
    exact ⟨ret_bool H.out.symm, (below_alloc1 _ _).trans (below_draws _ _ _)⟩

theorem fitsB_no1 {mi ma t lo hi z c : Int} {xs : List Int} (h : ruleB mi ma t lo hi z c = false) : fitsB mi ma t lo hi z c xs = false := by simp [fitsB, h]
theorem fitsB_no2 {mi ma t lo hi z c : Int} {xs : List Int} (h : decide (xs.length ≤ 8) = false) : fitsB mi ma t lo hi z c xs = false := by simp only [fitsB, h, Bool.false_and, Bool.and_false]
theorem fitsB_yes {mi ma t lo hi z c : Int} {xs : List Int} (h : ruleB mi ma t lo hi z c = true) (h' : decide (xs.length ≤ 8) = true) : fitsB mi ma t lo hi z c xs = fitB mi ma t lo hi xs := by simp only [fitsB, h, h', Bool.true_and]
set_option maxHeartbeats 4000000 in
theorem specFits_any (mi ma t lo hi z c : Int) (v : Value) (xs : List Int) (w : World) (hv : Rd w v xs) :
    Calls Try.prog 51 #[.agg #[.int .i64 mi, .int .i64 ma, .int .i64 t, .int .i64 lo, .int .i64 hi, .int .i64 z, .int .i64 c], v] w fun x w' => x = .returned (.bool (fitsB mi ma t lo hi z c xs)) ∧ Below w.heap.size w w' := by
  have HV := hid hv
  obtain ⟨h1, h2, a, cap, rfl, h3⟩ := hv
  cases c0 : ruleB mi ma t lo hi z c
  · have H := hid (fitsB_no1 (xs := xs) c0)
    clear h3 h1
    go_enter Try.func51, Try.ntmps51
    go_wp2_with ((first | (go_at_call 36; refine (specRule_any mi ma t lo hi z c _).mono ?_; rintro e w1 ⟨rfl, hb⟩; have q0 := cell_keep hb (show (w.alloc (.cells #[.int .i64 mi, .int .i64 ma, .int .i64 t, .int .i64 lo, .int .i64 hi, .int .i64 z, .int .i64 c] 46)).cell? ⟨w.heap.size, 0, none⟩ = some (.int .i64 mi) by go_simp); have q1 := cell_keep hb (show (w.alloc (.cells #[.int .i64 mi, .int .i64 ma, .int .i64 t, .int .i64 lo, .int .i64 hi, .int .i64 z, .int .i64 c] 46)).cell? ⟨w.heap.size, 1, none⟩ = some (.int .i64 ma) by go_simp); have q2 := cell_keep hb (show (w.alloc (.cells #[.int .i64 mi, .int .i64 ma, .int .i64 t, .int .i64 lo, .int .i64 hi, .int .i64 z, .int .i64 c] 46)).cell? ⟨w.heap.size, 2, none⟩ = some (.int .i64 t) by go_simp); have q3 := cell_keep hb (show (w.alloc (.cells #[.int .i64 mi, .int .i64 ma, .int .i64 t, .int .i64 lo, .int .i64 hi, .int .i64 z, .int .i64 c] 46)).cell? ⟨w.heap.size, 3, none⟩ = some (.int .i64 lo) by go_simp); have q4 := cell_keep hb (show (w.alloc (.cells #[.int .i64 mi, .int .i64 ma, .int .i64 t, .int .i64 lo, .int .i64 hi, .int .i64 z, .int .i64 c] 46)).cell? ⟨w.heap.size, 4, none⟩ = some (.int .i64 hi) by go_simp); have R1 := hid ((HV.out.keep (below_alloc1 w (.cells #[.int .i64 mi, .int .i64 ma, .int .i64 t, .int .i64 lo, .int .i64 hi, .int .i64 z, .int .i64 c] 46))).keep hb); have B1 := hid ((below_alloc1 w (.cells #[.int .i64 mi, .int .i64 ma, .int .i64 t, .int .i64 lo, .int .i64 hi, .int .i64 z, .int .i64 c] 46)).trans (hb.mono (by simp))); skip; clear hb) | (go_at_call 27; refine (specMsg_any _ xs _ R1.out).mono ?_; rintro e w2 ⟨rfl, rfl⟩) | (go_at_call 54; refine (l1In_any _ _ _ _).mono ?_; rintro e w2 ⟨rfl, rfl⟩)))
    go_ret
    exact ⟨ret_bool H.out.symm, B1.out⟩
  cases c8 : decide (xs.length ≤ 8)
  · have H := hid (fitsB_no2 (mi := mi) (ma := ma) (t := t) (lo := lo) (hi := hi) (z := z) (c := c) c8)
    clear h3 h1
    go_enter Try.func51, Try.ntmps51
    go_wp2_with ((first | (go_at_call 36; refine (specRule_any mi ma t lo hi z c _).mono ?_; rintro e w1 ⟨rfl, hb⟩; have q0 := cell_keep hb (show (w.alloc (.cells #[.int .i64 mi, .int .i64 ma, .int .i64 t, .int .i64 lo, .int .i64 hi, .int .i64 z, .int .i64 c] 46)).cell? ⟨w.heap.size, 0, none⟩ = some (.int .i64 mi) by go_simp); have q1 := cell_keep hb (show (w.alloc (.cells #[.int .i64 mi, .int .i64 ma, .int .i64 t, .int .i64 lo, .int .i64 hi, .int .i64 z, .int .i64 c] 46)).cell? ⟨w.heap.size, 1, none⟩ = some (.int .i64 ma) by go_simp); have q2 := cell_keep hb (show (w.alloc (.cells #[.int .i64 mi, .int .i64 ma, .int .i64 t, .int .i64 lo, .int .i64 hi, .int .i64 z, .int .i64 c] 46)).cell? ⟨w.heap.size, 2, none⟩ = some (.int .i64 t) by go_simp); have q3 := cell_keep hb (show (w.alloc (.cells #[.int .i64 mi, .int .i64 ma, .int .i64 t, .int .i64 lo, .int .i64 hi, .int .i64 z, .int .i64 c] 46)).cell? ⟨w.heap.size, 3, none⟩ = some (.int .i64 lo) by go_simp); have q4 := cell_keep hb (show (w.alloc (.cells #[.int .i64 mi, .int .i64 ma, .int .i64 t, .int .i64 lo, .int .i64 hi, .int .i64 z, .int .i64 c] 46)).cell? ⟨w.heap.size, 4, none⟩ = some (.int .i64 hi) by go_simp); have R1 := hid ((HV.out.keep (below_alloc1 w (.cells #[.int .i64 mi, .int .i64 ma, .int .i64 t, .int .i64 lo, .int .i64 hi, .int .i64 z, .int .i64 c] 46))).keep hb); have B1 := hid ((below_alloc1 w (.cells #[.int .i64 mi, .int .i64 ma, .int .i64 t, .int .i64 lo, .int .i64 hi, .int .i64 z, .int .i64 c] 46)).trans (hb.mono (by simp))); skip; clear hb) | (go_at_call 27; refine (specMsg_any _ xs _ R1.out).mono ?_; rintro e w2 ⟨rfl, rfl⟩) | (go_at_call 54; refine (l1In_any _ _ _ _).mono ?_; rintro e w2 ⟨rfl, rfl⟩)))
    go_ret
    exact ⟨ret_bool H.out.symm, B1.out⟩
  have HY := hid (fitsB_yes c0 c8)
  have HT := rule_at c0
  cases h : inB xs.length mi ma
  · have H := hid (fitB_no (t := t) (lo := lo) (hi := hi) h)
    clear h3 h1 HT
    go_enter Try.func51, Try.ntmps51
    go_wp2_with ((first | (go_at_call 36; refine (specRule_any mi ma t lo hi z c _).mono ?_; rintro e w1 ⟨rfl, hb⟩; have q0 := cell_keep hb (show (w.alloc (.cells #[.int .i64 mi, .int .i64 ma, .int .i64 t, .int .i64 lo, .int .i64 hi, .int .i64 z, .int .i64 c] 46)).cell? ⟨w.heap.size, 0, none⟩ = some (.int .i64 mi) by go_simp); have q1 := cell_keep hb (show (w.alloc (.cells #[.int .i64 mi, .int .i64 ma, .int .i64 t, .int .i64 lo, .int .i64 hi, .int .i64 z, .int .i64 c] 46)).cell? ⟨w.heap.size, 1, none⟩ = some (.int .i64 ma) by go_simp); have q2 := cell_keep hb (show (w.alloc (.cells #[.int .i64 mi, .int .i64 ma, .int .i64 t, .int .i64 lo, .int .i64 hi, .int .i64 z, .int .i64 c] 46)).cell? ⟨w.heap.size, 2, none⟩ = some (.int .i64 t) by go_simp); have q3 := cell_keep hb (show (w.alloc (.cells #[.int .i64 mi, .int .i64 ma, .int .i64 t, .int .i64 lo, .int .i64 hi, .int .i64 z, .int .i64 c] 46)).cell? ⟨w.heap.size, 3, none⟩ = some (.int .i64 lo) by go_simp); have q4 := cell_keep hb (show (w.alloc (.cells #[.int .i64 mi, .int .i64 ma, .int .i64 t, .int .i64 lo, .int .i64 hi, .int .i64 z, .int .i64 c] 46)).cell? ⟨w.heap.size, 4, none⟩ = some (.int .i64 hi) by go_simp); have R1 := hid ((HV.out.keep (below_alloc1 w (.cells #[.int .i64 mi, .int .i64 ma, .int .i64 t, .int .i64 lo, .int .i64 hi, .int .i64 z, .int .i64 c] 46))).keep hb); have B1 := hid ((below_alloc1 w (.cells #[.int .i64 mi, .int .i64 ma, .int .i64 t, .int .i64 lo, .int .i64 hi, .int .i64 z, .int .i64 c] 46)).trans (hb.mono (by simp))); skip; clear hb) | (go_at_call 27; refine (specMsg_any _ xs _ R1.out).mono ?_; rintro e w2 ⟨rfl, rfl⟩) | (go_at_call 54; refine (l1In_any _ _ _ _).mono ?_; rintro e w2 ⟨rfl, rfl⟩)))
    go_ret
    exact ⟨ret_bool (HY.out.trans H.out).symm, B1.out⟩
  by_cases c1 : t = -1
  · have H := hid (fitB_all (lo := lo) (hi := hi) h c1)
    subst c1
    clear h3 h1 HT
    go_enter Try.func51, Try.ntmps51
    go_wp2_with ((first | (go_at_call 36; refine (specRule_any mi ma (-1) lo hi z c _).mono ?_; rintro e w1 ⟨rfl, hb⟩; have q0 := cell_keep hb (show (w.alloc (.cells #[.int .i64 mi, .int .i64 ma, .int .i64 (-1), .int .i64 lo, .int .i64 hi, .int .i64 z, .int .i64 c] 46)).cell? ⟨w.heap.size, 0, none⟩ = some (.int .i64 mi) by go_simp); have q1 := cell_keep hb (show (w.alloc (.cells #[.int .i64 mi, .int .i64 ma, .int .i64 (-1), .int .i64 lo, .int .i64 hi, .int .i64 z, .int .i64 c] 46)).cell? ⟨w.heap.size, 1, none⟩ = some (.int .i64 ma) by go_simp); have q2 := cell_keep hb (show (w.alloc (.cells #[.int .i64 mi, .int .i64 ma, .int .i64 (-1), .int .i64 lo, .int .i64 hi, .int .i64 z, .int .i64 c] 46)).cell? ⟨w.heap.size, 2, none⟩ = some (.int .i64 (-1)) by go_simp); have q3 := cell_keep hb (show (w.alloc (.cells #[.int .i64 mi, .int .i64 ma, .int .i64 (-1), .int .i64 lo, .int .i64 hi, .int .i64 z, .int .i64 c] 46)).cell? ⟨w.heap.size, 3, none⟩ = some (.int .i64 lo) by go_simp); have q4 := cell_keep hb (show (w.alloc (.cells #[.int .i64 mi, .int .i64 ma, .int .i64 (-1), .int .i64 lo, .int .i64 hi, .int .i64 z, .int .i64 c] 46)).cell? ⟨w.heap.size, 4, none⟩ = some (.int .i64 hi) by go_simp); have R1 := hid ((HV.out.keep (below_alloc1 w (.cells #[.int .i64 mi, .int .i64 ma, .int .i64 (-1), .int .i64 lo, .int .i64 hi, .int .i64 z, .int .i64 c] 46))).keep hb); have B1 := hid ((below_alloc1 w (.cells #[.int .i64 mi, .int .i64 ma, .int .i64 (-1), .int .i64 lo, .int .i64 hi, .int .i64 z, .int .i64 c] 46)).trans (hb.mono (by simp))); skip; clear hb) | (go_at_call 27; refine (specMsg_any _ xs _ R1.out).mono ?_; rintro e w2 ⟨rfl, rfl⟩) | (go_at_call 54; refine (l1In_any _ _ _ _).mono ?_; rintro e w2 ⟨rfl, rfl⟩)))
    go_quiet (fail)
    go_wp2
    go_ret
    exact ⟨ret_bool (HY.out.trans H.out).symm, B1.out.trans (below_draws _ _ _)⟩
  have d1 : decide (t < 0) = false := by simp; omega
  obtain ⟨T, rfl⟩ := Int.eq_ofNat_of_zero_le (show 0 ≤ t by omega)
  clear HT
  by_cases c2 : T < xs.length
  · have H := hid (fitB_at (lo := lo) (hi := hi) h c1 (by omega))
    rcases h3 with rfl | ⟨b, off, rfl, hc⟩
    · simp at c2
    have hX := h1 (xs.getD T 0) (by rw [List.getD_eq_getElem?_getD, List.getElem?_eq_getElem c2]; exact List.getElem_mem c2)
    have HC := hid (hc T c2)
    simp only [Int.toNat_natCast] at H
    generalize xs.getD T 0 = X at HC H hX
    have hd : decide ((T : Int) < (xs.length : Int)) = true := by simp; omega
    have t0 : (0 : Int) ≤ (T : Int) := by omega
    have t1 : (T : Int) < (xs.length : Int) := by omega
    clear hc h1
    go_enter Try.func51, Try.ntmps51
    go_wp2_with ((first | (go_at_call 36; refine (specRule_any mi ma (T : Int) lo hi z c _).mono ?_; rintro e w1 ⟨rfl, hb⟩; have q0 := cell_keep hb (show (w.alloc (.cells #[.int .i64 mi, .int .i64 ma, .int .i64 (T : Int), .int .i64 lo, .int .i64 hi, .int .i64 z, .int .i64 c] 46)).cell? ⟨w.heap.size, 0, none⟩ = some (.int .i64 mi) by go_simp); have q1 := cell_keep hb (show (w.alloc (.cells #[.int .i64 mi, .int .i64 ma, .int .i64 (T : Int), .int .i64 lo, .int .i64 hi, .int .i64 z, .int .i64 c] 46)).cell? ⟨w.heap.size, 1, none⟩ = some (.int .i64 ma) by go_simp); have q2 := cell_keep hb (show (w.alloc (.cells #[.int .i64 mi, .int .i64 ma, .int .i64 (T : Int), .int .i64 lo, .int .i64 hi, .int .i64 z, .int .i64 c] 46)).cell? ⟨w.heap.size, 2, none⟩ = some (.int .i64 (T : Int)) by go_simp); have q3 := cell_keep hb (show (w.alloc (.cells #[.int .i64 mi, .int .i64 ma, .int .i64 (T : Int), .int .i64 lo, .int .i64 hi, .int .i64 z, .int .i64 c] 46)).cell? ⟨w.heap.size, 3, none⟩ = some (.int .i64 lo) by go_simp); have q4 := cell_keep hb (show (w.alloc (.cells #[.int .i64 mi, .int .i64 ma, .int .i64 (T : Int), .int .i64 lo, .int .i64 hi, .int .i64 z, .int .i64 c] 46)).cell? ⟨w.heap.size, 4, none⟩ = some (.int .i64 hi) by go_simp); have R1 := hid ((HV.out.keep (below_alloc1 w (.cells #[.int .i64 mi, .int .i64 ma, .int .i64 (T : Int), .int .i64 lo, .int .i64 hi, .int .i64 z, .int .i64 c] 46))).keep hb); have B1 := hid ((below_alloc1 w (.cells #[.int .i64 mi, .int .i64 ma, .int .i64 (T : Int), .int .i64 lo, .int .i64 hi, .int .i64 z, .int .i64 c] 46)).trans (hb.mono (by simp))); have hcx := cell_keep hb (cell_keep (below_alloc1 w (.cells #[.int .i64 mi, .int .i64 ma, .int .i64 (T : Int), .int .i64 lo, .int .i64 hi, .int .i64 z, .int .i64 c] 46)) HC.out); clear hb) | (go_at_call 27; refine (specMsg_any _ xs _ R1.out).mono ?_; rintro e w2 ⟨rfl, rfl⟩) | (go_at_call 54; refine (l1In_any _ _ _ _).mono ?_; rintro e w2 ⟨rfl, rfl⟩)))
    go_quiet ((go_at_call 54; exact Calls.quiet_of_same (l1In_any _ _ _ _)))
    go_wp2
    go_ret
    exact ⟨ret_bool (HY.out.trans H.out).symm, B1.out.trans (below_draws _ _ _)⟩
  · have H := hid (fitB_short (lo := lo) (hi := hi) h c1 (by omega))
    have hd : decide ((T : Int) < (xs.length : Int)) = false := by simp; omega
    clear h3 h1
    go_enter Try.func51, Try.ntmps51
    go_wp2_with ((first | (go_at_call 36; refine (specRule_any mi ma (T : Int) lo hi z c _).mono ?_; rintro e w1 ⟨rfl, hb⟩; have q0 := cell_keep hb (show (w.alloc (.cells #[.int .i64 mi, .int .i64 ma, .int .i64 (T : Int), .int .i64 lo, .int .i64 hi, .int .i64 z, .int .i64 c] 46)).cell? ⟨w.heap.size, 0, none⟩ = some (.int .i64 mi) by go_simp); have q1 := cell_keep hb (show (w.alloc (.cells #[.int .i64 mi, .int .i64 ma, .int .i64 (T : Int), .int .i64 lo, .int .i64 hi, .int .i64 z, .int .i64 c] 46)).cell? ⟨w.heap.size, 1, none⟩ = some (.int .i64 ma) by go_simp); have q2 := cell_keep hb (show (w.alloc (.cells #[.int .i64 mi, .int .i64 ma, .int .i64 (T : Int), .int .i64 lo, .int .i64 hi, .int .i64 z, .int .i64 c] 46)).cell? ⟨w.heap.size, 2, none⟩ = some (.int .i64 (T : Int)) by go_simp); have q3 := cell_keep hb (show (w.alloc (.cells #[.int .i64 mi, .int .i64 ma, .int .i64 (T : Int), .int .i64 lo, .int .i64 hi, .int .i64 z, .int .i64 c] 46)).cell? ⟨w.heap.size, 3, none⟩ = some (.int .i64 lo) by go_simp); have q4 := cell_keep hb (show (w.alloc (.cells #[.int .i64 mi, .int .i64 ma, .int .i64 (T : Int), .int .i64 lo, .int .i64 hi, .int .i64 z, .int .i64 c] 46)).cell? ⟨w.heap.size, 4, none⟩ = some (.int .i64 hi) by go_simp); have R1 := hid ((HV.out.keep (below_alloc1 w (.cells #[.int .i64 mi, .int .i64 ma, .int .i64 (T : Int), .int .i64 lo, .int .i64 hi, .int .i64 z, .int .i64 c] 46))).keep hb); have B1 := hid ((below_alloc1 w (.cells #[.int .i64 mi, .int .i64 ma, .int .i64 (T : Int), .int .i64 lo, .int .i64 hi, .int .i64 z, .int .i64 c] 46)).trans (hb.mono (by simp))); skip; clear hb) | (go_at_call 27; refine (specMsg_any _ xs _ R1.out).mono ?_; rintro e w2 ⟨rfl, rfl⟩) | (go_at_call 54; refine (l1In_any _ _ _ _).mono ?_; rintro e w2 ⟨rfl, rfl⟩)))
    go_quiet (fail)
    go_wp2
    go_ret
    exact ⟨ret_bool (HY.out.trans H.out).symm, B1.out.trans (below_draws _ _ _)⟩
end Go.Proofs.Ytlkmooefebenlaa
