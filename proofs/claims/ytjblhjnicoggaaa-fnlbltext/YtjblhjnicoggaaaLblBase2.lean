/- The contracts of LblFlows, LblBoth and LblCommon, of the program and of the specification. No conditions. -/
import Derived.Test.YtjblhjnicoggaaaLblBase
namespace Go.Proofs.Ytjblhjnicoggaaa
open Go.ChangeShapes Go.WideShapes Go.ChangeAt Go.RowKit Go.Joins
set_option linter.unusedVariables false

theorem marks16 : ∀ a b : Fin 16, (bits .andNot .i64 (a.val : Int) (b.val : Int) == 0) = (bits .or .i64 (a.val : Int) (b.val : Int) == (b.val : Int)) := by decide +kernel
theorem marksB {m1 m2 : Int} (a : 0 ≤ m1) (b : m1 ≤ 15) (c : 0 ≤ m2) (d : m2 ≤ 15) : (bits .andNot .i64 m1 m2 == 0) = (bits .or .i64 m1 m2 == m2) := by
  have h := marks16 ⟨m1.toNat, by omega⟩ ⟨m2.toNat, by omega⟩
  simp only [Int.toNat_of_nonneg a, Int.toNat_of_nonneg c] at h
  exact h

/-- whether both labels are ok, and what has the one may flow to the other -/
def flB (l1 m1 l2 m2 : Int) : Bool := okB l1 m1 && (okB l2 m2 && (decide (l1 ≤ l2) && (bits .or .i64 m1 m2 == m2)))

theorem flows_any (l1 m1 l2 m2 : Int) (w : World) (h1 : okB l1 m1 = true) (h2 : okB l2 m2 = true) :
    Calls Try.prog 36 #[.agg #[.int .i64 l1, .int .i64 m1], .agg #[.int .i64 l2, .int .i64 m2]] w fun e w' => e = .returned (.bool (flB l1 m1 l2 m2)) ∧ Below w.heap.size w w' := by
  have g1 := okB_iff.1 h1
  have g2 := okB_iff.1 h2
  have hm := marksB g1.2.1 g1.2.2 g2.2.1 g2.2.2
  have H : Hid (flB l1 m1 l2 m2 = (decide (l1 ≤ l2) && (bits .andNot .i64 m1 m2 == 0))) := by
    unfold Hid flB; rw [hm, h1, h2]; simp
  clear hm h1 h2 g1 g2
  by_cases hle : l1 ≤ l2
  · have hd : decide (l2 < l1) = false := by simp; omega
    go_enter Try.func36, Try.ntmps36
    go_wp2
    go_ret
    refine ⟨ret_bool ?_, by go_grown⟩
    rw [H.out]
    simp [hle]
  · have hd : decide (l2 < l1) = true := by simp; omega
    go_enter Try.func36, Try.ntmps36
    go_wp2
    go_ret
    refine ⟨ret_bool ?_, by go_grown⟩
    rw [H.out]
    simp
    omega

theorem lblFlows_any (l1 m1 l2 m2 : Int) (w : World) :
    Calls Try.prog 14 #[.agg #[.int .i64 l1, .int .i64 m1], .agg #[.int .i64 l2, .int .i64 m2]] w fun e w' => e = .returned (.bool (flB l1 m1 l2 m2)) ∧ Below w.heap.size w w' := by
  cases h1 : okB l1 m1
  · have H : Hid (flB l1 m1 l2 m2 = false) := by unfold Hid flB; simp [h1]
    go_enter Try.func14, Try.ntmps14
    go_wp2_with fail
    refine (ok_any _ _ _).mono ?_
    rintro e w1 ⟨rfl, hb1⟩
    rw [h1]
    go_wp2
    go_ret
    exact ⟨ret_bool H.out.symm, by (repeat' (first | exact Below.refl _ _ | assumption | exact Nat.le_refl _ | (refine Below.alloc ?_ ?_ _) | (refine Below.drew ?_) | (refine Below.setCell ?_ ?_ _) | (refine Below.trans ?_ (Below.mono (by assumption) ?_)) | (simp; done) | (simp; omega) | omega))⟩
  · cases h2 : okB l2 m2
    · have H : Hid (flB l1 m1 l2 m2 = false) := by unfold Hid flB; simp [h2]
      go_enter Try.func14, Try.ntmps14
      go_wp2_with fail
      refine (ok_any _ _ _).mono ?_
      rintro e w1 ⟨rfl, hb1⟩
      rw [h1]
      obtain ⟨hc1, _⟩ := bcell hb1
      have z1 := hb1.size
      simp at z1
      go_wp2_with fail
      refine (ok_any _ _ _).mono ?_
      rintro e w2 ⟨rfl, hb2⟩
      rw [h2]
      go_wp2
      go_ret
      exact ⟨ret_bool H.out.symm, by (repeat' (first | exact Below.refl _ _ | assumption | exact Nat.le_refl _ | (refine Below.alloc ?_ ?_ _) | (refine Below.drew ?_) | (refine Below.setCell ?_ ?_ _) | (refine Below.trans ?_ (Below.mono (by assumption) ?_)) | (simp; done) | (simp; omega) | omega))⟩
    · go_enter Try.func14, Try.ntmps14
      go_wp2_with fail
      refine (ok_any _ _ _).mono ?_
      rintro e w1 ⟨rfl, hb1⟩
      rw [h1]
      obtain ⟨hc1, _⟩ := bcell hb1
      have z1 := hb1.size
      simp at z1
      go_wp2_with fail
      refine (ok_any _ _ _).mono ?_
      rintro e w2 ⟨rfl, hb2⟩
      rw [h2]
      obtain ⟨hc2, _⟩ := bcell hb2
      have z2 := hb2.size
      have q0 : w.heap.size < w1.heap.size := by omega
      have q1 : w.heap.size + 1 < w1.heap.size := by omega
      go_wp2_with fail
      refine (flows_any _ _ _ _ _ h1 h2).mono ?_
      rintro e w3 ⟨rfl, hb3⟩
      go_wp2
      go_ret
      exact ⟨rfl, by (repeat' (first | exact Below.refl _ _ | assumption | exact Nat.le_refl _ | (refine Below.alloc ?_ ?_ _) | (refine Below.drew ?_) | (refine Below.setCell ?_ ?_ _) | (refine Below.trans ?_ (Below.mono (by assumption) ?_)) | (simp; done) | (simp; omega) | omega))⟩

theorem specFlows_any (l1 m1 l2 m2 : Int) (w : World) :
    Calls Try.prog 15 #[.agg #[.int .i64 l1, .int .i64 m1], .agg #[.int .i64 l2, .int .i64 m2]] w fun e w' => e = .returned (.bool (flB l1 m1 l2 m2)) ∧ Below w.heap.size w w' := by
  cases h1 : okB l1 m1
  · have H : Hid (flB l1 m1 l2 m2 = false) := by unfold Hid flB; simp [h1]
    go_enter Try.func15, Try.ntmps15
    go_wp2_with fail
    refine (specOk_any _ _ _).mono ?_
    rintro e w1 ⟨rfl, hb1⟩
    rw [h1]
    go_wp2
    go_ret
    exact ⟨ret_bool H.out.symm, by (repeat' (first | exact Below.refl _ _ | assumption | exact Nat.le_refl _ | (refine Below.alloc ?_ ?_ _) | (refine Below.drew ?_) | (refine Below.setCell ?_ ?_ _) | (refine Below.trans ?_ (Below.mono (by assumption) ?_)) | (simp; done) | (simp; omega) | omega))⟩
  · cases h2 : okB l2 m2
    · have H : Hid (flB l1 m1 l2 m2 = false) := by unfold Hid flB; simp [h2]
      go_enter Try.func15, Try.ntmps15
      go_wp2_with fail
      refine (specOk_any _ _ _).mono ?_
      rintro e w1 ⟨rfl, hb1⟩
      rw [h1]
      obtain ⟨hc1, _⟩ := bcell hb1
      have z1 := hb1.size
      simp at z1
      go_wp2_with fail
      refine (specOk_any _ _ _).mono ?_
      rintro e w2 ⟨rfl, hb2⟩
      rw [h2]
      go_wp2
      go_ret
      exact ⟨ret_bool H.out.symm, by (repeat' (first | exact Below.refl _ _ | assumption | exact Nat.le_refl _ | (refine Below.alloc ?_ ?_ _) | (refine Below.drew ?_) | (refine Below.setCell ?_ ?_ _) | (refine Below.trans ?_ (Below.mono (by assumption) ?_)) | (simp; done) | (simp; omega) | omega))⟩
    · by_cases hle : l1 ≤ l2
      · have H : Hid (flB l1 m1 l2 m2 = (bits .or .i64 m1 m2 == m2)) := by unfold Hid flB; simp [h1, h2, hle]
        go_enter Try.func15, Try.ntmps15
        go_wp2_with fail
        refine (specOk_any _ _ _).mono ?_
        rintro e w1 ⟨rfl, hb1⟩
        rw [h1]
        obtain ⟨hc1, _⟩ := bcell hb1
        have z1 := hb1.size
        simp at z1
        go_wp2_with fail
        refine (specOk_any _ _ _).mono ?_
        rintro e w2 ⟨rfl, hb2⟩
        rw [h2]
        obtain ⟨hc2, _⟩ := bcell hb2
        have z2 := hb2.size
        have q0 : w.heap.size < w1.heap.size := by omega
        have q1 : w.heap.size + 1 < w1.heap.size := by omega
        go_wp2
        go_ret
        refine ⟨ret_bool ?_, by (repeat' (first | exact Below.refl _ _ | assumption | exact Nat.le_refl _ | (refine Below.alloc ?_ ?_ _) | (refine Below.drew ?_) | (refine Below.setCell ?_ ?_ _) | (refine Below.trans ?_ (Below.mono (by assumption) ?_)) | (simp; done) | (simp; omega) | omega))⟩
        rw [H.out]
      · have H : Hid (flB l1 m1 l2 m2 = false) := by unfold Hid flB; simp [hle]
        go_enter Try.func15, Try.ntmps15
        go_wp2_with fail
        refine (specOk_any _ _ _).mono ?_
        rintro e w1 ⟨rfl, hb1⟩
        rw [h1]
        obtain ⟨hc1, _⟩ := bcell hb1
        have z1 := hb1.size
        simp at z1
        go_wp2_with fail
        refine (specOk_any _ _ _).mono ?_
        rintro e w2 ⟨rfl, hb2⟩
        rw [h2]
        obtain ⟨hc2, _⟩ := bcell hb2
        have z2 := hb2.size
        have q0 : w.heap.size < w1.heap.size := by omega
        have q1 : w.heap.size + 1 < w1.heap.size := by omega
        go_wp2
        go_ret
        refine ⟨ret_bool ?_, by (repeat' (first | exact Below.refl _ _ | assumption | exact Nat.le_refl _ | (refine Below.alloc ?_ ?_ _) | (refine Below.drew ?_) | (refine Below.setCell ?_ ?_ _) | (refine Below.trans ?_ (Below.mono (by assumption) ?_)) | (simp; done) | (simp; omega) | omega))⟩
        rw [H.out]
end Go.Proofs.Ytjblhjnicoggaaa
