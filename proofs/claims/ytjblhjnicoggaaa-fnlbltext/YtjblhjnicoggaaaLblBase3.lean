/- The contracts of LblBoth and LblCommon, of the program and of the specification, and of the laws' look whether two labels are the same. No conditions. -/
import Derived.Test.YtjblhjnicoggaaaLblBase2
namespace Go.Proofs.Ytjblhjnicoggaaa
open Go.ChangeShapes Go.WideShapes Go.ChangeAt Go.RowKit Go.Joins
set_option linter.unusedVariables false

/-- the label above two, and the one below two: level and marks; noughts, unless both are ok -/
def upL (l1 m1 l2 m2 : Int) : Int := if okB l1 m1 && okB l2 m2 then (if l2 ≤ l1 then l1 else l2) else 0
def upM (l1 m1 l2 m2 : Int) : Int := if okB l1 m1 && okB l2 m2 then bits .or .i64 m1 m2 else 0
def dnL (l1 m1 l2 m2 : Int) : Int := if okB l1 m1 && okB l2 m2 then (if l1 ≤ l2 then l1 else l2) else 0
def dnM (l1 m1 l2 m2 : Int) : Int := if okB l1 m1 && okB l2 m2 then bits .and .i64 m1 m2 else 0

theorem ret_lbl {a b c d : Int} (h : a = c) (g : b = d) : Ending.returned (.agg #[.int .i64 a, .int .i64 b]) = .returned (.agg #[.int .i64 c, .int .i64 d]) := by rw [h, g]

theorem lblBoth_any (l1 m1 l2 m2 : Int) (w : World) :
    Calls Try.prog 18 #[.agg #[.int .i64 l1, .int .i64 m1], .agg #[.int .i64 l2, .int .i64 m2]] w fun e w' => e = .returned (.agg #[.int .i64 (upL l1 m1 l2 m2), .int .i64 (upM l1 m1 l2 m2)]) ∧ Below w.heap.size w w' := by
  cases h1 : okB l1 m1
  · have H : Hid (upL l1 m1 l2 m2 = 0 ∧ upM l1 m1 l2 m2 = 0) := by unfold Hid upL upM; simp [h1]
    go_enter Try.func18, Try.ntmps18
    go_wp2_with fail
    refine (ok_any _ _ _).mono ?_
    rintro e w1 ⟨rfl, hb1⟩
    rw [h1]
    obtain ⟨hc1, hf1⟩ := bcell hb1
    have z1 := hb1.size
    simp at z1
    have q2 : w.heap.size + 1 + 1 < w1.heap.size := by omega
    have r0 : w1.cell? ⟨w.heap.size + 1 + 1, 0, none⟩ = some (.int .i64 0) := cell_keep hb1 (by go_simp)
    have r1 : w1.cell? ⟨w.heap.size + 1 + 1, 1, none⟩ = some (.int .i64 0) := cell_keep hb1 (by go_simp)
    go_wp2
    refine bodyPost_ret (v := .agg #[.int .i64 0, .int .i64 0]) (by simp [results, Try.results18, go_sem, r0, r1]) rfl ?_
    exact ⟨ret_lbl H.out.1.symm H.out.2.symm, by (repeat' (first | exact Below.refl _ _ | assumption | exact Nat.le_refl _ | (refine Below.alloc ?_ ?_ _) | (refine Below.drew ?_) | (refine Below.setCell ?_ ?_ _) | (refine Below.trans ?_ (Below.mono (by assumption) ?_)) | (simp; done) | (simp; omega) | omega))⟩
  · cases h2 : okB l2 m2
    · have H : Hid (upL l1 m1 l2 m2 = 0 ∧ upM l1 m1 l2 m2 = 0) := by unfold Hid upL upM; simp [h2]
      go_enter Try.func18, Try.ntmps18
      go_wp2_with fail
      refine (ok_any _ _ _).mono ?_
      rintro e w1 ⟨rfl, hb1⟩
      rw [h1]
      obtain ⟨hc1, hf1⟩ := bcell hb1
      have z1 := hb1.size
      simp at z1
      have q1 : w.heap.size + 1 < w1.heap.size := by omega
      have q2 : w.heap.size + 1 + 1 < w1.heap.size := by omega
      go_wp2_with fail
      refine (ok_any _ _ _).mono ?_
      rintro e w2 ⟨rfl, hb2⟩
      rw [h2]
      obtain ⟨hc2, hf2⟩ := bcell hb2
      have z2 := hb2.size
      have r0 : w2.cell? ⟨w.heap.size + 1 + 1, 0, none⟩ = some (.int .i64 0) := cell_keep hb2 (cell_keep hb1 (by go_simp))
      have r1 : w2.cell? ⟨w.heap.size + 1 + 1, 1, none⟩ = some (.int .i64 0) := cell_keep hb2 (cell_keep hb1 (by go_simp))
      go_wp2
      refine bodyPost_ret (v := .agg #[.int .i64 0, .int .i64 0]) (by simp [results, Try.results18, go_sem, r0, r1]) rfl ?_
      exact ⟨ret_lbl H.out.1.symm H.out.2.symm, by (repeat' (first | exact Below.refl _ _ | assumption | exact Nat.le_refl _ | (refine Below.alloc ?_ ?_ _) | (refine Below.drew ?_) | (refine Below.setCell ?_ ?_ _) | (refine Below.trans ?_ (Below.mono (by assumption) ?_)) | (simp; done) | (simp; omega) | omega))⟩
    · rcases Int.lt_trichotomy l1 l2 with hlt | rfl | hlt
      · have H : Hid (upL l1 m1 l2 m2 = l2 ∧ upM l1 m1 l2 m2 = bits .or .i64 m1 m2) := by
          unfold Hid upL upM
          simp [h1, h2]
          omega
        go_enter Try.func18, Try.ntmps18
        go_wp2_with fail
        refine (ok_any _ _ _).mono ?_
        rintro e w1 ⟨rfl, hb1⟩
        rw [h1]
        obtain ⟨hc1, hf1⟩ := bcell hb1
        have z1 := hb1.size
        simp at z1
        have q0 : w.heap.size < w1.heap.size := by omega
        have q1 : w.heap.size + 1 < w1.heap.size := by omega
        have q2 : w.heap.size + 1 + 1 < w1.heap.size := by omega
        go_wp2_with fail
        refine (ok_any _ _ _).mono ?_
        rintro e w2 ⟨rfl, hb2⟩
        rw [h2]
        obtain ⟨hc2, hf2⟩ := bcell hb2
        have z2 := hb2.size
        have q3 : w.heap.size < w2.heap.size := by omega
        have q4 : w.heap.size + 1 < w2.heap.size := by omega
        have q5 : w.heap.size + 1 + 1 < w2.heap.size := by omega
        have r0 : w2.cell? ⟨w.heap.size + 1 + 1, 0, none⟩ = some (.int .i64 0) := cell_keep hb2 (cell_keep hb1 (by go_simp))
        have r1 : w2.cell? ⟨w.heap.size + 1 + 1, 1, none⟩ = some (.int .i64 0) := cell_keep hb2 (cell_keep hb1 (by go_simp))
        go_wp2
        refine bodyPost_ret (v := .agg #[.int .i64 l2, .int .i64 (bits .or .i64 m1 m2)]) (by simp [results, Try.results18, go_sem, r0, r1, q5]) rfl ?_
        exact ⟨ret_lbl H.out.1.symm H.out.2.symm, by (repeat' (first | exact Below.refl _ _ | assumption | exact Nat.le_refl _ | (refine Below.alloc ?_ ?_ _) | (refine Below.drew ?_) | (refine Below.setCell ?_ ?_ _) | (refine Below.trans ?_ (Below.mono (by assumption) ?_)) | (simp; done) | (simp; omega) | omega))⟩
      · have H : Hid (upL l1 m1 l1 m2 = l1 ∧ upM l1 m1 l1 m2 = bits .or .i64 m1 m2) := by
          unfold Hid upL upM
          simp [h1, h2]
        go_enter Try.func18, Try.ntmps18
        go_wp2_with fail
        refine (ok_any _ _ _).mono ?_
        rintro e w1 ⟨rfl, hb1⟩
        rw [h1]
        obtain ⟨hc1, hf1⟩ := bcell hb1
        have z1 := hb1.size
        simp at z1
        have q0 : w.heap.size < w1.heap.size := by omega
        have q1 : w.heap.size + 1 < w1.heap.size := by omega
        have q2 : w.heap.size + 1 + 1 < w1.heap.size := by omega
        go_wp2_with fail
        refine (ok_any _ _ _).mono ?_
        rintro e w2 ⟨rfl, hb2⟩
        rw [h2]
        obtain ⟨hc2, hf2⟩ := bcell hb2
        have z2 := hb2.size
        have q3 : w.heap.size < w2.heap.size := by omega
        have q4 : w.heap.size + 1 < w2.heap.size := by omega
        have q5 : w.heap.size + 1 + 1 < w2.heap.size := by omega
        have r0 : w2.cell? ⟨w.heap.size + 1 + 1, 0, none⟩ = some (.int .i64 0) := cell_keep hb2 (cell_keep hb1 (by go_simp))
        have r1 : w2.cell? ⟨w.heap.size + 1 + 1, 1, none⟩ = some (.int .i64 0) := cell_keep hb2 (cell_keep hb1 (by go_simp))
        go_wp2
        refine bodyPost_ret (v := .agg #[.int .i64 l1, .int .i64 (bits .or .i64 m1 m2)]) (by simp [results, Try.results18, go_sem, r0, r1, q5]) rfl ?_
        exact ⟨ret_lbl H.out.1.symm H.out.2.symm, by (repeat' (first | exact Below.refl _ _ | assumption | exact Nat.le_refl _ | (refine Below.alloc ?_ ?_ _) | (refine Below.drew ?_) | (refine Below.setCell ?_ ?_ _) | (refine Below.trans ?_ (Below.mono (by assumption) ?_)) | (simp; done) | (simp; omega) | omega))⟩
      · have H : Hid (upL l1 m1 l2 m2 = l1 ∧ upM l1 m1 l2 m2 = bits .or .i64 m1 m2) := by
          unfold Hid upL upM
          simp [h1, h2]
          omega
        go_enter Try.func18, Try.ntmps18
        go_wp2_with fail
        refine (ok_any _ _ _).mono ?_
        rintro e w1 ⟨rfl, hb1⟩
        rw [h1]
        obtain ⟨hc1, hf1⟩ := bcell hb1
        have z1 := hb1.size
        simp at z1
        have q0 : w.heap.size < w1.heap.size := by omega
        have q1 : w.heap.size + 1 < w1.heap.size := by omega
        have q2 : w.heap.size + 1 + 1 < w1.heap.size := by omega
        go_wp2_with fail
        refine (ok_any _ _ _).mono ?_
        rintro e w2 ⟨rfl, hb2⟩
        rw [h2]
        obtain ⟨hc2, hf2⟩ := bcell hb2
        have z2 := hb2.size
        have q3 : w.heap.size < w2.heap.size := by omega
        have q4 : w.heap.size + 1 < w2.heap.size := by omega
        have q5 : w.heap.size + 1 + 1 < w2.heap.size := by omega
        have r0 : w2.cell? ⟨w.heap.size + 1 + 1, 0, none⟩ = some (.int .i64 0) := cell_keep hb2 (cell_keep hb1 (by go_simp))
        have r1 : w2.cell? ⟨w.heap.size + 1 + 1, 1, none⟩ = some (.int .i64 0) := cell_keep hb2 (cell_keep hb1 (by go_simp))
        go_wp2
        refine bodyPost_ret (v := .agg #[.int .i64 l1, .int .i64 (bits .or .i64 m1 m2)]) (by simp [results, Try.results18, go_sem, r0, r1, q5]) rfl ?_
        exact ⟨ret_lbl H.out.1.symm H.out.2.symm, by (repeat' (first | exact Below.refl _ _ | assumption | exact Nat.le_refl _ | (refine Below.alloc ?_ ?_ _) | (refine Below.drew ?_) | (refine Below.setCell ?_ ?_ _) | (refine Below.trans ?_ (Below.mono (by assumption) ?_)) | (simp; done) | (simp; omega) | omega))⟩

theorem lblCommon_any (l1 m1 l2 m2 : Int) (w : World) :
    Calls Try.prog 19 #[.agg #[.int .i64 l1, .int .i64 m1], .agg #[.int .i64 l2, .int .i64 m2]] w fun e w' => e = .returned (.agg #[.int .i64 (dnL l1 m1 l2 m2), .int .i64 (dnM l1 m1 l2 m2)]) ∧ Below w.heap.size w w' := by
  cases h1 : okB l1 m1
  · have H : Hid (dnL l1 m1 l2 m2 = 0 ∧ dnM l1 m1 l2 m2 = 0) := by unfold Hid dnL dnM; simp [h1]
    go_enter Try.func19, Try.ntmps19
    go_wp2_with fail
    refine (ok_any _ _ _).mono ?_
    rintro e w1 ⟨rfl, hb1⟩
    rw [h1]
    obtain ⟨hc1, hf1⟩ := bcell hb1
    have z1 := hb1.size
    simp at z1
    have q2 : w.heap.size + 1 + 1 < w1.heap.size := by omega
    have r0 : w1.cell? ⟨w.heap.size + 1 + 1, 0, none⟩ = some (.int .i64 0) := cell_keep hb1 (by go_simp)
    have r1 : w1.cell? ⟨w.heap.size + 1 + 1, 1, none⟩ = some (.int .i64 0) := cell_keep hb1 (by go_simp)
    go_wp2
    refine bodyPost_ret (v := .agg #[.int .i64 0, .int .i64 0]) (by simp [results, Try.results19, go_sem, r0, r1]) rfl ?_
    exact ⟨ret_lbl H.out.1.symm H.out.2.symm, by (repeat' (first | exact Below.refl _ _ | assumption | exact Nat.le_refl _ | (refine Below.alloc ?_ ?_ _) | (refine Below.drew ?_) | (refine Below.setCell ?_ ?_ _) | (refine Below.trans ?_ (Below.mono (by assumption) ?_)) | (simp; done) | (simp; omega) | omega))⟩
  · cases h2 : okB l2 m2
    · have H : Hid (dnL l1 m1 l2 m2 = 0 ∧ dnM l1 m1 l2 m2 = 0) := by unfold Hid dnL dnM; simp [h2]
      go_enter Try.func19, Try.ntmps19
      go_wp2_with fail
      refine (ok_any _ _ _).mono ?_
      rintro e w1 ⟨rfl, hb1⟩
      rw [h1]
      obtain ⟨hc1, hf1⟩ := bcell hb1
      have z1 := hb1.size
      simp at z1
      have q1 : w.heap.size + 1 < w1.heap.size := by omega
      have q2 : w.heap.size + 1 + 1 < w1.heap.size := by omega
      go_wp2_with fail
      refine (ok_any _ _ _).mono ?_
      rintro e w2 ⟨rfl, hb2⟩
      rw [h2]
      obtain ⟨hc2, hf2⟩ := bcell hb2
      have z2 := hb2.size
      have r0 : w2.cell? ⟨w.heap.size + 1 + 1, 0, none⟩ = some (.int .i64 0) := cell_keep hb2 (cell_keep hb1 (by go_simp))
      have r1 : w2.cell? ⟨w.heap.size + 1 + 1, 1, none⟩ = some (.int .i64 0) := cell_keep hb2 (cell_keep hb1 (by go_simp))
      go_wp2
      refine bodyPost_ret (v := .agg #[.int .i64 0, .int .i64 0]) (by simp [results, Try.results19, go_sem, r0, r1]) rfl ?_
      exact ⟨ret_lbl H.out.1.symm H.out.2.symm, by (repeat' (first | exact Below.refl _ _ | assumption | exact Nat.le_refl _ | (refine Below.alloc ?_ ?_ _) | (refine Below.drew ?_) | (refine Below.setCell ?_ ?_ _) | (refine Below.trans ?_ (Below.mono (by assumption) ?_)) | (simp; done) | (simp; omega) | omega))⟩
    · rcases Int.lt_trichotomy l1 l2 with hlt | rfl | hlt
      · have H : Hid (dnL l1 m1 l2 m2 = l1 ∧ dnM l1 m1 l2 m2 = bits .and .i64 m1 m2) := by
          unfold Hid dnL dnM
          simp [h1, h2]
          omega
        go_enter Try.func19, Try.ntmps19
        go_wp2_with fail
        refine (ok_any _ _ _).mono ?_
        rintro e w1 ⟨rfl, hb1⟩
        rw [h1]
        obtain ⟨hc1, hf1⟩ := bcell hb1
        have z1 := hb1.size
        simp at z1
        have q0 : w.heap.size < w1.heap.size := by omega
        have q1 : w.heap.size + 1 < w1.heap.size := by omega
        have q2 : w.heap.size + 1 + 1 < w1.heap.size := by omega
        go_wp2_with fail
        refine (ok_any _ _ _).mono ?_
        rintro e w2 ⟨rfl, hb2⟩
        rw [h2]
        obtain ⟨hc2, hf2⟩ := bcell hb2
        have z2 := hb2.size
        have q3 : w.heap.size < w2.heap.size := by omega
        have q4 : w.heap.size + 1 < w2.heap.size := by omega
        have q5 : w.heap.size + 1 + 1 < w2.heap.size := by omega
        have r0 : w2.cell? ⟨w.heap.size + 1 + 1, 0, none⟩ = some (.int .i64 0) := cell_keep hb2 (cell_keep hb1 (by go_simp))
        have r1 : w2.cell? ⟨w.heap.size + 1 + 1, 1, none⟩ = some (.int .i64 0) := cell_keep hb2 (cell_keep hb1 (by go_simp))
        go_wp2
        refine bodyPost_ret (v := .agg #[.int .i64 l1, .int .i64 (bits .and .i64 m1 m2)]) (by simp [results, Try.results19, go_sem, r0, r1, q5]) rfl ?_
        exact ⟨ret_lbl H.out.1.symm H.out.2.symm, by (repeat' (first | exact Below.refl _ _ | assumption | exact Nat.le_refl _ | (refine Below.alloc ?_ ?_ _) | (refine Below.drew ?_) | (refine Below.setCell ?_ ?_ _) | (refine Below.trans ?_ (Below.mono (by assumption) ?_)) | (simp; done) | (simp; omega) | omega))⟩
      · have H : Hid (dnL l1 m1 l1 m2 = l1 ∧ dnM l1 m1 l1 m2 = bits .and .i64 m1 m2) := by
          unfold Hid dnL dnM
          simp [h1, h2]
        go_enter Try.func19, Try.ntmps19
        go_wp2_with fail
        refine (ok_any _ _ _).mono ?_
        rintro e w1 ⟨rfl, hb1⟩
        rw [h1]
        obtain ⟨hc1, hf1⟩ := bcell hb1
        have z1 := hb1.size
        simp at z1
        have q0 : w.heap.size < w1.heap.size := by omega
        have q1 : w.heap.size + 1 < w1.heap.size := by omega
        have q2 : w.heap.size + 1 + 1 < w1.heap.size := by omega
        go_wp2_with fail
        refine (ok_any _ _ _).mono ?_
        rintro e w2 ⟨rfl, hb2⟩
        rw [h2]
        obtain ⟨hc2, hf2⟩ := bcell hb2
        have z2 := hb2.size
        have q3 : w.heap.size < w2.heap.size := by omega
        have q4 : w.heap.size + 1 < w2.heap.size := by omega
        have q5 : w.heap.size + 1 + 1 < w2.heap.size := by omega
        have r0 : w2.cell? ⟨w.heap.size + 1 + 1, 0, none⟩ = some (.int .i64 0) := cell_keep hb2 (cell_keep hb1 (by go_simp))
        have r1 : w2.cell? ⟨w.heap.size + 1 + 1, 1, none⟩ = some (.int .i64 0) := cell_keep hb2 (cell_keep hb1 (by go_simp))
        go_wp2
        refine bodyPost_ret (v := .agg #[.int .i64 l1, .int .i64 (bits .and .i64 m1 m2)]) (by simp [results, Try.results19, go_sem, r0, r1, q5]) rfl ?_
        exact ⟨ret_lbl H.out.1.symm H.out.2.symm, by (repeat' (first | exact Below.refl _ _ | assumption | exact Nat.le_refl _ | (refine Below.alloc ?_ ?_ _) | (refine Below.drew ?_) | (refine Below.setCell ?_ ?_ _) | (refine Below.trans ?_ (Below.mono (by assumption) ?_)) | (simp; done) | (simp; omega) | omega))⟩
      · have H : Hid (dnL l1 m1 l2 m2 = l2 ∧ dnM l1 m1 l2 m2 = bits .and .i64 m1 m2) := by
          unfold Hid dnL dnM
          simp [h1, h2]
          omega
        go_enter Try.func19, Try.ntmps19
        go_wp2_with fail
        refine (ok_any _ _ _).mono ?_
        rintro e w1 ⟨rfl, hb1⟩
        rw [h1]
        obtain ⟨hc1, hf1⟩ := bcell hb1
        have z1 := hb1.size
        simp at z1
        have q0 : w.heap.size < w1.heap.size := by omega
        have q1 : w.heap.size + 1 < w1.heap.size := by omega
        have q2 : w.heap.size + 1 + 1 < w1.heap.size := by omega
        go_wp2_with fail
        refine (ok_any _ _ _).mono ?_
        rintro e w2 ⟨rfl, hb2⟩
        rw [h2]
        obtain ⟨hc2, hf2⟩ := bcell hb2
        have z2 := hb2.size
        have q3 : w.heap.size < w2.heap.size := by omega
        have q4 : w.heap.size + 1 < w2.heap.size := by omega
        have q5 : w.heap.size + 1 + 1 < w2.heap.size := by omega
        have r0 : w2.cell? ⟨w.heap.size + 1 + 1, 0, none⟩ = some (.int .i64 0) := cell_keep hb2 (cell_keep hb1 (by go_simp))
        have r1 : w2.cell? ⟨w.heap.size + 1 + 1, 1, none⟩ = some (.int .i64 0) := cell_keep hb2 (cell_keep hb1 (by go_simp))
        go_wp2
        refine bodyPost_ret (v := .agg #[.int .i64 l2, .int .i64 (bits .and .i64 m1 m2)]) (by simp [results, Try.results19, go_sem, r0, r1, q5]) rfl ?_
        exact ⟨ret_lbl H.out.1.symm H.out.2.symm, by (repeat' (first | exact Below.refl _ _ | assumption | exact Nat.le_refl _ | (refine Below.alloc ?_ ?_ _) | (refine Below.drew ?_) | (refine Below.setCell ?_ ?_ _) | (refine Below.trans ?_ (Below.mono (by assumption) ?_)) | (simp; done) | (simp; omega) | omega))⟩

theorem specBoth_any (l1 m1 l2 m2 : Int) (w : World) :
    Calls Try.prog 20 #[.agg #[.int .i64 l1, .int .i64 m1], .agg #[.int .i64 l2, .int .i64 m2]] w fun e w' => e = .returned (.agg #[.int .i64 (upL l1 m1 l2 m2), .int .i64 (upM l1 m1 l2 m2)]) ∧ Below w.heap.size w w' := by
  cases h1 : okB l1 m1
  · have H : Hid (upL l1 m1 l2 m2 = 0 ∧ upM l1 m1 l2 m2 = 0) := by unfold Hid upL upM; simp [h1]
    go_enter Try.func20, Try.ntmps20
    go_wp2_with fail
    refine (specOk_any _ _ _).mono ?_
    rintro e w1 ⟨rfl, hb1⟩
    rw [h1]
    obtain ⟨hc1, hf1⟩ := bcell hb1
    have z1 := hb1.size
    simp at z1
    have q2 : w.heap.size + 1 + 1 < w1.heap.size := by omega
    have r0 : w1.cell? ⟨w.heap.size + 1 + 1, 0, none⟩ = some (.int .i64 0) := cell_keep hb1 (by go_simp)
    have r1 : w1.cell? ⟨w.heap.size + 1 + 1, 1, none⟩ = some (.int .i64 0) := cell_keep hb1 (by go_simp)
    go_wp2
    refine bodyPost_ret (v := .agg #[.int .i64 0, .int .i64 0]) (by simp [results, Try.results20, go_sem, r0, r1]) rfl ?_
    exact ⟨ret_lbl H.out.1.symm H.out.2.symm, by (repeat' (first | exact Below.refl _ _ | assumption | exact Nat.le_refl _ | (refine Below.alloc ?_ ?_ _) | (refine Below.drew ?_) | (refine Below.setCell ?_ ?_ _) | (refine Below.trans ?_ (Below.mono (by assumption) ?_)) | (simp; done) | (simp; omega) | omega))⟩
  · cases h2 : okB l2 m2
    · have H : Hid (upL l1 m1 l2 m2 = 0 ∧ upM l1 m1 l2 m2 = 0) := by unfold Hid upL upM; simp [h2]
      go_enter Try.func20, Try.ntmps20
      go_wp2_with fail
      refine (specOk_any _ _ _).mono ?_
      rintro e w1 ⟨rfl, hb1⟩
      rw [h1]
      obtain ⟨hc1, hf1⟩ := bcell hb1
      have z1 := hb1.size
      simp at z1
      have q1 : w.heap.size + 1 < w1.heap.size := by omega
      have q2 : w.heap.size + 1 + 1 < w1.heap.size := by omega
      go_wp2_with fail
      refine (specOk_any _ _ _).mono ?_
      rintro e w2 ⟨rfl, hb2⟩
      rw [h2]
      obtain ⟨hc2, hf2⟩ := bcell hb2
      have z2 := hb2.size
      have r0 : w2.cell? ⟨w.heap.size + 1 + 1, 0, none⟩ = some (.int .i64 0) := cell_keep hb2 (cell_keep hb1 (by go_simp))
      have r1 : w2.cell? ⟨w.heap.size + 1 + 1, 1, none⟩ = some (.int .i64 0) := cell_keep hb2 (cell_keep hb1 (by go_simp))
      go_wp2
      refine bodyPost_ret (v := .agg #[.int .i64 0, .int .i64 0]) (by simp [results, Try.results20, go_sem, r0, r1]) rfl ?_
      exact ⟨ret_lbl H.out.1.symm H.out.2.symm, by (repeat' (first | exact Below.refl _ _ | assumption | exact Nat.le_refl _ | (refine Below.alloc ?_ ?_ _) | (refine Below.drew ?_) | (refine Below.setCell ?_ ?_ _) | (refine Below.trans ?_ (Below.mono (by assumption) ?_)) | (simp; done) | (simp; omega) | omega))⟩
    · rcases Int.lt_trichotomy l1 l2 with hlt | rfl | hlt
      · have H : Hid (upL l1 m1 l2 m2 = l2 ∧ upM l1 m1 l2 m2 = bits .or .i64 m1 m2) := by
          unfold Hid upL upM
          simp [h1, h2]
          omega
        go_enter Try.func20, Try.ntmps20
        go_wp2_with fail
        refine (specOk_any _ _ _).mono ?_
        rintro e w1 ⟨rfl, hb1⟩
        rw [h1]
        obtain ⟨hc1, hf1⟩ := bcell hb1
        have z1 := hb1.size
        simp at z1
        have q0 : w.heap.size < w1.heap.size := by omega
        have q1 : w.heap.size + 1 < w1.heap.size := by omega
        have q2 : w.heap.size + 1 + 1 < w1.heap.size := by omega
        go_wp2_with fail
        refine (specOk_any _ _ _).mono ?_
        rintro e w2 ⟨rfl, hb2⟩
        rw [h2]
        obtain ⟨hc2, hf2⟩ := bcell hb2
        have z2 := hb2.size
        have q3 : w.heap.size < w2.heap.size := by omega
        have q4 : w.heap.size + 1 < w2.heap.size := by omega
        have q5 : w.heap.size + 1 + 1 < w2.heap.size := by omega
        have r0 : w2.cell? ⟨w.heap.size + 1 + 1, 0, none⟩ = some (.int .i64 0) := cell_keep hb2 (cell_keep hb1 (by go_simp))
        have r1 : w2.cell? ⟨w.heap.size + 1 + 1, 1, none⟩ = some (.int .i64 0) := cell_keep hb2 (cell_keep hb1 (by go_simp))
        go_wp2
        refine bodyPost_ret (v := .agg #[.int .i64 l2, .int .i64 (bits .or .i64 m1 m2)]) (by simp [results, Try.results20, go_sem, r0, r1, q5]) rfl ?_
        exact ⟨ret_lbl H.out.1.symm H.out.2.symm, by (repeat' (first | exact Below.refl _ _ | assumption | exact Nat.le_refl _ | (refine Below.alloc ?_ ?_ _) | (refine Below.drew ?_) | (refine Below.setCell ?_ ?_ _) | (refine Below.trans ?_ (Below.mono (by assumption) ?_)) | (simp; done) | (simp; omega) | omega))⟩
      · have H : Hid (upL l1 m1 l1 m2 = l1 ∧ upM l1 m1 l1 m2 = bits .or .i64 m1 m2) := by
          unfold Hid upL upM
          simp [h1, h2]
        go_enter Try.func20, Try.ntmps20
        go_wp2_with fail
        refine (specOk_any _ _ _).mono ?_
        rintro e w1 ⟨rfl, hb1⟩
        rw [h1]
        obtain ⟨hc1, hf1⟩ := bcell hb1
        have z1 := hb1.size
        simp at z1
        have q0 : w.heap.size < w1.heap.size := by omega
        have q1 : w.heap.size + 1 < w1.heap.size := by omega
        have q2 : w.heap.size + 1 + 1 < w1.heap.size := by omega
        go_wp2_with fail
        refine (specOk_any _ _ _).mono ?_
        rintro e w2 ⟨rfl, hb2⟩
        rw [h2]
        obtain ⟨hc2, hf2⟩ := bcell hb2
        have z2 := hb2.size
        have q3 : w.heap.size < w2.heap.size := by omega
        have q4 : w.heap.size + 1 < w2.heap.size := by omega
        have q5 : w.heap.size + 1 + 1 < w2.heap.size := by omega
        have r0 : w2.cell? ⟨w.heap.size + 1 + 1, 0, none⟩ = some (.int .i64 0) := cell_keep hb2 (cell_keep hb1 (by go_simp))
        have r1 : w2.cell? ⟨w.heap.size + 1 + 1, 1, none⟩ = some (.int .i64 0) := cell_keep hb2 (cell_keep hb1 (by go_simp))
        go_wp2
        refine bodyPost_ret (v := .agg #[.int .i64 l1, .int .i64 (bits .or .i64 m1 m2)]) (by simp [results, Try.results20, go_sem, r0, r1, q5]) rfl ?_
        exact ⟨ret_lbl H.out.1.symm H.out.2.symm, by (repeat' (first | exact Below.refl _ _ | assumption | exact Nat.le_refl _ | (refine Below.alloc ?_ ?_ _) | (refine Below.drew ?_) | (refine Below.setCell ?_ ?_ _) | (refine Below.trans ?_ (Below.mono (by assumption) ?_)) | (simp; done) | (simp; omega) | omega))⟩
      · have H : Hid (upL l1 m1 l2 m2 = l1 ∧ upM l1 m1 l2 m2 = bits .or .i64 m1 m2) := by
          unfold Hid upL upM
          simp [h1, h2]
          omega
        go_enter Try.func20, Try.ntmps20
        go_wp2_with fail
        refine (specOk_any _ _ _).mono ?_
        rintro e w1 ⟨rfl, hb1⟩
        rw [h1]
        obtain ⟨hc1, hf1⟩ := bcell hb1
        have z1 := hb1.size
        simp at z1
        have q0 : w.heap.size < w1.heap.size := by omega
        have q1 : w.heap.size + 1 < w1.heap.size := by omega
        have q2 : w.heap.size + 1 + 1 < w1.heap.size := by omega
        go_wp2_with fail
        refine (specOk_any _ _ _).mono ?_
        rintro e w2 ⟨rfl, hb2⟩
        rw [h2]
        obtain ⟨hc2, hf2⟩ := bcell hb2
        have z2 := hb2.size
        have q3 : w.heap.size < w2.heap.size := by omega
        have q4 : w.heap.size + 1 < w2.heap.size := by omega
        have q5 : w.heap.size + 1 + 1 < w2.heap.size := by omega
        have r0 : w2.cell? ⟨w.heap.size + 1 + 1, 0, none⟩ = some (.int .i64 0) := cell_keep hb2 (cell_keep hb1 (by go_simp))
        have r1 : w2.cell? ⟨w.heap.size + 1 + 1, 1, none⟩ = some (.int .i64 0) := cell_keep hb2 (cell_keep hb1 (by go_simp))
        go_wp2
        refine bodyPost_ret (v := .agg #[.int .i64 l1, .int .i64 (bits .or .i64 m1 m2)]) (by simp [results, Try.results20, go_sem, r0, r1, q5]) rfl ?_
        exact ⟨ret_lbl H.out.1.symm H.out.2.symm, by (repeat' (first | exact Below.refl _ _ | assumption | exact Nat.le_refl _ | (refine Below.alloc ?_ ?_ _) | (refine Below.drew ?_) | (refine Below.setCell ?_ ?_ _) | (refine Below.trans ?_ (Below.mono (by assumption) ?_)) | (simp; done) | (simp; omega) | omega))⟩

theorem specCommon_any (l1 m1 l2 m2 : Int) (w : World) :
    Calls Try.prog 21 #[.agg #[.int .i64 l1, .int .i64 m1], .agg #[.int .i64 l2, .int .i64 m2]] w fun e w' => e = .returned (.agg #[.int .i64 (dnL l1 m1 l2 m2), .int .i64 (dnM l1 m1 l2 m2)]) ∧ Below w.heap.size w w' := by
  cases h1 : okB l1 m1
  · have H : Hid (dnL l1 m1 l2 m2 = 0 ∧ dnM l1 m1 l2 m2 = 0) := by unfold Hid dnL dnM; simp [h1]
    go_enter Try.func21, Try.ntmps21
    go_wp2_with fail
    refine (specOk_any _ _ _).mono ?_
    rintro e w1 ⟨rfl, hb1⟩
    rw [h1]
    obtain ⟨hc1, hf1⟩ := bcell hb1
    have z1 := hb1.size
    simp at z1
    have q2 : w.heap.size + 1 + 1 < w1.heap.size := by omega
    have r0 : w1.cell? ⟨w.heap.size + 1 + 1, 0, none⟩ = some (.int .i64 0) := cell_keep hb1 (by go_simp)
    have r1 : w1.cell? ⟨w.heap.size + 1 + 1, 1, none⟩ = some (.int .i64 0) := cell_keep hb1 (by go_simp)
    go_wp2
    refine bodyPost_ret (v := .agg #[.int .i64 0, .int .i64 0]) (by simp [results, Try.results21, go_sem, r0, r1]) rfl ?_
    exact ⟨ret_lbl H.out.1.symm H.out.2.symm, by (repeat' (first | exact Below.refl _ _ | assumption | exact Nat.le_refl _ | (refine Below.alloc ?_ ?_ _) | (refine Below.drew ?_) | (refine Below.setCell ?_ ?_ _) | (refine Below.trans ?_ (Below.mono (by assumption) ?_)) | (simp; done) | (simp; omega) | omega))⟩
  · cases h2 : okB l2 m2
    · have H : Hid (dnL l1 m1 l2 m2 = 0 ∧ dnM l1 m1 l2 m2 = 0) := by unfold Hid dnL dnM; simp [h2]
      go_enter Try.func21, Try.ntmps21
      go_wp2_with fail
      refine (specOk_any _ _ _).mono ?_
      rintro e w1 ⟨rfl, hb1⟩
      rw [h1]
      obtain ⟨hc1, hf1⟩ := bcell hb1
      have z1 := hb1.size
      simp at z1
      have q1 : w.heap.size + 1 < w1.heap.size := by omega
      have q2 : w.heap.size + 1 + 1 < w1.heap.size := by omega
      go_wp2_with fail
      refine (specOk_any _ _ _).mono ?_
      rintro e w2 ⟨rfl, hb2⟩
      rw [h2]
      obtain ⟨hc2, hf2⟩ := bcell hb2
      have z2 := hb2.size
      have r0 : w2.cell? ⟨w.heap.size + 1 + 1, 0, none⟩ = some (.int .i64 0) := cell_keep hb2 (cell_keep hb1 (by go_simp))
      have r1 : w2.cell? ⟨w.heap.size + 1 + 1, 1, none⟩ = some (.int .i64 0) := cell_keep hb2 (cell_keep hb1 (by go_simp))
      go_wp2
      refine bodyPost_ret (v := .agg #[.int .i64 0, .int .i64 0]) (by simp [results, Try.results21, go_sem, r0, r1]) rfl ?_
      exact ⟨ret_lbl H.out.1.symm H.out.2.symm, by (repeat' (first | exact Below.refl _ _ | assumption | exact Nat.le_refl _ | (refine Below.alloc ?_ ?_ _) | (refine Below.drew ?_) | (refine Below.setCell ?_ ?_ _) | (refine Below.trans ?_ (Below.mono (by assumption) ?_)) | (simp; done) | (simp; omega) | omega))⟩
    · rcases Int.lt_trichotomy l1 l2 with hlt | rfl | hlt
      · have H : Hid (dnL l1 m1 l2 m2 = l1 ∧ dnM l1 m1 l2 m2 = bits .and .i64 m1 m2) := by
          unfold Hid dnL dnM
          simp [h1, h2]
          omega
        go_enter Try.func21, Try.ntmps21
        go_wp2_with fail
        refine (specOk_any _ _ _).mono ?_
        rintro e w1 ⟨rfl, hb1⟩
        rw [h1]
        obtain ⟨hc1, hf1⟩ := bcell hb1
        have z1 := hb1.size
        simp at z1
        have q0 : w.heap.size < w1.heap.size := by omega
        have q1 : w.heap.size + 1 < w1.heap.size := by omega
        have q2 : w.heap.size + 1 + 1 < w1.heap.size := by omega
        go_wp2_with fail
        refine (specOk_any _ _ _).mono ?_
        rintro e w2 ⟨rfl, hb2⟩
        rw [h2]
        obtain ⟨hc2, hf2⟩ := bcell hb2
        have z2 := hb2.size
        have q3 : w.heap.size < w2.heap.size := by omega
        have q4 : w.heap.size + 1 < w2.heap.size := by omega
        have q5 : w.heap.size + 1 + 1 < w2.heap.size := by omega
        have r0 : w2.cell? ⟨w.heap.size + 1 + 1, 0, none⟩ = some (.int .i64 0) := cell_keep hb2 (cell_keep hb1 (by go_simp))
        have r1 : w2.cell? ⟨w.heap.size + 1 + 1, 1, none⟩ = some (.int .i64 0) := cell_keep hb2 (cell_keep hb1 (by go_simp))
        go_wp2
        refine bodyPost_ret (v := .agg #[.int .i64 l1, .int .i64 (bits .and .i64 m1 m2)]) (by simp [results, Try.results21, go_sem, r0, r1, q5]) rfl ?_
        exact ⟨ret_lbl H.out.1.symm H.out.2.symm, by (repeat' (first | exact Below.refl _ _ | assumption | exact Nat.le_refl _ | (refine Below.alloc ?_ ?_ _) | (refine Below.drew ?_) | (refine Below.setCell ?_ ?_ _) | (refine Below.trans ?_ (Below.mono (by assumption) ?_)) | (simp; done) | (simp; omega) | omega))⟩
      · have H : Hid (dnL l1 m1 l1 m2 = l1 ∧ dnM l1 m1 l1 m2 = bits .and .i64 m1 m2) := by
          unfold Hid dnL dnM
          simp [h1, h2]
        go_enter Try.func21, Try.ntmps21
        go_wp2_with fail
        refine (specOk_any _ _ _).mono ?_
        rintro e w1 ⟨rfl, hb1⟩
        rw [h1]
        obtain ⟨hc1, hf1⟩ := bcell hb1
        have z1 := hb1.size
        simp at z1
        have q0 : w.heap.size < w1.heap.size := by omega
        have q1 : w.heap.size + 1 < w1.heap.size := by omega
        have q2 : w.heap.size + 1 + 1 < w1.heap.size := by omega
        go_wp2_with fail
        refine (specOk_any _ _ _).mono ?_
        rintro e w2 ⟨rfl, hb2⟩
        rw [h2]
        obtain ⟨hc2, hf2⟩ := bcell hb2
        have z2 := hb2.size
        have q3 : w.heap.size < w2.heap.size := by omega
        have q4 : w.heap.size + 1 < w2.heap.size := by omega
        have q5 : w.heap.size + 1 + 1 < w2.heap.size := by omega
        have r0 : w2.cell? ⟨w.heap.size + 1 + 1, 0, none⟩ = some (.int .i64 0) := cell_keep hb2 (cell_keep hb1 (by go_simp))
        have r1 : w2.cell? ⟨w.heap.size + 1 + 1, 1, none⟩ = some (.int .i64 0) := cell_keep hb2 (cell_keep hb1 (by go_simp))
        go_wp2
        refine bodyPost_ret (v := .agg #[.int .i64 l1, .int .i64 (bits .and .i64 m1 m2)]) (by simp [results, Try.results21, go_sem, r0, r1, q5]) rfl ?_
        exact ⟨ret_lbl H.out.1.symm H.out.2.symm, by (repeat' (first | exact Below.refl _ _ | assumption | exact Nat.le_refl _ | (refine Below.alloc ?_ ?_ _) | (refine Below.drew ?_) | (refine Below.setCell ?_ ?_ _) | (refine Below.trans ?_ (Below.mono (by assumption) ?_)) | (simp; done) | (simp; omega) | omega))⟩
      · have H : Hid (dnL l1 m1 l2 m2 = l2 ∧ dnM l1 m1 l2 m2 = bits .and .i64 m1 m2) := by
          unfold Hid dnL dnM
          simp [h1, h2]
          omega
        go_enter Try.func21, Try.ntmps21
        go_wp2_with fail
        refine (specOk_any _ _ _).mono ?_
        rintro e w1 ⟨rfl, hb1⟩
        rw [h1]
        obtain ⟨hc1, hf1⟩ := bcell hb1
        have z1 := hb1.size
        simp at z1
        have q0 : w.heap.size < w1.heap.size := by omega
        have q1 : w.heap.size + 1 < w1.heap.size := by omega
        have q2 : w.heap.size + 1 + 1 < w1.heap.size := by omega
        go_wp2_with fail
        refine (specOk_any _ _ _).mono ?_
        rintro e w2 ⟨rfl, hb2⟩
        rw [h2]
        obtain ⟨hc2, hf2⟩ := bcell hb2
        have z2 := hb2.size
        have q3 : w.heap.size < w2.heap.size := by omega
        have q4 : w.heap.size + 1 < w2.heap.size := by omega
        have q5 : w.heap.size + 1 + 1 < w2.heap.size := by omega
        have r0 : w2.cell? ⟨w.heap.size + 1 + 1, 0, none⟩ = some (.int .i64 0) := cell_keep hb2 (cell_keep hb1 (by go_simp))
        have r1 : w2.cell? ⟨w.heap.size + 1 + 1, 1, none⟩ = some (.int .i64 0) := cell_keep hb2 (cell_keep hb1 (by go_simp))
        go_wp2
        refine bodyPost_ret (v := .agg #[.int .i64 l2, .int .i64 (bits .and .i64 m1 m2)]) (by simp [results, Try.results21, go_sem, r0, r1, q5]) rfl ?_
        exact ⟨ret_lbl H.out.1.symm H.out.2.symm, by (repeat' (first | exact Below.refl _ _ | assumption | exact Nat.le_refl _ | (refine Below.alloc ?_ ?_ _) | (refine Below.drew ?_) | (refine Below.setCell ?_ ?_ _) | (refine Below.trans ?_ (Below.mono (by assumption) ?_)) | (simp; done) | (simp; omega) | omega))⟩

theorem eqLbl_same (l m : Int) (w : World) :
    Calls Try.prog 31 #[.agg #[.int .i64 l, .int .i64 m], .agg #[.int .i64 l, .int .i64 m]] w fun e w' => e = .returned (.bool true) ∧ Below w.heap.size w w' := by
  go_enter Try.func31, Try.ntmps31
  go_wp2
  go_ret
  exact ⟨rfl, by go_grown⟩
end Go.Proofs.Ytjblhjnicoggaaa
