/- Labels as numbers: the least above two and the greatest below two against all labels. Conditions: as written. -/
import Derived.Test.YthimdlcbcipfbaaLblLat
namespace Go.Proofs.Ythimdlcbcipfbaa
open Go.ChangeShapes Go.WideShapes Go.ChangeAt Go.RowKit Go.Joins

theorem orB : ∀ a b c : Fin 16, (bits .or .i64 (bits .or .i64 (a.val : Int) (b.val : Int)) (c.val : Int) == (c.val : Int)) = ((bits .or .i64 (a.val : Int) (c.val : Int) == (c.val : Int)) && (bits .or .i64 (b.val : Int) (c.val : Int) == (c.val : Int))) := by decide +kernel
theorem andB : ∀ a b c : Fin 16, (bits .or .i64 (c.val : Int) (bits .and .i64 (a.val : Int) (b.val : Int)) == bits .and .i64 (a.val : Int) (b.val : Int)) = ((bits .or .i64 (c.val : Int) (a.val : Int) == (a.val : Int)) && (bits .or .i64 (c.val : Int) (b.val : Int) == (b.val : Int))) := by decide +kernel
theorem maxB (a b c : Int) : decide (max a b ≤ c) = (decide (a ≤ c) && decide (b ≤ c)) := by rw [Bool.eq_iff_iff]; simp; omega
theorem minB (a b c : Int) : decide (c ≤ min a b) = (decide (c ≤ a) && decide (c ≤ b)) := by rw [Bool.eq_iff_iff]; simp; omega
theorem and4 (a b c d : Bool) : ((a && b) && (c && d)) = ((a && c) && (b && d)) := by cases a <;> cases b <;> cases c <;> cases d <;> rfl

theorem flUp {l1 m1 l2 m2 l m : Int} (h1 : okB l1 m1 = true) (h2 : okB l2 m2 = true) (h : okB l m = true) (hu : okB (max l1 l2) (bits .or .i64 m1 m2) = true) :
    flB (max l1 l2) (bits .or .i64 m1 m2) l m = (flB l1 m1 l m && flB l2 m2 l m) := by
  obtain ⟨⟨_, _⟩, x1, y1⟩ := okB_iff.1 h1
  obtain ⟨⟨_, _⟩, x2, y2⟩ := okB_iff.1 h2
  obtain ⟨⟨_, _⟩, x3, y3⟩ := okB_iff.1 h
  unfold flB
  rw [h1, h2, h, hu]
  obtain ⟨i, rfl⟩ := f16 x1 y1
  obtain ⟨j, rfl⟩ := f16 x2 y2
  obtain ⟨k, rfl⟩ := f16 x3 y3
  simp only [Bool.true_and]
  rw [orB i j k, maxB, and4]
theorem flDn {l1 m1 l2 m2 l m : Int} (h1 : okB l1 m1 = true) (h2 : okB l2 m2 = true) (h : okB l m = true) (hu : okB (min l1 l2) (bits .and .i64 m1 m2) = true) :
    flB l m (min l1 l2) (bits .and .i64 m1 m2) = (flB l m l1 m1 && flB l m l2 m2) := by
  obtain ⟨⟨_, _⟩, x1, y1⟩ := okB_iff.1 h1
  obtain ⟨⟨_, _⟩, x2, y2⟩ := okB_iff.1 h2
  obtain ⟨⟨_, _⟩, x3, y3⟩ := okB_iff.1 h
  unfold flB
  rw [h1, h2, h, hu]
  obtain ⟨i, rfl⟩ := f16 x1 y1
  obtain ⟨j, rfl⟩ := f16 x2 y2
  obtain ⟨k, rfl⟩ := f16 x3 y3
  simp only [Bool.true_and]
  rw [andB i j k, minB, and4]

theorem bnd (l1 m1 l2 m2 : Int) : ∃ P Q R S : Int, upL l1 m1 l2 m2 = P ∧ upM l1 m1 l2 m2 = Q ∧ dnL l1 m1 l2 m2 = R ∧ dnM l1 m1 l2 m2 = S ∧ okB P Q = true ∧ okB R S = true ∧
    ((okB l1 m1 && okB l2 m2) = false → P = 0 ∧ Q = 0 ∧ R = 0 ∧ S = 0) ∧
    (okB l1 m1 = true → okB l2 m2 = true → ∀ l m, okB l m = true → flB P Q l m = (flB l1 m1 l m && flB l2 m2 l m) ∧ flB l m R S = (flB l m l1 m1 && flB l m l2 m2)) := by
  cases h : okB l1 m1 && okB l2 m2
  · refine ⟨0, 0, 0, 0, by simp [upL, h], by simp [upM, h], by simp [dnL, h], by simp [dnM, h], by decide +kernel, by decide +kernel, fun _ => ⟨rfl, rfl, rfl, rfl⟩, fun a b => ?_⟩
    rw [a, b] at h
    exact absurd h (by decide)
  · obtain ⟨h1, h2⟩ := Bool.and_eq_true_iff.1 h
    obtain ⟨a1, a2, a3⟩ := up_ok h1 h2
    obtain ⟨b1, b2, b3⟩ := dn_ok h1 h2
    refine ⟨_, _, _, _, a1, a2, b1, b2, a3, b3, (fun x => Bool.noConfusion x), fun _ _ l m hlm => ⟨flUp h1 h2 hlm a3, flDn h1 h2 hlm b3⟩⟩
end Go.Proofs.Ythimdlcbcipfbaa
