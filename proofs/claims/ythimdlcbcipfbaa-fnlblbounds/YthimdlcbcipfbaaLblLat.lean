/- Labels as numbers: the least above and the greatest below, their order and brackets. Conditions: the labels are ok. -/
import Derived.Test.YthimdlcbcipfbaaLblBase3
namespace Go.Proofs.Ythimdlcbcipfbaa
open Go.ChangeShapes Go.WideShapes Go.ChangeAt Go.RowKit Go.Joins

theorem f16 {m : Int} (a : 0 ≤ m) (b : m ≤ 15) : ∃ i : Fin 16, m = (i.val : Int) := ⟨⟨m.toNat, by omega⟩, by simp; omega⟩
theorem orR : ∀ a b : Fin 16, 0 ≤ bits .or .i64 (a.val : Int) (b.val : Int) ∧ bits .or .i64 (a.val : Int) (b.val : Int) ≤ 15 := by decide +kernel
theorem andR : ∀ a b : Fin 16, 0 ≤ bits .and .i64 (a.val : Int) (b.val : Int) ∧ bits .and .i64 (a.val : Int) (b.val : Int) ≤ 15 := by decide +kernel
theorem orC : ∀ a b : Fin 16, bits .or .i64 (a.val : Int) (b.val : Int) = bits .or .i64 (b.val : Int) (a.val : Int) := by decide +kernel
theorem andC : ∀ a b : Fin 16, bits .and .i64 (a.val : Int) (b.val : Int) = bits .and .i64 (b.val : Int) (a.val : Int) := by decide +kernel
theorem orA : ∀ a b c : Fin 16, bits .or .i64 (a.val : Int) (bits .or .i64 (b.val : Int) (c.val : Int)) = bits .or .i64 (bits .or .i64 (a.val : Int) (b.val : Int)) (c.val : Int) := by decide +kernel
theorem andA : ∀ a b c : Fin 16, bits .and .i64 (a.val : Int) (bits .and .i64 (b.val : Int) (c.val : Int)) = bits .and .i64 (bits .and .i64 (a.val : Int) (b.val : Int)) (c.val : Int) := by decide +kernel
theorem orT : ∀ a b : Fin 16, bits .or .i64 (a.val : Int) (bits .and .i64 (a.val : Int) (b.val : Int)) = (a.val : Int) := by decide +kernel
theorem andT : ∀ a b : Fin 16, bits .and .i64 (a.val : Int) (bits .or .i64 (a.val : Int) (b.val : Int)) = (a.val : Int) := by decide +kernel

theorem orC' {m n : Int} (m1 : 0 ≤ m) (m2 : m ≤ 15) (n1 : 0 ≤ n) (n2 : n ≤ 15) : bits .or .i64 m n = bits .or .i64 n m := by
  obtain ⟨m0, rfl⟩ := f16 m1 m2
  obtain ⟨n0, rfl⟩ := f16 n1 n2
  exact orC m0 n0
theorem andC' {m n : Int} (m1 : 0 ≤ m) (m2 : m ≤ 15) (n1 : 0 ≤ n) (n2 : n ≤ 15) : bits .and .i64 m n = bits .and .i64 n m := by
  obtain ⟨m0, rfl⟩ := f16 m1 m2
  obtain ⟨n0, rfl⟩ := f16 n1 n2
  exact andC m0 n0
theorem orA' {m n p : Int} (m1 : 0 ≤ m) (m2 : m ≤ 15) (n1 : 0 ≤ n) (n2 : n ≤ 15) (p1 : 0 ≤ p) (p2 : p ≤ 15) : bits .or .i64 m (bits .or .i64 n p) = bits .or .i64 (bits .or .i64 m n) p := by
  obtain ⟨m0, rfl⟩ := f16 m1 m2
  obtain ⟨n0, rfl⟩ := f16 n1 n2
  obtain ⟨p0, rfl⟩ := f16 p1 p2
  exact orA m0 n0 p0
theorem andA' {m n p : Int} (m1 : 0 ≤ m) (m2 : m ≤ 15) (n1 : 0 ≤ n) (n2 : n ≤ 15) (p1 : 0 ≤ p) (p2 : p ≤ 15) : bits .and .i64 m (bits .and .i64 n p) = bits .and .i64 (bits .and .i64 m n) p := by
  obtain ⟨m0, rfl⟩ := f16 m1 m2
  obtain ⟨n0, rfl⟩ := f16 n1 n2
  obtain ⟨p0, rfl⟩ := f16 p1 p2
  exact andA m0 n0 p0
theorem orT' {m n : Int} (m1 : 0 ≤ m) (m2 : m ≤ 15) (n1 : 0 ≤ n) (n2 : n ≤ 15) : bits .or .i64 m (bits .and .i64 m n) = m := by
  obtain ⟨m0, rfl⟩ := f16 m1 m2
  obtain ⟨n0, rfl⟩ := f16 n1 n2
  exact orT m0 n0
theorem andT' {m n : Int} (m1 : 0 ≤ m) (m2 : m ≤ 15) (n1 : 0 ≤ n) (n2 : n ≤ 15) : bits .and .i64 m (bits .or .i64 m n) = m := by
  obtain ⟨m0, rfl⟩ := f16 m1 m2
  obtain ⟨n0, rfl⟩ := f16 n1 n2
  exact andT m0 n0

theorem up_ok {l1 m1 l2 m2 : Int} (h1 : okB l1 m1 = true) (h2 : okB l2 m2 = true) : upL l1 m1 l2 m2 = max l1 l2 ∧ upM l1 m1 l2 m2 = bits .or .i64 m1 m2 ∧ okB (max l1 l2) (bits .or .i64 m1 m2) = true := by
  obtain ⟨⟨a, b⟩, c, d⟩ := okB_iff.1 h1
  obtain ⟨⟨a', b'⟩, c', d'⟩ := okB_iff.1 h2
  obtain ⟨i, rfl⟩ := f16 c d
  obtain ⟨j, rfl⟩ := f16 c' d'
  refine ⟨?_, by simp [upM, h1, h2], okB_iff.2 ⟨by omega, orR i j⟩⟩
  simp [upL, h1, h2]; split <;> omega
theorem dn_ok {l1 m1 l2 m2 : Int} (h1 : okB l1 m1 = true) (h2 : okB l2 m2 = true) : dnL l1 m1 l2 m2 = min l1 l2 ∧ dnM l1 m1 l2 m2 = bits .and .i64 m1 m2 ∧ okB (min l1 l2) (bits .and .i64 m1 m2) = true := by
  obtain ⟨⟨a, b⟩, c, d⟩ := okB_iff.1 h1
  obtain ⟨⟨a', b'⟩, c', d'⟩ := okB_iff.1 h2
  obtain ⟨i, rfl⟩ := f16 c d
  obtain ⟨j, rfl⟩ := f16 c' d'
  refine ⟨?_, by simp [dnM, h1, h2], okB_iff.2 ⟨by omega, andR i j⟩⟩
  simp [dnL, h1, h2]; split <;> omega

theorem lat3 {l1 m1 l2 m2 l3 m3 : Int} (h1 : okB l1 m1 = true) (h2 : okB l2 m2 = true) (h3 : okB l3 m3 = true) :
    ∃ P Q R S T U P' Q' R' S' T' U' : Int,
      (upL l1 m1 l2 m2 = P ∧ upM l1 m1 l2 m2 = Q ∧ upL l2 m2 l1 m1 = P ∧ upM l2 m2 l1 m1 = Q ∧ upL l2 m2 l3 m3 = R ∧ upM l2 m2 l3 m3 = S ∧ upL l1 m1 R S = T ∧ upM l1 m1 R S = U ∧ upL P Q l3 m3 = T ∧ upM P Q l3 m3 = U) ∧
      (dnL l1 m1 l2 m2 = P' ∧ dnM l1 m1 l2 m2 = Q' ∧ dnL l2 m2 l1 m1 = P' ∧ dnM l2 m2 l1 m1 = Q' ∧ dnL l2 m2 l3 m3 = R' ∧ dnM l2 m2 l3 m3 = S' ∧ dnL l1 m1 R' S' = T' ∧ dnM l1 m1 R' S' = U' ∧ dnL P' Q' l3 m3 = T' ∧ dnM P' Q' l3 m3 = U') ∧
      upL l1 m1 P' Q' = l1 ∧ upM l1 m1 P' Q' = m1 ∧ dnL l1 m1 P Q = l1 ∧ dnM l1 m1 P Q = m1 := by
  obtain ⟨a1, a2, a3⟩ := up_ok h1 h2
  obtain ⟨b1, b2, b3⟩ := up_ok h2 h1
  obtain ⟨c1, c2, c3⟩ := up_ok h2 h3
  obtain ⟨d1, d2, d3⟩ := up_ok h1 c3
  obtain ⟨e1, e2, e3⟩ := up_ok a3 h3
  obtain ⟨a1', a2', a3'⟩ := dn_ok h1 h2
  obtain ⟨b1', b2', b3'⟩ := dn_ok h2 h1
  obtain ⟨c1', c2', c3'⟩ := dn_ok h2 h3
  obtain ⟨d1', d2', d3'⟩ := dn_ok h1 c3'
  obtain ⟨e1', e2', e3'⟩ := dn_ok a3' h3
  obtain ⟨f1, f2, _⟩ := up_ok h1 a3'
  obtain ⟨g1, g2, _⟩ := dn_ok h1 a3
  obtain ⟨⟨_, _⟩, x1, y1⟩ := okB_iff.1 h1
  obtain ⟨⟨_, _⟩, x2, y2⟩ := okB_iff.1 h2
  obtain ⟨⟨_, _⟩, x3, y3⟩ := okB_iff.1 h3
  refine ⟨max l1 l2, bits .or .i64 m1 m2, max l2 l3, bits .or .i64 m2 m3, max l1 (max l2 l3), bits .or .i64 m1 (bits .or .i64 m2 m3), min l1 l2, bits .and .i64 m1 m2, min l2 l3, bits .and .i64 m2 m3, min l1 (min l2 l3), bits .and .i64 m1 (bits .and .i64 m2 m3), ?_, ?_, ?_⟩
  · exact ⟨a1, a2, b1.trans (Int.max_comm _ _), b2.trans (orC' x2 y2 x1 y1), c1, c2, d1, d2, e1.trans (Int.max_assoc _ _ _), e2.trans (orA' x1 y1 x2 y2 x3 y3).symm⟩
  · exact ⟨a1', a2', b1'.trans (Int.min_comm _ _), b2'.trans (andC' x2 y2 x1 y1), c1', c2', d1', d2', e1'.trans (Int.min_assoc _ _ _), e2'.trans (andA' x1 y1 x2 y2 x3 y3).symm⟩
  · refine ⟨f1.trans ?_, f2.trans (orT' x1 y1 x2 y2), g1.trans ?_, g2.trans (andT' x1 y1 x2 y2)⟩ <;> omega
end Go.Proofs.Ythimdlcbcipfbaa
