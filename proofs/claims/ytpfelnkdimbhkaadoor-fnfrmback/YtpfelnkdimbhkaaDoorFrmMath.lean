/- A frame's bytes and what is read from them: there and back, as lists alone. -/
import Derived.Test.YtpfelnkdimbhkaaDoorFrmTkC
import Derived.Test.YtpfelnkdimbhkaaDoorFrmPutC
namespace Go.Proofs.YtpfelnkdimbhkaaDoor
set_option linter.unusedVariables false
set_option linter.unusedSimpArgs false
set_option maxRecDepth 4000
theorem hdL_eq {k f t y b p e s : Int} (h : headB k f t y b p e s = true) : hdL k f t y b p e s = [k, f, t, y, b / 256, b % 256, p / 256, p % 256, e, s / 256, s % 256] := by
  obtain ⟨hk, hf, ht, hy, hb, hp, he, hs⟩ := headB_in h
  unfold hdL
  rw [if_pos h]
  obtain ⟨K, rfl⟩ := Int.eq_ofNat_of_zero_le (show 0 ≤ k by omega)
  obtain ⟨F, rfl⟩ := Int.eq_ofNat_of_zero_le (show 0 ≤ f by omega)
  obtain ⟨T, rfl⟩ := Int.eq_ofNat_of_zero_le (show 0 ≤ t by omega)
  obtain ⟨Y, rfl⟩ := Int.eq_ofNat_of_zero_le (show 0 ≤ y by omega)
  obtain ⟨B, rfl⟩ := Int.eq_ofNat_of_zero_le (show 0 ≤ b by omega)
  obtain ⟨P, rfl⟩ := Int.eq_ofNat_of_zero_le (show 0 ≤ p by omega)
  obtain ⟨E, rfl⟩ := Int.eq_ofNat_of_zero_le (show 0 ≤ e by omega)
  obtain ⟨S, rfl⟩ := Int.eq_ofNat_of_zero_le (show 0 ≤ s by omega)
  simp [preL, fld, putL, List.range_succ]
  omega
theorem tk_lit (x0 x1 x2 x3 x4 x5 x6 x7 x8 x9 x10 : Int) (rest : List Int) :
    hfV (x0 :: x1 :: x2 :: x3 :: x4 :: x5 :: x6 :: x7 :: x8 :: x9 :: x10 :: rest) 0 = x0 ∧ hfV (x0 :: x1 :: x2 :: x3 :: x4 :: x5 :: x6 :: x7 :: x8 :: x9 :: x10 :: rest) 1 = x1 ∧ hfV (x0 :: x1 :: x2 :: x3 :: x4 :: x5 :: x6 :: x7 :: x8 :: x9 :: x10 :: rest) 2 = x2 ∧ hfV (x0 :: x1 :: x2 :: x3 :: x4 :: x5 :: x6 :: x7 :: x8 :: x9 :: x10 :: rest) 3 = x3 ∧ hfV (x0 :: x1 :: x2 :: x3 :: x4 :: x5 :: x6 :: x7 :: x8 :: x9 :: x10 :: rest) 4 = x4 * 256 + x5 ∧ hfV (x0 :: x1 :: x2 :: x3 :: x4 :: x5 :: x6 :: x7 :: x8 :: x9 :: x10 :: rest) 5 = x6 * 256 + x7 ∧ hfV (x0 :: x1 :: x2 :: x3 :: x4 :: x5 :: x6 :: x7 :: x8 :: x9 :: x10 :: rest) 6 = x8 ∧ hfV (x0 :: x1 :: x2 :: x3 :: x4 :: x5 :: x6 :: x7 :: x8 :: x9 :: x10 :: rest) 7 = x9 * 256 + x10 := by
  refine ⟨?_, ?_, ?_, ?_, ?_, ?_, ?_, ?_⟩ <;> (simp [hfV, tkN, tkOk, numL] ; try omega)
theorem cons11 {xs : List Int} (h : xs.length = 24) : ∃ x0 x1 x2 x3 x4 x5 x6 x7 x8 x9 x10 rest, xs = x0 :: x1 :: x2 :: x3 :: x4 :: x5 :: x6 :: x7 :: x8 :: x9 :: x10 :: rest ∧ rest.length = 13 := by
  match xs, h with
  | x0 :: x1 :: x2 :: x3 :: x4 :: x5 :: x6 :: x7 :: x8 :: x9 :: x10 :: rest, h => exact ⟨x0, x1, x2, x3, x4, x5, x6, x7, x8, x9, x10, rest, rfl, by simp at h; omega⟩
theorem ft_put {k f t y b p e s : Int} {xs : List Int} (h : headB k f t y b p e s = true) (hx : xs.length = 13) :
    ftOk (ptL k f t y b p e s xs) = true ∧ ftH (ptL k f t y b p e s xs) 0 = k ∧ ftH (ptL k f t y b p e s xs) 1 = f ∧ ftH (ptL k f t y b p e s xs) 2 = t ∧ ftH (ptL k f t y b p e s xs) 3 = y ∧ ftH (ptL k f t y b p e s xs) 4 = b ∧ ftH (ptL k f t y b p e s xs) 5 = p ∧ ftH (ptL k f t y b p e s xs) 6 = e ∧ ftH (ptL k f t y b p e s xs) 7 = s ∧ ftL (ptL k f t y b p e s xs) = xs ∧ (ptL k f t y b p e s xs).length = 24 ∧ (ptL k f t y b p e s xs).take 11 = hdL k f t y b p e s := by
  have hp : ptL k f t y b p e s xs = k :: f :: t :: y :: (b / 256) :: (b % 256) :: (p / 256) :: (p % 256) :: e :: (s / 256) :: (s % 256) :: xs := by
    unfold ptL
    rw [if_pos (by simp [h, hx]), hdL_eq h]
    rfl
  obtain ⟨t0, t1, t2, t3, t4, t5, t6, t7⟩ := tk_lit k f t y (b / 256) (b % 256) (p / 256) (p % 256) e (s / 256) (s % 256) xs
  rw [show b / 256 * 256 + b % 256 = b by omega] at t4
  rw [show p / 256 * 256 + p % 256 = p by omega] at t5
  rw [show s / 256 * 256 + s % 256 = s by omega] at t7
  rw [hp, hdL_eq h]
  have hok : ftOk (k :: f :: t :: y :: (b / 256) :: (b % 256) :: (p / 256) :: (p % 256) :: e :: (s / 256) :: (s % 256) :: xs) = true := by
    simp only [ftOk, t0, t1, t2, t3, t4, t5, t6, t7, h]
    simp [hx]
  refine ⟨hok, ?_, ?_, ?_, ?_, ?_, ?_, ?_, ?_, ?_, by simp [hx], by simp⟩
  · unfold ftH; rw [if_pos hok, t0]
  · unfold ftH; rw [if_pos hok, t1]
  · unfold ftH; rw [if_pos hok, t2]
  · unfold ftH; rw [if_pos hok, t3]
  · unfold ftH; rw [if_pos hok, t4]
  · unfold ftH; rw [if_pos hok, t5]
  · unfold ftH; rw [if_pos hok, t6]
  · unfold ftH; rw [if_pos hok, t7]
  · unfold ftL; rw [if_pos hok]; rfl
theorem put_ft {xs : List Int} (hb : ∀ x ∈ xs, 0 ≤ x ∧ x ≤ 255) (h : ftOk xs = true) :
    headB (ftH xs 0) (ftH xs 1) (ftH xs 2) (ftH xs 3) (ftH xs 4) (ftH xs 5) (ftH xs 6) (ftH xs 7) = true ∧ ptL (ftH xs 0) (ftH xs 1) (ftH xs 2) (ftH xs 3) (ftH xs 4) (ftH xs 5) (ftH xs 6) (ftH xs 7) (ftL xs) = xs := by
  have h' := h
  unfold ftOk at h'
  rw [Bool.and_eq_true, decide_eq_true_eq] at h'
  obtain ⟨hl, hh⟩ := h'
  have e : ∀ q, ftH xs q = hfV xs q := fun q => by unfold ftH; rw [if_pos h]
  have el : ftL xs = xs.drop 11 := by unfold ftL; rw [if_pos h]
  rw [e 0, e 1, e 2, e 3, e 4, e 5, e 6, e 7, el]
  refine ⟨hh, ?_⟩
  unfold ptL
  rw [if_pos (by simp [hh, hl]), hdL_eq hh]
  obtain ⟨x0, x1, x2, x3, x4, x5, x6, x7, x8, x9, x10, rest, rfl, hr⟩ := cons11 hl
  obtain ⟨t0, t1, t2, t3, t4, t5, t6, t7⟩ := tk_lit x0 x1 x2 x3 x4 x5 x6 x7 x8 x9 x10 rest
  rw [t0, t1, t2, t3, t4, t5, t6, t7]
  have b5 := hb x5 (by simp)
  have b7 := hb x7 (by simp)
  have b10 := hb x10 (by simp)
  rw [show (x4 * 256 + x5) / 256 = x4 by omega, show (x4 * 256 + x5) % 256 = x5 by omega, show (x6 * 256 + x7) / 256 = x6 by omega, show (x6 * 256 + x7) % 256 = x7 by omega, show (x9 * 256 + x10) / 256 = x9 by omega, show (x9 * 256 + x10) % 256 = x10 by omega]
  rfl
end Go.Proofs.YtpfelnkdimbhkaaDoor
