/- Whether an order is ok, and whether it leaves a program: the contracts. No conditions. -/
import Derived.Test.YthabigbbjpcpkaaCodBase
namespace Go.Proofs.Ythabigbbjpcpkaa
open Go.ChangeShapes Go.WideShapes Go.ChangeAt Go.RowKit Go.Joins Go.Deep
set_option linter.unusedVariables false
set_option maxRecDepth 4000

theorem arr3_at (a b c : Int) (w : World) : Sem.run Try.prog (Instr.index 115 (.agg #[.int .i64 a, .int .i64 b, .int .i64 c]) (.int .i64 0)) w = .ok (.int .i64 a) w ∧ Sem.run Try.prog (Instr.index 115 (.agg #[.int .i64 a, .int .i64 b, .int .i64 c]) (.int .i64 1)) w = .ok (.int .i64 b) w ∧ Sem.run Try.prog (Instr.index 115 (.agg #[.int .i64 a, .int .i64 b, .int .i64 c]) (.int .i64 2)) w = .ok (.int .i64 c) w := by
  refine ⟨?_, ?_, ?_⟩ <;> kernel_rfl
theorem str3_at (x y z : UInt8) (w : World) : Sem.run Try.prog (Instr.index 9 (.string ⟨#[x, y, z]⟩) (.int .i64 0)) w = .ok (.int .u8 (x.toNat : Int)) w ∧ Sem.run Try.prog (Instr.index 9 (.string ⟨#[x, y, z]⟩) (.int .i64 1)) w = .ok (.int .u8 (y.toNat : Int)) w ∧ Sem.run Try.prog (Instr.index 9 (.string ⟨#[x, y, z]⟩) (.int .i64 2)) w = .ok (.int .u8 (z.toNat : Int)) w := by
  refine ⟨?_, ?_, ?_⟩ <;> kernel_rfl
theorem orderB_no {op a b c : Int} (h : inB op 1 14 = false) : orderB op a b c = false := by simp [orderB, h]

set_option maxHeartbeats 4000000 in
theorem order_any (op a b c : Int) (w : World) :
    Calls Try.prog 76 #[.agg #[.int .i64 op, .int .i64 a, .int .i64 b, .int .i64 c]] w fun e w' => e = .returned (.bool (orderB op a b c)) ∧ Below w.heap.size w w' := by
  cases h : inB op 1 14
  · have H := hid (orderB_no (a := a) (b := b) (c := c) h)
    go_enter Try.func76, Try.ntmps76
    go_wp2_with (go_at_call 109; refine (opOk_any _ _).mono ?_; rintro e w' ⟨rfl, rfl⟩)
    go_ret
    exact ⟨ret_bool H.out.symm, below_alloc1 _ _⟩
  · have HO := hid h
    have H := hid (show orderB op a b c = (inB a 0 (gK (k0 op)) && (inB b 0 (gK (k1 op)) && inB c 0 (gK (k2 op)))) by simp [orderB, h])
    go_enter Try.func76, Try.ntmps76
    go_wp2_with (first | (go_at_call 109; refine (opOk_any _ _).mono ?_; rintro e w' ⟨rfl, rfl⟩) | (go_at_call 110; refine (numbers_any op a b c _).mono ?_; rintro e w1 ⟨rfl, b1⟩; have B1 := hid ((below_alloc1 w (.cells #[.int .i64 op, .int .i64 a, .int .i64 b, .int .i64 c] 45)).trans (b1.mono (by simp))); clear b1))
    go_loop [13] (fun i => ∃ k : Nat, k ≤ 3 ∧ i = .int .i64 k ∧ (1 ≤ k → inB a 0 (gK (k0 op)) = true) ∧ (2 ≤ k → inB b 0 (gK (k1 op)) = true) ∧ (3 ≤ k → inB c 0 (gK (k2 op)) = true)) (fun i => 3 - (intOf i).toNat)
    case atStart => exact ⟨0, by omega, rfl, by omega, by omega, by omega⟩
    case round =>
      obtain ⟨k, hk, rfl, y0, y1, y2⟩ := hrel
      obtain ⟨j0, j1, j2⟩ := arr3_at a b c w1
      obtain ⟨s0, s1, s2⟩ := str3_at (k0 op) (k1 op) (k2 op) w1
      have Y0 := hid y0
      have Y1 := hid y1
      have Y2 := hid y2
      clear y0 y1 y2 h
      have hk' : k = 0 ∨ k = 1 ∨ k = 2 ∨ k = 3 := by omega
      rcases hk' with rfl | rfl | rfl | rfl
      · cases hv : inB a 0 (gK (k0 op))
        · go_wp2_with (first | (go_at_call 112; refine (kinds_any op _ HO.out).mono ?_; rintro e w' ⟨rfl, rfl⟩) | (go_at_call 111; refine (greatest_any _ _).mono ?_; rintro e w' ⟨rfl, rfl⟩) | (go_at_call 62; refine (within_any _ _ _ _).mono ?_; rintro e w' ⟨rfl, rfl⟩))
          go_ret
          exact ⟨ret_bool (by rw [H.out, hv]; simp), B1.out⟩
        · have HV := hid hv
          go_wp2_with (first | (go_at_call 112; refine (kinds_any op _ HO.out).mono ?_; rintro e w' ⟨rfl, rfl⟩) | (go_at_call 111; refine (greatest_any _ _).mono ?_; rintro e w' ⟨rfl, rfl⟩) | (go_at_call 62; refine (within_any _ _ _ _).mono ?_; rintro e w' ⟨rfl, rfl⟩))
          go_round
          case rel => exact ⟨1, by omega, by go_num, fun _ => (by first | trivial | exact HV.out), by omega, by omega⟩
          case measure => simp [intOf]
      · cases hv : inB b 0 (gK (k1 op))
        · go_wp2_with (first | (go_at_call 112; refine (kinds_any op _ HO.out).mono ?_; rintro e w' ⟨rfl, rfl⟩) | (go_at_call 111; refine (greatest_any _ _).mono ?_; rintro e w' ⟨rfl, rfl⟩) | (go_at_call 62; refine (within_any _ _ _ _).mono ?_; rintro e w' ⟨rfl, rfl⟩))
          go_ret
          exact ⟨ret_bool (by rw [H.out, hv]; simp), B1.out⟩
        · have HV := hid hv
          go_wp2_with (first | (go_at_call 112; refine (kinds_any op _ HO.out).mono ?_; rintro e w' ⟨rfl, rfl⟩) | (go_at_call 111; refine (greatest_any _ _).mono ?_; rintro e w' ⟨rfl, rfl⟩) | (go_at_call 62; refine (within_any _ _ _ _).mono ?_; rintro e w' ⟨rfl, rfl⟩))
          go_round
          case rel => exact ⟨2, by omega, by go_num, fun _ => Y0.out (by omega), fun _ => (by first | trivial | exact HV.out), by omega⟩
          case measure => simp [intOf]
      · cases hv : inB c 0 (gK (k2 op))
        · go_wp2_with (first | (go_at_call 112; refine (kinds_any op _ HO.out).mono ?_; rintro e w' ⟨rfl, rfl⟩) | (go_at_call 111; refine (greatest_any _ _).mono ?_; rintro e w' ⟨rfl, rfl⟩) | (go_at_call 62; refine (within_any _ _ _ _).mono ?_; rintro e w' ⟨rfl, rfl⟩))
          go_ret
          exact ⟨ret_bool (by rw [H.out, hv]; simp), B1.out⟩
        · have HV := hid hv
          go_wp2_with (first | (go_at_call 112; refine (kinds_any op _ HO.out).mono ?_; rintro e w' ⟨rfl, rfl⟩) | (go_at_call 111; refine (greatest_any _ _).mono ?_; rintro e w' ⟨rfl, rfl⟩) | (go_at_call 62; refine (within_any _ _ _ _).mono ?_; rintro e w' ⟨rfl, rfl⟩))
          go_round
          case rel => exact ⟨3, by omega, by go_num, fun _ => Y0.out (by omega), fun _ => Y1.out (by omega), fun _ => (by first | trivial | exact HV.out)⟩
          case measure => simp [intOf]
      · clear j0 j1 j2 s0 s1 s2
        go_wp2
        go_ret
        exact ⟨ret_bool (by rw [H.out, Y0.out (by omega), Y1.out (by omega), Y2.out (by omega)]; rfl), B1.out⟩

set_option maxHeartbeats 4000000 in
theorem specOrder_any (op a b c : Int) (w : World) :
    Calls Try.prog 61 #[.agg #[.int .i64 op, .int .i64 a, .int .i64 b, .int .i64 c]] w fun e w' => e = .returned (.bool (orderB op a b c)) ∧ Below w.heap.size w w' := by
  cases h : inB op 1 14
  · have H := hid (orderB_no (a := a) (b := b) (c := c) h)
    have HO := hid h
    have d3 : ((0 : Int) == 3) = false := by decide
    clear h
    go_enter Try.func61, Try.ntmps61
    go_wp2_with (go_at_call 105; refine (shape_no _ _ HO.out).mono ?_; rintro e w' ⟨rfl, rfl⟩)
    go_quiet (fail)
    go_wp2
    go_ret
    exact ⟨ret_bool H.out.symm, (below_alloc1 _ _).trans (below_draws _ _ _)⟩
  have HO := hid h
  have H := hid (show orderB op a b c = (inB a 0 (gK (k0 op)) && (inB b 0 (gK (k1 op)) && inB c 0 (gK (k2 op)))) by simp [orderB, h])
  have hz : (⟨#[k0 op, k1 op, k2 op]⟩ : ByteArray).size = 3 := rfl
  have S3 : ∀ w', _ := str3_at (k0 op) (k1 op) (k2 op)
  obtain ⟨s0, s1, s2⟩ := str3_at (k0 op) (k1 op) (k2 op) (w.alloc (.cells #[.int .i64 op, .int .i64 a, .int .i64 b, .int .i64 c] 45))
  clear h
  cases c0 : inB a 0 (gK (k0 op))
  · go_enter Try.func61, Try.ntmps61
    go_wp2_with (go_at_call 105; refine (shape_any _ _ HO.out).mono ?_; rintro e w' ⟨rfl, rfl⟩)
    go_quiet ((go_at_call 106; exact Calls.quiet_of_same (fits5_any _ _ _)))
    go_wp2
    go_ret
    exact ⟨ret_bool (by rw [H.out, c0]; simp), (below_alloc1 _ _).trans (below_draws _ _ _)⟩
  cases c1 : inB b 0 (gK (k1 op))
  · go_enter Try.func61, Try.ntmps61
    go_wp2_with (go_at_call 105; refine (shape_any _ _ HO.out).mono ?_; rintro e w' ⟨rfl, rfl⟩)
    go_quiet ((go_at_call 106; exact Calls.quiet_of_same (fits5_any _ _ _)))
    go_wp2
    go_ret
    exact ⟨ret_bool (by rw [H.out, c1]; simp), (below_alloc1 _ _).trans (below_draws _ _ _)⟩
  cases c2 : inB c 0 (gK (k2 op))
  · go_enter Try.func61, Try.ntmps61
    go_wp2_with (go_at_call 105; refine (shape_any _ _ HO.out).mono ?_; rintro e w' ⟨rfl, rfl⟩)
    go_quiet ((go_at_call 106; exact Calls.quiet_of_same (fits5_any _ _ _)))
    go_wp2
    go_ret
    exact ⟨ret_bool (by rw [H.out, c2]; simp), (below_alloc1 _ _).trans (below_draws _ _ _)⟩
  go_enter Try.func61, Try.ntmps61
  go_wp2_with (go_at_call 105; refine (shape_any _ _ HO.out).mono ?_; rintro e w' ⟨rfl, rfl⟩)
  go_quiet ((go_at_call 106; exact Calls.quiet_of_same (fits5_any _ _ _)))
  go_wp2
  go_ret
  exact ⟨ret_bool (by rw [H.out, c0, c1, c2]; rfl), (below_alloc1 _ _).trans (below_draws _ _ _)⟩

/-- whether an order jumps past the end of a program of so many orders -/
def leavesB (op a n : Int) : Bool := op == 8 && decide (n < a)
set_option maxHeartbeats 2000000 in
theorem leaves_any (op a b c n : Int) (w : World) :
    Calls Try.prog 77 #[.agg #[.int .i64 op, .int .i64 a, .int .i64 b, .int .i64 c], .int .i64 n] w fun e w' => e = .returned (.bool (leavesB op a n)) ∧ Below w.heap.size w w' := by
  cases c0 : (op == 8)
  · have H := hid (show leavesB op a n = false by simp only [leavesB, c0, Bool.false_and])
    go_enter Try.func77, Try.ntmps77
    go_wp2
    go_ret
    exact ⟨ret_bool H.out.symm, below_alloc1 _ _⟩
  · have H := hid (show leavesB op a n = decide (n < a) by simp only [leavesB, c0, Bool.true_and])
    go_enter Try.func77, Try.ntmps77
    go_wp2
    go_ret
    exact ⟨ret_bool H.out.symm, below_alloc1 _ _⟩
end Go.Proofs.Ythabigbbjpcpkaa
