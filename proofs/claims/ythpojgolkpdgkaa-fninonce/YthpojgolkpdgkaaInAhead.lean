/- Which of two numbers is ahead: the contract of the program's loop over an array of three. No conditions. -/
import Derived.Test.YthpojgolkpdgkaaInHalf
import Derived.Deep.QuietTactic
import Derived.BigQuiet
import Derived.Deep.RegionWith
namespace Go.Proofs.Ythpojgolkpdgkaa
open Go.ChangeShapes Go.WideShapes Go.ChangeAt Go.RowKit Go.Joins Go.Deep
set_option linter.unusedVariables false
set_option linter.unusedSimpArgs false
set_option maxRecDepth 4000

set_option maxHeartbeats 4000000 in
theorem ahead_any (a b c d e f : Int) (w : World) :
    Calls Try.prog 63 #[.agg #[.int .i64 a, .int .i64 b, .int .i64 c], .agg #[.int .i64 d, .int .i64 e, .int .i64 f]] w fun x w' => x = .returned (.bool (lexB a b c d e f)) ∧ Below w.heap.size w w' := by
  have PP := hid (((Below.refl w.heap.size w).alloc (Nat.le_refl _) (.cells #[.int .i64 a, .int .i64 b, .int .i64 c] 82)).alloc (by simp) (.cells #[.int .i64 d, .int .i64 e, .int .i64 f] 82))
  have HB0 : Hid (IB ((w.alloc (.cells #[.int .i64 a, .int .i64 b, .int .i64 c] 82)).alloc (.cells #[.int .i64 d, .int .i64 e, .int .i64 f] 82)) w.heap.size [a, b, c]) := hid ((ib_new w [a, b, c] 82).keep (below_alloc1 _ _))
  have HB1 : Hid (IB ((w.alloc (.cells #[.int .i64 a, .int .i64 b, .int .i64 c] 82)).alloc (.cells #[.int .i64 d, .int .i64 e, .int .i64 f] 82)) (w.heap.size + 1) [d, e, f]) := hid (by have := ib_new (w.alloc (.cells #[.int .i64 a, .int .i64 b, .int .i64 c] 82)) [d, e, f] 82; simpa using this)
  go_enter Try.func63, Try.ntmps63
  go_wp2_with fail
  go_loopw [5, 6] (fun u i wr => ∃ k : Nat, k ≤ 3 ∧ i = .int .i64 k ∧ (1 ≤ k → a = d) ∧ (2 ≤ k → b = e) ∧ (3 ≤ k → c = f) ∧ IB wr w.heap.size [a, b, c] ∧ IB wr (w.heap.size + 1) [d, e, f] ∧ Below w.heap.size w wr) (fun _ i _ => 3 - (intOf i).toNat)
  case atStart => exact ⟨0, by omega, rfl, by omega, by omega, by omega, HB0.out, HB1.out, PP.out⟩
  case round =>
    obtain ⟨k, hk, rfl, e1, e2, e3, hA, hB, hP⟩ := hrel
    have HA := hid hA
    have HB := hid hB
    have HP := hid hP
    obtain ⟨a0, a1, a2⟩ := ib3 hA
    obtain ⟨b0, b1, b2⟩ := ib3 hB
    clear hA hB hP HB0 HB1 PP
    rcases (by omega : k = 0 ∨ k = 1 ∨ k = 2 ∨ k = 3) with rfl | rfl | rfl | rfl
    · clear e1 e2 e3
      by_cases h : a = d
      · subst h
        clear hk
        go_wp2
        go_quiet (fail)
        go_wp2
        go_roundw
        case rel => exact ⟨1, by omega, by go_num, by simp, by simp, by simp, HA.out.keep (below_draws _ _ _), HB.out.keep (below_draws _ _ _), HP.out.trans ((below_draws _ _ _).mono HP.out.size)⟩
        case measure => simp [intOf]
      · have H := hid (show lexB a b c d e f = decide (a < d) by simp [lexB, h])
        have g : (a == d) = false := by simpa using h
        clear hk
        go_wp2
        go_quiet (fail)
        go_wp2_with fail
        go_region_with ((go_at_call 59; refine (greater_any _ _ _).mono ?_; rintro x w' ⟨rfl, rfl⟩))
        all_goals
          go_wp2
          go_ret
          exact ⟨ret_bool H.out.symm, HP.out.trans ((below_draws _ _ _).mono HP.out.size)⟩
    · have E1 := e1 (by omega)
      subst E1
      clear e1 e2 e3
      by_cases h : b = e
      · subst h
        clear hk
        go_wp2
        go_quiet (fail)
        go_wp2
        go_roundw
        case rel => exact ⟨2, by omega, by go_num, by simp, by simp, by simp, HA.out.keep (below_draws _ _ _), HB.out.keep (below_draws _ _ _), HP.out.trans ((below_draws _ _ _).mono HP.out.size)⟩
        case measure => simp [intOf]
      · have H := hid (show lexB a b c a e f = decide (b < e) by simp [lexB, h])
        have g : (b == e) = false := by simpa using h
        clear hk
        go_wp2
        go_quiet (fail)
        go_wp2_with fail
        go_region_with ((go_at_call 59; refine (greater_any _ _ _).mono ?_; rintro x w' ⟨rfl, rfl⟩))
        all_goals
          go_wp2
          go_ret
          exact ⟨ret_bool H.out.symm, HP.out.trans ((below_draws _ _ _).mono HP.out.size)⟩
    · have E1 := e1 (by omega)
      have E2 := e2 (by omega)
      subst E1 E2
      clear e1 e2 e3
      by_cases h : c = f
      · subst h
        clear hk
        go_wp2
        go_quiet (fail)
        go_wp2
        go_roundw
        case rel => exact ⟨3, by omega, by go_num, by simp, by simp, by simp, HA.out.keep (below_draws _ _ _), HB.out.keep (below_draws _ _ _), HP.out.trans ((below_draws _ _ _).mono HP.out.size)⟩
        case measure => simp [intOf]
      · have H := hid (show lexB a b c a b f = decide (c < f) by simp [lexB, h])
        have g : (c == f) = false := by simpa using h
        clear hk
        go_wp2
        go_quiet (fail)
        go_wp2_with fail
        go_region_with ((go_at_call 59; refine (greater_any _ _ _).mono ?_; rintro x w' ⟨rfl, rfl⟩))
        all_goals
          go_wp2
          go_ret
          exact ⟨ret_bool H.out.symm, HP.out.trans ((below_draws _ _ _).mono HP.out.size)⟩
    · have E1 := e1 (by omega)
      have E2 := e2 (by omega)
      have E3 := e3 (by omega)
      subst E1 E2 E3
      clear e1 e2 e3
      have H := hid (show lexB a b c a b c = false by simp [lexB])
      go_wp2
      go_ret
      exact ⟨ret_bool H.out.symm, HP.out⟩
end Go.Proofs.Ythpojgolkpdgkaa
