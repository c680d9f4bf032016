/- The contracts of the functions on labels (document, chapter 1): what each answers, and that it writes nothing that was there. No conditions. -/
import Derived.Test.YtjblhjnicoggaaaRows
import Derived.Test.YtjblhjnicoggaaaInBase
import Derived.WalkKit
import Derived.ProofKit
import Derived.OpenShut
import Derived.ShutString
import Derived.ChangeOld
import Derived.Below
import Derived.Lib.SmallJoins
import Derived.Handy
namespace Go.Proofs.Ytjblhjnicoggaaa
open Go.ChangeShapes Go.WideShapes Go.ChangeAt Go.RowKit Go.Joins
set_option linter.unusedVariables false

/-- whether a label is ok -/
def okB (l m : Int) : Bool := inB l 0 3 && inB m 0 15
theorem okB_iff {l m : Int} : okB l m = true ↔ (0 ≤ l ∧ l ≤ 3) ∧ 0 ≤ m ∧ m ≤ 15 := by simp [okB, inB]

theorem ok_any (l m : Int) (w : World) :
    Calls Try.prog 35 #[.agg #[.int .i64 l, .int .i64 m]] w fun e w' => e = .returned (.bool (okB l m)) ∧ Below w.heap.size w w' := by
  cases h1 : inB l 0 3
  all_goals
    go_enter Try.func35, Try.ntmps35
    go_wp2_with (go_at_call 44; refine (within_any _ _ _ _).mono ?_; rintro e w' ⟨rfl, rfl⟩)
    go_ret
    refine ⟨ret_bool ?_, by go_grown⟩
    simp [okB, h1]
theorem lblOk_any (l m : Int) (w : World) :
    Calls Try.prog 16 #[.agg #[.int .i64 l, .int .i64 m]] w fun e w' => e = .returned (.bool (okB l m)) ∧ Below w.heap.size w w' := by
  go_enter Try.func16, Try.ntmps16
  go_wp2_with (go_at_call 35; refine (ok_any _ _ _).mono ?_; rintro e w' ⟨rfl, hb⟩)
  go_ret
  exact ⟨rfl, (below_alloc1 _ _).trans (hb.mono (by simp))⟩

theorem specOk_any (l m : Int) (w : World) :
    Calls Try.prog 23 #[.agg #[.int .i64 l, .int .i64 m]] w fun e w' => e = .returned (.bool (okB l m)) ∧ Below w.heap.size w w' := by
  cases h1 : inB l 0 3
  all_goals
    go_enter Try.func23, Try.ntmps23
    go_wp2_with (go_at_call 38; refine (l1In_any _ _ _ _).mono ?_; rintro e w' ⟨rfl, rfl⟩)
    go_ret
    refine ⟨ret_bool ?_, by go_grown⟩
    simp [okB, h1]

theorem toLbl_any (l m : Int) (w : World) :
    Calls Try.prog 30 #[.agg #[.int .i64 l, .int .i64 m]] w fun e w' => e = .returned (.agg #[.int .i64 l, .int .i64 m]) ∧ Below w.heap.size w w' := by
  go_enter Try.func30, Try.ntmps30
  go_wp2
  go_returns
  exact ⟨rfl, by go_grown⟩

end Go.Proofs.Ytjblhjnicoggaaa
