/- Whether bytes are a message: the contracts of the program and of the specification. Conditions: the value reads as bytes. -/
import Derived.Test.YtbpomeegpkdekaaBytesTo
namespace Go.Proofs.Ytbpomeegpkdekaa
open Go.ChangeShapes Go.WideShapes Go.ChangeAt Go.RowKit Go.Joins Go.Deep
set_option linter.unusedVariables false

theorem specMsg_any (v : Value) (xs : List Int) (w : World) (hv : Rd w v xs) :
    Calls Try.prog 73 #[v] w fun e w' => e = .returned (.bool (decide (xs.length ≤ 8))) ∧ w' = w := by
  obtain ⟨h1, h2, a, cap, rfl, h3⟩ := hv
  clear h1 h3
  go_enter Try.func73, Try.ntmps73
  go_wp2
  go_ret
  refine ⟨ret_bool ?_, rfl⟩
  rw [Bool.eq_iff_iff]; simp; omega
theorem implMsg_any (v : Value) (xs : List Int) (w : World) (hv : Rd w v xs) :
    Calls Try.prog 65 #[v] w fun e w' => e = .returned (.bool (decide (xs.length ≤ 8))) ∧ w' = w := by
  obtain ⟨h1, h2, a, cap, rfl, h3⟩ := hv
  clear h1 h3
  go_enter Try.func65, Try.ntmps65
  go_wp2
  go_ret
  refine ⟨ret_bool ?_, rfl⟩
  rw [Bool.eq_iff_iff]; simp; omega
end Go.Proofs.Ytbpomeegpkdekaa
