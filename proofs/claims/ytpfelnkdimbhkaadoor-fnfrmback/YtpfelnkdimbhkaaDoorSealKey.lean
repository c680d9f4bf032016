/- SealKey answers at every argument as the specification does. No conditions. -/
import Derived.Test.YtpfelnkdimbhkaaDoorInBase
import Derived.Test.YtpfelnkdimbhkaaDoorSealSum
namespace Go.Proofs.YtpfelnkdimbhkaaDoor
open Go.ChangeShapes Go.WideShapes Go.ChangeAt Go.RowKit Go.Joins
set_option linter.unusedVariables false
set_option maxRecDepth 4000

theorem all_take_succ (ys : List Int) (p : Int → Bool) (k : Nat) (h : k < ys.length) : (ys.take (k + 1)).all p = ((ys.take k).all p && p (ys.getD k 0)) := by
  rw [List.take_succ_eq_append_getElem h, List.all_append]; simp [h]

theorem l3Mix_int (x y : Int) (w : World) (x0 : 0 ≤ x) (hx : x < 4294967296) (y0 : 0 ≤ y) (hy : y < 2147483648) :
    Calls Tryd.prog 74 #[.int .i64 x, .int .i64 y] w fun e w' => e = .returned (.int .i64 ((mixN x.toNat y.toNat : Nat) : Int)) ∧ w' = w := by
  obtain ⟨X, rfl⟩ := Int.eq_ofNat_of_zero_le x0
  obtain ⟨Y, rfl⟩ := Int.eq_ofNat_of_zero_le y0
  exact l3Mix_any X Y w (by omega) (by omega)
theorem inB_iff {n lo hi : Int} : inB n lo hi = true ↔ lo ≤ n ∧ n ≤ hi := by simp [inB]
end Go.Proofs.YtpfelnkdimbhkaaDoor
