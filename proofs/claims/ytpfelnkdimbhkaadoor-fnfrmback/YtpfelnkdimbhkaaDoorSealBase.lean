/- trial -/
import Derived.Test.YtpfelnkdimbhkaaDoorRows
import Derived.Test.YtpfelnkdimbhkaaDoorAid
import Derived.Test.YtpfelnkdimbhkaaDoorSealMath
namespace Go.Proofs.YtpfelnkdimbhkaaDoor
open Go.ChangeShapes Go.WideShapes Go.ChangeAt Go.RowKit Go.Joins
set_option linter.unusedVariables false

theorem l3Mix_any (x y : Nat) (w : World) (hx : x < 4294967296) (hy : y < 2147483648) :
    Calls Tryd.prog 74 #[.int .i64 x, .int .i64 y] w fun e w' => e = .returned (.int .i64 (mixN x y)) ∧ w' = w := by
  have e1 := i64_xor_nat x y hx (by omega)
  have H := hid (mix_i64 x y hx hy _ _ _ rfl rfl rfl)
  go_enter Tryd.func74, Tryd.ntmps74
  go_wp2
  go_ret
  exact ⟨ret_int H.out, rfl⟩
theorem setcell_eq {W w' : World} {g : Nat} {a b : Int} (h : a = b) (hw : w' = W.setCell ⟨g, 0, none⟩ (.int .u32 a)) : w' = W.setCell ⟨g, 0, none⟩ (.int .u32 b) := by rw [hw, h]
theorem mix_any (x y : Nat) (g : Nat) (w : World) (hx : x < 4294967296) (hy : y < 2147483648) (hc : w.cell? ⟨g, 0, none⟩ = some (.int .u32 x)) (hf : w.frozen? ⟨g, 0, none⟩ = false) :
    Calls Tryd.prog 57 #[.pointer (some ⟨g, 0, none⟩), .int .i64 y] w fun e w' => e = .returned (.tuple #[]) ∧ w' = w.setCell ⟨g, 0, none⟩ (.int .u32 (mixN x y)) := by
  have e1 := u32_xor_nat x y hx (by omega)
  have H := hid (mix_u32 x y hx hy _ _ _ rfl rfl rfl)
  go_enter Tryd.func57, Tryd.ntmps57
  go_wp2
  go_end0
  exact ⟨rfl, setcell_eq H.out rfl⟩
end Go.Proofs.YtpfelnkdimbhkaaDoor
