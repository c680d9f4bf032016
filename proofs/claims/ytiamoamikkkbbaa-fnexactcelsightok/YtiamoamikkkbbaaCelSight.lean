/- Sights: which sort one is of, its way: the contracts of the program's functions. Conditions: the bytes read. -/
import Derived.Test.YtiamoamikkkbbaaInBase
import Derived.Test.YtiamoamikkkbbaaVBk
import Derived.Test.YtiamoamikkkbbaaBytesTo
import Derived.Test.YtiamoamikkkbbaaBytesMark2
import Derived.Test.YtiamoamikkkbbaaBytMsg
namespace Go.Proofs.Ytiamoamikkkbbaa
open Go.ChangeShapes Go.WideShapes Go.ChangeAt Go.RowKit Go.Joins Go.Deep
set_option linter.unusedVariables false
set_option linter.unusedSimpArgs false
set_option maxRecDepth 4000

set_option maxHeartbeats 2000000 in
theorem sawBy_any (k y : Int) (a : Option Addr) (n c : Nat) (w : World) (h : inB k 1 4 = true) :
    Calls Try.prog 51 #[.agg #[.int .i64 k, .int .i64 y, .slice a n c]] w fun e w' => e = .returned (.iface 95 (.agg #[.int .i64 k, .slice a n c, .int .i64 y])) ∧ Below w.heap.size w w' := by
  go_enter Try.func51, Try.ntmps51
  go_wp2_with (go_at_call 32; refine (within_any _ _ _ _).mono ?_; rintro e w' ⟨rfl, rfl⟩)
  go_ret
  exact ⟨rfl, by go_grown⟩
theorem sawAl_any (k : Int) (a : Option Addr) (n c : Nat) (w : World) (h0 : inB k 1 4 = false) (h : inB k 5 10 = true) :
    Calls Try.prog 51 #[.agg #[.int .i64 k, .int .i64 0, .slice a n c]] w fun e w' => e = .returned (.iface 93 (.agg #[.int .i64 k, .slice a n c])) ∧ Below w.heap.size w w' := by
  go_enter Try.func51, Try.ntmps51
  go_wp2_with (go_at_call 32; refine (within_any _ _ _ _).mono ?_; rintro e w' ⟨rfl, rfl⟩)
  go_ret
  exact ⟨rfl, by go_grown⟩
theorem sawNo_any (k y : Int) (a : Option Addr) (n c : Nat) (w : World) (h0 : inB k 1 4 = false) (h : inB k 5 10 = false ∨ ¬ y = 0) :
    Calls Try.prog 51 #[.agg #[.int .i64 k, .int .i64 y, .slice a n c]] w fun e w' => e = .returned .nilIface ∧ Below w.heap.size w w' := by
  cases h1 : inB k 5 10
  · clear h
    go_enter Try.func51, Try.ntmps51
    go_wp2_with (go_at_call 32; refine (within_any _ _ _ _).mono ?_; rintro e w' ⟨rfl, rfl⟩)
    go_ret
    exact ⟨rfl, by go_grown⟩
  · have hy : ¬ y = 0 := by rcases h with h | h; (rw [h1] at h; cases h); exact h
    have g : (y == 0) = false := by simpa using hy
    clear h
    go_enter Try.func51, Try.ntmps51
    go_wp2_with (go_at_call 32; refine (within_any _ _ _ _).mono ?_; rintro e w' ⟨rfl, rfl⟩)
    go_ret
    exact ⟨rfl, by go_grown⟩
theorem asBy (k y : Int) (a : Option Addr) (n c : Nat) (W : World) : (Instr.typeAssert (.iface 95 (.agg #[.int .i64 k, .slice a n c, .int .i64 y])) 70 95 true).run Try.prog W = .ok (.tuple #[.agg #[.int .i64 k, .slice a n c, .int .i64 y], .bool true]) W := by kernel_rfl
theorem asAl (k : Int) (a : Option Addr) (n c : Nat) (W : World) : (Instr.typeAssert (.iface 93 (.agg #[.int .i64 k, .slice a n c])) 70 95 true).run Try.prog W = .ok (.tuple #[.agg #[.int .i64 0, .slice none 0 0, .int .i64 0], .bool false]) W := by kernel_rfl
theorem celWayBy_any (k y : Int) (a : Option Addr) (n c : Nat) (w : World) :
    Calls Try.prog 52 #[.iface 95 (.agg #[.int .i64 k, .slice a n c, .int .i64 y])] w fun e w' => e = .returned (.tuple #[.int .i64 y, .bool true]) ∧ Below w.heap.size w w' := by
  have h := asBy k y a n c w
  go_enter Try.func52, Try.ntmps52
  go_wp2
  refine bodyPost_ret (v := .tuple #[.int .i64 y, .bool true]) (by simp [results, Try.results52, go_sem]) rfl ?_
  exact ⟨rfl, by go_grown⟩
theorem celWayAl_any (k : Int) (a : Option Addr) (n c : Nat) (w : World) :
    Calls Try.prog 52 #[.iface 93 (.agg #[.int .i64 k, .slice a n c])] w fun e w' => e = .returned (.tuple #[.int .i64 0, .bool false]) ∧ Below w.heap.size w w' := by
  have h := asAl k a n c w
  go_enter Try.func52, Try.ntmps52
  go_wp2
  refine bodyPost_ret (v := .tuple #[.int .i64 0, .bool false]) (by simp [results, Try.results52, go_sem]) rfl ?_
  exact ⟨rfl, by go_grown⟩
end Go.Proofs.Ytiamoamikkkbbaa
