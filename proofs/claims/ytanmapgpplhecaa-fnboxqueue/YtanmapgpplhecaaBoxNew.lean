/- BoxNew answers at every depth as the specification does; its answer owns its memory (it has none), behind another call too. No conditions. -/
import Derived.Test.YtanmapgpplhecaaInBase
namespace Go.Proofs.Ytanmapgpplhecaa
open Go.ChangeShapes Go.WideShapes Go.ChangeAt Go.RowKit Go.Joins
set_option linter.unusedVariables false
set_option maxRecDepth 4000

/-- an empty box of a depth -/
def boxE (d : Int) : Value := .agg #[.int .i64 d, .slice none 0 0]
/-- the depth of a new box -/
def newD (d : Int) : Int := if inB d 1 4 then d else 0

theorem boxNew_any (d : Int) (w : World) :
    Calls Try.prog 16 #[.int .i64 d] w fun e w' => e = .returned (.agg #[.int .i64 (newD d), .slice none 0 0]) ∧ Below w.heap.size w w' := by
  cases h : inB d 1 4
  · have H := hid (show newD d = 0 by simp [newD, h])
    go_enter Try.func16, Try.ntmps16
    go_wp2_with (go_at_call 53; refine (within_any _ _ _ _).mono ?_; rintro e w' ⟨rfl, rfl⟩)
    go_returns
    exact ⟨by rw [H.out], by go_grown⟩
  · have H := hid (show newD d = d by simp [newD, h])
    go_enter Try.func16, Try.ntmps16
    go_wp2_with (go_at_call 53; refine (within_any _ _ _ _).mono ?_; rintro e w' ⟨rfl, rfl⟩)
    go_returns
    exact ⟨by rw [H.out], by go_grown⟩
theorem specBoxNew_any (d : Int) (w : World) :
    Calls Try.prog 18 #[.int .i64 d] w fun e w' => e = .returned (.agg #[.int .i64 (newD d), .slice none 0 0]) ∧ Below w.heap.size w w' := by
  cases h : inB d 1 4
  · have H := hid (show newD d = 0 by simp [newD, h])
    go_enter Try.func18, Try.ntmps18
    go_wp2_with (go_at_call 54; refine (l1In_any _ _ _ _).mono ?_; rintro e w' ⟨rfl, rfl⟩)
    go_returns
    exact ⟨by rw [H.out], by go_grown⟩
  · have H := hid (show newD d = d by simp [newD, h])
    go_enter Try.func18, Try.ntmps18
    go_wp2_with (go_at_call 54; refine (l1In_any _ _ _ _).mono ?_; rintro e w' ⟨rfl, rfl⟩)
    go_returns
    exact ⟨by rw [H.out], by go_grown⟩

set_option maxHeartbeats 1000000 in
theorem eqSS_nil (w : World) :
    Calls Try.prog 74 #[.slice none 0 0, .slice none 0 0] w fun e w' => e = .returned (.bool true) ∧ w' = w := by
  go_enter Try.func74, Try.ntmps74
  go_wp2
  go_loop [5] (fun i => i = .int .i64 0) (fun i => 0)
  case atStart => rfl
  case round =>
    subst hrel
    go_wp2
    go_ret
    exact ⟨rfl, rfl⟩
set_option maxHeartbeats 1000000 in
theorem markSS_nil (k : Int) (w : World) :
    Calls Try.prog 75 #[.slice none 0 0, .int .i64 k] w fun e w' => e = .returned (.int .i64 k) ∧ w' = w := by
  go_enter Try.func75, Try.ntmps75
  go_wp2
  go_loop [1, 5] (fun t i => t = .int .i64 k ∧ i = .int .i64 0) (fun t i => 0)
  case atStart => exact ⟨rfl, rfl⟩
  case round =>
    obtain ⟨rfl, rfl⟩ := hrel
    go_wp2
    go_ret
    exact ⟨rfl, rfl⟩
set_option maxHeartbeats 1000000 in
theorem heldSS_nil (k : Int) (w : World) :
    Calls Try.prog 76 #[.slice none 0 0, .int .i64 k] w fun e w' => e = .returned (.int .i64 k) ∧ w' = w := by
  go_enter Try.func76, Try.ntmps76
  go_wp2
  go_loop [1, 5] (fun t i => t = .int .i64 k ∧ i = .int .i64 0) (fun t i => 0)
  case atStart => exact ⟨rfl, rfl⟩
  case round =>
    obtain ⟨rfl, rfl⟩ := hrel
    go_wp2
    go_ret
    exact ⟨rfl, rfl⟩
theorem eqBox_nil (d : Int) (w : World) :
    Calls Try.prog 37 #[.agg #[.int .i64 d, .slice none 0 0], .agg #[.int .i64 d, .slice none 0 0]] w fun e w' => e = .returned (.bool true) ∧ Below w.heap.size w w' := by
  go_enter Try.func37, Try.ntmps37
  go_wp2_with (go_at_call 74; refine (eqSS_nil _).mono ?_; rintro e w' ⟨rfl, rfl⟩)
  go_ret
  exact ⟨rfl, by go_grown⟩
theorem markBox_nil (d k : Int) (w : World) :
    Calls Try.prog 38 #[.agg #[.int .i64 d, .slice none 0 0], .int .i64 k] w fun e w' => e = .returned (.int .i64 k) ∧ Below w.heap.size w w' := by
  go_enter Try.func38, Try.ntmps38
  go_wp2_with (go_at_call 75; refine (markSS_nil _ _).mono ?_; rintro e w' ⟨rfl, rfl⟩)
  go_ret
  exact ⟨rfl, by go_grown⟩
theorem heldBox_nil (d k : Int) (w : World) (hk : 0 ≤ k) :
    Calls Try.prog 39 #[.agg #[.int .i64 d, .slice none 0 0], .int .i64 k] w fun e w' => e = .returned (.int .i64 k) ∧ Below w.heap.size w w' := by
  have hd : decide (k < 0) = false := by simp; omega
  go_enter Try.func39, Try.ntmps39
  go_wp2_with (go_at_call 76; refine (heldSS_nil _ _).mono ?_; rintro e w' ⟨rfl, rfl⟩)
  go_ret
  exact ⟨rfl, by go_grown⟩
end Go.Proofs.Ytanmapgpplhecaa
namespace Go.Proofs.Ytanmapgpplhecaa.fnExactBoxNew
open Go.ChangeShapes Go.WideShapes Go.ChangeAt Go.RowKit Go.Joins
set_option linter.unusedVariables false
set_option maxRecDepth 4000
set_option maxHeartbeats 1000000 in
theorem walk (d : Int) (w : World) (x0 : (Lit.int .i64 d).wf = true) :
    Calls Try.prog 8 #[.int .i64 d] w fun e w' => e = .returned (.bool true) ∧ Below w.heap.size w w' := by
  clear x0
  go_enter Try.func8, Try.ntmps8
  go_wp2_with fail
  refine (specBoxNew_any d _).mono ?_
  rintro e w1 ⟨rfl, b1⟩
  have B := hid b1
  have c10 : (w1.alloc (.cells #[.int .i64 (newD d), .slice none 0 0] 25)).cell? ⟨w1.heap.size, 0, none⟩ = some (.int .i64 (newD d)) := by go_simp
  have c11 : (w1.alloc (.cells #[.int .i64 (newD d), .slice none 0 0] 25)).cell? ⟨w1.heap.size, 1, none⟩ = some (.slice none 0 0) := by go_simp
  have B := hid (B.out.alloc B.out.size (.cells #[.int .i64 (newD d), .slice none 0 0] 25))
  clear b1
  go_wp2_with fail
  refine (boxNew_any d _).mono ?_
  rintro e w2 ⟨rfl, b2⟩
  have c10 := cell_keep (below_alloc1 w2 (.cells #[.int .i64 (newD d), .slice none 0 0] 25)) (cell_keep b2 c10)
  have c11 := cell_keep (below_alloc1 w2 (.cells #[.int .i64 (newD d), .slice none 0 0] 25)) (cell_keep b2 c11)
  have c20 : (w2.alloc (.cells #[.int .i64 (newD d), .slice none 0 0] 25)).cell? ⟨w2.heap.size, 0, none⟩ = some (.int .i64 (newD d)) := by go_simp
  have c21 : (w2.alloc (.cells #[.int .i64 (newD d), .slice none 0 0] 25)).cell? ⟨w2.heap.size, 1, none⟩ = some (.slice none 0 0) := by go_simp
  have B := hid (B.out.trans (b2.mono B.out.size))
  have B := hid (B.out.alloc B.out.size (.cells #[.int .i64 (newD d), .slice none 0 0] 25))
  clear b2
  go_wp2_with fail
  refine (eqBox_nil _ _).mono ?_
  rintro e w3 ⟨rfl, b3⟩
  have c10 := cell_keep b3 c10
  have c11 := cell_keep b3 c11
  have c20 := cell_keep b3 c20
  have c21 := cell_keep b3 c21
  have B := hid (B.out.trans (b3.mono B.out.size))
  clear b3
  go_wp2_with fail
  refine (markBox_nil _ _ _).mono ?_
  rintro e w4 ⟨rfl, b4⟩
  have c10 := cell_keep b4 c10
  have c11 := cell_keep b4 c11
  have c20 := cell_keep b4 c20
  have c21 := cell_keep b4 c21
  have B := hid (B.out.trans (b4.mono B.out.size))
  clear b4
  go_wp2_with fail
  refine (heldBox_nil _ _ _ (by omega)).mono ?_
  rintro e w5 ⟨rfl, b5⟩
  have c10 := cell_keep b5 c10
  have c11 := cell_keep b5 c11
  have c20 := cell_keep b5 c20
  have c21 := cell_keep b5 c21
  have B := hid (B.out.trans (b5.mono B.out.size))
  clear b5
  go_wp2_with fail
  refine (boxNew_any d _).mono ?_
  rintro e w6 ⟨rfl, b6⟩
  have c10 := cell_keep (below_alloc1 w6 (.cells #[.int .i64 (newD d), .slice none 0 0] 25)) (cell_keep b6 c10)
  have c11 := cell_keep (below_alloc1 w6 (.cells #[.int .i64 (newD d), .slice none 0 0] 25)) (cell_keep b6 c11)
  have c20 := cell_keep (below_alloc1 w6 (.cells #[.int .i64 (newD d), .slice none 0 0] 25)) (cell_keep b6 c20)
  have c21 := cell_keep (below_alloc1 w6 (.cells #[.int .i64 (newD d), .slice none 0 0] 25)) (cell_keep b6 c21)
  have c60 : (w6.alloc (.cells #[.int .i64 (newD d), .slice none 0 0] 25)).cell? ⟨w6.heap.size, 0, none⟩ = some (.int .i64 (newD d)) := by go_simp
  have c61 : (w6.alloc (.cells #[.int .i64 (newD d), .slice none 0 0] 25)).cell? ⟨w6.heap.size, 1, none⟩ = some (.slice none 0 0) := by go_simp
  have B := hid (B.out.trans (b6.mono B.out.size))
  have B := hid (B.out.alloc B.out.size (.cells #[.int .i64 (newD d), .slice none 0 0] 25))
  clear b6
  go_wp2_with fail
  refine (eqBox_nil _ _).mono ?_
  rintro e w7 ⟨rfl, b7⟩
  have c10 := cell_keep b7 c10
  have c11 := cell_keep b7 c11
  have c20 := cell_keep b7 c20
  have c21 := cell_keep b7 c21
  have B := hid (B.out.trans (b7.mono B.out.size))
  clear b7
  go_wp2_with fail
  refine (heldBox_nil _ _ _ (by omega)).mono ?_
  rintro e w8 ⟨rfl, b8⟩
  have c10 := cell_keep b8 c10
  have c11 := cell_keep b8 c11
  have c20 := cell_keep b8 c20
  have c21 := cell_keep b8 c21
  have B := hid (B.out.trans (b8.mono B.out.size))
  clear b8
  go_wp2
  go_ret
  exact ⟨rfl, B.out⟩
theorem own : ownKnob Try.prog.godebug = none := by kernel_rfl
theorem laidOut : laidOutB Try.prog = true := by kernel_rfl
set_option maxRecDepth 100000 in
theorem lifted (os : Os) (started : os.Started) (H : Type) (enc : TypeId × Value → H) :
    ReturnsInHanded {} Try.checked os 8 .any (Rows.fnExactBoxNewSpec.pre6 enc Try.prog Try.f8 Rows.fnExactBoxNewRow.domain false) (Rows.fnExactBoxNewSpec.post enc Try.prog Try.f8 false true false false) := by
  refine returnsInHanded_of_change (C := Try.checked) own started (by kernel_rfl) Try.func8
    (ChangeSpec.witness6 (enc := enc) (C := Try.checked) false ⟨#[], #[.int .i64 0], []⟩ 8 (by kernel_rfl) (by kernel_rfl) (by kernel_rfl) (by kernel_rfl)) ?_
  intro W base args ds gs before hval0 hW hcnd _
  have hval : ∀ (j : Nat) t v, Try.f8.params[j]? = some t → args[j]? = some v → Value.okWide Try.prog W .any base t v := hval0
  have hW' := hW
  obtain ⟨p, q, hA0, hV, rfl, hfz, hnd⟩ := hW
  have hA : DataW.TrodAll enc Try.prog W 0 (fun _ => true) true Try.f8.params.toList args.toList ds p := hA0
  rw [Try.params8] at hA hval
  obtain ⟨v0, vs0, d0, ds0, p0, q0, hargs, rfl, rfl, h0, r0⟩ := trodAll_cons hA
  obtain ⟨rfl, rfl, rfl⟩ := trodAll_nil r0
  obtain rfl : args = #[v0] := by cases args; simp_all
  obtain ⟨rfl, rfl⟩ := trodVars_none hV
  obtain ⟨a0, rfl, rfl, rfl, w0⟩ := open_int Try.underlying3 (hval 0 3 v0 rfl rfl) h0
  clear hA0 hval0
  refine (walk a0 W w0).mono fun e W' ⟨he, bel⟩ => ?_
  subst he
  exact ⟨_, rfl, _, _, _, [], _, [], hW', trodAll_mk1 (shut_bool Try.underlying4 _), (trodAll_cons_mk (shut_int Try.underlying3 w0) trodAll_mk0), rfl, bel.frame _, fun h => by cases h⟩

theorem over : Rows.fnExactBoxNewRow.holds Try.pinned (OpenSpec.ofChange Rows.fnExactBoxNewSpec) :=
  OpenClaim.holds_of_wide 8 Try.f8 rfl rfl rfl rfl rfl rfl rfl ⟨rfl, rfl, rfl, rfl, rfl⟩ rfl rfl rfl rfl rfl (by kernel_rfl) Try.func8 (by kernel_rfl)
    (of_decide_eq_true (by kernel_rfl)) (by unfold Func.isWrapper; first | (rw [if_pos (by decide +kernel)]; kernel_rfl) | (rw [if_neg (by decide +kernel)]; exact ⟨rfl, rfl⟩))
    (fun os started H enc _ => lifted os started H enc)

end Go.Proofs.Ytanmapgpplhecaa.fnExactBoxNew
namespace Go.Proofs.Ytanmapgpplhecaa
theorem fnExactBoxNew_holds : Rows.FnExactBoxNewSaid := fnExactBoxNew.over
#print axioms fnExactBoxNew_holds
end Go.Proofs.Ytanmapgpplhecaa
