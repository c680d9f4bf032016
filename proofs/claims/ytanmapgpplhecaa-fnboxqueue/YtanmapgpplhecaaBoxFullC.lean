/- Whether two boxes are the same. Conditions: the lists read as lists of bytes. -/
import Derived.Test.YtanmapgpplhecaaDrawBox
namespace Go.Proofs.Ytanmapgpplhecaa
open Go.ChangeShapes Go.WideShapes Go.ChangeAt Go.RowKit Go.Joins Go.Deep
set_option linter.unusedVariables false
set_option linter.unusedSimpArgs false
set_option maxRecDepth 4000
theorem caBytes_same (v u : Value) (xs : List Int) (w : World) (hv : Rd w v xs) (hu : Rd w u xs) :
    Calls Try.prog 21 #[v, u] w fun e w' => e = .returned (.bool true) ∧ w' = w := by
  refine (caBytes_any v u xs xs w hv hu).mono ?_
  rintro e w' ⟨rfl, rfl⟩
  exact ⟨by simp, rfl⟩
set_option maxHeartbeats 4000000 in
theorem caItems_same (v u : Value) (yss : List (List Int)) (w : World) (hv : RdS w v yss) (hu : RdS w u yss) :
    Calls Try.prog 22 #[v, u] w fun e w' => e = .returned (.bool true) ∧ Below w.heap.size w w' := by
  obtain ⟨h2, a, cap, rfl, h3⟩ := hv
  obtain ⟨_, a', cap', rfl, h3'⟩ := hu
  go_enter Try.func22, Try.ntmps22
  go_wp2_with fail
  go_loopw [5] (fun i wr => ∃ k : Nat, k ≤ yss.length ∧ i = .int .i64 k ∧ Below w.heap.size w wr) (fun i _ => yss.length - (intOf i).toNat)
  case atStart => exact ⟨0, Nat.zero_le _, rfl, Below.refl _ _⟩
  case round =>
    obtain ⟨k, hk, rfl, hB⟩ := hrel
    by_cases hlt : k < yss.length
    · rcases h3 with rfl | ⟨b, off, rfl, hc⟩
      · simp at hlt
      rcases h3' with rfl | ⟨b', off', rfl, hc'⟩
      · simp at hlt
      obtain ⟨u, hu, hr⟩ := hc k hlt
      obtain ⟨u', hu', hr'⟩ := hc' k hlt
      have hcx := cell_keep hB hu
      have hcy := cell_keep hB hu'
      have RX := hid (hr.keep hB.drew)
      have RY := hid (hr'.keep hB.drew)
      generalize yss.getD k [] = ys at RX RY hr hr'
      obtain ⟨_, _, ua, uc, rfl, _⟩ := hr
      obtain ⟨_, _, ua', uc', rfl, _⟩ := hr'
      have hk0 : (0 : Int) ≤ (k : Int) := by omega
      have hk1 : (k : Int) < (yss.length : Int) := by omega
      have HBd := hid hB.drew
      clear hc hc' hB hu hu'
      go_wp2_with fail
      go_region_with ((go_at_call 21; refine (caBytes_same _ _ ys _ RX.out RY.out).mono ?_; rintro e w2 ⟨rfl, rfl⟩))
      all_goals
        go_wp2
        go_roundw
        case rel => exact ⟨k + 1, by omega, by go_num, HBd.out⟩
        case measure => simp [intOf]; omega
    · obtain rfl : k = yss.length := by omega
      have HB := hid hB
      clear h3 h3' hB
      go_wp2
      go_ret
      exact ⟨rfl, HB.out⟩
set_option maxHeartbeats 1000000 in
theorem caBox_same (d : Int) (v u : Value) (yss : List (List Int)) (w : World) (hv : RdS w v yss) (hu : RdS w u yss) :
    Calls Try.prog 17 #[.agg #[.int .i64 d, v], .agg #[.int .i64 d, u]] w fun e w' => e = .returned (.bool true) ∧ Below w.heap.size w w' := by
  have R := hid hv
  have U := hid hu
  obtain ⟨_, a, cap, rfl, _⟩ := hv
  obtain ⟨_, a', cap', rfl, _⟩ := hu
  have P := hid (((Below.refl w.heap.size w).alloc (Nat.le_refl _) (.cells #[.int .i64 d, .slice a yss.length cap] 25)).alloc (by simp) (.cells #[.int .i64 d, .slice a' yss.length cap'] 25))
  go_enter Try.func17, Try.ntmps17
  go_wp2_with fail
  refine (caItems_same _ _ yss _ (R.out.keep P.out) (U.out.keep P.out)).mono ?_
  rintro e w1 ⟨rfl, b1⟩
  have P1 := hid (P.out.trans (b1.mono P.out.size))
  clear b1
  go_wp2
  go_ret
  exact ⟨rfl, P1.out⟩
end Go.Proofs.Ytanmapgpplhecaa
