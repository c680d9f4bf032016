/- The contract of the laws' markGrdRuleS: it writes over rules of one's own alone. Conditions: the rules are one's own, and few. -/
import Derived.Test.YtdlggbeefbhjoaaGrdRuleS
namespace Go.Proofs.Ytdlggbeefbhjoaa
open Go.ChangeShapes Go.WideShapes Go.ChangeAt Go.RowKit Go.Joins Go.Deep
set_option linter.unusedVariables false
set_option maxRecDepth 4000
set_option maxHeartbeats 4000000 in
theorem markRules_any (v : Value) (n : Nat) (zs : List Int) (k : Int) (B : Nat) (w : World) (hv : OwnI 46 7 w B v n zs) (hn : n ≤ 2000000) (k0 : 0 ≤ k) (k1 : k ≤ 1000000000) :
    Calls Try.prog 52 #[v, .int .i64 k] w fun e w' => e = .returned (.int .i64 (k + n * 7)) ∧ w.grownBy w' v.ownBlock ∧ w'.heap.size = w.heap.size := by
  have hl := hv.len
  have HV := hid hv
  obtain ⟨a, cap, rfl, h3⟩ := ownI_form hv
  clear hv
  go_enter Try.func52, Try.ntmps52
  go_wp2_with fail
  go_loopw [1, 5] (fun t i wr => ∃ j : Nat, j ≤ n ∧ i = .int .i64 j ∧ t = .int .i64 (k + j * 7) ∧ (∃ ys, OwnI 46 7 wr B (.slice a n cap) n ys) ∧ w.grownBy wr (Value.slice a n cap).ownBlock ∧ wr.heap.size = w.heap.size) (fun _ i _ => n - (intOf i).toNat)
  case atStart => exact ⟨0, Nat.zero_le _, rfl, by simp, ⟨zs, HV.out⟩, ⟨rfl, rfl, rfl, Nat.le_refl _, fun _ _ _ => rfl⟩, rfl⟩
  case round =>
    obtain ⟨j, hj, rfl, rfl, ⟨ys, ho⟩, hg, hz⟩ := hrel
    by_cases hlt : j < n
    · rcases h3 with rfl | ⟨g, rfl⟩
      · omega
      have hly := ho.len
      have hjj : j * 7 + 7 ≤ n * 7 := by omega
      have t0 : (0 : Int) ≤ (j : Int) := by omega
      have t1 : (j : Int) < (n : Int) := by omega
      obtain ⟨c0, f0, _, _⟩ := ownI_cell ho (i := j * 7) (by omega)
      generalize ys.getD (j * 7) 0 = o0 at c0
      obtain ⟨c1, f1, _, _⟩ := ownI_cell ho (i := j * 7 + 1) (by omega)
      generalize ys.getD (j * 7 + 1) 0 = o1 at c1
      obtain ⟨c2, f2, _, _⟩ := ownI_cell ho (i := j * 7 + 2) (by omega)
      generalize ys.getD (j * 7 + 2) 0 = o2 at c2
      obtain ⟨c3, f3, _, _⟩ := ownI_cell ho (i := j * 7 + 3) (by omega)
      generalize ys.getD (j * 7 + 3) 0 = o3 at c3
      obtain ⟨c4, f4, _, _⟩ := ownI_cell ho (i := j * 7 + 4) (by omega)
      generalize ys.getD (j * 7 + 4) 0 = o4 at c4
      obtain ⟨c5, f5, _, _⟩ := ownI_cell ho (i := j * 7 + 5) (by omega)
      generalize ys.getD (j * 7 + 5) 0 = o5 at c5
      obtain ⟨c6, f6, _, _⟩ := ownI_cell ho (i := j * 7 + 6) (by omega)
      generalize ys.getD (j * 7 + 6) 0 = o6 at c6
      have OW := hid (fun (y0 y1 y2 y3 y4 y5 y6 : Int) => (ownI_set (ownI_set (ownI_set (ownI_set (ownI_set (ownI_set (ownI_set ho (i := j * 7) (y := y0) (by first | omega | (simp; omega))) (i := j * 7 + 1) (y := y1) (by first | omega | (simp; omega))) (i := j * 7 + 2) (y := y2) (by first | omega | (simp; omega))) (i := j * 7 + 3) (y := y3) (by first | omega | (simp; omega))) (i := j * 7 + 4) (y := y4) (by first | omega | (simp; omega))) (i := j * 7 + 5) (y := y5) (by first | omega | (simp; omega))) (i := j * 7 + 6) (y := y6) (by first | omega | (simp; omega))))
      have GW := hid (fun (y0 y1 y2 y3 y4 y5 y6 : Int) => (grownI_set (o := j * 7 + 6) (v := .int .i64 y6) (grownI_set (o := j * 7 + 5) (v := .int .i64 y5) (grownI_set (o := j * 7 + 4) (v := .int .i64 y4) (grownI_set (o := j * 7 + 3) (v := .int .i64 y3) (grownI_set (o := j * 7 + 2) (v := .int .i64 y2) (grownI_set (o := j * 7 + 1) (v := .int .i64 y1) (grownI_set (o := j * 7) (v := .int .i64 y0) hg))))))))
      clear ho hg hly hjj
      go_wp2
      go_roundw
      case rel => exact ⟨j + 1, by omega, by go_num, by go_num, ⟨_, OW.out _ _ _ _ _ _ _⟩, GW.out _ _ _ _ _ _ _, by simpa [World.setCell] using hz⟩
      case measure => simp [intOf]; omega
    · obtain rfl : j = n := by omega
      have HG := hid hg
      clear h3 ho hg
      go_wp2
      go_ret
      exact ⟨rfl, HG.out, hz⟩
end Go.Proofs.Ytdlggbeefbhjoaa
