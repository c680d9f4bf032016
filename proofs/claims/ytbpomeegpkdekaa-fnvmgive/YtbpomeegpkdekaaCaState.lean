/- Whether two machines, two cells are the same. Conditions: the lists read alike. -/
import Derived.Test.YtbpomeegpkdekaaInBase
import Derived.Test.YtbpomeegpkdekaaIntRow
import Derived.Test.YtbpomeegpkdekaaChg
import Derived.Test.YtbpomeegpkdekaaVBk
namespace Go.Proofs.Ytbpomeegpkdekaa
open Go.ChangeShapes Go.WideShapes Go.ChangeAt Go.RowKit Go.Joins Go.Deep
set_option linter.unusedVariables false
set_option linter.unusedSimpArgs false
set_option maxRecDepth 4000
set_option maxHeartbeats 2000000 in
theorem caInts_same (v u : Value) (n : Nat) (xs : List Int) (w : World) (hv : RdI 1 w v n xs) (hu : RdI 1 w u n xs) :
    Calls Try.prog 58 #[v, u] w fun e w' => e = .returned (.bool true) ∧ Below w.heap.size w w' := by
  obtain ⟨h1, h2, a, cap, rfl, h3⟩ := hv
  obtain ⟨_, _, a', cap', rfl, h3'⟩ := hu
  go_enter Try.func58, Try.ntmps58
  go_wp2_with fail
  go_loopw [5] (fun i wr => ∃ k : Nat, k ≤ n ∧ i = .int .i64 k ∧ Below w.heap.size w wr) (fun i _ => n - (intOf i).toNat)
  case atStart => exact ⟨0, Nat.zero_le _, rfl, Below.refl _ _⟩
  case round =>
    obtain ⟨k, hk, rfl, hB⟩ := hrel
    by_cases hlt : k < n
    · rcases h3 with rfl | ⟨b, off, rfl, hc⟩
      · omega
      rcases h3' with rfl | ⟨b', off', rfl, hc'⟩
      · omega
      have hcx := cell_keep hB (hc k (by omega))
      have hcy := cell_keep hB (hc' k (by omega))
      have hk0 : (0 : Int) ≤ (k : Int) := by omega
      have hk1 : (k : Int) < (n : Int) := by omega
      have hq : IntKind.i64.wrap ((k : Int) + 1) = ((k + 1 : Nat) : Int) := by rw [IntKind.wrap_i64]; omega
      have HBd := hid hB.drew
      generalize xs.getD k 0 = z at hcx hcy
      clear hc hc' hB
      go_wp2
      go_region
      all_goals
        go_wp2
        go_roundw
        case rel => exact ⟨k + 1, by omega, rfl, HBd.out⟩
        case measure => simp [intOf]; omega
    · obtain rfl : k = n := by omega
      have HB := hid hB
      clear h3 h3' hB
      go_wp2
      go_ret
      exact ⟨rfl, HB.out⟩
set_option maxHeartbeats 2000000 in
theorem caState_same (pc ht : Int) (r m r' m' : Value) (nr nm : Nat) (xs ys : List Int) (w : World) (hr : RdI 1 w r nr xs) (hm : RdI 1 w m nm ys) (hr' : RdI 1 w r' nr xs) (hm' : RdI 1 w m' nm ys) :
    Calls Try.prog 15 #[.agg #[.int .i64 pc, r, m, .int .i64 ht], .agg #[.int .i64 pc, r', m', .int .i64 ht]] w fun e w' => e = .returned (.bool true) ∧ Below w.heap.size w w' := by
  have R := hid hr
  have M := hid hm
  have R' := hid hr'
  have M' := hid hm'
  obtain ⟨_, _, a1, c1, rfl, _⟩ := hr
  obtain ⟨_, _, a2, c2, rfl, _⟩ := hm
  obtain ⟨_, _, a3, c3, rfl, _⟩ := hr'
  obtain ⟨_, _, a4, c4, rfl, _⟩ := hm'
  have P := hid (((Below.refl w.heap.size w).alloc (Nat.le_refl _) (.cells #[.int .i64 pc, .slice a1 nr c1, .slice a2 nm c2, .int .i64 ht] 25)).alloc (by simp) (.cells #[.int .i64 pc, .slice a3 nr c3, .slice a4 nm c4, .int .i64 ht] 25))
  have V1 := hid ((vb_new w [.int .i64 pc, .slice a1 nr c1, .slice a2 nm c2, .int .i64 ht] 25).keep (below_alloc1 _ (.cells #[.int .i64 pc, .slice a3 nr c3, .slice a4 nm c4, .int .i64 ht] 25)))
  have V2 := hid (vb_new (w.alloc (.cells #[.int .i64 pc, .slice a1 nr c1, .slice a2 nm c2, .int .i64 ht] 25)) [.int .i64 pc, .slice a3 nr c3, .slice a4 nm c4, .int .i64 ht] 25)
  go_enter Try.func15, Try.ntmps15
  go_wp2_with fail
  refine (caInts_same _ _ nr xs _ (R.out.keep P.out) (R'.out.keep P.out)).mono ?_
  rintro e w1 ⟨rfl, b1⟩
  have P := hid (P.out.trans (b1.mono P.out.size))
  have V1 := hid (V1.out.keep b1)
  have V2 := hid (V2.out.keep b1)
  clear b1
  obtain ⟨x0, x1, x2, x3⟩ := vb4 V1.out
  obtain ⟨y0, y1, y2, y3⟩ := vb4 V2.out
  simp only [World.size_alloc] at y0 y1 y2 y3
  go_wp2_with fail
  refine (caInts_same _ _ nm ys _ (M.out.keep P.out) (M'.out.keep P.out)).mono ?_
  rintro e w2 ⟨rfl, b2⟩
  have P := hid (P.out.trans (b2.mono P.out.size))
  clear b2 x0 x1 x2 x3 y0 y1 y2 y3 V1 V2
  go_wp2
  go_ret
  exact ⟨rfl, P.out⟩
end Go.Proofs.Ytbpomeegpkdekaa
