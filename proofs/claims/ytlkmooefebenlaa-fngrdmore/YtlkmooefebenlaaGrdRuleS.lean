/- Lists of GrdRule: the contracts of the laws' toGrdRuleS, eqGrdRule, eqGrdRuleS and szGrdRuleS. Conditions: the arguments read as such lists. -/
import Derived.Test.YtlkmooefebenlaaRows
import Derived.Test.YtlkmooefebenlaaIntRow
import Derived.Deep.RegionWith
import Derived.Deep.QuietTactic
import Derived.BigQuiet
namespace Go.Proofs.Ytlkmooefebenlaa
open Go.ChangeShapes Go.WideShapes Go.ChangeAt Go.RowKit Go.Joins Go.Deep
set_option linter.unusedVariables false
set_option maxRecDepth 4000

theorem run_make_k {P : Program} (t e : TypeId) (z : Value) (k bytes : Nat) (ht : P.underlying t = some (.slice e)) (hinfo : (P.info? e).map (fun i => (i.zero, i.size, i.bytes)) = some (some z, k, bytes)) (n : Nat) (hb : bytes * n ≤ 281474976710656) (h63 : n ≤ 9223372036854775807) (w : World) :
    (Instr.makeSlice t (.int .i64 (n : Int)) (.int .i64 (n : Int))).run P w = .ok (.slice (some ⟨w.heap.size, 0, none⟩) n n) (w.alloc (.cells (madeCells z.cells (n * k)) e)) := by
  obtain ⟨i, hi, hzz⟩ := Option.map_eq_some_iff.1 hinfo
  simp only [Prod.mk.injEq] at hzz
  obtain ⟨hz, hs, hbb⟩ := hzz
  subst hs hbb
  have hb' : (i.bytes : Int) * (n : Int) ≤ 281474976710656 := by
    have h : ((i.bytes * n : Nat) : Int) ≤ 281474976710656 := by omega
    rwa [Int.natCast_mul] at h
  have hr := run_make (P := P) w t e i z ht hi hz .i64 .i64 n n (by omega) (Int.le_refl _) hb' (by omega)
  simp only [Int.toNat_natCast] at hr
  exact hr
theorem infoGrdRule : (Try.prog.info? 46).map (fun i => (i.zero, i.size, i.bytes)) = some (some (.agg #[.int .i64 0, .int .i64 0, .int .i64 0, .int .i64 0, .int .i64 0, .int .i64 0, .int .i64 0]), 7, 56) := by kernel_rfl
theorem noughtsGrdRule : ∀ i, i < (#[.int .i64 0, .int .i64 0, .int .i64 0, .int .i64 0, .int .i64 0, .int .i64 0, .int .i64 0] : Array Value).size → (#[.int .i64 0, .int .i64 0, .int .i64 0, .int .i64 0, .int .i64 0, .int .i64 0, .int .i64 0] : Array Value)[i]? = some (.int .i64 0) := by
  intro i hi
  have hi' : i = 0 ∨ i = 1 ∨ i = 2 ∨ i = 3 ∨ i = 4 ∨ i = 5 ∨ i = 6 := by simp at hi; omega
  rcases hi' with rfl | rfl | rfl | rfl | rfl | rfl | rfl <;> rfl
theorem madeGrdRule (w : World) (n : Nat) (hn : n ≤ 2000000) : OwnI 46 7 (w.alloc (.cells (madeCells #[.int .i64 0, .int .i64 0, .int .i64 0, .int .i64 0, .int .i64 0, .int .i64 0, .int .i64 0] (n * 7)) 46)) w.heap.size (.slice (some ⟨w.heap.size, 0, none⟩) n n) n (List.replicate (n * 7) 0) := by
  have h := World.ownsRow_lit (size := 7) w (madeCells #[.int .i64 0, .int .i64 0, .int .i64 0, .int .i64 0, .int .i64 0, .int .i64 0, .int .i64 0] (n * 7)) (e := 46) (base := w.heap.size) n (Nat.le_refl _) (by unfold maxLen; omega) (by simp [size_madeCells])
  rw [made_noughts _ noughtsGrdRule (by simp)] at h
  exact h

set_option maxHeartbeats 1000000 in
theorem toGrdRuleX_any (mi ma t lo hi z c : Int) (w : World) :
    Calls Try.prog 47 #[.agg #[.int .i64 mi, .int .i64 ma, .int .i64 t, .int .i64 lo, .int .i64 hi, .int .i64 z, .int .i64 c]] w fun x w' => x = .returned (.agg #[.int .i64 mi, .int .i64 ma, .int .i64 t, .int .i64 lo, .int .i64 hi, .int .i64 z, .int .i64 c]) ∧ Below w.heap.size w w' := by
  go_enter Try.func47, Try.ntmps47
  go_wp2
  go_returns
  exact ⟨rfl, by go_grown⟩
set_option maxHeartbeats 1000000 in
theorem eqGrdRule_same (mi ma t lo hi z c : Int) (w : World) :
    Calls Try.prog 79 #[.agg #[.int .i64 mi, .int .i64 ma, .int .i64 t, .int .i64 lo, .int .i64 hi, .int .i64 z, .int .i64 c], .agg #[.int .i64 mi, .int .i64 ma, .int .i64 t, .int .i64 lo, .int .i64 hi, .int .i64 z, .int .i64 c]] w fun x w' => x = .returned (.bool true) ∧ Below w.heap.size w w' := by
  go_enter Try.func79, Try.ntmps79
  go_wp2
  go_ret
  exact ⟨rfl, by go_grown⟩

set_option maxHeartbeats 4000000 in
theorem toGrdRuleS_any (v : Value) (n : Nat) (xs : List Int) (w : World) (hv : RdI 7 w v n xs) :
    Calls Try.prog 49 #[v] w fun e w' => ∃ v', e = .returned v' ∧ OwnI 46 7 w' w.heap.size v' n xs ∧ Below w.heap.size w w' := by
  obtain ⟨h1, h2, a, cap, rfl, h3⟩ := hv
  have hmk := run_make_k (P := Try.prog) 38 46 (.agg #[.int .i64 0, .int .i64 0, .int .i64 0, .int .i64 0, .int .i64 0, .int .i64 0, .int .i64 0]) 7 56 Try.underlying38 infoGrdRule n (by omega) (by omega)
  have HM := hid (madeGrdRule w n h2)
  have e0 : List.replicate (n * 7) (0 : Int) = mixI xs 0 := by simp [mixI, h1]
  rw [e0] at HM
  clear e0
  go_enter Try.func49, Try.ntmps49
  go_wp2_with fail
  go_loopw [4] (fun i wr => ∃ k : Nat, k ≤ n ∧ i = .int .i64 k ∧ OwnI 46 7 wr w.heap.size (.slice (some ⟨w.heap.size, 0, none⟩) n n) n (mixI xs (k * 7)) ∧ Below w.heap.size w wr) (fun i _ => n - (intOf i).toNat)
  case atStart => exact ⟨0, Nat.zero_le _, rfl, by simpa using HM.out, below_alloc1 _ _⟩
  case round =>
    obtain ⟨k, hk, rfl, ho, hB⟩ := hrel
    by_cases hlt : k < n
    · rcases h3 with rfl | ⟨b, off, rfl, hc⟩
      · omega
      have hkk : k * 7 + 7 ≤ n * 7 := by omega
      have r0 := cell_keep hB (hc (k * 7) (by omega))
      have r1 := cell_keep hB (hc (k * 7 + 1) (by omega))
      have r2 := cell_keep hB (hc (k * 7 + 2) (by omega))
      have r3 := cell_keep hB (hc (k * 7 + 3) (by omega))
      have r4 := cell_keep hB (hc (k * 7 + 4) (by omega))
      have r5 := cell_keep hB (hc (k * 7 + 5) (by omega))
      have r6 := cell_keep hB (hc (k * 7 + 6) (by omega))
      have HC := hid hB
      have HO := hid ho
      obtain ⟨y0, hy0⟩ : ∃ y, xs.getD (k * 7) 0 = y := ⟨_, rfl⟩
      rw [hy0] at r0
      have HY0 := hid hy0
      obtain ⟨y1, hy1⟩ : ∃ y, xs.getD (k * 7 + 1) 0 = y := ⟨_, rfl⟩
      rw [hy1] at r1
      have HY1 := hid hy1
      obtain ⟨y2, hy2⟩ : ∃ y, xs.getD (k * 7 + 2) 0 = y := ⟨_, rfl⟩
      rw [hy2] at r2
      have HY2 := hid hy2
      obtain ⟨y3, hy3⟩ : ∃ y, xs.getD (k * 7 + 3) 0 = y := ⟨_, rfl⟩
      rw [hy3] at r3
      have HY3 := hid hy3
      obtain ⟨y4, hy4⟩ : ∃ y, xs.getD (k * 7 + 4) 0 = y := ⟨_, rfl⟩
      rw [hy4] at r4
      have HY4 := hid hy4
      obtain ⟨y5, hy5⟩ : ∃ y, xs.getD (k * 7 + 5) 0 = y := ⟨_, rfl⟩
      rw [hy5] at r5
      have HY5 := hid hy5
      obtain ⟨y6, hy6⟩ : ∃ y, xs.getD (k * 7 + 6) 0 = y := ⟨_, rfl⟩
      rw [hy6] at r6
      have HY6 := hid hy6
      clear hc ho hB HM hy0 hy1 hy2 hy3 hy4 hy5 hy6
      rw [← Nat.add_assoc] at r1; rw [← Nat.add_assoc] at r2; rw [← Nat.add_assoc] at r3; rw [← Nat.add_assoc] at r4; rw [← Nat.add_assoc] at r5; rw [← Nat.add_assoc] at r6
      go_wp2_with fail
      refine (toGrdRuleX_any y0 y1 y2 y3 y4 y5 y6 _).mono ?_
      rintro e w1 ⟨rfl, b1⟩
      have HO1 := hid (HO.out.keep b1)
      have HB1 := hid (HC.out.trans (b1.mono HC.out.size))
      clear b1 HC HO r0 r1 r2 r3 r4 r5 r6
      have hml := mixI_len xs (k * 7) (by omega)
      obtain ⟨c0, f0, _, _⟩ := ownI_cell HO1.out (i := k * 7) (by omega)
      generalize (mixI xs (k * 7)).getD (k * 7) 0 = o0 at c0
      obtain ⟨c1, f1, _, _⟩ := ownI_cell HO1.out (i := k * 7 + 1) (by omega)
      generalize (mixI xs (k * 7)).getD (k * 7 + 1) 0 = o1 at c1
      obtain ⟨c2, f2, _, _⟩ := ownI_cell HO1.out (i := k * 7 + 2) (by omega)
      generalize (mixI xs (k * 7)).getD (k * 7 + 2) 0 = o2 at c2
      obtain ⟨c3, f3, _, _⟩ := ownI_cell HO1.out (i := k * 7 + 3) (by omega)
      generalize (mixI xs (k * 7)).getD (k * 7 + 3) 0 = o3 at c3
      obtain ⟨c4, f4, _, _⟩ := ownI_cell HO1.out (i := k * 7 + 4) (by omega)
      generalize (mixI xs (k * 7)).getD (k * 7 + 4) 0 = o4 at c4
      obtain ⟨c5, f5, _, _⟩ := ownI_cell HO1.out (i := k * 7 + 5) (by omega)
      generalize (mixI xs (k * 7)).getD (k * 7 + 5) 0 = o5 at c5
      obtain ⟨c6, f6, _, _⟩ := ownI_cell HO1.out (i := k * 7 + 6) (by omega)
      generalize (mixI xs (k * 7)).getD (k * 7 + 6) 0 = o6 at c6
      have OW := hid (ownI_set (ownI_set (ownI_set (ownI_set (ownI_set (ownI_set (ownI_set HO1.out (i := k * 7) (y := y0) (by first | omega | (simp; omega))) (i := k * 7 + 1) (y := y1) (by first | omega | (simp; omega))) (i := k * 7 + 2) (y := y2) (by first | omega | (simp; omega))) (i := k * 7 + 3) (y := y3) (by first | omega | (simp; omega))) (i := k * 7 + 4) (y := y4) (by first | omega | (simp; omega))) (i := k * 7 + 5) (y := y5) (by first | omega | (simp; omega))) (i := k * 7 + 6) (y := y6) (by first | omega | (simp; omega)))
      rw [← HY0.out, mixI_set xs (k * 7) (by omega), ← HY1.out, mixI_set xs (k * 7 + 1) (by omega), ← HY2.out, mixI_set xs (k * 7 + 2) (by omega), ← HY3.out, mixI_set xs (k * 7 + 3) (by omega), ← HY4.out, mixI_set xs (k * 7 + 4) (by omega), ← HY5.out, mixI_set xs (k * 7 + 5) (by omega), ← HY6.out, mixI_set xs (k * 7 + 6) (by omega), show k * 7 + 6 + 1 = (k + 1) * 7 by omega] at OW
      have BW := hid (((((((HB1.out.setCell (p := ⟨w.heap.size, k * 7, none⟩) (Nat.le_refl _) (.int .i64 y0)).setCell (p := ⟨w.heap.size, k * 7 + 1, none⟩) (Nat.le_refl _) (.int .i64 y1)).setCell (p := ⟨w.heap.size, k * 7 + 2, none⟩) (Nat.le_refl _) (.int .i64 y2)).setCell (p := ⟨w.heap.size, k * 7 + 3, none⟩) (Nat.le_refl _) (.int .i64 y3)).setCell (p := ⟨w.heap.size, k * 7 + 4, none⟩) (Nat.le_refl _) (.int .i64 y4)).setCell (p := ⟨w.heap.size, k * 7 + 5, none⟩) (Nat.le_refl _) (.int .i64 y5)).setCell (p := ⟨w.heap.size, k * 7 + 6, none⟩) (Nat.le_refl _) (.int .i64 y6))
      clear hml
      go_wp2
      go_roundw
      case rel => exact ⟨k + 1, by omega, by go_num, by have := OW.out; rw [HY0.out, HY1.out, HY2.out, HY3.out, HY4.out, HY5.out, HY6.out] at this; exact this, BW.out⟩
      case measure => simp [intOf]; omega
    · obtain rfl : k = n := by omega
      have HO := hid ho
      have HB := hid hB
      clear h3 ho hB HM
      go_wp2
      go_ret
      exact ⟨_, rfl, by have := HO.out; rw [← h1, mixI_all] at this; exact this, HB.out⟩

set_option maxHeartbeats 4000000 in
theorem eqGrdRuleS_same (v u : Value) (n : Nat) (xs : List Int) (w : World) (hv : RdI 7 w v n xs) (hu : RdI 7 w u n xs) :
    Calls Try.prog 50 #[v, u] w fun e w' => e = .returned (.bool true) ∧ Below w.heap.size w w' := by
  obtain ⟨h1, h2, a, cap, rfl, h3⟩ := hv
  obtain ⟨_, _, a', cap', rfl, h3'⟩ := hu
  go_enter Try.func50, Try.ntmps50
  go_wp2_with fail
  go_loopw [5] (fun i wr => ∃ k : Nat, k ≤ n ∧ i = .int .i64 k ∧ Below w.heap.size w wr) (fun i _ => n - (intOf i).toNat)
  case atStart => exact ⟨0, Nat.zero_le _, rfl, Below.refl _ _⟩
  case round =>
    obtain ⟨k, hk, rfl, hB⟩ := hrel
    by_cases hlt : k < n
    · rcases h3 with rfl | ⟨b, off, rfl, hc⟩
      · omega
      rcases h3' with rfl | ⟨b', off', rfl, hc'⟩
      · omega
      have hkk : k * 7 + 7 ≤ n * 7 := by omega
      have r0 := cell_keep hB (hc (k * 7) (by omega))
      have s0 := cell_keep hB (hc' (k * 7) (by omega))
      obtain ⟨y0, hy0⟩ : ∃ y, xs.getD (k * 7) 0 = y := ⟨_, rfl⟩
      rw [hy0] at r0 s0
      have r1 := cell_keep hB (hc (k * 7 + 1) (by omega))
      have s1 := cell_keep hB (hc' (k * 7 + 1) (by omega))
      obtain ⟨y1, hy1⟩ : ∃ y, xs.getD (k * 7 + 1) 0 = y := ⟨_, rfl⟩
      rw [hy1] at r1 s1
      have r2 := cell_keep hB (hc (k * 7 + 2) (by omega))
      have s2 := cell_keep hB (hc' (k * 7 + 2) (by omega))
      obtain ⟨y2, hy2⟩ : ∃ y, xs.getD (k * 7 + 2) 0 = y := ⟨_, rfl⟩
      rw [hy2] at r2 s2
      have r3 := cell_keep hB (hc (k * 7 + 3) (by omega))
      have s3 := cell_keep hB (hc' (k * 7 + 3) (by omega))
      obtain ⟨y3, hy3⟩ : ∃ y, xs.getD (k * 7 + 3) 0 = y := ⟨_, rfl⟩
      rw [hy3] at r3 s3
      have r4 := cell_keep hB (hc (k * 7 + 4) (by omega))
      have s4 := cell_keep hB (hc' (k * 7 + 4) (by omega))
      obtain ⟨y4, hy4⟩ : ∃ y, xs.getD (k * 7 + 4) 0 = y := ⟨_, rfl⟩
      rw [hy4] at r4 s4
      have r5 := cell_keep hB (hc (k * 7 + 5) (by omega))
      have s5 := cell_keep hB (hc' (k * 7 + 5) (by omega))
      obtain ⟨y5, hy5⟩ : ∃ y, xs.getD (k * 7 + 5) 0 = y := ⟨_, rfl⟩
      rw [hy5] at r5 s5
      have r6 := cell_keep hB (hc (k * 7 + 6) (by omega))
      have s6 := cell_keep hB (hc' (k * 7 + 6) (by omega))
      obtain ⟨y6, hy6⟩ : ∃ y, xs.getD (k * 7 + 6) 0 = y := ⟨_, rfl⟩
      rw [hy6] at r6 s6
      rw [← Nat.add_assoc] at r1 s1; rw [← Nat.add_assoc] at r2 s2; rw [← Nat.add_assoc] at r3 s3; rw [← Nat.add_assoc] at r4 s4; rw [← Nat.add_assoc] at r5 s5; rw [← Nat.add_assoc] at r6 s6
      have hk0 : (0 : Int) ≤ (k : Int) := by omega
      have hk1 : (k : Int) < (n : Int) := by omega
      have HB := hid hB
      have HBd := hid hB.drew
      clear hc hc' hB hy0 hy1 hy2 hy3 hy4 hy5 hy6
      go_wp2_with fail
      go_region_with ((go_at_call 79; refine (eqGrdRule_same y0 y1 y2 y3 y4 y5 y6 _).mono ?_; rintro e w2 ⟨rfl, b2⟩; have B2 := hid (HBd.out.trans (b2.mono HBd.out.size))))
      all_goals
        go_wp2
        go_roundw
        case rel => exact ⟨k + 1, by omega, by go_num, B2.out⟩
        case measure => simp [intOf]; omega
    · obtain rfl : k = n := by omega
      have HB := hid hB
      clear h3 h3' hB
      go_wp2
      go_ret
      exact ⟨rfl, HB.out⟩
set_option maxHeartbeats 1000000 in
theorem szGrdRuleS_any (a : Option Addr) (len cap : Nat) (left : Int) (w : World) (hl : len ≤ 9223372036854775807) (l0 : 0 ≤ left) (l1 : left ≤ 9223372036854775807) :
    Calls Try.prog 48 #[.slice a len cap, .int .i64 left] w fun e w' => e = .returned (.int .i64 (if left - len < 0 then -1 else left - len)) ∧ w' = w := by
  by_cases h : left - (len : Int) < 0
  · have d : decide (left - (len : Int) < 0) = true := by simpa using h
    rw [if_pos h]
    go_enter Try.func48, Try.ntmps48
    go_wp2
    go_ret
    exact ⟨rfl, rfl⟩
  · have d : decide (left - (len : Int) < 0) = false := by simpa using h
    rw [if_neg h]
    go_enter Try.func48, Try.ntmps48
    go_wp2
    go_ret
    exact ⟨rfl, rfl⟩
end Go.Proofs.Ytlkmooefebenlaa
