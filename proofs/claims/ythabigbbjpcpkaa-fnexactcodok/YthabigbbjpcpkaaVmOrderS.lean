/- Lists of VmOrder: the contracts of the laws' toVmOrderS, eqVmOrder, eqVmOrderS and szVmOrderS. Conditions: the arguments read as such lists. -/
import Derived.Test.YthabigbbjpcpkaaRows
import Derived.Test.YthabigbbjpcpkaaIntRow
import Derived.Deep.RegionWith
import Derived.Deep.QuietTactic
import Derived.BigQuiet
namespace Go.Proofs.Ythabigbbjpcpkaa
open Go.ChangeShapes Go.WideShapes Go.ChangeAt Go.RowKit Go.Joins Go.Deep
set_option linter.unusedVariables false
set_option maxRecDepth 4000

theorem run_make_k {P : Program} (t e : TypeId) (z : Value) (k bytes : Nat) (ht : P.underlying t = some (.slice e)) (hinfo : (P.info? e).map (fun i => (i.zero, i.size, i.bytes)) = some (some z, k, bytes)) (n : Nat) (hb : bytes * n ≤ 281474976710656) (h63 : n ≤ 9223372036854775807) (w : World) :
    (Instr.makeSlice t (.int .i64 (n : Int)) (.int .i64 (n : Int))).run P w = .ok (.slice (some ⟨w.heap.size, 0, none⟩) n n) (w.alloc (.cells (madeCells z.cells (n * k)) e)) := by
  obtain ⟨i, hi, hzz⟩ := Option.map_eq_some_iff.1 hinfo
  simp only [Prod.mk.injEq] at hzz
  obtain ⟨hz, hs, hbb⟩ := hzz
  subst hs hbb
  have hb' : (i.bytes : Int) * (n : Int) ≤ 281474976710656 := by
    have h : ((i.bytes * n : Nat) : Int) ≤ 281474976710656 := by omega
    rwa [Int.natCast_mul] at h
  have hr := run_make (P := P) w t e i z ht hi hz .i64 .i64 n n (by omega) (Int.le_refl _) hb' (by omega)
  simp only [Int.toNat_natCast] at hr
  exact hr
theorem infoVmOrder : (Try.prog.info? 45).map (fun i => (i.zero, i.size, i.bytes)) = some (some (.agg #[.int .i64 0, .int .i64 0, .int .i64 0, .int .i64 0]), 4, 32) := by kernel_rfl
theorem noughtsVmOrder : ∀ i, i < (#[.int .i64 0, .int .i64 0, .int .i64 0, .int .i64 0] : Array Value).size → (#[.int .i64 0, .int .i64 0, .int .i64 0, .int .i64 0] : Array Value)[i]? = some (.int .i64 0) := by
  intro i hi
  have hi' : i = 0 ∨ i = 1 ∨ i = 2 ∨ i = 3 := by simp at hi; omega
  rcases hi' with rfl | rfl | rfl | rfl <;> rfl
theorem madeVmOrder (w : World) (n : Nat) (hn : n ≤ 2000000) : OwnI 45 4 (w.alloc (.cells (madeCells #[.int .i64 0, .int .i64 0, .int .i64 0, .int .i64 0] (n * 4)) 45)) w.heap.size (.slice (some ⟨w.heap.size, 0, none⟩) n n) n (List.replicate (n * 4) 0) := by
  have h := World.ownsRow_lit (size := 4) w (madeCells #[.int .i64 0, .int .i64 0, .int .i64 0, .int .i64 0] (n * 4)) (e := 45) (base := w.heap.size) n (Nat.le_refl _) (by unfold maxLen; omega) (by simp [size_madeCells])
  rw [made_noughts _ noughtsVmOrder (by simp)] at h
  exact h

set_option maxHeartbeats 1000000 in
theorem toVmOrder_any (op a b c : Int) (w : World) :
    Calls Try.prog 78 #[.agg #[.int .i64 op, .int .i64 a, .int .i64 b, .int .i64 c]] w fun x w' => x = .returned (.agg #[.int .i64 op, .int .i64 a, .int .i64 b, .int .i64 c]) ∧ Below w.heap.size w w' := by
  go_enter Try.func78, Try.ntmps78
  go_wp2
  go_returns
  exact ⟨rfl, by go_grown⟩
set_option maxHeartbeats 1000000 in
theorem eqVmOrder_same (op a b c : Int) (w : World) :
    Calls Try.prog 79 #[.agg #[.int .i64 op, .int .i64 a, .int .i64 b, .int .i64 c], .agg #[.int .i64 op, .int .i64 a, .int .i64 b, .int .i64 c]] w fun x w' => x = .returned (.bool true) ∧ Below w.heap.size w w' := by
  go_enter Try.func79, Try.ntmps79
  go_wp2
  go_ret
  exact ⟨rfl, by go_grown⟩

set_option maxHeartbeats 4000000 in
theorem toVmOrderS_any (v : Value) (n : Nat) (xs : List Int) (w : World) (hv : RdI 4 w v n xs) :
    Calls Try.prog 29 #[v] w fun e w' => ∃ v', e = .returned v' ∧ OwnI 45 4 w' w.heap.size v' n xs ∧ Below w.heap.size w w' := by
  obtain ⟨h1, h2, a, cap, rfl, h3⟩ := hv
  have hmk := run_make_k (P := Try.prog) 26 45 (.agg #[.int .i64 0, .int .i64 0, .int .i64 0, .int .i64 0]) 4 32 Try.underlying26 infoVmOrder n (by omega) (by omega)
  have HM := hid (madeVmOrder w n h2)
  have e0 : List.replicate (n * 4) (0 : Int) = mixI xs 0 := by simp [mixI, h1]
  rw [e0] at HM
  clear e0
  go_enter Try.func29, Try.ntmps29
  go_wp2_with fail
  go_loopw [4] (fun i wr => ∃ k : Nat, k ≤ n ∧ i = .int .i64 k ∧ OwnI 45 4 wr w.heap.size (.slice (some ⟨w.heap.size, 0, none⟩) n n) n (mixI xs (k * 4)) ∧ Below w.heap.size w wr) (fun i _ => n - (intOf i).toNat)
  case atStart => exact ⟨0, Nat.zero_le _, rfl, by simpa using HM.out, below_alloc1 _ _⟩
  case round =>
    obtain ⟨k, hk, rfl, ho, hB⟩ := hrel
    by_cases hlt : k < n
    · rcases h3 with rfl | ⟨b, off, rfl, hc⟩
      · omega
      have hkk : k * 4 + 4 ≤ n * 4 := by omega
      have r0 := cell_keep hB (hc (k * 4) (by omega))
      have r1 := cell_keep hB (hc (k * 4 + 1) (by omega))
      have r2 := cell_keep hB (hc (k * 4 + 2) (by omega))
      have r3 := cell_keep hB (hc (k * 4 + 3) (by omega))
      have HC := hid hB
      have HO := hid ho
      obtain ⟨y0, hy0⟩ : ∃ y, xs.getD (k * 4) 0 = y := ⟨_, rfl⟩
      rw [hy0] at r0
      have HY0 := hid hy0
      obtain ⟨y1, hy1⟩ : ∃ y, xs.getD (k * 4 + 1) 0 = y := ⟨_, rfl⟩
      rw [hy1] at r1
      have HY1 := hid hy1
      obtain ⟨y2, hy2⟩ : ∃ y, xs.getD (k * 4 + 2) 0 = y := ⟨_, rfl⟩
      rw [hy2] at r2
      have HY2 := hid hy2
      obtain ⟨y3, hy3⟩ : ∃ y, xs.getD (k * 4 + 3) 0 = y := ⟨_, rfl⟩
      rw [hy3] at r3
      have HY3 := hid hy3
      clear hc ho hB HM hy0 hy1 hy2 hy3
      rw [← Nat.add_assoc] at r1; rw [← Nat.add_assoc] at r2; rw [← Nat.add_assoc] at r3
      go_wp2_with fail
      refine (toVmOrder_any y0 y1 y2 y3 _).mono ?_
      rintro e w1 ⟨rfl, b1⟩
      have HO1 := hid (HO.out.keep b1)
      have HB1 := hid (HC.out.trans (b1.mono HC.out.size))
      clear b1 HC HO r0 r1 r2 r3
      have hml := mixI_len xs (k * 4) (by omega)
      obtain ⟨c0, f0, _, _⟩ := ownI_cell HO1.out (i := k * 4) (by omega)
      generalize (mixI xs (k * 4)).getD (k * 4) 0 = o0 at c0
      obtain ⟨c1, f1, _, _⟩ := ownI_cell HO1.out (i := k * 4 + 1) (by omega)
      generalize (mixI xs (k * 4)).getD (k * 4 + 1) 0 = o1 at c1
      obtain ⟨c2, f2, _, _⟩ := ownI_cell HO1.out (i := k * 4 + 2) (by omega)
      generalize (mixI xs (k * 4)).getD (k * 4 + 2) 0 = o2 at c2
      obtain ⟨c3, f3, _, _⟩ := ownI_cell HO1.out (i := k * 4 + 3) (by omega)
      generalize (mixI xs (k * 4)).getD (k * 4 + 3) 0 = o3 at c3
      have OW := hid (ownI_set (ownI_set (ownI_set (ownI_set HO1.out (i := k * 4) (y := y0) (by first | omega | (simp; omega))) (i := k * 4 + 1) (y := y1) (by first | omega | (simp; omega))) (i := k * 4 + 2) (y := y2) (by first | omega | (simp; omega))) (i := k * 4 + 3) (y := y3) (by first | omega | (simp; omega)))
      rw [← HY0.out, mixI_set xs (k * 4) (by omega), ← HY1.out, mixI_set xs (k * 4 + 1) (by omega), ← HY2.out, mixI_set xs (k * 4 + 2) (by omega), ← HY3.out, mixI_set xs (k * 4 + 3) (by omega), show k * 4 + 3 + 1 = (k + 1) * 4 by omega] at OW
      have BW := hid ((((HB1.out.setCell (p := ⟨w.heap.size, k * 4, none⟩) (Nat.le_refl _) (.int .i64 y0)).setCell (p := ⟨w.heap.size, k * 4 + 1, none⟩) (Nat.le_refl _) (.int .i64 y1)).setCell (p := ⟨w.heap.size, k * 4 + 2, none⟩) (Nat.le_refl _) (.int .i64 y2)).setCell (p := ⟨w.heap.size, k * 4 + 3, none⟩) (Nat.le_refl _) (.int .i64 y3))
      clear hml
      go_wp2
      go_roundw
      case rel => exact ⟨k + 1, by omega, by go_num, by have := OW.out; rw [HY0.out, HY1.out, HY2.out, HY3.out] at this; exact this, BW.out⟩
      case measure => simp [intOf]; omega
    · obtain rfl : k = n := by omega
      have HO := hid ho
      have HB := hid hB
      clear h3 ho hB HM
      go_wp2
      go_ret
      exact ⟨_, rfl, by have := HO.out; rw [← h1, mixI_all] at this; exact this, HB.out⟩

set_option maxHeartbeats 4000000 in
theorem eqVmOrderS_same (v u : Value) (n : Nat) (xs : List Int) (w : World) (hv : RdI 4 w v n xs) (hu : RdI 4 w u n xs) :
    Calls Try.prog 30 #[v, u] w fun e w' => e = .returned (.bool true) ∧ Below w.heap.size w w' := by
  obtain ⟨h1, h2, a, cap, rfl, h3⟩ := hv
  obtain ⟨_, _, a', cap', rfl, h3'⟩ := hu
  go_enter Try.func30, Try.ntmps30
  go_wp2_with fail
  go_loopw [5] (fun i wr => ∃ k : Nat, k ≤ n ∧ i = .int .i64 k ∧ Below w.heap.size w wr) (fun i _ => n - (intOf i).toNat)
  case atStart => exact ⟨0, Nat.zero_le _, rfl, Below.refl _ _⟩
  case round =>
    obtain ⟨k, hk, rfl, hB⟩ := hrel
    by_cases hlt : k < n
    · rcases h3 with rfl | ⟨b, off, rfl, hc⟩
      · omega
      rcases h3' with rfl | ⟨b', off', rfl, hc'⟩
      · omega
      have hkk : k * 4 + 4 ≤ n * 4 := by omega
      have r0 := cell_keep hB (hc (k * 4) (by omega))
      have s0 := cell_keep hB (hc' (k * 4) (by omega))
      obtain ⟨y0, hy0⟩ : ∃ y, xs.getD (k * 4) 0 = y := ⟨_, rfl⟩
      rw [hy0] at r0 s0
      have r1 := cell_keep hB (hc (k * 4 + 1) (by omega))
      have s1 := cell_keep hB (hc' (k * 4 + 1) (by omega))
      obtain ⟨y1, hy1⟩ : ∃ y, xs.getD (k * 4 + 1) 0 = y := ⟨_, rfl⟩
      rw [hy1] at r1 s1
      have r2 := cell_keep hB (hc (k * 4 + 2) (by omega))
      have s2 := cell_keep hB (hc' (k * 4 + 2) (by omega))
      obtain ⟨y2, hy2⟩ : ∃ y, xs.getD (k * 4 + 2) 0 = y := ⟨_, rfl⟩
      rw [hy2] at r2 s2
      have r3 := cell_keep hB (hc (k * 4 + 3) (by omega))
      have s3 := cell_keep hB (hc' (k * 4 + 3) (by omega))
      obtain ⟨y3, hy3⟩ : ∃ y, xs.getD (k * 4 + 3) 0 = y := ⟨_, rfl⟩
      rw [hy3] at r3 s3
      rw [← Nat.add_assoc] at r1 s1; rw [← Nat.add_assoc] at r2 s2; rw [← Nat.add_assoc] at r3 s3
      have hk0 : (0 : Int) ≤ (k : Int) := by omega
      have hk1 : (k : Int) < (n : Int) := by omega
      have HB := hid hB
      have HBd := hid hB.drew
      clear hc hc' hB hy0 hy1 hy2 hy3
      go_wp2_with fail
      go_region_with ((go_at_call 79; refine (eqVmOrder_same y0 y1 y2 y3 _).mono ?_; rintro e w2 ⟨rfl, b2⟩; have B2 := hid (HBd.out.trans (b2.mono HBd.out.size))))
      all_goals
        go_wp2
        go_roundw
        case rel => exact ⟨k + 1, by omega, by go_num, B2.out⟩
        case measure => simp [intOf]; omega
    · obtain rfl : k = n := by omega
      have HB := hid hB
      clear h3 h3' hB
      go_wp2
      go_ret
      exact ⟨rfl, HB.out⟩
set_option maxHeartbeats 1000000 in
theorem szVmOrderS_any (a : Option Addr) (len cap : Nat) (left : Int) (w : World) (hl : len ≤ 9223372036854775807) (l0 : 0 ≤ left) (l1 : left ≤ 9223372036854775807) :
    Calls Try.prog 28 #[.slice a len cap, .int .i64 left] w fun e w' => e = .returned (.int .i64 (if left - len < 0 then -1 else left - len)) ∧ w' = w := by
  by_cases h : left - (len : Int) < 0
  · have d : decide (left - (len : Int) < 0) = true := by simpa using h
    rw [if_pos h]
    go_enter Try.func28, Try.ntmps28
    go_wp2
    go_ret
    exact ⟨rfl, rfl⟩
  · have d : decide (left - (len : Int) < 0) = false := by simpa using h
    rw [if_neg h]
    go_enter Try.func28, Try.ntmps28
    go_wp2
    go_ret
    exact ⟨rfl, rfl⟩
end Go.Proofs.Ythabigbbjpcpkaa
