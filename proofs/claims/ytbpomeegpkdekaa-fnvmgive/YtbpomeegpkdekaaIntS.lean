/- The contracts of the laws' toIntS, eqIntS, markIntS and heldIntS (lists of ints). Conditions: the arguments read as ints. -/
import Derived.Test.YtbpomeegpkdekaaRows
import Derived.Test.YtbpomeegpkdekaaIntRow
import Derived.Deep.QuietTactic
import Derived.BigQuiet
namespace Go.Proofs.Ytbpomeegpkdekaa
open Go.ChangeShapes Go.WideShapes Go.ChangeAt Go.RowKit Go.Joins Go.Deep
set_option linter.unusedVariables false
set_option maxRecDepth 4000

theorem infoI : (Try.prog.info? 3).map (fun i => (i.zero, i.size, i.bytes)) = some (some (.int .i64 0), 1, 8) := by kernel_rfl
theorem infoI' : ∃ i, Try.prog.info? 3 = some i ∧ i.zero = some (.int .i64 0) ∧ i.size = 1 ∧ i.bytes = 8 := by
  obtain ⟨i, hi, hzz⟩ := Option.map_eq_some_iff.1 infoI
  simp only [Prod.mk.injEq] at hzz
  exact ⟨i, hi, hzz.1, hzz.2.1, hzz.2.2⟩
theorem madeI (w : World) (n : Nat) (hn : n ≤ 2000000) : OwnI 3 1 (w.alloc (.cells (madeCells #[.int .i64 0] n) 3)) w.heap.size (.slice (some ⟨w.heap.size, 0, none⟩) n n) n (List.replicate n 0) := by
  have h := World.ownsRow_lit (size := 1) w (madeCells #[.int .i64 0] n) (e := 3) (base := w.heap.size) n (Nat.le_refl _) (by unfold maxLen; omega) (by simp [size_madeCells])
  rw [made_noughts #[.int .i64 0] (by intro i hi; simp at hi; subst hi; rfl) (by simp)] at h
  exact h

set_option maxHeartbeats 1000000 in
theorem toInts_any (v : Value) (n : Nat) (xs : List Int) (w : World) (hv : RdI 1 w v n xs) :
    Calls Try.prog 84 #[v] w fun e w' => ∃ v', e = .returned v' ∧ OwnI 3 1 w' w.heap.size v' n xs ∧ Below w.heap.size w w' := by
  obtain ⟨h1, h2, a, cap, rfl, h3⟩ := hv
  have hmk := run_make_row' (P := Try.prog) 23 3 (.int .i64 0) 8 Try.underlying23 infoI rfl .i64 .i64 n (by omega) (by omega)
  rw [Nat.mul_one] at h1
  have HM := hid (madeI w n h2)
  have e0 : List.replicate n (0 : Int) = mixI xs 0 := by simp [mixI, h1]
  rw [e0] at HM
  clear e0
  go_enter Try.func84, Try.ntmps84
  go_wp2_with fail
  go_loopw [4] (fun i wr => ∃ k : Nat, k ≤ n ∧ i = .int .i64 k ∧ OwnI 3 1 wr w.heap.size (.slice (some ⟨w.heap.size, 0, none⟩) n n) n (mixI xs k) ∧ Below w.heap.size w wr) (fun i _ => n - (intOf i).toNat)
  case atStart => exact ⟨0, Nat.zero_le _, rfl, HM.out, below_alloc1 _ _⟩
  case round =>
    obtain ⟨k, hk, rfl, ho, hB⟩ := hrel
    by_cases hlt : k < n
    · rcases h3 with rfl | ⟨b, off, rfl, hc⟩
      · omega
      have hcx := cell_keep hB (hc k (by omega))
      obtain ⟨hcw, hfw, _, _⟩ := ownI_cell ho (i := k) (by rw [mixI_len _ _ (by omega)]; omega)
      have HO := hid (ownI_set ho (i := k) (y := xs.getD k 0) (by rw [mixI_len _ _ (by omega)]; omega))
      rw [mixI_set xs k (by omega)] at HO
      have HB := hid hB
      generalize xs.getD k 0 = X at hcx HO
      generalize (mixI xs k).getD k 0 = Y at hcw
      clear hc ho hB HM
      go_wp2
      go_roundw
      case rel => exact ⟨k + 1, by omega, by go_num, HO.out, HB.out.setCell (Nat.le_refl _) _⟩
      case measure => simp [intOf]; omega
    · obtain rfl : k = n := by omega
      have HO := hid ho
      have HB := hid hB
      clear h3 ho hB HM
      go_wp2
      go_ret
      exact ⟨_, rfl, by have := HO.out; rw [← h1, mixI_all] at this; rw [← h1]; exact this, HB.out⟩

set_option maxHeartbeats 1000000 in
theorem eqInts_same (v u : Value) (n : Nat) (xs : List Int) (w : World) (hv : RdI 1 w v n xs) (hu : RdI 1 w u n xs) :
    Calls Try.prog 80 #[v, u] w fun e w' => e = .returned (.bool true) ∧ Below w.heap.size w w' := by
  obtain ⟨h1, h2, a, cap, rfl, h3⟩ := hv
  obtain ⟨_, _, a', cap', rfl, h3'⟩ := hu
  rw [Nat.mul_one] at h1
  go_enter Try.func80, Try.ntmps80
  go_wp2_with fail
  go_loopw [5] (fun i wr => ∃ k : Nat, k ≤ n ∧ i = .int .i64 k ∧ Below w.heap.size w wr) (fun i _ => n - (intOf i).toNat)
  case atStart => exact ⟨0, Nat.zero_le _, rfl, Below.refl _ _⟩
  case round =>
    obtain ⟨k, hk, rfl, hB⟩ := hrel
    by_cases hlt : k < n
    · rcases h3 with rfl | ⟨b, off, rfl, hc⟩
      · omega
      rcases h3' with rfl | ⟨b', off', rfl, hc'⟩
      · omega
      have hcx := cell_keep hB (hc k (by omega))
      have hcy := cell_keep hB (hc' k (by omega))
      generalize xs.getD k 0 = X at hcx hcy
      have hk0 : (0 : Int) ≤ (k : Int) := by omega
      have hk1 : (k : Int) < (n : Int) := by omega
      have HB := hid hB
      clear hc hc' hB
      go_wp2_with fail
      go_quiet (fail)
      go_wp2
      go_roundw
      case rel => exact ⟨k + 1, by omega, by go_num, HB.out.trans (below_draws _ _ _)⟩
      case measure => simp [intOf]; omega
    · obtain rfl : k = n := by omega
      have HB := hid hB
      clear h3 h3' hB
      go_wp2
      go_ret
      exact ⟨rfl, HB.out⟩

set_option maxHeartbeats 1000000 in
theorem markInts_any (v : Value) (n : Nat) (xs : List Int) (k : Int) (B : Nat) (w : World) (hv : OwnI 3 1 w B v n xs) (hn : n ≤ 2000000) (k0 : 0 ≤ k) (k1 : k ≤ 2000000000) :
    Calls Try.prog 81 #[v, .int .i64 k] w fun e w' => e = .returned (.int .i64 (k + n)) ∧ OwnI 3 1 w' B v n (marksI k n) ∧ w.grownBy w' v.ownBlock ∧ w'.heap.size = w.heap.size := by
  have hl := hv.len
  rw [Nat.mul_one] at hl
  have HV := hid hv
  obtain ⟨a, cap, rfl, h3⟩ := ownI_form hv
  clear hv
  go_enter Try.func81, Try.ntmps81
  go_wp2_with fail
  go_loopw [1, 5] (fun t i wr => ∃ j : Nat, j ≤ n ∧ i = .int .i64 j ∧ t = .int .i64 (k + j) ∧ OwnI 3 1 wr B (.slice a n cap) n (halfI k xs j) ∧ w.grownBy wr (Value.slice a n cap).ownBlock ∧ wr.heap.size = w.heap.size) (fun _ i _ => n - (intOf i).toNat)
  case atStart => exact ⟨0, Nat.zero_le _, rfl, by simp, by rw [halfI_zero]; exact HV.out, ⟨rfl, rfl, rfl, Nat.le_refl _, fun _ _ _ => rfl⟩, rfl⟩
  case round =>
    obtain ⟨j, hj, rfl, rfl, ho, hg, hz⟩ := hrel
    by_cases hlt : j < n
    · rcases h3 with rfl | ⟨g, rfl⟩
      · omega
      have hl2 := halfI_len k xs j (by omega)
      obtain ⟨hc, hf, _, _⟩ := ownI_cell ho (i := j) (by omega)
      generalize (halfI k xs j).getD j 0 = X at hc
      have HO := hid (ownI_set ho (i := j) (y := k + j) (by omega))
      rw [halfI_set k xs j (by omega)] at HO
      have HG := hid hg
      clear ho hg hl2
      go_wp2
      go_roundw
      case rel => exact ⟨j + 1, by omega, by go_num, by go_num, HO.out, grownI_set HG.out, by simpa [World.setCell] using hz⟩
      case measure => simp [intOf]; omega
    · obtain rfl : j = n := by omega
      have HO := hid ho
      rw [← hl, halfI_all] at HO
      have HG := hid hg
      clear h3 ho hg
      go_wp2
      go_ret
      exact ⟨rfl, by have := HO.out; rw [hl] at this; exact this, HG.out, hz⟩

set_option maxHeartbeats 1000000 in
theorem heldInts_any (v : Value) (n : Nat) (k : Int) (w : World) (hv : RdI 1 w v n (marksI k n)) (k0 : 0 ≤ k) (k1 : k ≤ 2000000000) :
    Calls Try.prog 82 #[v, .int .i64 k] w fun e w' => e = .returned (.int .i64 (k + n)) ∧ w' = w := by
  obtain ⟨h1, h2, a, cap, rfl, h3⟩ := hv
  rw [marksI_len] at h3
  clear h1
  go_enter Try.func82, Try.ntmps82
  go_wp2_with fail
  go_loop [1, 5] (fun t i => ∃ j : Nat, j ≤ n ∧ i = .int .i64 j ∧ t = .int .i64 (k + j)) (fun _ i => n - (intOf i).toNat)
  case atStart => exact ⟨0, Nat.zero_le _, rfl, by simp⟩
  case round =>
    obtain ⟨j, hj, rfl, rfl⟩ := hrel
    by_cases hlt : j < n
    · rcases h3 with h3 | ⟨b, off, rfl, hc⟩
      · omega
      have hcx := hc j hlt
      rw [marksI_get k n j hlt] at hcx
      clear hc
      go_wp2
      go_round
      case rel => exact ⟨j + 1, by omega, by go_num, by go_num⟩
      case measure => simp [intOf]; omega
    · obtain rfl : j = n := by omega
      clear h3
      go_wp2
      go_ret
      exact ⟨rfl, rfl⟩
end Go.Proofs.Ytbpomeegpkdekaa
