/- The contracts of the laws' toByteS (the same bytes in memory of its own) and eqByteS (whether bytes are the same). Conditions: the arguments read as bytes. -/
import Derived.Test.YtbpomeegpkdekaaBytes
namespace Go.Proofs.Ytbpomeegpkdekaa
open Go.ChangeShapes Go.WideShapes Go.ChangeAt Go.RowKit Go.Joins Go.Deep
set_option linter.unusedVariables false

def part (xs : List Int) (k : Nat) : Array Value := ((xs.take k ++ List.replicate (xs.length - k) 0).map (Value.int .u8)).toArray
theorem part_size (xs : List Int) (k : Nat) (h : k ≤ xs.length) : (part xs k).size = xs.length := by simp [part]; omega
theorem part_zero (xs : List Int) : madeCells #[Value.int .u8 0] xs.length = part xs 0 := by
  apply Array.ext
  · rw [size_madeCells, part_size _ _ (Nat.zero_le _)]
  · intro i h1 h2
    simp [madeCells, part, Nat.mod_one]
theorem part_set (xs : List Int) (k : Nat) (h : k < xs.length) : (part xs k).setIfInBounds k (.int .u8 (xs.getD k 0)) = part xs (k + 1) := by
  apply Array.ext
  · simp [part]; omega
  · intro i h1 h2
    simp only [Array.size_setIfInBounds] at h1
    rw [Array.getElem_setIfInBounds h1]
    have hs : (part xs k).size = xs.length := part_size _ _ (by omega)
    by_cases e : k = i
    · subst e
      simp only [if_true]
      simp [part, List.getElem_append, h]
      omega
    · rw [if_neg e]
      simp only [part, List.getElem_toArray, List.getElem_map, List.getElem_append, List.length_take]
      by_cases c : i < k
      · rw [dif_pos (by omega), dif_pos (by omega)]; simp
      · rw [dif_neg (by omega), dif_neg (by omega)]; simp
theorem part_all (xs : List Int) : part xs xs.length = (xs.map (Value.int .u8)).toArray := by simp [part]
theorem part_get (xs : List Int) (k : Nat) (h : k < xs.length) : (part xs k)[k]? = some (.int .u8 0) := by
  have e : (xs.take k ++ List.replicate (xs.length - k) 0)[k]? = some 0 := by
    have hl : (xs.take k).length = k := by simp; omega
    rw [List.getElem?_append_right (by omega), hl, List.getElem?_replicate, if_pos (by omega)]
  simp only [part, List.getElem?_toArray, List.getElem?_map, e, Option.map_some]
theorem own_made (w : World) (xs : List Int) (h1 : ∀ x ∈ xs, 0 ≤ x ∧ x ≤ 255) (h2 : xs.length ≤ 2000000) : Own (w.alloc (.cells (part xs xs.length) 5)) w.heap.size (.slice (some ⟨w.heap.size, 0, none⟩) xs.length xs.length) xs := by
  refine ⟨h1, by simp, .inr ⟨w.heap.size, xs.length, part xs xs.length, rfl, Nat.le_refl _, heap_alloc_new w _, Nat.le_refl _, by unfold maxLen; omega, by rw [part_size _ _ (Nat.le_refl _)]; simp, ?_⟩⟩
  rw [part_all, Nat.mul_one]; exact List.take_of_length_le (by simp)

theorem info8 : (Try.prog.info? 5).map (fun i => (i.zero, i.size, i.bytes)) = some (some (.int .u8 0), 1, 1) := by kernel_rfl

set_option maxHeartbeats 1000000 in
theorem toBytes_any (v : Value) (xs : List Int) (w : World) (hv : Rd w v xs) :
    Calls Try.prog 42 #[v] w fun e w' => ∃ v', e = .returned v' ∧ Own w' w.heap.size v' xs ∧ Below w.heap.size w w' := by
  obtain ⟨h1, h2, a, cap, rfl, h3⟩ := hv
  have hmk := run_make_row' (P := Try.prog) 22 5 (.int .u8 0) 1 Try.underlying22 info8 rfl .i64 .i64 xs.length (by omega) (by omega)
  rw [part_zero] at hmk
  have HO := hid (own_made w xs h1 h2)
  clear h1
  go_enter Try.func42, Try.ntmps42
  go_wp2_with fail
  go_loopw [4] (fun i wr => ∃ k : Nat, k ≤ xs.length ∧ i = .int .i64 k ∧ wr = w.alloc (.cells (part xs k) 5)) (fun i _ => xs.length - (intOf i).toNat)
  case atStart => exact ⟨0, Nat.zero_le _, rfl, rfl⟩
  case round =>
    obtain ⟨k, hk, rfl, rfl⟩ := hrel
    by_cases hlt : k < xs.length
    · rcases h3 with rfl | ⟨b, off, rfl, hc⟩
      · simp at hlt
      have hcx := cell_keep (below_alloc1 w (.cells (part xs k) 5)) (hc k hlt)
      have hpg := part_get xs k hlt
      have hpz := part_size xs k hk
      have HS := part_set xs k hlt
      generalize xs.getD k 0 = X at hcx HS
      clear hc
      go_wp2
      go_roundw
      case rel => exact ⟨k + 1, by omega, by go_num, rfl⟩
      case measure => simp [intOf]; omega
    · have hkl : k = xs.length := by omega
      subst hkl
      clear h3
      go_wp2
      go_ret
      exact ⟨_, rfl, HO.out, below_alloc1 _ _⟩

set_option maxHeartbeats 1000000 in
theorem eqBytes_same (v u : Value) (xs : List Int) (w : World) (hv : Rd w v xs) (hu : Rd w u xs) :
    Calls Try.prog 43 #[v, u] w fun e w' => e = .returned (.bool true) ∧ Below w.heap.size w w' := by
  obtain ⟨h1, h2, a, cap, rfl, h3⟩ := hv
  obtain ⟨_, _, a', cap', rfl, h3'⟩ := hu
  clear h1
  go_enter Try.func43, Try.ntmps43
  go_wp2_with fail
  go_loopw [5] (fun i wr => ∃ k : Nat, k ≤ xs.length ∧ i = .int .i64 k ∧ Below w.heap.size w wr) (fun i _ => xs.length - (intOf i).toNat)
  case atStart => exact ⟨0, Nat.zero_le _, rfl, Below.refl _ _⟩
  case round =>
    obtain ⟨k, hk, rfl, hB⟩ := hrel
    by_cases hlt : k < xs.length
    · rcases h3 with rfl | ⟨b, off, rfl, hc⟩
      · simp at hlt
      rcases h3' with rfl | ⟨b', off', rfl, hc'⟩
      · simp at hlt
      have hcx := cell_keep hB (hc k hlt)
      have hcy := cell_keep hB (hc' k hlt)
      generalize xs.getD k 0 = X at hcx hcy
      have hk0 : (0 : Int) ≤ (k : Int) := by omega
      have hk1 : (k : Int) < (xs.length : Int) := by omega
      have HB := hid hB
      clear hc hc' hB
      go_wp2_with fail
      go_quiet (fail)
      go_wp2
      go_roundw
      case rel => exact ⟨k + 1, by omega, by go_num, HB.out.trans (below_draws _ _ _)⟩
      case measure => simp [intOf]; omega
    · have hkl : k = xs.length := by omega
      subst hkl
      have HB := hid hB
      clear h3 h3' hB
      go_wp2
      go_ret
      exact ⟨rfl, HB.out⟩
end Go.Proofs.Ytbpomeegpkdekaa
