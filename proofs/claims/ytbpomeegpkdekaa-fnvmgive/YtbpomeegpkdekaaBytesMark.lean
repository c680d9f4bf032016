/- The contracts of the laws' markByteS (it writes a running number over bytes of one's own) and heldByteS (whether that number is still there). Conditions: the bytes are one's own, and few; the number lies in 0..2000000000. -/
import Derived.Test.YtbpomeegpkdekaaBytesTo
namespace Go.Proofs.Ytbpomeegpkdekaa
open Go.ChangeShapes Go.WideShapes Go.ChangeAt Go.RowKit Go.Joins Go.Deep
set_option linter.unusedVariables false

/-- the running number, byte by byte -/
def marks (k : Int) (n : Nat) : List Int := (List.range n).map fun (i : Nat) => (k + (i : Int)) % 256
theorem marks_len (k : Int) (n : Nat) : (marks k n).length = n := by simp [marks]
theorem marks_in (k : Int) (n : Nat) : ∀ x ∈ marks k n, 0 ≤ x ∧ x ≤ 255 := by
  intro x hx
  simp only [marks, List.mem_map] at hx
  obtain ⟨i, _, rfl⟩ := hx
  omega
theorem marks_get (k : Int) (n i : Nat) (h : i < n) : (marks k n).getD i 0 = (k + i) % 256 := by simp [marks, h]
/-- the first i are marked, the rest as they were -/
def half (k : Int) (xs : List Int) (i : Nat) : List Int := marks k i ++ xs.drop i
theorem half_len (k : Int) (xs : List Int) (i : Nat) (h : i ≤ xs.length) : (half k xs i).length = xs.length := by simp [half, marks_len]; omega
theorem half_set (k : Int) (xs : List Int) (i : Nat) (h : i < xs.length) : (half k xs i).set i ((k + i) % 256) = half k xs (i + 1) := by
  apply List.ext_getElem
  · simp [half, marks_len]; omega
  · intro j h1 h2
    simp only [List.getElem_set, half, List.getElem_append, marks_len]
    by_cases e : i = j
    · subst e
      rw [if_pos rfl, dif_pos (by omega)]
      simp [marks]
    · rw [if_neg e]
      by_cases c : j < i
      · rw [dif_pos c, dif_pos (by omega)]; simp [marks]
      · rw [dif_neg c, dif_neg (by omega)]
        simp only [List.getElem_drop]
        congr 1
        omega
theorem half_all (k : Int) (xs : List Int) : half k xs xs.length = marks k xs.length := by simp [half]
theorem half_zero (k : Int) (xs : List Int) : half k xs 0 = xs := by simp [half, marks]

theorem own_set {w : World} {B g n cap i : Nat} {xs : List Int} {y : Int} (h : Own w B (.slice (some ⟨g, 0, none⟩) n cap) xs) (hi : i < xs.length) (y0 : 0 ≤ y) (y1 : y ≤ 255) :
    Own (w.setCell ⟨g, i, none⟩ (.int .u8 y)) B (.slice (some ⟨g, 0, none⟩) n cap) (xs.set i y) := by
  obtain ⟨h1, h2, h3⟩ := h
  refine ⟨fun x hx => ?_, by simp, ?_⟩
  · rcases List.mem_or_eq_of_mem_set hx with hx | hx
    · exact h1 x hx
    · rw [hx]; exact ⟨y0, y1⟩
  · rcases h3 with ⟨hv, _⟩ | ⟨q, cap', cur, hv, hq, hh, hnc, hm, hsz, hcur⟩
    · simp at hv
    · simp only [Value.slice.injEq, Option.some.injEq, Addr.mk.injEq, and_true] at hv
      obtain ⟨rfl, rfl, rfl⟩ := hv
      refine .inr ⟨g, cap, cur.setIfInBounds i (.int .u8 y), by simp, hq, block_setCell hh _, by simpa using hnc, hm, by simpa using hsz, ?_⟩
      rw [Array.toList_setIfInBounds, List.take_set, List.length_set, hcur, List.map_set]
theorem own_cell {w : World} {B g n cap i : Nat} {xs : List Int} (h : Own w B (.slice (some ⟨g, 0, none⟩) n cap) xs) (hi : i < xs.length) :
    w.cell? ⟨g, i, none⟩ = some (.int .u8 (xs.getD i 0)) ∧ w.frozen? ⟨g, i, none⟩ = false ∧ B ≤ g ∧ g < w.heap.size := by
  obtain ⟨h1, h2, h3⟩ := h
  rcases h3 with ⟨hv, _⟩ | ⟨q, cap', cur, hv, hq, hh, hnc, hm, hsz, hcur⟩
  · simp at hv
  · simp only [Value.slice.injEq, Option.some.injEq, Addr.mk.injEq, and_true] at hv
    obtain ⟨rfl, rfl, rfl⟩ := hv
    have e : cur[i]? = some (.int .u8 (xs.getD i 0)) := by
      have h4 : (cur.toList.take (xs.length * 1))[i]? = (xs.map (Value.int .u8))[i]? := by rw [hcur]
      rw [List.getElem?_take_of_lt (by omega)] at h4
      simp only [Array.getElem?_toList] at h4
      rw [h4]; simp [hi]
    refine ⟨by simp [World.cell?, hh, e], unfrozen_of_block hh i, hq, ?_⟩
    rcases Nat.lt_or_ge g w.heap.size with h' | h'
    · exact h'
    · rw [Array.getElem?_eq_none h'] at hh; cases hh
theorem own_form {w : World} {B : Nat} {v : Value} {xs : List Int} (h : Own w B v xs) : ∃ a cap, v = .slice a xs.length cap ∧ (xs = [] ∨ ∃ g, a = some ⟨g, 0, none⟩) := by
  obtain ⟨h1, h2, h3⟩ := h
  rcases h3 with ⟨hv, hz⟩ | ⟨q, cap', cur, hv, _⟩
  · exact ⟨none, 0, by rw [hv, hz], .inl (List.length_eq_zero_iff.1 hz)⟩
  · exact ⟨_, cap', hv, .inr ⟨q, rfl⟩⟩
theorem Own.keep {w w' : World} {B : Nat} {v : Value} {xs : List Int} (h : Own w B v xs) (hb : Below w.heap.size w w') : Own w' B v xs := by
  obtain ⟨h1, h2, h3⟩ := h
  refine ⟨h1, h2, ?_⟩
  rcases h3 with h3 | ⟨q, cap', cur, hv, hq, hh, r⟩
  · exact .inl h3
  · refine .inr ⟨q, cap', cur, hv, hq, ?_, r⟩
    have hlt : q < w.heap.size := by
      rcases Nat.lt_or_ge q w.heap.size with h' | h'
      · exact h'
      · rw [Array.getElem?_eq_none h'] at hh; cases hh
    rw [hb.block q hlt]; exact hh
theorem grown_set' {w wr : World} {g o : Nat} {v : Value} (h : w.grownBy wr (some g)) : w.grownBy (wr.setCell ⟨g, o, none⟩ v) (some g) :=
  ⟨h.os, h.tape, h.output, by simpa [World.setCell] using h.size, fun k hk hne => (Below.heap_setCell _ _ _ _ (by simp at hne; exact hne)).trans (h.block k hk hne)⟩
/-- what reads as bytes below B reads so still when a row from B on has been written -/
theorem Rd.other {w w' : World} {v u : Value} {xs : List Int} {W : World} (h : Rd W u xs) (hb : Below W.heap.size W w) (hg : w.grownBy w' v.ownBlock) (hv : ∀ k, v.ownBlock = some k → W.heap.size ≤ k) : Rd w' u xs :=
  h.keep (hb.grown hg hb.size hv)

set_option maxHeartbeats 1000000 in
theorem mark_any (v : Value) (xs : List Int) (k : Int) (B : Nat) (w : World) (hv : Own w B v xs) (hn : xs.length ≤ 2000000) (k0 : 0 ≤ k) (k1 : k ≤ 2000000000) :
    Calls Try.prog 44 #[v, .int .i64 k] w fun e w' => e = .returned (.int .i64 (k + xs.length)) ∧ Own w' B v (marks k xs.length) ∧ w.grownBy w' v.ownBlock ∧ w'.heap.size = w.heap.size := by
  have HV := hid hv
  obtain ⟨a, cap, rfl, h3⟩ := own_form hv
  clear hv
  go_enter Try.func44, Try.ntmps44
  go_wp2_with fail
  go_loopw [1, 5] (fun t i wr => ∃ j : Nat, j ≤ xs.length ∧ i = .int .i64 j ∧ t = .int .i64 (k + j) ∧ Own wr B (.slice a xs.length cap) (half k xs j) ∧ w.grownBy wr (Value.slice a xs.length cap).ownBlock ∧ wr.heap.size = w.heap.size) (fun _ i _ => xs.length - (intOf i).toNat)
  case atStart => exact ⟨0, Nat.zero_le _, rfl, by simp, by rw [half_zero]; exact HV.out, ⟨rfl, rfl, rfl, Nat.le_refl _, fun _ _ _ => rfl⟩, rfl⟩
  case round =>
    obtain ⟨j, hj, rfl, rfl, ho, hg, hz⟩ := hrel
    by_cases hlt : j < xs.length
    · rcases h3 with rfl | ⟨g, rfl⟩
      · simp at hlt
      have hl := half_len k xs j hj
      obtain ⟨hc, hf, _, _⟩ := own_cell ho (i := j) (by omega)
      generalize (half k xs j).getD j 0 = X at hc
      have HO := hid (own_set ho (i := j) (y := (k + j) % 256) (by omega) (by omega) (by omega))
      rw [half_set k xs j hlt] at HO
      have HG := hid hg
      clear ho hg hl
      go_wp2
      go_roundw
      case rel => exact ⟨j + 1, by omega, by go_num, by go_num, HO.out, grown_set' HG.out, by simpa [World.setCell] using hz⟩
      case measure => simp [intOf]; omega
    · have hkl : j = xs.length := by omega
      subst hkl
      rw [half_all] at ho
      have HO := hid ho
      have HG := hid hg
      clear h3 ho hg
      go_wp2
      go_ret
      exact ⟨rfl, HO.out, HG.out, hz⟩

set_option maxHeartbeats 1000000 in
theorem held_any (v : Value) (n : Nat) (k : Int) (w : World) (hv : Rd w v (marks k n)) (k0 : 0 ≤ k) (k1 : k ≤ 2000000000) :
    Calls Try.prog 85 #[v, .int .i64 k] w fun e w' => e = .returned (.int .i64 (k + n)) ∧ w' = w := by
  obtain ⟨h1, h2, a, cap, hva, h3⟩ := hv
  rw [marks_len] at h2 hva h3
  subst hva
  clear h1
  go_enter Try.func85, Try.ntmps85
  go_wp2_with fail
  go_loop [1, 5] (fun t i => ∃ j : Nat, j ≤ n ∧ i = .int .i64 j ∧ t = .int .i64 (k + j)) (fun _ i => n - (intOf i).toNat)
  case atStart => exact ⟨0, Nat.zero_le _, rfl, by simp⟩
  case round =>
    obtain ⟨j, hj, rfl, rfl⟩ := hrel
    by_cases hlt : j < n
    · rcases h3 with h3 | ⟨b, off, rfl, hc⟩
      · have := congrArg List.length h3; rw [marks_len] at this; simp at this; omega
      have hcx := hc j hlt
      rw [marks_get k n j hlt] at hcx
      clear hc
      go_wp2
      all_goals
        go_round
        case rel => exact ⟨j + 1, by omega, by go_num, by go_num⟩
        case measure => simp [intOf]; omega
    · have hkl : j = n := by omega
      subst hkl
      clear h3
      go_wp2
      go_ret
      exact ⟨rfl, rfl⟩
end Go.Proofs.Ytbpomeegpkdekaa
