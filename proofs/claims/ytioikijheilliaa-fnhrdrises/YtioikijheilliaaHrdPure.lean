/- Two hellos in either order: what is heard as the greater of two pairs; the laws' caInts. Conditions: the lists read as ints. -/
import Derived.Test.YtioikijheilliaaHrdHearC
namespace Go.Proofs.Ytioikijheilliaa
open Go.ChangeShapes Go.WideShapes Go.ChangeAt Go.RowKit Go.Joins Go.Deep
set_option linter.unusedVariables false
set_option linter.unusedSimpArgs false
set_option maxRecDepth 4000
/-- the later of two: its life, its number -/
def Hb (l q b s : Int) : Int := if l < b then b else l
def Hs (l q b s : Int) : Int := if l < b then s else if b = l ∧ q < s then s else q
theorem hb_comm (l q b s b' s' : Int) : Hb (Hb l q b s) (Hs l q b s) b' s' = Hb (Hb l q b' s') (Hs l q b' s') b s := by
  unfold Hb
  repeat' split
  all_goals omega
set_option maxHeartbeats 4000000 in
theorem hs_comm (l q b s b' s' : Int) : Hs (Hb l q b s) (Hs l q b s) b' s' = Hs (Hb l q b' s') (Hs l q b' s') b s := by
  rcases Int.lt_trichotomy l b with h1 | h1 | h1 <;> rcases Int.lt_trichotomy l b' with h2 | h2 | h2 <;> rcases Int.lt_trichotomy b b' with h3 | h3 | h3
  all_goals first
    | (exfalso; omega)
    | (simp only [Hs, Hb]
       repeat' split
       all_goals omega)
theorem cd_again (l q b s : Int) : cdH (Hb l q b s) (Hs l q b s) b s = 3 := by
  unfold cdH Hb Hs
  repeat' split
  all_goals omega
theorem cd_cases (l q b s : Int) : cdH l q b s = 1 ∨ cdH l q b s = 2 ∨ cdH l q b s = 3 := by
  unfold cdH
  split
  · exact .inl rfl
  · split
    · exact .inr (.inl rfl)
    · exact .inr (.inr rfl)
theorem set_getD {xs : List Int} {i : Nat} (a : Int) (h : xs[i]?.getD 0 = a) : xs.set i a = xs := by
  apply List.ext_getElem
  · simp
  · intro j h1 h2
    rw [List.getElem_set]
    split
    · rename_i e; subst e; rw [← h]; simp [h2]
    · rfl
/-- a hello that is noted -/
theorem h_yes {n : Nat} {xs ys : List Int} {i : Nat} {b s : Int} (lx : xs.length = n) (ly : ys.length = n) (h : hOk n xs n ys (i : Int) b s = true) :
    i < n ∧ hK n xs n ys (i : Int) b s = n ∧ hC n xs n ys (i : Int) b s = cdH (xs.getD i 0) (ys.getD i 0) b s ∧ hX n xs n ys (i : Int) b s = xs.set i (Hb (xs.getD i 0) (ys.getD i 0) b s) ∧ hY n xs n ys (i : Int) b s = ys.set i (Hs (xs.getD i 0) (ys.getD i 0) b s) := by
  have hn := h
  simp only [hOk, Bool.and_eq_true] at hn
  have hi : 0 ≤ (i : Int) ∧ (i : Int) ≤ (n : Int) - 1 := by simpa [inB] using hn.2.1
  refine ⟨by omega, by simp [hK, h], by simp [hC, h], ?_, ?_⟩
  · simp only [hX, hC, h, if_true, Int.toNat_natCast]
    by_cases h1 : xs.getD i 0 < b
    · simp only [cdH, Hb, h1, if_true]
      rfl
    · by_cases h2 : b = xs.getD i 0 ∧ ys.getD i 0 < s
      · obtain ⟨h2, h3⟩ := h2
        subst h2
        have hc : cdH (xs.getD i 0) (ys.getD i 0) (xs.getD i 0) s = 2 := by unfold cdH; rw [if_neg h1, if_pos ⟨rfl, h3⟩]
        rw [hc, if_neg (by decide)]
        simp [Hb]
      · simp only [cdH, Hb, h1, h2, if_true, if_false]
        exact (set_getD _ (by simp [List.getD_eq_getElem?_getD])).symm
  · simp only [hY, hC, h, if_true, Int.toNat_natCast]
    by_cases h1 : xs.getD i 0 < b
    · simp only [cdH, Hs, h1, if_true]
      rfl
    · by_cases h2 : b = xs.getD i 0 ∧ ys.getD i 0 < s
      · obtain ⟨h2, h3⟩ := h2
        subst h2
        have hc : cdH (xs.getD i 0) (ys.getD i 0) (xs.getD i 0) s = 2 := by unfold cdH; rw [if_neg h1, if_pos ⟨rfl, h3⟩]
        rw [hc, if_neg (by decide)]
        unfold Hs
        rw [if_neg h1, if_pos ⟨rfl, h3⟩]
      · simp only [cdH, Hs, h1, h2, if_true, if_false]
        exact (set_getD _ (by simp [List.getD_eq_getElem?_getD])).symm
/-- a book in which a hello was noted is a book -/
theorem book_heard {n : Nat} {xs ys : List Int} {i : Nat} {b s : Int} (lx : xs.length = n) (ly : ys.length = n) (h : hOk n xs n ys (i : Int) b s = true) :
    bookB n (xs.set i (Hb (xs.getD i 0) (ys.getD i 0) b s)) n (ys.set i (Hs (xs.getD i 0) (ys.getD i 0) b s)) = true := by
  have hn := h
  simp only [hOk, Bool.and_eq_true] at hn
  obtain ⟨hk, h1, h2, h3⟩ := hn
  simp only [bookB, Bool.and_eq_true] at hk ⊢
  refine ⟨hk.1, by simp, ?_⟩
  have hall := hk.2.2
  rw [List.all_eq_true] at hall ⊢
  intro j hj
  have hp := hall j hj
  have hj' : j < n := by simpa using hj
  simp only [List.getD_eq_getElem?_getD, List.getElem?_set] at hp ⊢
  by_cases e : i = j
  · subst e
    simp only [if_true, lx, ly, hj', Option.getD_some]
    have b1 : 1 ≤ b ∧ b ≤ 60000 := by simpa [inB] using h2
    have s1 : 0 ≤ s ∧ s ≤ 60000 := by simpa [inB] using h3
    generalize xs[i]?.getD 0 = l at hp ⊢
    generalize ys[i]?.getD 0 = q at hp ⊢
    simp [ptB, inB] at hp
    unfold Hb Hs
    split
    · simp [ptB, inB]; omega
    · split
      · simp [ptB, inB]; omega
      · simp [ptB, inB]; omega
  · simp only [e, if_false]
    exact hp
theorem hok_same {n : Nat} {xs ys xs' ys' : List Int} (h : bookB n xs n ys = true) (h' : bookB n xs' n ys' = true) (o l s : Int) : hOk n xs' n ys' o l s = hOk n xs n ys o l s := by
  simp only [hOk, h, h']
/-- two hellos leave the same in either order -/
theorem set_comm2 (xs ys : List Int) (n i j : Nat) (lx : xs.length = n) (ly : ys.length = n) (hi : i < n) (hj : j < n) (b s b' s' : Int) :
    let x := xs.set i (Hb (xs.getD i 0) (ys.getD i 0) b s)
    let y := ys.set i (Hs (xs.getD i 0) (ys.getD i 0) b s)
    let x' := xs.set j (Hb (xs.getD j 0) (ys.getD j 0) b' s')
    let y' := ys.set j (Hs (xs.getD j 0) (ys.getD j 0) b' s')
    x.set j (Hb (x.getD j 0) (y.getD j 0) b' s') = x'.set i (Hb (x'.getD i 0) (y'.getD i 0) b s) ∧ y.set j (Hs (x.getD j 0) (y.getD j 0) b' s') = y'.set i (Hs (x'.getD i 0) (y'.getD i 0) b s) := by
  intro x y x' y'
  by_cases e : i = j
  · subst e
    have e1 : x.getD i 0 = Hb (xs.getD i 0) (ys.getD i 0) b s := by simp [x, lx, hi]
    have e2 : y.getD i 0 = Hs (xs.getD i 0) (ys.getD i 0) b s := by simp [y, ly, hi]
    have e3 : x'.getD i 0 = Hb (xs.getD i 0) (ys.getD i 0) b' s' := by simp [x', lx, hi]
    have e4 : y'.getD i 0 = Hs (xs.getD i 0) (ys.getD i 0) b' s' := by simp [y', ly, hi]
    rw [e1, e2, e3, e4]
    refine ⟨?_, ?_⟩
    · simp only [x, x', List.set_set]
      rw [hb_comm]
    · simp only [y, y', List.set_set]
      rw [hs_comm]
  · have e' : ¬ j = i := fun h => e h.symm
    have e1 : x.getD j 0 = xs.getD j 0 := by simp [x, List.getElem?_set, e]
    have e2 : y.getD j 0 = ys.getD j 0 := by simp [y, List.getElem?_set, e]
    have e3 : x'.getD i 0 = xs.getD i 0 := by simp [x', List.getElem?_set, e']
    have e4 : y'.getD i 0 = ys.getD i 0 := by simp [y', List.getElem?_set, e']
    rw [e1, e2, e3, e4]
    exact ⟨List.set_comm _ _ e, List.set_comm _ _ e⟩
set_option maxHeartbeats 1000000 in
theorem caInts_same (v u : Value) (n : Nat) (xs : List Int) (w : World) (hv : RdI 1 w v n xs) (hu : RdI 1 w u n xs) :
    Calls Try.prog 37 #[v, u] w fun e w' => e = .returned (.bool true) ∧ Below w.heap.size w w' := by
  obtain ⟨h1, h2, a, cap, rfl, h3⟩ := hv
  obtain ⟨_, _, a', cap', rfl, h3'⟩ := hu
  rw [Nat.mul_one] at h1
  go_enter Try.func37, Try.ntmps37
  go_wp2_with fail
  go_loopw [5] (fun i wr => ∃ k : Nat, k ≤ n ∧ i = .int .i64 k ∧ Below w.heap.size w wr) (fun i _ => n - (intOf i).toNat)
  case atStart => exact ⟨0, Nat.zero_le _, rfl, Below.refl _ _⟩
  case round =>
    obtain ⟨k, hk, rfl, hB⟩ := hrel
    by_cases hlt : k < n
    · rcases h3 with rfl | ⟨b, off, rfl, hc⟩
      · omega
      rcases h3' with rfl | ⟨b', off', rfl, hc'⟩
      · omega
      have hcx := cell_keep hB (hc k (by omega))
      have hcy := cell_keep hB (hc' k (by omega))
      generalize xs.getD k 0 = X at hcx hcy
      have hk0 : (0 : Int) ≤ (k : Int) := by omega
      have hk1 : (k : Int) < (n : Int) := by omega
      have HB := hid hB
      clear hc hc' hB
      go_wp2_with fail
      go_quiet (fail)
      go_wp2
      go_roundw
      case rel => exact ⟨k + 1, by omega, by go_num, HB.out.trans (below_draws _ _ _)⟩
      case measure => simp [intOf]; omega
    · obtain rfl : k = n := by omega
      have HB := hid hB
      clear h3 h3' hB
      go_wp2
      go_ret
      exact ⟨rfl, HB.out⟩
end Go.Proofs.Ytioikijheilliaa
