/- Whether a book is ok: the contracts of the program and of the specification. Conditions: the lists read as ints. -/
import Derived.Test.YtioikijheilliaaHrdBase
import Derived.Test.YtioikijheilliaaAllUp
namespace Go.Proofs.Ytioikijheilliaa
open Go.ChangeShapes Go.WideShapes Go.ChangeAt Go.RowKit Go.Joins Go.Deep
set_option linter.unusedVariables false
set_option linter.unusedSimpArgs false
set_option maxRecDepth 4000

/-- what a book must have at each place -/
def ptB (x y : Int) : Bool := inB x 0 60000 && (inB y 0 60000 && !(x == 0 && decide (0 < y)))
def zcB (x y : Int) : Bool := !(x == 0 && !(y == 0))
/-- whether a book is ok -/
def bookB (n : Nat) (xs : List Int) (m : Nat) (ys : List Int) : Bool := inB n 1 4 && (m == n && (List.range n).all fun i => ptB (xs.getD i 0) (ys.getD i 0))
theorem range_succ_all (p : Nat → Bool) (k : Nat) : (List.range (k + 1)).all p = ((List.range k).all p && p k) := by
  rw [List.range_succ, List.all_append]; simp
theorem all_range_iff {p : Nat → Bool} {n : Nat} : (List.range n).all p = true ↔ ∀ i, i < n → p i = true := by simp [List.all_eq_true]
theorem all_getD {xs : List Int} {n : Nat} {p : Int → Bool} (hl : xs.length = n) : xs.all p = (List.range n).all fun i => p (xs.getD i 0) := by
  rw [Bool.eq_iff_iff, List.all_eq_true, all_range_iff]
  constructor
  · intro h i hi
    exact h _ (by rw [List.getD_eq_getElem?_getD, List.getElem?_eq_getElem (by omega)]; exact List.getElem_mem _)
  · intro h x hx
    obtain ⟨i, hi, rfl⟩ := List.mem_iff_getElem.1 hx
    have := h i (by omega)
    rwa [List.getD_eq_getElem?_getD, List.getElem?_eq_getElem hi] at this
theorem book_parts {n m : Nat} {xs ys : List Int} (h1 : xs.length = n) (h2 : ys.length = m) :
    bookB n xs m ys = (inB n 1 4 && (m == n && ((xs.all fun y => inB y 0 60000) && ((ys.all fun y => inB y 0 60000) && (List.range n).all fun i => zcB (xs.getD i 0) (ys.getD i 0))))) := by
  unfold bookB
  by_cases hm : m = n
  · subst hm
    congr 1
    simp only [beq_self_eq_true, Bool.true_and]
    rw [all_getD h1, all_getD h2, Bool.eq_iff_iff]
    simp only [Bool.and_eq_true, all_range_iff]
    constructor
    · intro h
      refine ⟨fun i hi => ?_, fun i hi => ?_, fun i hi => ?_⟩ <;> have := h i hi <;> simp only [ptB, Bool.and_eq_true] at this
      · exact this.1
      · exact this.2.1
      · have h3 := this.2.2
        have h4 := this.2.1
        simp [inB, zcB] at h3 h4 ⊢
        omega
    · rintro ⟨ha, hb, hc⟩ i hi
      have q1 := ha i hi
      have q2 := hb i hi
      have q3 := hc i hi
      simp only [ptB, q1, q2, Bool.true_and]
      simp [zcB] at q3 ⊢
      omega
  · have : (m == n) = false := by simpa using hm
    simp [this]
set_option maxHeartbeats 4000000 in
theorem hrdOkm_any (u v : Value) (n m : Nat) (xs ys : List Int) (w : World) (hu : RdI 1 w u n xs) (hv : RdI 1 w v m ys) :
    Calls Try.prog 67 #[.agg #[u, v]] w fun e w' => e = .returned (.bool (bookB n xs m ys)) ∧ Below w.heap.size w w' := by
  have RX0 := hid hu
  have RY0 := hid hv
  obtain ⟨h1, h2, a1, c1, rfl, h3⟩ := hu
  obtain ⟨k1, k2, a2, c2', rfl, k3⟩ := hv
  rw [Nat.mul_one] at h1 k1
  have RX := hid (RX0.out.keep (below_alloc1 w (.cells #[.slice a1 n c1, .slice a2 m c2'] 44)))
  have RY := hid (RY0.out.keep (below_alloc1 w (.cells #[.slice a1 n c1, .slice a2 m c2'] 44)))
  cases c0 : inB n 1 4
  · have H := hid (show bookB n xs m ys = false by rw [book_parts h1 k1]; simp [c0])
    clear h1 k1 h3 k3
    go_enter Try.func67, Try.ntmps67
    go_wp2_with ((first | (go_at_call 58; refine (within_any _ _ _ _).mono ?_; rintro e w' ⟨rfl, rfl⟩)))
    go_ret
    exact ⟨ret_bool H.out.symm, below_alloc1 _ _⟩
  by_cases cm : m = n
  rotate_left
  · have dm : ((m : Int) != n) = true := by simpa using (by omega : ¬ (m : Int) = n)
    have H := hid (show bookB n xs m ys = false by rw [book_parts h1 k1]; simp [cm])
    clear h1 k1 h3 k3
    go_enter Try.func67, Try.ntmps67
    go_wp2_with ((first | (go_at_call 58; refine (within_any _ _ _ _).mono ?_; rintro e w' ⟨rfl, rfl⟩)))
    go_ret
    exact ⟨ret_bool H.out.symm, below_alloc1 _ _⟩
  subst cm
  cases c2 : (xs.all fun y => inB y 0 60000)
  · have H := hid (show bookB m xs m ys = false by rw [book_parts h1 k1]; simp [c2])
    clear h1 k1 h3 k3
    go_enter Try.func67, Try.ntmps67
    go_wp2_with ((first | (go_at_call 58; refine (within_any _ _ _ _).mono ?_; rintro e w' ⟨rfl, rfl⟩) | (go_at_call 82; refine (allUpTo_any 60000 _ m xs _ RX.out).mono ?_; clear RX; rintro e w' ⟨rfl, rfl⟩; rw [c2])))
    go_ret
    exact ⟨ret_bool H.out.symm, below_alloc1 _ _⟩
  cases c3 : (ys.all fun y => inB y 0 60000)
  · have H := hid (show bookB m xs m ys = false by rw [book_parts h1 k1]; simp [c3])
    clear h1 k1 h3 k3
    go_enter Try.func67, Try.ntmps67
    go_wp2_with ((first | (go_at_call 58; refine (within_any _ _ _ _).mono ?_; rintro e w' ⟨rfl, rfl⟩) | (go_at_call 82; refine (allUpTo_any 60000 _ m xs _ RX.out).mono ?_; clear RX; rintro e w' ⟨rfl, rfl⟩; rw [c2]) | (go_at_call 82; refine (allUpTo_any 60000 _ m ys _ RY.out).mono ?_; clear RY; rintro e w' ⟨rfl, rfl⟩; rw [c3])))
    go_ret
    exact ⟨ret_bool H.out.symm, below_alloc1 _ _⟩
  have HH := hid (show bookB m xs m ys = (List.range m).all fun i => zcB (xs.getD i 0) (ys.getD i 0) by rw [book_parts h1 k1]; simp [c0, c2, c3])
  go_enter Try.func67, Try.ntmps67
  go_wp2_with ((first | (go_at_call 58; refine (within_any _ _ _ _).mono ?_; rintro e w' ⟨rfl, rfl⟩) | (go_at_call 82; refine (allUpTo_any 60000 _ m xs _ RX.out).mono ?_; clear RX; rintro e w' ⟨rfl, rfl⟩; rw [c2]) | (go_at_call 82; refine (allUpTo_any 60000 _ m ys _ RY.out).mono ?_; clear RY; rintro e w' ⟨rfl, rfl⟩; rw [c3])))
  go_loop [3, 4, 34] (fun _ _ i => ∃ k : Nat, k ≤ m ∧ i = .int .i64 k ∧ (List.range k).all (fun i => zcB (xs.getD i 0) (ys.getD i 0)) = true) (fun _ _ i => m - (intOf i).toNat)
  case atStart => exact ⟨0, Nat.zero_le _, rfl, rfl⟩
  case round =>
    obtain ⟨k, hk, rfl, hall⟩ := hrel
    by_cases hlt : k < m
    · rcases h3 with h3 | ⟨b, off, rfl, hc⟩
      · omega
      rcases k3 with k3 | ⟨b', off', rfl, hc'⟩
      · omega
      have hcx := cell_keep (below_alloc1 w (.cells #[.slice (some ⟨b, off, none⟩) m c1, .slice (some ⟨b', off', none⟩) m c2'] 44)) (hc k (by omega))
      have hcy := cell_keep (below_alloc1 w (.cells #[.slice (some ⟨b, off, none⟩) m c1, .slice (some ⟨b', off', none⟩) m c2'] 44)) (hc' k (by omega))
      have HS := hid (range_succ_all (fun i => zcB (xs.getD i 0) (ys.getD i 0)) k)
      have HA := hid hall
      have HL := hid hlt
      obtain ⟨x, hx⟩ : ∃ x, x = xs.getD k 0 := ⟨_, rfl⟩
      obtain ⟨y, hy⟩ : ∃ y, y = ys.getD k 0 := ⟨_, rfl⟩
      rw [← hx] at hcx
      rw [← hy] at hcy
      have HX := hid hx
      have HY := hid hy
      clear hc hc' hall hx hy h1 k1
      by_cases x0 : x = 0
      · subst x0
        by_cases y0 : y = 0
        · subst y0
          go_wp2
          go_round
          case rel =>
            refine ⟨k + 1, by omega, by go_num, ?_⟩
            rw [HS.out, HA.out, ← HX.out, ← HY.out]; rfl
          case measure => simp [intOf]; omega
        · have g : (y == 0) = false := by simpa using y0
          go_wp2
          go_ret
          refine ⟨ret_bool ?_, below_alloc1 _ _⟩
          rw [HH.out]
          symm
          rw [Bool.eq_false_iff]
          intro hh
          have := all_range_iff.1 hh k HL.out
          rw [← HX.out, ← HY.out] at this
          simp [zcB, y0] at this
      · have g : (x == 0) = false := by simpa using x0
        go_wp2
        go_round
        case rel =>
          refine ⟨k + 1, by omega, by go_num, ?_⟩
          rw [HS.out, HA.out, ← HX.out, ← HY.out]; simp [zcB, x0]
        case measure => simp [intOf]; omega
    · obtain rfl : k = m := by omega
      have HA := hid hall
      clear hall h3 k3
      go_wp2
      go_ret
      exact ⟨ret_bool (by rw [HH.out, HA.out]), below_alloc1 _ _⟩
set_option maxHeartbeats 1000000 in
theorem hrdOk_any (u v : Value) (n m : Nat) (xs ys : List Int) (w : World) (hu : RdI 1 w u n xs) (hv : RdI 1 w v m ys) :
    Calls Try.prog 38 #[.agg #[u, v]] w fun e w' => e = .returned (.bool (bookB n xs m ys)) ∧ Below w.heap.size w w' := by
  have RX0 := hid hu
  have RY0 := hid hv
  obtain ⟨h1, h2, a1, c1, rfl, h3⟩ := hu
  obtain ⟨k1, k2, a2, c2', rfl, k3⟩ := hv
  have RX := hid (RX0.out.keep (below_alloc1 w (.cells #[.slice a1 n c1, .slice a2 m c2'] 44)))
  have RY := hid (RY0.out.keep (below_alloc1 w (.cells #[.slice a1 n c1, .slice a2 m c2'] 44)))
  go_enter Try.func38, Try.ntmps38
  go_wp2_with fail
  refine (hrdOkm_any _ _ n m xs ys _ RX.out RY.out).mono ?_
  rintro x w1 ⟨rfl, hb⟩
  go_wp2
  go_ret
  exact ⟨rfl, (below_alloc1 _ _).trans (hb.mono (by simp))⟩
set_option maxHeartbeats 4000000 in
theorem specHrdOk_any (u v : Value) (n m : Nat) (xs ys : List Int) (w : World) (hu : RdI 1 w u n xs) (hv : RdI 1 w v m ys) :
    Calls Try.prog 49 #[.agg #[u, v]] w fun e w' => e = .returned (.bool (bookB n xs m ys)) ∧ Below w.heap.size w w' := by
  obtain ⟨h1, h2, a1, c1, rfl, h3⟩ := hu
  obtain ⟨k1, k2, a2, c2', rfl, k3⟩ := hv
  rw [Nat.mul_one] at h1 k1
  cases c0 : inB n 1 4
  · have H := hid (show bookB n xs m ys = false by simp [bookB, c0])
    clear h3 k3
    go_enter Try.func49, Try.ntmps49
    go_wp2_with ((go_at_call 56; refine (l1In_any _ _ _ _).mono ?_; rintro e w' ⟨rfl, rfl⟩))
    go_ret
    exact ⟨ret_bool H.out.symm, below_alloc1 _ _⟩
  by_cases cm : m = n
  rotate_left
  · have H := hid (show bookB n xs m ys = false by simp [bookB, cm])
    have dm : ((m : Int) != n) = true := by simpa using (by omega : ¬ (m : Int) = n)
    clear h3 k3
    go_enter Try.func49, Try.ntmps49
    go_wp2_with ((go_at_call 56; refine (l1In_any _ _ _ _).mono ?_; rintro e w' ⟨rfl, rfl⟩))
    go_ret
    exact ⟨ret_bool H.out.symm, below_alloc1 _ _⟩
  subst cm
  have HH := hid (show bookB m xs m ys = (List.range m).all fun i => ptB (xs.getD i 0) (ys.getD i 0) by simp [bookB, c0])
  go_enter Try.func49, Try.ntmps49
  go_wp2_with ((go_at_call 56; refine (l1In_any _ _ _ _).mono ?_; rintro e w' ⟨rfl, rfl⟩))
  go_loop [3] (fun i => ∃ k : Nat, k ≤ m ∧ i = .int .i64 k ∧ (List.range k).all (fun i => ptB (xs.getD i 0) (ys.getD i 0)) = true) (fun i => m - (intOf i).toNat)
  case atStart => exact ⟨0, Nat.zero_le _, rfl, rfl⟩
  case round =>
    obtain ⟨k, hk, rfl, hall⟩ := hrel
    by_cases hlt : k < m
    · rcases h3 with h3 | ⟨b, off, rfl, hc⟩
      · omega
      rcases k3 with k3 | ⟨b', off', rfl, hc'⟩
      · omega
      have hcx := cell_keep (below_alloc1 w (.cells #[.slice (some ⟨b, off, none⟩) m c1, .slice (some ⟨b', off', none⟩) m c2'] 44)) (hc k (by omega))
      have hcy := cell_keep (below_alloc1 w (.cells #[.slice (some ⟨b, off, none⟩) m c1, .slice (some ⟨b', off', none⟩) m c2'] 44)) (hc' k (by omega))
      have HS := hid (range_succ_all (fun i => ptB (xs.getD i 0) (ys.getD i 0)) k)
      have HA := hid hall
      have HL := hid hlt
      obtain ⟨x, hx⟩ : ∃ x, x = xs.getD k 0 := ⟨_, rfl⟩
      obtain ⟨y, hy⟩ : ∃ y, y = ys.getD k 0 := ⟨_, rfl⟩
      rw [← hx] at hcx
      rw [← hy] at hcy
      have HX := hid hx
      have HY := hid hy
      clear hc hc' hall hx hy h1 k1
      cases d1 : inB x 0 60000
      · go_wp2_with ((go_at_call 56; refine (l1In_any _ _ _ _).mono ?_; rintro e w' ⟨rfl, rfl⟩))
        go_ret
        refine ⟨ret_bool ?_, below_alloc1 _ _⟩
        rw [HH.out]
        symm
        rw [Bool.eq_false_iff]
        intro hh
        have := all_range_iff.1 hh k HL.out
        rw [← HX.out, ← HY.out] at this
        simp [ptB, *] at this
      cases d2 : inB y 0 60000
      · go_wp2_with ((go_at_call 56; refine (l1In_any _ _ _ _).mono ?_; rintro e w' ⟨rfl, rfl⟩))
        go_ret
        refine ⟨ret_bool ?_, below_alloc1 _ _⟩
        rw [HH.out]
        symm
        rw [Bool.eq_false_iff]
        intro hh
        have := all_range_iff.1 hh k HL.out
        rw [← HX.out, ← HY.out] at this
        simp [ptB, *] at this
      by_cases x0 : x = 0
      · subst x0
        by_cases y0 : 0 < y
        · have g : decide (0 < y) = true := by simpa using y0
          go_wp2_with ((go_at_call 56; refine (l1In_any _ _ _ _).mono ?_; rintro e w' ⟨rfl, rfl⟩))
          go_ret
          refine ⟨ret_bool ?_, below_alloc1 _ _⟩
          rw [HH.out]
          symm
          rw [Bool.eq_false_iff]
          intro hh
          have := all_range_iff.1 hh k HL.out
          rw [← HX.out, ← HY.out] at this
          simp [ptB, *] at this
        · have g : decide (0 < y) = false := by simpa using y0
          go_wp2_with ((go_at_call 56; refine (l1In_any _ _ _ _).mono ?_; rintro e w' ⟨rfl, rfl⟩))
          go_round
          case rel =>
            refine ⟨k + 1, by omega, by go_num, ?_⟩
            rw [HS.out, HA.out, ← HX.out, ← HY.out]; simp [ptB, *]
          case measure => simp [intOf]; omega
      · have g : (x == 0) = false := by simpa using x0
        go_wp2_with ((go_at_call 56; refine (l1In_any _ _ _ _).mono ?_; rintro e w' ⟨rfl, rfl⟩))
        go_round
        case rel =>
          refine ⟨k + 1, by omega, by go_num, ?_⟩
          rw [HS.out, HA.out, ← HX.out, ← HY.out]; simp [ptB, *]
        case measure => simp [intOf]; omega
    · obtain rfl : k = m := by omega
      have HA := hid hall
      clear hall h3 k3
      go_wp2
      go_ret
      exact ⟨ret_bool (by rw [HH.out, HA.out]), below_alloc1 _ _⟩
end Go.Proofs.Ytioikijheilliaa
