/- What a rule lets through of a message: the contract of the program's method. Conditions: the message's value reads as bytes; Zero is not below -1, Cut lies in 0..8. -/
import Derived.Test.YtlkmooefebenlaaGrdFits
import Derived.Test.YtlkmooefebenlaaByteStrG
namespace Go.Proofs.Ytlkmooefebenlaa
open Go.ChangeShapes Go.WideShapes Go.ChangeAt Go.RowKit Go.Joins Go.Deep
set_option linter.unusedVariables false
set_option maxRecDepth 4000

/-- the message with the byte at z nought, if there is one -/
def zer (z : Int) (xs : List Int) : List Int := if 0 ≤ z then xs.set z.toNat 0 else xs
/-- what is let through -/
def thr (z c : Int) (xs : List Int) : List Int := (zer z xs).take c.toNat
theorem zer_len (z : Int) (xs : List Int) : (zer z xs).length = xs.length := by unfold zer; split <;> simp
theorem thr_len (z c : Int) (xs : List Int) : (thr z c xs).length ≤ xs.length := by unfold thr; rw [List.length_take, zer_len]; omega
theorem thr_take (z c : Int) (xs : List Int) : thr z c xs = zer z (xs.take c.toNat) := by
  unfold thr zer
  split
  · rw [List.take_set]
  · rfl
theorem zer_off {z : Int} {xs : List Int} (h : ¬ (0 ≤ z ∧ z < xs.length)) : zer z xs = xs := by
  unfold zer
  split
  · rw [List.set_eq_of_length_le]; omega
  · rfl
theorem rd_takeI {w : World} {a : Option Addr} {cap n : Nat} {xs : List Int} (h : Rd w (.slice a xs.length cap) xs) (hn : n ≤ xs.length) : Rd w (.slice a n cap) (xs.take n) := by
  obtain ⟨h1, h2, a', cap', hv, h3⟩ := h
  simp only [Value.slice.injEq] at hv
  obtain ⟨rfl, _, rfl⟩ := hv
  have e : (xs.take n).length = n := by simp; omega
  refine ⟨fun x hx => h1 x (List.mem_of_mem_take hx), by omega, a, cap, by rw [e], ?_⟩
  rcases h3 with rfl | ⟨b, off, ha, hc⟩
  · exact .inl (by simp)
  · refine .inr ⟨b, off, ha, fun i hi => ?_⟩
    rw [e] at hi
    rw [hc i (by omega), getD_take_lt _ _ _ _ hi]

set_option maxHeartbeats 4000000 in
theorem through_any (mi ma t lo hi z c : Int) (a : Option Addr) (cap : Nat) (xs : List Int) (w : World) (hv : Rd w (.slice a xs.length cap) xs) (hcap : xs.length ≤ cap) (c0 : 0 ≤ c) (c8 : c ≤ 8) :
    Calls Try.prog 70 #[.agg #[.int .i64 mi, .int .i64 ma, .int .i64 t, .int .i64 lo, .int .i64 hi, .int .i64 z, .int .i64 c], .slice a xs.length cap] w fun e w' => ∃ u, e = .returned u ∧ Own w' w.heap.size u (thr z c xs) ∧ Below w.heap.size w w' := by
  obtain ⟨C, rfl⟩ := Int.eq_ofNat_of_zero_le c0
  have hN := hv.2.1
  have q5 : (w.alloc (.cells #[.int .i64 mi, .int .i64 ma, .int .i64 t, .int .i64 lo, .int .i64 hi, .int .i64 z, .int .i64 (C : Int)] 46)).cell? ⟨w.heap.size, 5, none⟩ = some (.int .i64 z) := by go_simp
  by_cases h : C ≤ xs.length
  · have hle : (C : Int) ≤ (xs.length : Int) := by omega
    have hm : min (C : Int) (xs.length : Int) = (C : Int) := by omega
    have h63 : (C : Int) ≤ (cap : Int) := by omega
    have h63' : C ≤ cap := by omega
    have HT := hid (show thr z (C : Int) xs = zer z (xs.take C) by rw [thr_take]; simp)
    have R0 := hid ((rd_takeI (n := C) hv h).keep (below_alloc1 w (.cells #[.int .i64 mi, .int .i64 ma, .int .i64 t, .int .i64 lo, .int .i64 hi, .int .i64 z, .int .i64 (C : Int)] 46)))
    have HL := hid (show (xs.take C).length = C by simp; omega)
    have hB1 : ∀ x ∈ (xs.take C), 0 ≤ x ∧ x ≤ 255 := R0.out.1
    obtain ⟨L, hL⟩ : ∃ L, xs.take C = L := ⟨_, rfl⟩
    rw [hL] at HT R0 HL
    clear hB1
    have HB := hid (below_alloc1 w (.cells #[.int .i64 mi, .int .i64 ma, .int .i64 t, .int .i64 lo, .int .i64 hi, .int .i64 z, .int .i64 (C : Int)] 46))
    clear hv hL
    go_enter Try.func70, Try.ntmps70
    go_wp2_with fail
    refine (clone_any _ L _ R0.out).mono ?_
    rintro e w1 ⟨u, rfl, o1, b1⟩
    obtain ⟨ua, uc, rfl, hug⟩ := own_form o1
    have q5 := cell_keep b1 q5
    have B1 := hid (HB.out.trans (b1.mono HB.out.size))
    have O1 := hid o1
    have nL : L.length ≤ 2000000 := by rw [HL.out]; omega
    clear o1 b1
    by_cases hz : 0 ≤ z ∧ z < L.length
    · obtain ⟨Z, rfl⟩ := Int.eq_ofNat_of_zero_le hz.1
      have hzn : Z < L.length := by omega
      have hw : inB (Z : Int) 0 ((L.length : Int) - 1) = true := by simp [inB]; omega
      have t0 : (0 : Int) ≤ (Z : Int) := by omega
      have t1 : (Z : Int) < (L.length : Int) := by omega
      rcases hug with rfl | ⟨g, rfl⟩
      · simp at hzn
      obtain ⟨hc, hf, hg, _⟩ := own_cell O1.out hzn
      have OS := hid (own_set O1.out hzn (y := 0) (by omega) (by omega))
      have EZ := hid (show thr (Z : Int) (C : Int) xs = L.set Z 0 by rw [HT.out]; simp [zer])
      generalize L.getD Z 0 = X at hc
      clear hz
      go_wp2_with (go_at_call 53; refine (within_any _ _ _ _).mono ?_; rintro e w' ⟨rfl, rfl⟩)
      go_ret
      exact ⟨_, rfl, by rw [EZ.out]; exact OS.out.low (by simp), B1.out.setCell (by simp at hg ⊢; omega) _⟩
    · have hw : inB z 0 ((L.length : Int) - 1) = false := by simp [inB]; omega
      have EZ := hid (show thr z (C : Int) xs = L by rw [HT.out, zer_off hz])
      clear hz
      go_wp2_with (go_at_call 53; refine (within_any _ _ _ _).mono ?_; rintro e w' ⟨rfl, rfl⟩)
      go_ret
      exact ⟨_, rfl, by rw [EZ.out]; exact O1.out.low (by simp), B1.out⟩
  · have hle : (xs.length : Int) < (C : Int) := by omega
    have hm : min (C : Int) (xs.length : Int) = (xs.length : Int) := by omega
    have h63 : (xs.length : Int) ≤ (cap : Int) := by omega
    have HT := hid (show thr z (C : Int) xs = zer z (xs) by rw [thr_take]; simp; rw [List.take_of_length_le (by omega)])
    have R0 := hid ((hv).keep (below_alloc1 w (.cells #[.int .i64 mi, .int .i64 ma, .int .i64 t, .int .i64 lo, .int .i64 hi, .int .i64 z, .int .i64 (C : Int)] 46)))
    have HL := hid (show (xs).length = xs.length by rfl)
    have hB1 : ∀ x ∈ (xs), 0 ≤ x ∧ x ≤ 255 := R0.out.1
    clear hB1
    have HB := hid (below_alloc1 w (.cells #[.int .i64 mi, .int .i64 ma, .int .i64 t, .int .i64 lo, .int .i64 hi, .int .i64 z, .int .i64 (C : Int)] 46))
    clear hv
    go_enter Try.func70, Try.ntmps70
    go_wp2_with fail
    refine (clone_any _ xs _ R0.out).mono ?_
    rintro e w1 ⟨u, rfl, o1, b1⟩
    obtain ⟨ua, uc, rfl, hug⟩ := own_form o1
    have q5 := cell_keep b1 q5
    have B1 := hid (HB.out.trans (b1.mono HB.out.size))
    have O1 := hid o1
    have nL : xs.length ≤ 2000000 := hN
    clear o1 b1
    by_cases hz : 0 ≤ z ∧ z < xs.length
    · obtain ⟨Z, rfl⟩ := Int.eq_ofNat_of_zero_le hz.1
      have hzn : Z < xs.length := by omega
      have hw : inB (Z : Int) 0 ((xs.length : Int) - 1) = true := by simp [inB]; omega
      have t0 : (0 : Int) ≤ (Z : Int) := by omega
      have t1 : (Z : Int) < (xs.length : Int) := by omega
      rcases hug with rfl | ⟨g, rfl⟩
      · simp at hzn
      obtain ⟨hc, hf, hg, _⟩ := own_cell O1.out hzn
      have OS := hid (own_set O1.out hzn (y := 0) (by omega) (by omega))
      have EZ := hid (show thr (Z : Int) (C : Int) xs = xs.set Z 0 by rw [HT.out]; simp [zer])
      generalize xs.getD Z 0 = X at hc
      clear hz
      go_wp2_with (go_at_call 53; refine (within_any _ _ _ _).mono ?_; rintro e w' ⟨rfl, rfl⟩)
      go_ret
      exact ⟨_, rfl, by rw [EZ.out]; exact OS.out.low (by simp), B1.out.setCell (by simp at hg ⊢; omega) _⟩
    · have hw : inB z 0 ((xs.length : Int) - 1) = false := by simp [inB]; omega
      have EZ := hid (show thr z (C : Int) xs = xs by rw [HT.out, zer_off hz])
      clear hz
      go_wp2_with (go_at_call 53; refine (within_any _ _ _ _).mono ?_; rintro e w' ⟨rfl, rfl⟩)
      go_ret
      exact ⟨_, rfl, by rw [EZ.out]; exact O1.out.low (by simp), B1.out⟩
end Go.Proofs.Ytlkmooefebenlaa
