/- The contract of the specification's FrmSpill. -/
import Derived.Test.YtbmjaiojeehifaaFrmSpill
namespace Go.Proofs.Ytbmjaiojeehifaa
open Go.ChangeShapes Go.WideShapes Go.ChangeAt Go.RowKit Go.Joins Go.Deep
set_option linter.unusedVariables false
set_option linter.unusedSimpArgs false

set_option maxHeartbeats 4000000 in
theorem specSpill_any (a : Option Addr) (cap : Nat) (xs : List Int) (w : World) (hv : Rd w (.slice a xs.length cap) xs) (hcap : xs.length ≤ cap) :
    Calls Try.prog 23 #[.slice a xs.length cap] w fun e w' => ∃ u, e = .returned (.tuple #[u, .bool (spR xs), .bool (spOk xs)]) ∧ Own w' w.heap.size u (spL xs) ∧ Below w.heap.size w w' := by
  have h2 := hv.2.1
  by_cases h9 : xs.length = 9
  · have HV := hid hv
    obtain ⟨b, off, rfl, hc⟩ : ∃ b off, a = some ⟨b, off, none⟩ ∧ ∀ i, i < xs.length → w.cell? ⟨b, off + i, none⟩ = some (.int .u8 (xs.getD i 0)) := by
      obtain ⟨_, _, a', cap', e, h3⟩ := hv
      simp at e
      obtain ⟨rfl, rfl⟩ := e
      rcases h3 with rfl | ⟨b, off, rfl, hc⟩
      · simp at h9
      · exact ⟨b, off, rfl, hc⟩
    have hx0 := hv.1 (spN xs) (by
      obtain ⟨a, b, c, d, e, f, g, i, j, rfl⟩ := list9 h9
      simp [spN])
    obtain ⟨N, hN⟩ : ∃ N, spN xs = N := ⟨_, rfl⟩
    have hc0 : w.cell? ⟨b, off, none⟩ = some (.int .u8 N) := by rw [← hN]; exact hc 0 (by omega)
    have HC := hid hc
    rw [hN] at hx0
    have HI := hid (fun h9' => sp_iff h9 (by rw [hN]; exact hx0.1) (h9' : spN xs ≤ 9))
    rw [h9] at hcap HV HC ⊢
    clear hc hv
    have HN := hid hN
    clear hN
    by_cases hle : N ≤ 9
    · obtain ⟨K, rfl⟩ := Int.eq_ofNat_of_zero_le hx0.1
      have hK9 : K ≤ 9 := by omega
      have hKK : decide (0 < (K : Int)) = decide (0 < K) := by simp
      have hK9' : decide ((K : Int) ≤ 9) = true := by simp; omega
      have HI := HI.out (by rw [HN.out]; exact hle)
      rw [HN.out, hKK] at HI
      simp only [Int.toNat_natCast] at HI
      have HQ : Hid ((spOk xs = true ↔ ∀ k, K ≤ k → 0 < k → k < 9 → xs.getD k 0 = 0) ∧ spR xs = (spOk xs && decide (0 < K))) := by
        refine ⟨?_, ?_⟩
        · unfold spOk; rw [HN.out, hK9', hKK]; simp only [h9, decide_true, Bool.true_and, decide_eq_true_eq, HI]
        · unfold spR; rw [HN.out, hKK]
      have HM : Hid (0 < K → Rd w (.slice (some ⟨b, off + 1, none⟩) (K - 1) (cap - 1)) (spM xs)) := by
        intro h0
        have h := rd_mid (n := max 1 K) (by rw [h9]; exact HV.out) (cap - 1) (by omega) (by omega)
        have e : (spN xs).toNat = K := by rw [HN.out]; simp
        have e1 : max 1 K - 1 = K - 1 := by omega
        rw [e1] at h
        unfold spM; rw [e]; exact h
      have HM0 : Hid (K = 0 → spM xs = []) := by
        intro h0
        have e : (spN xs).toNat = K := by rw [HN.out]; simp
        unfold spM; rw [e, h0]
        obtain ⟨a, b, c, d, e, f, g, i, j, rfl⟩ := list9 h9
        rfl
      clear hKK hK9' HI HV
      go_enter Try.func23, Try.ntmps23
      go_wp2_with fail
      go_loop [6] (fun i => ∃ k : Nat, K ≤ k ∧ k ≤ 9 ∧ i = .int .i64 k ∧ Hid (∀ j, K ≤ j → 0 < j → j < k → xs.getD j 0 = 0)) (fun i => 9 - (intOf i).toNat)
      case atStart => exact ⟨K, by omega, by omega, rfl, fun j q1 q2 q3 => by omega⟩
      case round =>
        obtain ⟨k, k0, k1, rfl, HK⟩ := hrel
        by_cases hlt : k < 9
        · by_cases hz : k = 0
          · subst hz
            go_wp2_with fail
            exact ⟨⟨1, by omega, by omega, by go_num, fun j q1 q2 q3 => by omega⟩, by simp [intOf]⟩
          · have hp : (0 : Int) < (k : Int) := by omega
            have hck := HC.out k hlt
            by_cases hy : xs.getD k 0 = 0
            · rw [hy] at hck
              go_wp2_with fail
              refine ⟨⟨k + 1, by omega, by omega, by go_num, fun j q1 q2 q3 => ?_⟩, by simp [intOf]; omega⟩
              by_cases hj : j = k
              · rw [hj]; exact hy
              · exact HK.out j q1 q2 (by omega)
            · obtain ⟨Y, hY⟩ : ∃ Y, xs.getD k 0 = Y := ⟨_, rfl⟩
              rw [hY] at hck hy
              have H : Hid (spOk xs = false ∧ spR xs = false ∧ spL xs = []) := by
                have : spOk xs = false := by
                  cases hs : spOk xs
                  · rfl
                  · exact absurd (hY ▸ HQ.out.1.1 hs k k0 (by omega) hlt) hy
                exact ⟨this, by simp [spR, this], by simp [spL, this]⟩
              clear hY
              go_wp2_with fail
              refine bodyPost_ret (v := .tuple #[.slice (some ⟨w.heap.size, 0, none⟩) 0 0, .bool false, .bool false]) (by simp [results, Try.results23, go_sem]) rfl ?_
              rw [H.out.1, H.out.2.1, H.out.2.2]
              exact ⟨_, rfl, own_none _, below_alloc1 _ _⟩
        · obtain rfl : k = 9 := by omega
          have H1 : Hid (spOk xs = true) := by
            exact HQ.out.1.2 HK.out
          by_cases hz : K = 0
          · have H : Hid (spR xs = false ∧ spL xs = []) := ⟨by rw [HQ.out.2]; simp [hz], by unfold spL; rw [H1.out]; simpa using HM0.out hz⟩
            subst hz
            go_wp2_with fail
            refine bodyPost_ret (v := .tuple #[.slice (some ⟨w.heap.size, 0, none⟩) 0 0, .bool false, .bool true]) (by simp [results, Try.results23, go_sem]) rfl ?_
            rw [H1.out, H.out.1, H.out.2]
            exact ⟨_, rfl, own_none _, below_alloc1 _ _⟩
          · have hp : 0 < K := by omega
            have H : Hid (spR xs = true ∧ spL xs = spM xs) := ⟨by rw [HQ.out.2, H1.out]; simp [hp], by unfold spL; rw [H1.out]; simp⟩
            have MM := hid (HM.out hp)
            have hz' : ¬ (K : Int) = 0 := by omega
            go_wp2_with fail
            refine (l2Copy_any _ (spM xs) _ MM.out).mono ?_
            rintro e w3 ⟨u, rfl, o3, b3⟩
            have O3 := hid o3
            have B3 := hid b3
            clear o3 b3
            go_wp2
            refine bodyPost_ret (v := .tuple #[u, .bool true, .bool true]) (by simp [results, Try.results23, go_sem]) rfl ?_
            rw [H1.out, H.out.1, H.out.2]
            exact ⟨_, rfl, O3.out, B3.out⟩
    · have H : Hid (spOk xs = false ∧ spR xs = false ∧ spL xs = []) := by
        have : spOk xs = false := by unfold spOk; rw [HN.out]; simp [hle]
        exact ⟨this, by simp [spR, this], by simp [spL, this]⟩
      rw [H.out.1, H.out.2.1, H.out.2.2]
      go_enter Try.func23, Try.ntmps23
      go_wp2
      refine bodyPost_ret (v := .tuple #[.slice (some ⟨w.heap.size, 0, none⟩) 0 0, .bool false, .bool false]) (by simp [results, Try.results23, go_sem]) rfl ?_
      exact ⟨_, rfl, own_none _, below_alloc1 _ _⟩
  · have H : Hid (spOk xs = false ∧ spR xs = false ∧ spL xs = []) := by
      have : spOk xs = false := by simp [spOk, h9]
      exact ⟨this, by simp [spR, this], by simp [spL, this]⟩
    rw [H.out.1, H.out.2.1, H.out.2.2]
    have h9' : ¬ (xs.length : Int) = 9 := by omega
    clear hv
    go_enter Try.func23, Try.ntmps23
    go_wp2
    refine bodyPost_ret (v := .tuple #[.slice (some ⟨w.heap.size, 0, none⟩) 0 0, .bool false, .bool false]) (by simp [results, Try.results23, go_sem]) rfl ?_
    exact ⟨_, rfl, own_none _, below_alloc1 _ _⟩
end Go.Proofs.Ytbmjaiojeehifaa
