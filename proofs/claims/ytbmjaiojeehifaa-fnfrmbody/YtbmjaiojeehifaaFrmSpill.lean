/- The contract of the program's FrmSpill. -/
import Derived.Test.YtbmjaiojeehifaaByteStr
namespace Go.Proofs.Ytbmjaiojeehifaa
open Go.ChangeShapes Go.WideShapes Go.ChangeAt Go.RowKit Go.Joins Go.Deep
set_option linter.unusedVariables false
set_option linter.unusedSimpArgs false

def spN (xs : List Int) : Int := xs.getD 0 0
def spM (xs : List Int) : List Int := (xs.take (max 1 (spN xs).toNat)).drop 1
def spOk (xs : List Int) : Bool := decide (xs.length = 9) && (decide (spN xs ≤ 9) && decide (fillL (spM xs) (decide (0 < spN xs)) = xs))
def spR (xs : List Int) : Bool := spOk xs && decide (0 < spN xs)
def spL (xs : List Int) : List Int := if spOk xs then spM xs else []

theorem list9 {xs : List Int} (h : xs.length = 9) : ∃ a b c d e f g i j, xs = [a, b, c, d, e, f, g, i, j] := by
  match xs, h with
  | [a, b, c, d, e, f, g, i, j], _ => exact ⟨a, b, c, d, e, f, g, i, j, rfl⟩
theorem sp_iff {xs : List Int} (h : xs.length = 9) (h0 : 0 ≤ spN xs) (h9 : spN xs ≤ 9) : (fillL (spM xs) (decide (0 < spN xs)) = xs) ↔ ∀ k, (spN xs).toNat ≤ k → 0 < k → k < 9 → xs.getD k 0 = 0 := by
  obtain ⟨a, b, c, d, e, f, g, i, j, rfl⟩ := list9 h
  have ha : spN [a, b, c, d, e, f, g, i, j] = a := rfl
  rw [ha] at h0 h9 ⊢
  unfold spM
  rw [ha]
  have hk : (∀ k, a.toNat ≤ k → 0 < k → k < 9 → [a, b, c, d, e, f, g, i, j].getD k 0 = 0) ↔ ((a.toNat ≤ 1 → b = 0) ∧ (a.toNat ≤ 2 → c = 0) ∧ (a.toNat ≤ 3 → d = 0) ∧ (a.toNat ≤ 4 → e = 0) ∧ (a.toNat ≤ 5 → f = 0) ∧ (a.toNat ≤ 6 → g = 0) ∧ (a.toNat ≤ 7 → i = 0) ∧ (a.toNat ≤ 8 → j = 0)) := by
    constructor
    · intro h
      refine ⟨fun q => by simpa using h 1 q (by omega) (by omega), fun q => by simpa using h 2 q (by omega) (by omega), fun q => by simpa using h 3 q (by omega) (by omega), fun q => by simpa using h 4 q (by omega) (by omega), fun q => by simpa using h 5 q (by omega) (by omega), fun q => by simpa using h 6 q (by omega) (by omega), fun q => by simpa using h 7 q (by omega) (by omega), fun q => by simpa using h 8 q (by omega) (by omega)⟩
    · rintro ⟨h1, h2, h3, h4, h5, h6, h7, h8⟩ k q1 q2 q3
      match k, q3 with
      | 1, _ => exact h1 q1
      | 2, _ => exact h2 q1
      | 3, _ => exact h3 q1
      | 4, _ => exact h4 q1
      | 5, _ => exact h5 q1
      | 6, _ => exact h6 q1
      | 7, _ => exact h7 q1
      | 8, _ => exact h8 q1
  rw [hk]
  clear hk ha h
  obtain ⟨n, rfl⟩ := Int.eq_ofNat_of_zero_le h0
  match n, (show n < 10 by omega) with
  | 0, _ => simp [fillL, fillOk, List.replicate]; omega
  | 1, _ => simp [fillL, fillOk, List.replicate]; omega
  | 2, _ => simp [fillL, fillOk, List.replicate]; omega
  | 3, _ => simp [fillL, fillOk, List.replicate]; omega
  | 4, _ => simp [fillL, fillOk, List.replicate]; omega
  | 5, _ => simp [fillL, fillOk, List.replicate]; omega
  | 6, _ => simp [fillL, fillOk, List.replicate]; omega
  | 7, _ => simp [fillL, fillOk, List.replicate]; omega
  | 8, _ => simp [fillL, fillOk, List.replicate]; omega
  | 9, _ => simp [fillL, fillOk, List.replicate]

theorem rd_mid {w : World} {b off cap n : Nat} {xs : List Int} (h : Rd w (.slice (some ⟨b, off, none⟩) xs.length cap) xs) (c : Nat) (h1 : 1 ≤ n) (hn : n ≤ xs.length) : Rd w (.slice (some ⟨b, off + 1, none⟩) (n - 1) c) ((xs.take n).drop 1) := by
  obtain ⟨r1, r2, a, cap', hv, r3⟩ := h
  refine ⟨fun x hx => r1 x (List.mem_of_mem_take (List.mem_of_mem_drop hx)), by simp; omega, some ⟨b, off + 1, none⟩, c, by simp; omega, .inr ⟨b, off + 1, rfl, fun i hi => ?_⟩⟩
  simp at hi
  rcases r3 with rfl | ⟨b', off', ha, hc⟩
  · simp at hn; omega
  · simp at hv
    obtain ⟨rfl, rfl⟩ := hv
    simp at ha
    obtain ⟨rfl, rfl⟩ := ha
    have e : ((xs.take n).drop 1).getD i 0 = xs.getD (i + 1) 0 := by
      have hlt : i + 1 < n := by omega
      simp [List.getD_eq_getElem?_getD, List.getElem?_take, hlt, Nat.add_comm]
    rw [e, show off + 1 + i = off + (i + 1) by omega]
    exact hc (i + 1) (by omega)

set_option maxHeartbeats 4000000 in
theorem frmSpill_any (a : Option Addr) (cap : Nat) (xs : List Int) (w : World) (hv : Rd w (.slice a xs.length cap) xs) (hcap : xs.length ≤ cap) :
    Calls Try.prog 22 #[.slice a xs.length cap] w fun e w' => ∃ u, e = .returned (.tuple #[u, .bool (spR xs), .bool (spOk xs)]) ∧ Own w' w.heap.size u (spL xs) ∧ Below w.heap.size w w' := by
  have h2 := hv.2.1
  by_cases h9 : xs.length = 9
  · have HV := hid hv
    obtain ⟨b, off, rfl, hc⟩ : ∃ b off, a = some ⟨b, off, none⟩ ∧ ∀ i, i < xs.length → w.cell? ⟨b, off + i, none⟩ = some (.int .u8 (xs.getD i 0)) := by
      obtain ⟨_, _, a', cap', e, h3⟩ := hv
      simp at e
      obtain ⟨rfl, rfl⟩ := e
      rcases h3 with rfl | ⟨b, off, rfl, hc⟩
      · simp at h9
      · exact ⟨b, off, rfl, hc⟩
    have hx0 := hv.1 (spN xs) (by
      obtain ⟨a, b, c, d, e, f, g, i, j, rfl⟩ := list9 h9
      simp [spN])
    obtain ⟨N, hN⟩ : ∃ N, spN xs = N := ⟨_, rfl⟩
    have hc0 : w.cell? ⟨b, off, none⟩ = some (.int .u8 N) := by rw [← hN]; exact hc 0 (by omega)
    rw [hN] at hx0
    rw [h9] at hcap HV ⊢
    clear hc hv
    have HN := hid hN
    clear hN
    by_cases hle : N ≤ 9
    · obtain ⟨K, rfl⟩ := Int.eq_ofNat_of_zero_le hx0.1
      have hK9 : K ≤ 9 := by omega
      have HF := hid (fillL_len (spM xs) (decide (0 < K)))
      have HM : Hid (Rd w (.slice (some ⟨b, off + 1, none⟩) (max 1 K - 1) (cap - 1)) (spM xs)) := by
        have h := rd_mid (n := max 1 K) (by rw [h9]; exact HV.out) (cap - 1) (by omega) (by omega)
        have e : (spN xs).toNat = K := by rw [HN.out]; simp
        unfold Hid spM; rw [e]; exact h
      have hKK : decide (0 < (K : Int)) = decide (0 < K) := by simp
      have hK9' : decide ((K : Int) ≤ 9) = true := by simp; omega
      have HQ : Hid (spOk xs = decide (fillL (spM xs) (decide (0 < K)) = xs) ∧ spR xs = (spOk xs && decide (0 < K))) := by
        refine ⟨?_, ?_⟩
        · unfold spOk; rw [HN.out, hK9', hKK]; simp [h9]
        · unfold spR; rw [HN.out, hKK]
      clear hKK hK9'
      by_cases h1 : 1 < K
      · have h1' : (1 : Int) < (K : Int) := by omega
        have e1 : max 1 K - 1 = K - 1 := by omega
        rw [e1] at HM
        go_enter Try.func22, Try.ntmps22
        go_wp2_with fail
        refine (frmFill_any _ (spM xs) (decide (0 < K)) _ HM.out).mono ?_
        rintro e w1 ⟨v1, rfl, o1, b1⟩
        have O1 := hid o1
        have B1 := hid b1
        have MM := hid (HM.out.keep b1)
        have VV := hid (HV.out.keep b1)
        clear o1 b1 HV HM
        go_wp2_with fail
        refine (bytesEqual_any _ _ (fillL (spM xs) (decide (0 < K))) xs _ (O1.out.rd (by have := HF.out; omega)) VV.out).mono ?_
        rintro e w2 ⟨rfl, rfl⟩
        cases hq : decide (fillL (spM xs) (decide (0 < K)) = xs)
        · have H : Hid (spOk xs = false ∧ spR xs = false ∧ spL xs = []) := by
            have : spOk xs = false := by rw [HQ.out.1, hq]
            exact ⟨this, by simp [spR, this], by simp [spL, this]⟩
          rw [hq] at HQ
          clear hq
          go_wp2
          refine bodyPost_ret (v := .tuple #[.slice none 0 0, .bool false, .bool false]) (by simp [results, Try.results22, go_sem]) rfl ?_
          rw [H.out.1, H.out.2.1, H.out.2.2]
          exact ⟨_, rfl, own_nil _, B1.out⟩
        · have H : Hid (spOk xs = true ∧ spR xs = decide (0 < K) ∧ spL xs = spM xs) := by
            have : spOk xs = true := by rw [HQ.out.1, hq]
            exact ⟨this, by rw [HQ.out.2, this]; simp, by simp [spL, this]⟩
          rw [hq] at HQ
          clear hq
          go_wp2_with fail
          refine (clone_any _ (spM xs) _ MM.out).mono ?_
          rintro e w3 ⟨u, rfl, o3, b3⟩
          have O3 := hid (o3.low B1.out.size)
          have B3 := hid (B1.out.trans (b3.mono B1.out.size))
          clear o3 b3
          go_wp2
          refine bodyPost_ret (v := .tuple #[u, .bool (decide (0 < K)), .bool true]) (by simp [results, Try.results22, go_sem]) rfl ?_
          rw [H.out.1, H.out.2.1, H.out.2.2]
          exact ⟨_, rfl, O3.out, B3.out⟩
      · have h1' : ¬ (1 : Int) < (K : Int) := by omega
        have e1 : max 1 K - 1 = 0 := by omega
        rw [e1] at HM
        go_enter Try.func22, Try.ntmps22
        go_wp2_with fail
        refine (frmFill_any _ (spM xs) (decide (0 < K)) _ HM.out).mono ?_
        rintro e w1 ⟨v1, rfl, o1, b1⟩
        have O1 := hid o1
        have B1 := hid b1
        have MM := hid (HM.out.keep b1)
        have VV := hid (HV.out.keep b1)
        clear o1 b1 HV HM
        go_wp2_with fail
        refine (bytesEqual_any _ _ (fillL (spM xs) (decide (0 < K))) xs _ (O1.out.rd (by have := HF.out; omega)) VV.out).mono ?_
        rintro e w2 ⟨rfl, rfl⟩
        cases hq : decide (fillL (spM xs) (decide (0 < K)) = xs)
        · have H : Hid (spOk xs = false ∧ spR xs = false ∧ spL xs = []) := by
            have : spOk xs = false := by rw [HQ.out.1, hq]
            exact ⟨this, by simp [spR, this], by simp [spL, this]⟩
          rw [hq] at HQ
          clear hq
          go_wp2
          refine bodyPost_ret (v := .tuple #[.slice none 0 0, .bool false, .bool false]) (by simp [results, Try.results22, go_sem]) rfl ?_
          rw [H.out.1, H.out.2.1, H.out.2.2]
          exact ⟨_, rfl, own_nil _, B1.out⟩
        · have H : Hid (spOk xs = true ∧ spR xs = decide (0 < K) ∧ spL xs = spM xs) := by
            have : spOk xs = true := by rw [HQ.out.1, hq]
            exact ⟨this, by rw [HQ.out.2, this]; simp, by simp [spL, this]⟩
          rw [hq] at HQ
          clear hq
          go_wp2_with fail
          refine (clone_any _ (spM xs) _ MM.out).mono ?_
          rintro e w3 ⟨u, rfl, o3, b3⟩
          have O3 := hid (o3.low B1.out.size)
          have B3 := hid (B1.out.trans (b3.mono B1.out.size))
          clear o3 b3
          go_wp2
          refine bodyPost_ret (v := .tuple #[u, .bool (decide (0 < K)), .bool true]) (by simp [results, Try.results22, go_sem]) rfl ?_
          rw [H.out.1, H.out.2.1, H.out.2.2]
          exact ⟨_, rfl, O3.out, B3.out⟩
    · have H : Hid (spOk xs = false ∧ spR xs = false ∧ spL xs = []) := by
        have : spOk xs = false := by unfold spOk; rw [HN.out]; simp [hle]
        exact ⟨this, by simp [spR, this], by simp [spL, this]⟩
      rw [H.out.1, H.out.2.1, H.out.2.2]
      go_enter Try.func22, Try.ntmps22
      go_wp2
      refine bodyPost_ret (v := .tuple #[.slice none 0 0, .bool false, .bool false]) (by simp [results, Try.results22, go_sem]) rfl ?_
      exact ⟨_, rfl, own_nil _, Below.refl _ _⟩
  · have H : Hid (spOk xs = false ∧ spR xs = false ∧ spL xs = []) := by
      have : spOk xs = false := by simp [spOk, h9]
      exact ⟨this, by simp [spR, this], by simp [spL, this]⟩
    rw [H.out.1, H.out.2.1, H.out.2.2]
    have h9' : ¬ (xs.length : Int) = 9 := by omega
    clear hv
    go_enter Try.func22, Try.ntmps22
    go_wp2
    refine bodyPost_ret (v := .tuple #[.slice none 0 0, .bool false, .bool false]) (by simp [results, Try.results22, go_sem]) rfl ?_
    exact ⟨_, rfl, own_nil _, Below.refl _ _⟩
end Go.Proofs.Ytbmjaiojeehifaa
