/- The contracts of the specification's l2Size and BytPut. Conditions: of l2Size the size lies in 0..4; of BytPut the number lies within int. -/
import Derived.Test.YtpfelnkdimbhkaaDoorBytPut
import Derived.Deep.DeepMust
namespace Go.Proofs.YtpfelnkdimbhkaaDoor
open Go.ChangeShapes Go.WideShapes Go.ChangeAt Go.RowKit Go.Joins Go.Deep
set_option linter.unusedVariables false
set_option maxRecDepth 4000

theorem pow_le (j : Nat) (h : j ≤ 3) : ∃ P : Int, P = 256 ^ j ∧ 1 ≤ P ∧ P ≤ 16777216 ∧ P * 256 = 256 ^ (j + 1) := by
  match j, h with
  | 0, _ => exact ⟨_, rfl, by decide, by decide, by decide⟩
  | 1, _ => exact ⟨_, rfl, by decide, by decide, by decide⟩
  | 2, _ => exact ⟨_, rfl, by decide, by decide, by decide⟩
  | 3, _ => exact ⟨_, rfl, by decide, by decide, by decide⟩

set_option maxHeartbeats 1000000 in
theorem l2Size_any (s : Nat) (w : World) (hs : s ≤ 4) :
    Calls Tryd.prog 43 #[.int .i64 s] w fun e w' => e = .returned (.int .i64 (256 ^ s)) ∧ w' = w := by
  go_enter Tryd.func43, Tryd.ntmps43
  go_wp2_with fail
  go_loop [0, 3] (fun i n => ∃ j : Nat, j ≤ s ∧ i = .int .i64 ((s : Int) - j) ∧ n = .int .i64 (256 ^ j)) (fun i _ => (intOf i).toNat)
  case atStart => exact ⟨0, Nat.zero_le _, by simp, rfl⟩
  case round =>
    obtain ⟨j, hj, rfl, rfl⟩ := hrel
    by_cases hlt : j < s
    · obtain ⟨P, hP, P0, P1, hP2⟩ := pow_le j (by omega)
      rw [← hP]
      have HP2 := hid hP2
      clear hP hP2
      have h0 : (0 : Int) < (s : Int) - j := by omega
      go_wp2
      go_round
      case rel => exact ⟨j + 1, by omega, congrArg (Value.int .i64) (by omega), congrArg (Value.int .i64) HP2.out⟩
      case measure => simp [intOf]; omega
    · have hkl : j = s := by omega
      subst hkl
      have h0 : ¬ (0 : Int) < (j : Int) - j := by omega
      go_wp2
      go_ret
      exact ⟨rfl, rfl⟩

theorem quo_rem {K : Nat} {P : Int} (e : Nat) (hP : P = 256 ^ e) (hP0 : 1 ≤ P) (hK : K < 4294967296) : (wrap64 ((K : Int) / P)).tmod 256 % 256 = ((K / 256 ^ e % 256 : Nat) : Int) := by
  have h1 : ((K : Int) / P) = ((K / 256 ^ e : Nat) : Int) := by rw [hP]; simp
  have h2 : K / 256 ^ e ≤ K := Nat.div_le_self _ _
  rw [h1]
  generalize K / 256 ^ e = q at *
  have h3 : wrap64 (q : Int) = q := by unfold wrap64; omega
  rw [h3, Int.tmod_eq_emod_of_nonneg (by omega)]
  omega

set_option maxHeartbeats 2000000 in
theorem specPut_any (n s : Int) (w : World) :
    Calls Tryd.prog 14 #[.int .i64 n, .int .i64 s] w fun e w' => ∃ v', e = .returned v' ∧ Own w' w.heap.size v' (putB n s) ∧ Below w.heap.size w w' := by
  cases h1 : inB s 1 4
  · have H := hid (show putB n s = [] by simp [putB, putOk, h1])
    go_enter Tryd.func14, Tryd.ntmps14
    go_wp2_with (go_at_call 42; refine (l1In_any _ _ _ _).mono ?_; rintro e w' ⟨rfl, rfl⟩)
    go_ret
    exact ⟨_, rfl, by rw [H.out]; exact ⟨by simp, World.ownsRow_made _ _ _ (Nat.le_refl _) (by unfold maxLen; omega) (by simp)⟩, below_alloc1 _ _⟩
  · have g1 := (show 1 ≤ s ∧ s ≤ 4 by simpa [inB] using h1)
    obtain ⟨S, rfl⟩ := Int.eq_ofNat_of_zero_le (show 0 ≤ s by omega)
    obtain ⟨M, hM, M0, M1, hsh⟩ := shl_run S (by omega) (by omega)
    have hk : putOk n S = inB n 0 (M - 1) := by simp [putOk, h1, hM]
    have HK := hid hk
    have HM := hid hM
    clear hk hM hsh
    cases h2 : inB n 0 (M - 1)
    · have H := hid (show putB n S = [] by simp [putB, HK.out, h2])
      go_enter Tryd.func14, Tryd.ntmps14
      go_wp2_with fail
      refine (l1In_any _ _ _ _).mono ?_
      rintro e w1 ⟨rfl, rfl⟩
      rw [h1]
      go_wp2_with fail
      refine (l2Size_any S _ (by omega)).mono ?_
      rintro e w1 ⟨rfl, rfl⟩
      rw [← HM.out]
      go_wp2_with fail
      refine (l1In_any _ _ _ _).mono ?_
      rintro e w1 ⟨rfl, rfl⟩
      rw [h2]
      go_wp2
      go_ret
      exact ⟨_, rfl, by rw [H.out]; exact ⟨by simp, World.ownsRow_made _ _ _ (Nat.le_refl _) (by unfold maxLen; omega) (by simp)⟩, below_alloc1 _ _⟩
    · have g2 := (show 0 ≤ n ∧ n ≤ M - 1 by simpa [inB] using h2)
      obtain ⟨K, rfl⟩ := Int.eq_ofNat_of_zero_le g2.1
      have H := hid (show putB K S = putL K S by simp [putB, HK.out, h2])
      obtain ⟨ti, hti, htz, hts, htb⟩ := info8'
      go_enter Tryd.func14, Tryd.ntmps14
      go_wp2_with fail
      refine (l1In_any _ _ _ _).mono ?_
      rintro e w1 ⟨rfl, rfl⟩
      rw [h1]
      go_wp2_with fail
      refine (l2Size_any S _ (by omega)).mono ?_
      rintro e w1 ⟨rfl, rfl⟩
      rw [← HM.out]
      go_wp2_with fail
      refine (l1In_any _ _ _ _).mono ?_
      rintro e w1 ⟨rfl, rfl⟩
      rw [h2]
      go_wp2_with fail
      go_loopw [5, 6] (fun u i wr => ∃ j : Nat, j ≤ S ∧ i = .int .i64 ((S : Int) - 1 - j) ∧ Own wr w1.heap.size u ((putL K S).take j) ∧ Below w1.heap.size w1 wr ∧ w1.heap.size < wr.heap.size) (fun _ i _ => (intOf i + 1).toNat)
      case atStart => exact ⟨0, Nat.zero_le _, by simp, ⟨by simp, by simpa using World.ownsRow_made _ _ _ (Nat.le_refl _) (by unfold maxLen; omega) (by simp)⟩, below_alloc1 _ _, by simp⟩
      case round =>
        obtain ⟨j, hj, rfl, hou, hBe, hzr⟩ := hrel
        by_cases hlt : j < S
        · obtain ⟨e, he⟩ : ∃ e : Nat, (S : Int) - 1 - j = e := ⟨S - 1 - j, by omega⟩
          have hje : j + e + 1 = S := by omega
          have HS := hid (putL_snoc K S j hlt)
          rw [show S - 1 - j = e from by omega] at HS
          have hm : ((putL K S).take j).length = j := by simp [putL_len]; omega
          have HM2 := hid hm
          have HO := hid hou
          have HB := hid hBe
          have hje := hid hje
          have he := hid he
          rw [he.out]
          have e3 : e ≤ 3 := by have := hje.out; omega
          have e0 : (0 : Int) ≤ (e : Int) := by omega
          obtain ⟨P, hP, P0, P1, _⟩ := pow_le e e3
          have HP := hid hP
          have HR := own_ints HO.out
          rw [HM2.out] at HR
          have HR := hid HR
          have hq := quo_rem (K := K) e hP P0 (by omega)
          obtain ⟨Z, hZ⟩ : ∃ Z : Int, Z = ((K / 256 ^ e % 256 : Nat) : Int) := ⟨_, rfl⟩
          rw [← hZ] at hq
          have z0 : 0 ≤ Z := by omega
          have z1 : Z ≤ 255 := by omega
          have HZ := hid hZ
          clear hou hBe hm hP hZ
          go_wp2_with fail
          refine (l2Size_any e _ (by omega)).mono ?_
          rintro e' w2 ⟨rfl, rfl⟩
          rw [← HP.out]
          go_wp2_with (at_builtin; go_must (refine wpList_append_lies _ (by rfl) _ _ 22 (by rfl) w1.heap.size 5 ti (.int .u8 0) 1 1 Tryd.underlying22 hti htz hts htb rfl (by omega) _ j (((putL K S).take j).map (Value.int .u8)) (by rfl) (HR.out.alloc _) ⟨w2.heap.size, 0, none⟩ 1 1 [.int .u8 Z] (by rfl) rfl (cell_one_new _ _ _) (by intro y hy; simp at hy; subst hy; rfl) (by omega) (by unfold maxLen; omega) (by omega) (by simp; omega) (w2.heap.size + 1) (by simp) ?_))
          intro g cap2 w3 ho2 hg2 hat hlt2
          go_wp2
          go_roundw
          case rel =>
            refine ⟨j + 1, by omega, ?_, ?_, ?_, ?_⟩
            · have := he.out
              exact congrArg (Value.int .i64) (by omega)
            · rw [HS.out, ← HZ.out]
              rw [← List.map_take] at ho2
              exact own_more HO.out HM2.out z0 z1 ho2
            · exact ((HB.out.alloc (by omega) _).grown hg2 (by simp; omega) (by intro k hk; have := (HR.out.lt k hk).1; omega))
            · have := hg2.size; simp at this; omega
          case measure => simp [intOf]
        · have hkl : j = S := by omega
          subst hkl
          have HO := hid hou
          have HB := hid hBe
          clear hou hBe
          go_wp2
          go_ret
          refine ⟨_, rfl, ?_, HB.out⟩
          have h := HO.out
          rw [List.take_of_length_le (by rw [putL_len]; exact Nat.le_refl _)] at h
          rw [H.out]
          exact h
end Go.Proofs.YtpfelnkdimbhkaaDoor
