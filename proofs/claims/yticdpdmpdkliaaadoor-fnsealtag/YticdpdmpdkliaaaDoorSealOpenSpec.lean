/- The contract of the specification's SealOpen. -/
import Derived.Test.YticdpdmpdkliaaaDoorSealOpen
namespace Go.Proofs.YticdpdmpdkliaaaDoor
open Go.ChangeShapes Go.WideShapes Go.ChangeAt Go.RowKit Go.Joins Go.Deep
set_option linter.unusedVariables false
set_option linter.unusedSimpArgs false
set_option maxRecDepth 4000

set_option maxHeartbeats 8000000 in
theorem specOpen_any (key seq : Int) (a : Option Addr) (c : Nat) (hs : List Int) (b : Option Addr) (d : Nat) (xs : List Int) (w : World) (hv : Rd w (.slice a hs.length c) hs) (hu : Rd w (.slice b xs.length d) xs) (hd : xs.length ≤ d) :
    Calls Tryd.prog 21 #[.int .i64 key, .int .i64 seq, .slice a hs.length c, .slice b xs.length d] w fun e w' => ∃ u, e = .returned (.tuple #[u, .bool (opOk key seq hs xs)]) ∧ Own w' w.heap.size u (opL key seq hs xs) ∧ Below w.heap.size w w' := by
  have hl := hv.2.1
  have hx := hu.2.1
  have RV := hid hv
  have RU := hid hu
  clear hv hu
  by_cases h4 : 4 ≤ xs.length
  · have h4' : ¬ ((xs.length : Int) < 4) := by omega
    have htk : tkOk xs ((xs.length - 4 : Nat) : Int) 4 = true := by simp [tkOk]; omega
    have e4 : ((xs.length - 4 : Nat) : Int) = ((xs.length : Int) - 4) := by omega
    have RC : Hid (Rd w (.slice b (xs.length - 4) d) (opC xs)) := hid (rd_take RU.out (by omega))
    obtain ⟨M, hM⟩ : ∃ M, mayB key seq hs.length (xs.length - 4) = M := ⟨_, rfl⟩
    obtain ⟨TN, hTN⟩ : ∃ TN, tkN xs ((xs.length : Int) - 4) 4 = TN := ⟨_, rfl⟩
    obtain ⟨TV, hTV⟩ : ∃ TV, tagV key seq hs (opC xs) = TV := ⟨_, rfl⟩
    have HO : Hid (opOk key seq hs xs = (M && decide (TN = TV))) := by unfold Hid opOk; rw [hM, hTN, hTV]; simp [h4]
    rw [e4] at htk
    have HT := hid (And.intro hTN (And.intro htk hTV))
    have HM := hid hM
    clear htk hTN hTV hM e4
    go_enter Tryd.func21, Tryd.ntmps21
    go_wp2_with fail
    refine (l2Copy_any _ (opC xs) _ RC.out).mono ?_
    rintro e w1 ⟨v1, rfl, o1, b1⟩
    have B1 := hid b1
    have RV := hid (RV.out.keep b1)
    have RU := hid (RU.out.keep b1)
    have RC := hid (o1.rd (by rw [opC_len]; omega))
    obtain ⟨a1, c1, he1, _⟩ := own_form o1
    rw [opC_len] at he1
    subst he1
    clear b1 o1
    go_wp2_with fail
    refine (l3Ok_any key seq _ _ _ _ _ _ _ hl (by omega)).mono ?_
    rintro e w2 ⟨rfl, rfl⟩
    rw [HM.out]
    cases M
    · have H : Hid (opOk key seq hs xs = false ∧ opL key seq hs xs = []) := by
        have : opOk key seq hs xs = false := by rw [HO.out]; rfl
        exact ⟨this, by simp [opL, this]⟩
      go_wp2
      refine bodyPost_ret (v := .tuple #[.slice (some ⟨w2.heap.size, 0, none⟩) 0 0, .bool false]) (by simp [results, Tryd.results21, go_sem]) rfl ?_
      rw [H.out.1, H.out.2]
      exact ⟨_, rfl, (own_none w2).low B1.out.size, B1.out.alloc B1.out.size _⟩
    · have hmy := mayB_iff.1 HM.out
      go_wp2_with fail
      refine (specTake_any b d xs _ _ _ RU.out).mono ?_
      rintro e w3 ⟨he, rfl⟩
      rw [HT.out.1, HT.out.2.1] at he
      subst he
      go_wp2_with fail
      refine (specTag_any key seq _ _ hs (opC xs) _ RV.out RC.out).mono ?_
      rintro e w4 ⟨he, rfl⟩
      rw [HT.out.2.2] at he
      subst he
      by_cases hq : TN = TV
      · have H : Hid (opOk key seq hs xs = true ∧ opL key seq hs xs = hidL (strS key seq) (opC xs)) := by
          have : opOk key seq hs xs = true := by rw [HO.out]; simp [hq]
          exact ⟨this, by simp [opL, this]⟩
        subst hq
        go_wp2_with fail
        refine (l3Hide_any key seq _ (opC xs) _ RC.out (by rw [opC_len]; omega) (by omega) (by omega) (by omega) (by omega)).mono ?_
        rintro e w5 ⟨u, rfl, o5, b5⟩
        have O5 := hid (o5.low B1.out.size)
        have B5 := hid (B1.out.trans (b5.mono B1.out.size))
        clear o5 b5
        go_wp2
        refine bodyPost_ret (v := .tuple #[u, .bool true]) (by simp [results, Tryd.results21, go_sem]) rfl ?_
        rw [H.out.1, H.out.2]
        exact ⟨_, rfl, O5.out, B5.out⟩
      · have H : Hid (opOk key seq hs xs = false ∧ opL key seq hs xs = []) := by
          have : opOk key seq hs xs = false := by rw [HO.out]; simp [hq]
          exact ⟨this, by simp [opL, this]⟩
        go_wp2
        refine bodyPost_ret (v := .tuple #[.slice (some ⟨w4.heap.size, 0, none⟩) 0 0, .bool false]) (by simp [results, Tryd.results21, go_sem]) rfl ?_
        rw [H.out.1, H.out.2]
        exact ⟨_, rfl, (own_none _).low B1.out.size, B1.out.alloc B1.out.size _⟩
  · have h4' : ((xs.length : Int) < 4) := by omega
    have H : Hid (opOk key seq hs xs = false ∧ opL key seq hs xs = []) := by
      have : opOk key seq hs xs = false := by simp [opOk, h4]
      exact ⟨this, by simp [opL, this]⟩
    go_enter Tryd.func21, Tryd.ntmps21
    go_wp2
    refine bodyPost_ret (v := .tuple #[.slice (some ⟨w.heap.size, 0, none⟩) 0 0, .bool false]) (by simp [results, Tryd.results21, go_sem]) rfl ?_
    rw [H.out.1, H.out.2]
    exact ⟨_, rfl, own_none _, below_alloc1 _ _⟩
theorem opL_len (key seq : Int) (hs xs : List Int) (h : xs.length ≤ 2000000) : (opL key seq hs xs).length ≤ 2000000 := by
  unfold opL; split
  · rw [hidL_len, opC_len]; omega
  · simp
end Go.Proofs.YticdpdmpdkliaaaDoor
