/- The contracts of SealOpen, of the program and of the specification. -/
import Derived.Test.YticdpdmpdkliaaaDoorBytTake
import Derived.Test.YticdpdmpdkliaaaDoorSealShut
import Derived.Test.YticdpdmpdkliaaaDoorByteStr
namespace Go.Proofs.YticdpdmpdkliaaaDoor
open Go.ChangeShapes Go.WideShapes Go.ChangeAt Go.RowKit Go.Joins Go.Deep
set_option linter.unusedVariables false
set_option linter.unusedSimpArgs false
set_option maxRecDepth 4000

/-- the part of sealed bytes ahead of the tag -/
def opC (xs : List Int) : List Int := xs.take (xs.length - 4)
def opOk (key seq : Int) (hs xs : List Int) : Bool := decide (4 ≤ xs.length) && (mayB key seq hs.length (xs.length - 4) && decide (tkN xs ((xs.length : Int) - 4) 4 = tagV key seq hs (opC xs)))
def opL (key seq : Int) (hs xs : List Int) : List Int := if opOk key seq hs xs then hidL (strS key seq) (opC xs) else []
theorem opC_len {xs : List Int} : (opC xs).length = xs.length - 4 := by simp [opC]

set_option maxHeartbeats 8000000 in
theorem sealOpen_any (key seq : Int) (a : Option Addr) (n c : Nat) (hs : List Int) (b : Option Addr) (d : Nat) (xs : List Int) (w : World) (hv : Rd w (.slice a hs.length c) hs) (hu : Rd w (.slice b xs.length d) xs) (hd : xs.length ≤ d) (het : Et w) :
    Calls Tryd.prog 19 #[.int .i64 key, .int .i64 seq, .slice a hs.length c, .slice b xs.length d] w fun e w' => ∃ u, e = .returned (.tuple #[u, .bool (opOk key seq hs xs)]) ∧ Own w' w.heap.size u (opL key seq hs xs) ∧ Below w.heap.size w w' := by
  have hl := hv.2.1
  have hx := hu.2.1
  have RV := hid hv
  have RU := hid hu
  have HE := hid het
  clear hv hu het
  by_cases h4 : 4 ≤ xs.length
  · have htk : tkOk xs ((xs.length : Int) - 4) 4 = true := by simp [tkOk]; omega
    have RC : Hid (Rd w (.slice b (xs.length - 4) d) (opC xs)) := hid (rd_take RU.out (by omega))
    obtain ⟨M, hM⟩ : ∃ M, mayB key seq hs.length (xs.length - 4) = M := ⟨_, rfl⟩
    obtain ⟨TN, hTN⟩ : ∃ TN, tkN xs ((xs.length : Int) - 4) 4 = TN := ⟨_, rfl⟩
    obtain ⟨TV, hTV⟩ : ∃ TV, tagV key seq hs (opC xs) = TV := ⟨_, rfl⟩
    have HO : Hid (opOk key seq hs xs = (M && decide (TN = TV))) := by unfold Hid opOk; rw [hM, hTN, hTV]; simp [h4]
    have HT := hid (And.intro hTN (And.intro htk hTV))
    have HM := hid hM
    clear htk hTN hTV hM
    go_enter Tryd.func19, Tryd.ntmps19
    go_wp2_with fail
    refine (bytTake_any b d xs _ _ _ RU.out hd HE.out).mono ?_
    rintro e w1 ⟨he, b1⟩
    rw [HT.out.1, HT.out.2.1] at he
    subst he
    have B1 := hid b1
    have RV := hid (RV.out.keep b1)
    have RC := hid (RC.out.keep b1)
    clear b1 RU
    have e4 : ((xs.length : Int) - 4) = ((xs.length - 4 : Nat) : Int) := by omega
    rw [e4]
    go_wp2_with fail
    refine (sealMay_any key seq _ _ _ _ _ _ _ hl (by omega)).mono ?_
    rintro e w2 ⟨rfl, rfl⟩
    rw [HM.out]
    cases M
    · have H : Hid (opOk key seq hs xs = false ∧ opL key seq hs xs = []) := by
        have : opOk key seq hs xs = false := by rw [HO.out]; rfl
        exact ⟨this, by simp [opL, this]⟩
      go_wp2
      refine bodyPost_ret (v := .tuple #[.slice none 0 0, .bool false]) (by simp [results, Tryd.results19, go_sem]) rfl ?_
      rw [H.out.1, H.out.2]
      exact ⟨_, rfl, own_nil _, B1.out⟩
    · have hmy := mayB_iff.1 HM.out
      go_wp2_with fail
      refine (sealTag_any key seq _ _ hs (opC xs) _ RV.out RC.out).mono ?_
      rintro e w3 ⟨he, b3⟩
      rw [HT.out.2.2] at he
      subst he
      have B3 := hid (B1.out.trans (b3.mono B1.out.size))
      have RC := hid (RC.out.keep b3)
      clear b3 B1
      by_cases hq : TN = TV
      · have H : Hid (opOk key seq hs xs = true ∧ opL key seq hs xs = hidL (strS key seq) (opC xs)) := by
          have : opOk key seq hs xs = true := by rw [HO.out]; simp [hq]
          exact ⟨this, by simp [opL, this]⟩
        subst hq
        go_wp2_with fail
        refine (sealHidden_any key seq _ (opC xs) _ RC.out (by rw [opC_len]; omega) (by omega) (by omega) (by omega) (by omega)).mono ?_
        rintro e w4 ⟨u, rfl, o4, b4⟩
        have O4 := hid (o4.low B3.out.size)
        have B4 := hid (B3.out.trans (b4.mono B3.out.size))
        clear o4 b4
        go_wp2
        refine bodyPost_ret (v := .tuple #[u, .bool true]) (by simp [results, Tryd.results19, go_sem]) rfl ?_
        rw [H.out.1, H.out.2]
        exact ⟨_, rfl, O4.out, B4.out⟩
      · have H : Hid (opOk key seq hs xs = false ∧ opL key seq hs xs = []) := by
          have : opOk key seq hs xs = false := by rw [HO.out]; simp [hq]
          exact ⟨this, by simp [opL, this]⟩
        go_wp2
        refine bodyPost_ret (v := .tuple #[.slice none 0 0, .bool false]) (by simp [results, Tryd.results19, go_sem]) rfl ?_
        rw [H.out.1, H.out.2]
        exact ⟨_, rfl, own_nil _, B3.out⟩
  · have htk : tkOk xs ((xs.length : Int) - 4) 4 = false := by simp [tkOk]; omega
    have hnn : tkN xs ((xs.length : Int) - 4) 4 = 0 := by simp [tkN, htk]
    have H : Hid (opOk key seq hs xs = false ∧ opL key seq hs xs = []) := by
      have : opOk key seq hs xs = false := by simp [opOk, h4]
      exact ⟨this, by simp [opL, this]⟩
    have HT := hid (And.intro hnn htk)
    clear hnn htk
    go_enter Tryd.func19, Tryd.ntmps19
    go_wp2_with fail
    refine (bytTake_any b d xs _ _ _ RU.out hd HE.out).mono ?_
    rintro e w1 ⟨he, b1⟩
    rw [HT.out.1, HT.out.2] at he
    subst he
    have B1 := hid b1
    clear b1
    go_wp2
    refine bodyPost_ret (v := .tuple #[.slice none 0 0, .bool false]) (by simp [results, Tryd.results19, go_sem]) rfl ?_
    rw [H.out.1, H.out.2]
    exact ⟨_, rfl, own_nil _, B1.out⟩
end Go.Proofs.YticdpdmpdkliaaaDoor
