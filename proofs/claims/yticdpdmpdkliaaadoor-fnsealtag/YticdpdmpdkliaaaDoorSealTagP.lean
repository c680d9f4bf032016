/- What is opened, and what is not: drawn bytes, sealed or turned, are opened if, and only if, the number in their last four bytes is the tag of those ahead, and sealing what was opened gives them back: for whatever is drawn, where errors.errorType holds what the library's own text lays there. -/
import Derived.Test.YticdpdmpdkliaaaDoorDoorBase
import Derived.Test.YticdpdmpdkliaaaDoorDrawOpen
import Derived.Test.YticdpdmpdkliaaaDoorSealOpenSpec
import Derived.Test.YticdpdmpdkliaaaDoorCards
import Derived.Test.YticdpdmpdkliaaaDoorTie
namespace Go.Proofs.YticdpdmpdkliaaaDoor
open Go.ChangeShapes Go.WideShapes Go.ChangeAt Go.RowKit Go.Joins Go.Deep
set_option linter.unusedVariables false
set_option linter.unusedSimpArgs false
set_option maxRecDepth 4000
theorem put_num {l : List Int} (h : ∀ x ∈ l, 0 ≤ x ∧ x ≤ 255) (hl : l.length = 4) : putB (numL l) 4 = l := by
  obtain ⟨a, b, c, d, rfl⟩ : ∃ a b c d, l = [a, b, c, d] := by
    match l, hl with
    | [a, b, c, d], _ => exact ⟨a, b, c, d, rfl⟩
  have ha := h a (by simp)
  have hb := h b (by simp)
  have hc := h c (by simp)
  have hd := h d (by simp)
  have e : numL [a, b, c, d] = ((a * 256 + b) * 256 + c) * 256 + d := by simp [numL]
  rw [e]
  have hk : putOk (((a * 256 + b) * 256 + c) * 256 + d) 4 = true := by simp [putOk, inB]; omega
  simp only [putB, hk, if_true]
  obtain ⟨a, rfl⟩ := Int.eq_ofNat_of_zero_le ha.1
  obtain ⟨b, rfl⟩ := Int.eq_ofNat_of_zero_le hb.1
  obtain ⟨c, rfl⟩ := Int.eq_ofNat_of_zero_le hc.1
  obtain ⟨d, rfl⟩ := Int.eq_ofNat_of_zero_le hd.1
  have e1 : ((((a : Int) * 256 + b) * 256 + c) * 256 + d).toNat = ((a * 256 + b) * 256 + c) * 256 + d := by omega
  rw [e1]
  simp [putL, List.range_succ]
  omega
theorem shut_open {key seq : Int} {hs xs : List Int} (hx : ∀ x ∈ xs, 0 ≤ x ∧ x ≤ 255) (hok : opOk key seq hs xs = true) : shutL key seq hs (opL key seq hs xs) = xs := by
  have h' := hok
  simp only [opOk, Bool.and_eq_true, decide_eq_true_eq] at h'
  obtain ⟨h4, hm, ht⟩ := h'
  have hC : ∀ x ∈ opC xs, 0 ≤ x ∧ x ≤ 255 := fun x h => hx x (List.mem_of_mem_take h)
  have hL : opL key seq hs xs = hidL (strS key seq) (opC xs) := by simp [opL, hok]
  have hlen : (opL key seq hs xs).length = xs.length - 4 := by rw [hL, hidL_len, opC_len]
  have htk : tkOk xs ((xs.length : Int) - 4) 4 = true := by simp [tkOk]; omega
  rw [shutL_yes (by rw [hlen]; exact hm), hL, hid_twice _ _ hC, ← ht]
  unfold tkN
  rw [if_pos htk]
  have e : (((xs.length : Int) - 4)).toNat = xs.length - 4 := by omega
  have e4 : (4 : Int).toNat = 4 := rfl
  rw [e, e4, List.take_of_length_le (by simp; omega), put_num (fun x h => hx x (List.mem_of_mem_drop h)) (by simp; omega)]
  exact List.take_append_drop _ _
end Go.Proofs.YticdpdmpdkliaaaDoor
namespace Go.Proofs.YticdpdmpdkliaaaDoor.fnSealTag
open Go.ChangeShapes Go.WideShapes Go.ChangeAt Go.RowKit Go.Joins Go.Deep
set_option linter.unusedVariables false
set_option maxRecDepth 4000
theorem cap_of {w : World} {a : Option Addr} {len cap : Nat} {zs : List Int} (h : IsRow .u8 w a len cap zs) : len ≤ cap := by
  rcases h with ⟨_, rfl, rfl, _⟩ | ⟨_, _, h1, _⟩
  · exact Nat.le_refl _
  · exact h1
theorem own_oneD (w : World) (x : Int) (x0 : 0 ≤ x) (x1 : x ≤ 255) : Own (w.alloc (.cells #[.int .u8 x] 5)) w.heap.size (.slice (some ⟨w.heap.size, 0, none⟩) 1 1) [x] :=
  ⟨by intro y hy; simp at hy; subst hy; exact ⟨x0, x1⟩, by simp, .inr ⟨w.heap.size, 1, #[.int .u8 x], rfl, Nat.le_refl _, heap_alloc_new w _, by simp, by unfold maxLen; omega, by simp, by simp⟩⟩

set_option maxHeartbeats 16000000 in
theorem walk (a0 : Option Addr) (len0 cap0 : Nat) (z0 : List Int) (w : World) (k0 : IsRow .u8 w a0 len0 cap0 z0) (het : Et w) :
    Calls Tryd.prog 5 #[.slice a0 len0 cap0] w fun e w' => e = .returned (.bool true) ∧ Below w.heap.size w w' := by
  have m0 := k0.max
  have hp := het.pos
  by_cases hl0 : len0 ≤ 1048576
  · have hl0' : (len0 : Int) ≤ 1048576 := by omega
    obtain ⟨zs, hx0, r0⟩ := k0.rd hl0
    have hcp := cap_of k0
    have R0 := hid r0
    have HE := hid het
    clear k0 r0 het
    go_enter Tryd.func5, Tryd.ntmps5
    go_wp2_with fail
    refine (drawOpen_any a0 len0 cap0 zs _ hx0 R0.out hcp).mono ?_
    rintro e w1 ⟨key, seq, v, u, hs, xs, rfl, hk, hq, hhs, hxs, ov, ou, b1⟩
    have RV := hid (ov.rd (by omega))
    have RU := hid (ou.rd (by omega))
    have HX := hid ou.1
    obtain ⟨av, cv, rfl, hcv⟩ := own_cap ov
    obtain ⟨au, cu, rfl, hcu⟩ := own_cap ou
    have B1 := hid b1
    have HE := hid (HE.out.keep b1 hp)
    clear ov ou b1 R0
    obtain ⟨OK, hOK⟩ : ∃ OK, opOk key seq hs xs = OK := ⟨_, rfl⟩
    obtain ⟨G, hG⟩ : ∃ G, opL key seq hs xs = G := ⟨_, rfl⟩
    have HG := hid (And.intro hOK hG)
    have NG : G.length ≤ 2000000 := by rw [← hG]; exact opL_len key seq hs xs (by omega)
    clear hOK hG
    go_wp2_with fail
    refine (sealOpen_any key seq av 0 cv hs au cu xs _ RV.out RU.out hcu HE.out).mono ?_
    rintro e w2 ⟨g2, he, o2, b2⟩
    rw [HG.out.1] at he
    rw [HG.out.2] at o2
    subst he
    have RG := hid (o2.rd NG)
    have RV := hid (RV.out.keep b2)
    have RU := hid (RU.out.keep b2)
    have B2 := hid (B1.out.trans (b2.mono B1.out.size))
    have HE := hid (HE.out.keep b2 (by have := B1.out.size; omega))
    clear o2 b2 B1
    go_wp2_with fail
    refine (specOpen_any key seq av cv hs au cu xs _ RV.out RU.out hcu).mono ?_
    rintro e w3 ⟨g3, he, o3, b3⟩
    rw [HG.out.1] at he
    rw [HG.out.2] at o3
    subst he
    have RW := hid (o3.rd NG)
    have RG := hid (RG.out.keep b3)
    have RV := hid (RV.out.keep b3)
    have RU := hid (RU.out.keep b3)
    have B3 := hid (B2.out.trans (b3.mono B2.out.size))
    have HE := hid (HE.out.keep b3 (by have := B2.out.size; omega))
    clear o3 b3 B2
    go_wp2_with fail
    refine (caBytes_any _ _ G G _ RG.out RW.out).mono ?_
    rintro e w4 ⟨rfl, rfl⟩
    clear RW
    obtain ⟨HN, hHN⟩ : ∃ n, hs.length = n := ⟨_, rfl⟩
    obtain ⟨XN, hXN⟩ : ∃ n, xs.length = n := ⟨_, rfl⟩
    have LH := hid hHN
    have LX := hid hXN
    rw [hHN] at hhs hcv ⊢
    rw [hXN] at hxs hcu ⊢
    clear hHN hXN
    have HO : Hid (OK = (decide (4 ≤ XN) && (mayB key seq HN (XN - 4) && decide (tkN xs ((xs.length : Int) - 4) 4 = tagV key seq hs (opC xs))))) := hid (by rw [← HG.out.1, ← LH.out, ← LX.out]; rfl)
    by_cases f0 : 0 ≤ key
    rotate_left
    · have hOK : OK = false := by rw [HO.out]; simp [mayB, inB]; omega
      subst hOK
      clear HG HO RG RV RU HX
      have B4 := hid B3.out
      go_wp2_with fail
      refine (bytPut_any 7 1 _ (by omega)).mono ?_
      rintro e w5 ⟨s5, rfl, o5, b5⟩
      have e7 : putB 7 1 = [7] := by decide
      rw [e7] at o5
      have O5 := hid ((o5.keep (below_alloc1 w5 (.cells #[.int .u8 7] 5))).rd (by simp))
      have B5 := hid ((B4.out.trans (b5.mono B4.out.size)).alloc (by have := B4.out.size; have := b5.size; omega) (.cells #[.int .u8 7] 5))
      clear o5 b5 e7 B3 B4
      go_wp2_with fail
      refine (caBytes_any _ _ [7] [7] _ O5.out ((own_oneD w5 7 (by omega) (by omega)).rd (by simp))).mono ?_
      rintro e w6 ⟨rfl, rfl⟩
      go_wp2
      go_ret
      exact ⟨rfl, B5.out⟩
    by_cases f1 : key ≤ 4294967295
    rotate_left
    · have hOK : OK = false := by rw [HO.out]; simp [mayB, inB]; omega
      subst hOK
      clear HG HO RG RV RU HX
      have B4 := hid B3.out
      go_wp2_with fail
      refine (bytPut_any 7 1 _ (by omega)).mono ?_
      rintro e w5 ⟨s5, rfl, o5, b5⟩
      have e7 : putB 7 1 = [7] := by decide
      rw [e7] at o5
      have O5 := hid ((o5.keep (below_alloc1 w5 (.cells #[.int .u8 7] 5))).rd (by simp))
      have B5 := hid ((B4.out.trans (b5.mono B4.out.size)).alloc (by have := B4.out.size; have := b5.size; omega) (.cells #[.int .u8 7] 5))
      clear o5 b5 e7 B3 B4
      go_wp2_with fail
      refine (caBytes_any _ _ [7] [7] _ O5.out ((own_oneD w5 7 (by omega) (by omega)).rd (by simp))).mono ?_
      rintro e w6 ⟨rfl, rfl⟩
      go_wp2
      go_ret
      exact ⟨rfl, B5.out⟩
    by_cases f2 : 0 ≤ seq
    rotate_left
    · have hOK : OK = false := by rw [HO.out]; simp [mayB, inB]; omega
      subst hOK
      clear HG HO RG RV RU HX
      have B4 := hid B3.out
      go_wp2_with fail
      refine (bytPut_any 7 1 _ (by omega)).mono ?_
      rintro e w5 ⟨s5, rfl, o5, b5⟩
      have e7 : putB 7 1 = [7] := by decide
      rw [e7] at o5
      have O5 := hid ((o5.keep (below_alloc1 w5 (.cells #[.int .u8 7] 5))).rd (by simp))
      have B5 := hid ((B4.out.trans (b5.mono B4.out.size)).alloc (by have := B4.out.size; have := b5.size; omega) (.cells #[.int .u8 7] 5))
      clear o5 b5 e7 B3 B4
      go_wp2_with fail
      refine (caBytes_any _ _ [7] [7] _ O5.out ((own_oneD w5 7 (by omega) (by omega)).rd (by simp))).mono ?_
      rintro e w6 ⟨rfl, rfl⟩
      go_wp2
      go_ret
      exact ⟨rfl, B5.out⟩
    by_cases f3 : seq ≤ 65535
    rotate_left
    · have hOK : OK = false := by rw [HO.out]; simp [mayB, inB]; omega
      subst hOK
      clear HG HO RG RV RU HX
      have B4 := hid B3.out
      go_wp2_with fail
      refine (bytPut_any 7 1 _ (by omega)).mono ?_
      rintro e w5 ⟨s5, rfl, o5, b5⟩
      have e7 : putB 7 1 = [7] := by decide
      rw [e7] at o5
      have O5 := hid ((o5.keep (below_alloc1 w5 (.cells #[.int .u8 7] 5))).rd (by simp))
      have B5 := hid ((B4.out.trans (b5.mono B4.out.size)).alloc (by have := B4.out.size; have := b5.size; omega) (.cells #[.int .u8 7] 5))
      clear o5 b5 e7 B3 B4
      go_wp2_with fail
      refine (caBytes_any _ _ [7] [7] _ O5.out ((own_oneD w5 7 (by omega) (by omega)).rd (by simp))).mono ?_
      rintro e w6 ⟨rfl, rfl⟩
      go_wp2
      go_ret
      exact ⟨rfl, B5.out⟩
    by_cases f4 : (HN : Int) ≤ 64
    rotate_left
    · have hOK : OK = false := by rw [HO.out]; simp [mayB, inB]; omega
      subst hOK
      clear HG HO RG RV RU HX
      have B4 := hid B3.out
      go_wp2_with fail
      refine (bytPut_any 7 1 _ (by omega)).mono ?_
      rintro e w5 ⟨s5, rfl, o5, b5⟩
      have e7 : putB 7 1 = [7] := by decide
      rw [e7] at o5
      have O5 := hid ((o5.keep (below_alloc1 w5 (.cells #[.int .u8 7] 5))).rd (by simp))
      have B5 := hid ((B4.out.trans (b5.mono B4.out.size)).alloc (by have := B4.out.size; have := b5.size; omega) (.cells #[.int .u8 7] 5))
      clear o5 b5 e7 B3 B4
      go_wp2_with fail
      refine (caBytes_any _ _ [7] [7] _ O5.out ((own_oneD w5 7 (by omega) (by omega)).rd (by simp))).mono ?_
      rintro e w6 ⟨rfl, rfl⟩
      go_wp2
      go_ret
      exact ⟨rfl, B5.out⟩
    by_cases f5 : 0 ≤ (XN : Int) - 4
    rotate_left
    · have hOK : OK = false := by rw [HO.out]; simp [mayB, inB]; omega
      subst hOK
      clear HG HO RG RV RU HX
      have B4 := hid B3.out
      go_wp2_with fail
      refine (bytPut_any 7 1 _ (by omega)).mono ?_
      rintro e w5 ⟨s5, rfl, o5, b5⟩
      have e7 : putB 7 1 = [7] := by decide
      rw [e7] at o5
      have O5 := hid ((o5.keep (below_alloc1 w5 (.cells #[.int .u8 7] 5))).rd (by simp))
      have B5 := hid ((B4.out.trans (b5.mono B4.out.size)).alloc (by have := B4.out.size; have := b5.size; omega) (.cells #[.int .u8 7] 5))
      clear o5 b5 e7 B3 B4
      go_wp2_with fail
      refine (caBytes_any _ _ [7] [7] _ O5.out ((own_oneD w5 7 (by omega) (by omega)).rd (by simp))).mono ?_
      rintro e w6 ⟨rfl, rfl⟩
      go_wp2
      go_ret
      exact ⟨rfl, B5.out⟩
    by_cases f6 : (XN : Int) - 4 ≤ 64
    rotate_left
    · have hOK : OK = false := by rw [HO.out]; simp [mayB, inB]; omega
      subst hOK
      clear HG HO RG RV RU HX
      have B4 := hid B3.out
      have g6 : decide ((XN : Int) - 4 ≤ 64) = false := by simp; omega
      go_wp2_with fail
      refine (bytPut_any 7 1 _ (by omega)).mono ?_
      rintro e w5 ⟨s5, rfl, o5, b5⟩
      have e7 : putB 7 1 = [7] := by decide
      rw [e7] at o5
      have O5 := hid ((o5.keep (below_alloc1 w5 (.cells #[.int .u8 7] 5))).rd (by simp))
      have B5 := hid ((B4.out.trans (b5.mono B4.out.size)).alloc (by have := B4.out.size; have := b5.size; omega) (.cells #[.int .u8 7] 5))
      clear o5 b5 e7 B3 B4
      go_wp2_with fail
      refine (caBytes_any _ _ [7] [7] _ O5.out ((own_oneD w5 7 (by omega) (by omega)).rd (by simp))).mono ?_
      rintro e w6 ⟨rfl, rfl⟩
      go_wp2
      go_ret
      exact ⟨rfl, B5.out⟩
    have hm : mayB key seq HN (XN - 4) = true := by simp [mayB, inB]; omega
    have h4 : decide (4 ≤ XN) = true := by simp; omega
    obtain ⟨TN, hTN⟩ : ∃ TN, tkN xs ((xs.length : Int) - 4) 4 = TN := ⟨_, rfl⟩
    obtain ⟨TV, hTV⟩ : ∃ TV, tagV key seq hs (opC xs) = TV := ⟨_, rfl⟩
    have hK : OK = decide (TN = TV) := by rw [HO.out, hm, h4, hTN, hTV]; simp
    have HK := hid hK
    have HT := hid (And.intro hTN hTV)
    have HM := hid hm
    have htk : tkOk xs ((xs.length : Int) - 4) 4 = true := by have := LX.out; simp [tkOk]; omega
    have HTK := hid htk
    clear hm h4 hTN hTV hK HO htk
    have RU' : Hid (Rd w4 (.slice au XN cu) xs) := hid (by have h := RU.out; rw [LX.out] at h; exact h)
    have RV' : Hid (Rd w4 (.slice av HN cv) hs) := hid (by have h := RV.out; rw [LH.out] at h; exact h)
    have hbt := bytTake_any au cu xs ((xs.length : Int) - 4) 4 w4 RU.out (by rw [LX.out]; exact hcu) HE.out
    rw [LX.out] at hbt
    have HBT := hid hbt
    clear hbt RU RV
    have hz4 := B3.out.size
    go_wp2_with fail
    refine HBT.out.mono ?_
    rintro e w5 ⟨he, b5⟩
    rw [← LX.out, HT.out.1, HTK.out] at he
    subst he
    have RU := hid (RU'.out.keep b5)
    have RV := hid (RV'.out.keep b5)
    have RG := hid (RG.out.keep b5)
    have B5 := hid (B3.out.trans (b5.mono B3.out.size))
    clear b5 B3 HBT RU' RV'
    have RC : Hid (Rd w5 (.slice au (XN - 4) cu) (opC xs)) := hid (by
      have h := RU.out
      rw [← LX.out] at h ⊢
      exact rd_take h (by omega))
    have e4 : ((XN : Int) - 4) = ((XN - 4 : Nat) : Int) := by omega
    rw [e4]
    go_wp2_with fail
    refine (sealTag_any key seq _ _ hs (opC xs) _ RV.out RC.out).mono ?_
    rintro e w6 ⟨he, b6⟩
    rw [HT.out.2] at he
    subst he
    have RU := hid (RU.out.keep b6)
    have RV := hid (RV.out.keep b6)
    have RG := hid (RG.out.keep b6)
    have B6 := hid (B5.out.trans (b6.mono B5.out.size))
    clear b6 B5 RC
    by_cases hq : TN = TV
    · have hK : OK = true := by rw [HK.out]; simp [hq]
      subst hK
      subst hq
      have hso := shut_open HX.out HG.out.1
      rw [HG.out.2] at hso
      have HS := hid hso
      clear hso HK
      go_wp2_with fail
      refine (sealShut_any key seq _ _ hs G _ RV.out RG.out).mono ?_
      rintro e w7 ⟨s7, rfl, o7, b7⟩
      rw [HS.out] at o7
      have O7 := hid (o7.rd (by rw [LX.out]; omega))
      have RU := hid (RU.out.keep b7)
      have B7 := hid (B6.out.trans (b7.mono B6.out.size))
      clear o7 b7 B6
      go_wp2_with fail
      refine (caBytes_any _ _ xs xs _ O7.out RU.out).mono ?_
      rintro e w8 ⟨rfl, rfl⟩
      go_wp2
      go_ret
      exact ⟨rfl, B7.out⟩
    · have hK : OK = false := by rw [HK.out]; simp [hq]
      subst hK
      have hbq : (TN == TV) = false := by simpa using hq
      clear HK
      go_wp2
      go_ret
      exact ⟨rfl, B6.out⟩
  · have hl' : (1048576 : Int) < (len0 : Int) := by omega
    clear k0
    go_enter Tryd.func5, Tryd.ntmps5
    go_wp2
    go_ret
    exact ⟨rfl, Below.refl _ _⟩
theorem own : ownKnob Tryd.prog.godebug = none := by kernel_rfl
theorem laidOut : laidOutB Tryd.prog = true := by kernel_rfl
set_option maxRecDepth 100000 in
theorem lifted (os : Os) (started : os.Started) (H : Type) (enc : TypeId × Value → H) :
    ReturnsInHanded {} Tryd.checked os 5 .any (fun w args => (Rows.fnSealTagSpec.pre enc Tryd.prog Tryd.f5 Rows.fnSealTagRow.domain false w args ∧ laidMetH Tryd.prog Rows.fnSealTagRow.laid w) ∧ sizedMet enc Tryd.prog Tryd.f5 (OpenSpec.ofChange Rows.fnSealTagSpec) false w args) (Rows.fnSealTagSpec.post enc Tryd.prog Tryd.f5 false true false false) := by
  refine returnsInHanded_of_change_and (C := Tryd.checked) (X := fun w _ => laidMetH Tryd.prog Rows.fnSealTagRow.laid w) (fun _ _ _ hh h => h.of_heap hh) own started (by kernel_rfl) Tryd.func5
    (ChangeSpec.witness_at (enc := enc) (C := Tryd.checked) (os := os) (X := fun w _ => laidMetH Tryd.prog Rows.fnSealTagRow.laid w) false (laidWorld os) #[.slice none 0 0] 8 rfl (by kernel_rfl) (by kernel_rfl) (by kernel_rfl) (by kernel_rfl) (by kernel_rfl) (laidWorld_met os _)) ?_
  intro W base args ds gs before hval0 hW _ _ hL _
  have hval : ∀ (j : Nat) t v, Tryd.f5.params[j]? = some t → args[j]? = some v → Value.okWide Tryd.prog W .any base t v := hval0
  have hW' := hW
  obtain ⟨p, q, hA0, hV, rfl, hfz, hnd⟩ := hW
  have hA : DataW.TrodAll enc Tryd.prog W 0 (fun _ => true) true Tryd.f5.params.toList args.toList ds p := hA0
  rw [Tryd.params5] at hA hval
  obtain ⟨v0, vs0, d0, ds0, p0, q0, hargs, rfl, rfl, h0, r0⟩ := trodAll_cons hA
  obtain ⟨rfl, rfl, rfl⟩ := trodAll_nil r0
  obtain rfl : args = #[v0] := by cases args; simp_all
  obtain ⟨rfl, rfl⟩ := trodVars_none hV
  obtain ⟨a0, len0, cap0, rfl⟩ := okWide_slice Tryd.underlying22 (hval 0 22 v0 rfl rfl)
  have k0 := h0
  have lt0 : ∀ x ∈ p0, x.block < W.heap.size := by obtain ⟨m, hm⟩ := k0; exact DataW.trod_lt m _ _ _ hm
  obtain ⟨z0, w0⟩ : ∃ zs, IsRow .u8 W a0 len0 cap0 zs := by
    obtain ⟨fuel, hf⟩ := h0
    rcases open_ints Tryd.underlying22 Tryd.underlying5 (by kernel_rfl) hf with ⟨hcs, _⟩ | ⟨x, l, c, zs, hcs, _, hl, hm, hz, _, hcell, hwz⟩
    · simp [Value.cells] at hcs
      obtain ⟨rfl, rfl, rfl⟩ := hcs
      exact ⟨[], .inl ⟨rfl, rfl, rfl, rfl⟩⟩
    · simp [Value.cells] at hcs
      obtain ⟨rfl, rfl, rfl⟩ := hcs
      exact ⟨zs, .inr ⟨_, rfl, hl, hm, by simpa using hz, hcell, hwz⟩⟩
  clear hA0 hval0
  refine (walk a0 len0 cap0 z0 W w0 (handle_of_laid hL)).mono fun e W' ⟨he, bel⟩ => ?_
  subst he
  exact ⟨_, rfl, _, _, _, [], _, [], hW', trodAll_mk1 (shut_bool Tryd.underlying4 _), (trodAll_cons_mk (Below.trod laidOut (by kernel_rfl) (of_decide_eq_true (by kernel_rfl)) k0 bel lt0) trodAll_mk0), rfl, bel.frame _, fun h => by cases h⟩

theorem over : Rows.fnSealTagRow.holds Tryd.pinned (OpenSpec.ofChange Rows.fnSealTagSpec) :=
  OpenClaim.holds_of_wide 5 Tryd.f5 rfl rfl rfl rfl rfl rfl rfl ⟨rfl, rfl, rfl, rfl, rfl⟩ rfl rfl rfl rfl rfl (by kernel_rfl) Tryd.func5 (by kernel_rfl)
    (of_decide_eq_true (by kernel_rfl)) (by unfold Func.isWrapper; first | (rw [if_pos (by decide +kernel)]; kernel_rfl) | (rw [if_neg (by decide +kernel)]; exact ⟨rfl, rfl⟩))
    (fun os started H enc _ => lifted os started H enc)

end Go.Proofs.YticdpdmpdkliaaaDoor.fnSealTag
namespace Go.Proofs.YticdpdmpdkliaaaDoor
open Go
theorem fnSealTag_row : Rows.FnSealTagSaid := fnSealTag.over
theorem fnSealTag_holds : Rows.FnSealTagCardSaid :=
  Claim7.holds_tied_plain_at .later [] [.handle] true Rows.fnSealTagCard.stood.harness true
    fnSealTag_row (fun _ h => by cases h) (by kernel_rfl) (fun _ h => by cases h) fnSealTag_row_tie rfl ⟨rfl, rfl⟩ (by kernel_rfl) rfl
    (fun f fn hf hfn => by
      obtain rfl : f = 5 := Option.some.inj ((show Tryd.prog.funcNamed Rows.fnSealTagRow.func = some 5 by kernel_rfl).symm.trans hf) |>.symm
      obtain rfl : fn = Tryd.f5 := (Option.some.inj (Tryd.func5.symm.trans hfn)).symm
      exact ⟨by kernel_rfl, fun j t ht => by
        rw [Tryd.params5] at ht
        rcases j with _ | j
        · simp at ht; subst ht; exact (show Tryd.prog.wantsStandIn 22 = false by kernel_rfl)
        · simp at ht⟩)
    (by kernel_rfl)
#print axioms fnSealTag_holds
end Go.Proofs.YticdpdmpdkliaaaDoor
