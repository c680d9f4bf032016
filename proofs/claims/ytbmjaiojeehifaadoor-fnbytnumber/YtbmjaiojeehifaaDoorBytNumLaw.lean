/- What is written of a number has its size, is read as it was, and stands in the order of the numbers: for whatever is drawn, where errors.errorType holds what the library's own text lays there. -/
import Derived.Test.YtbmjaiojeehifaaDoorBytNum
namespace Go.Proofs.YtbmjaiojeehifaaDoor.fnBytNumber
open Go.ChangeShapes Go.WideShapes Go.ChangeAt Go.RowKit Go.Joins Go.Deep
set_option linter.unusedVariables false
set_option maxRecDepth 4000
theorem cap_of {w : World} {a : Option Addr} {len cap : Nat} {zs : List Int} (h : IsRow .u8 w a len cap zs) : len ≤ cap := by
  rcases h with ⟨_, rfl, rfl, _⟩ | ⟨_, _, h1, _⟩
  · exact Nat.le_refl _
  · exact h1
theorem own_capN {w : World} {B : Nat} {v : Value} {xs : List Int} (h : Own w B v xs) : ∃ a cap, v = .slice a xs.length cap ∧ xs.length ≤ cap := by
  obtain ⟨h1, h2, h3⟩ := h
  rcases h3 with ⟨hv, h0⟩ | ⟨g, cap, cur, hv, hg, hh, hnc, hm, hsz, hcur⟩
  · exact ⟨none, 0, by rw [hv, h0], by omega⟩
  · exact ⟨_, cap, hv, by omega⟩
theorem own_two (w : World) (a b : Int) (h : (0 ≤ a ∧ a ≤ 255) ∧ (0 ≤ b ∧ b ≤ 255)) : Own (w.alloc (.cells #[.int .u8 a, .int .u8 b] 5)) w.heap.size (.slice (some ⟨w.heap.size, 0, none⟩) 2 2) [a, b] :=
  ⟨by simp; omega, by simp, .inr ⟨w.heap.size, 2, #[.int .u8 a, .int .u8 b], rfl, Nat.le_refl _, heap_alloc_new w _, by simp, by unfold maxLen; omega, by simp, by simp⟩⟩

set_option maxHeartbeats 8000000 in
theorem walk (a0 : Option Addr) (len0 cap0 : Nat) (z0 : List Int) (a1 : Option Addr) (len1 cap1 : Nat) (z1 : List Int) (w : World) (k0 : IsRow .u8 w a0 len0 cap0 z0) (k1 : IsRow .u8 w a1 len1 cap1 z1) (het : Et w) :
    Calls Tryd.prog 3 #[.slice a0 len0 cap0, .slice a1 len1 cap1] w fun e w' => e = .returned (.bool true) ∧ Below w.heap.size w w' := by
  have m0 := k0.max
  have m1 := k1.max
  have hp := het.pos
  by_cases hl0 : len0 ≤ 1048576
  · by_cases hl1 : len1 ≤ 1048576
    · have hl0' : (len0 : Int) ≤ 1048576 := by omega
      have hl1' : (len1 : Int) ≤ 1048576 := by omega
      obtain ⟨zs, hx0, r0⟩ := k0.rd hl0
      obtain ⟨ys, hy0, r1⟩ := k1.rd hl1
      have hcp := cap_of k0
      have hcp1 := cap_of k1
      have R0 := hid r0
      have R1 := hid r1
      have HE := hid het
      clear k0 k1 r0 r1 het
      go_enter Tryd.func3, Tryd.ntmps3
      go_wp2_with fail
      refine (drawPut_any a0 len0 cap0 zs _ hx0 R0.out hcp).mono ?_
      rintro e w1 ⟨n, s, rfl, hn, b1⟩
      have B1 := hid b1
      clear b1 R0
      go_wp2_with fail
      refine (drawPut_any a1 len1 cap1 ys _ hy0 (R1.out.keep B1.out) hcp1).mono ?_
      rintro e w2 ⟨m, s2, rfl, hm, b2⟩
      have B2 := hid (B1.out.trans (b2.mono B1.out.size))
      clear b2 R1 B1
      go_wp2_with fail
      refine (bytPut_any n s _ (by omega)).mono ?_
      rintro e w3 ⟨v3, rfl, o3, b3⟩
      have LA := putB_len4 n s
      have LB := putB_len4 m s
      have RA := hid (o3.rd (by omega))
      have HXA := hid o3.1
      obtain ⟨a3, c3, rfl, hc3⟩ := own_capN o3
      have B3 := hid (B2.out.trans (b3.mono B2.out.size))
      clear o3 b3 B2
      go_wp2_with fail
      refine (bytPut_any m s _ (by omega)).mono ?_
      rintro e w4 ⟨v4, rfl, o4, b4⟩
      have RB := hid (o4.rd (by omega))
      have HXB := hid o4.1
      obtain ⟨a4, c4, rfl, hc4⟩ := own_capN o4
      have RA := hid (RA.out.keep b4)
      have B4 := hid (B3.out.trans (b4.mono B3.out.size))
      clear o4 b4 B3
      go_wp2_with fail
      refine (specPut_any n s _).mono ?_
      rintro e w5 ⟨v5, rfl, o5, b5⟩
      have R5 := hid (o5.rd (by omega))
      have RA := hid (RA.out.keep b5)
      have RB := hid (RB.out.keep b5)
      have B5 := hid (B4.out.trans (b5.mono B4.out.size))
      clear o5 b5 B4
      go_wp2_with fail
      refine (caBytes_any _ _ (putB n s) (putB n s) _ RA.out R5.out).mono ?_
      rintro e w6 ⟨rfl, rfl⟩
      go_wp2_with fail
      refine (specPut_any m s _).mono ?_
      rintro e w7 ⟨v7, rfl, o7, b7⟩
      have R7 := hid (o7.rd (by omega))
      have RA := hid (RA.out.keep b7)
      have RB := hid (RB.out.keep b7)
      have B7 := hid (B5.out.trans (b7.mono B5.out.size))
      clear o7 b7 B5 R5
      go_wp2_with fail
      refine (caBytes_any _ _ (putB m s) (putB m s) _ RB.out R7.out).mono ?_
      rintro e w8 ⟨rfl, rfl⟩
      clear R7
      have QA := hid RA.out
      have QB := hid RB.out
      clear RA RB
      by_cases hz : putB n s = []
      · rw [hz] at hc3 QA ⊢
        have hpp : putB 258 2 = [1, 2] := by decide +kernel
        have HPP := hid hpp
        clear hpp hz
        go_wp2_with fail
        refine (bytPut_any 258 2 _ (by omega)).mono ?_
        rintro e w9 ⟨v9, rfl, o9, b9⟩
        rw [HPP.out] at o9
        have R9 := hid ((o9.keep (below_alloc1 w9 (.cells #[.int .u8 1, .int .u8 2] 5))).rd (by simp))
        have O2 := hid ((own_two w9 1 2 (by omega)).rd (by simp))
        have B9 := hid ((B7.out.trans (b9.mono B7.out.size)).alloc (by have := B7.out.size; have := b9.size; omega) (.cells #[.int .u8 1, .int .u8 2] 5))
        clear o9 b9 B7
        go_wp2_with fail
        refine (caBytes_any _ _ [1, 2] [1, 2] _ R9.out O2.out).mono ?_
        rintro e w10 ⟨rfl, rfl⟩
        go_wp2
        go_ret
        exact ⟨rfl, B9.out⟩
      · obtain ⟨hs, n0, n1, hpn⟩ := putB_yes hz
        obtain ⟨N, rfl⟩ := Int.eq_ofNat_of_zero_le n0
        obtain ⟨S, rfl⟩ := Int.eq_ofNat_of_zero_le (show 0 ≤ s by omega)
        simp only [Int.toNat_natCast] at n1 hpn
        have n1' : N < 256 ^ S := by exact_mod_cast n1
        have hlA : (putB (N : Int) (S : Int)).length = S := by rw [hpn, putL_len]
        have htk : tkOk (putB (N : Int) (S : Int)) 0 S = true := by simp [tkOk, hlA]; omega
        have htn : tkN (putB (N : Int) (S : Int)) 0 S = N := by
          simp only [tkN, htk, if_true, Int.toNat_natCast, Int.toNat_zero, List.drop_zero]
          rw [List.take_of_length_le (by rw [hlA]; exact Nat.le_refl _), hpn]
          exact num_put N S (by omega) n1'
        have hBT := bytTake_any a3 c3 (putB (N : Int) (S : Int)) 0 S w8 QA.out hc3 (HE.out.keep B7.out hp)
        rw [htn, htk, hlA] at hBT
        have HBT := hid hBT
        have hnA : numL (putB (N : Int) (S : Int)) = N := by rw [hpn]; exact num_put N S (by omega) n1'
        obtain ⟨PA, hPA⟩ : ∃ PA, putB (N : Int) (S : Int) = PA := ⟨_, rfl⟩
        obtain ⟨PB, hPB⟩ : ∃ PB, putB m (S : Int) = PB := ⟨_, rfl⟩
        rw [hPA] at hlA hnA QA HXA hc3 LA ⊢
        rw [hPB] at QB HXB hc4 LB ⊢
        rw [hlA] at hc3 ⊢
        have hS4 : S ≤ 4 := by omega
        by_cases hzb : PB = []
        · rw [hzb] at QB hc4 ⊢
          clear hBT htk htn hPA
          go_wp2_with fail
          refine HBT.out.mono ?_
          rintro e w9 ⟨rfl, b9⟩
          have B9 := hid (B7.out.trans (b9.mono B7.out.size))
          clear b9
          go_wp2
          go_ret
          exact ⟨rfl, B9.out⟩
        · have hyb := putB_yes (n := m) (s := (S : Int)) (by rw [hPB]; exact hzb)
          obtain ⟨_, b0, b1, hpb⟩ := hyb
          obtain ⟨M, rfl⟩ := Int.eq_ofNat_of_zero_le b0
          simp only [Int.toNat_natCast] at b1 hpb
          have b1' : M < 256 ^ S := by exact_mod_cast b1
          rw [hPB] at hpb
          have hlB : PB.length = S := by rw [hpb, putL_len]
          have hnB : numL PB = M := by rw [hpb]; exact num_put M S (by omega) b1'
          have hls := num_less PA PB HXA.out HXB.out (by rw [hlA, hlB]) (by omega)
          rw [hnA, hnB] at hls
          rw [hlB] at hc4 ⊢
          have hSz : ¬ (S : Int) = 0 := by omega
          have HLS := hid hls
          clear hBT htk htn hPA hPB hpb hpn b1 hls
          go_wp2_with fail
          refine HBT.out.mono ?_
          rintro e w9 ⟨rfl, b9⟩
          have B9 := hid (B7.out.trans (b9.mono B7.out.size))
          have cA := conv_rd (QA.out.keep b9)
          have cB := conv_rd (QB.out.keep b9)
          rw [hlA] at cA
          rw [hlB] at cB
          have hls := HLS.out
          clear b9
          go_wp2
          go_ret
          exact ⟨rfl, B9.out⟩
    · have hl1' : (1048576 : Int) < (len1 : Int) := by omega
      have hl0' : (len0 : Int) ≤ 1048576 := by omega
      clear k0 k1
      go_enter Tryd.func3, Tryd.ntmps3
      go_wp2
      go_ret
      exact ⟨rfl, Below.refl _ _⟩
  · have hl0' : (1048576 : Int) < (len0 : Int) := by omega
    clear k0 k1
    go_enter Tryd.func3, Tryd.ntmps3
    go_wp2
    go_ret
    exact ⟨rfl, Below.refl _ _⟩
theorem own : ownKnob Tryd.prog.godebug = none := by kernel_rfl
theorem laidOut : laidOutB Tryd.prog = true := by kernel_rfl
set_option maxRecDepth 100000 in
theorem lifted (os : Os) (started : os.Started) (H : Type) (enc : TypeId × Value → H) :
    ReturnsInHanded {} Tryd.checked os 3 .any (fun w args => (Rows.fnBytNumberSpec.pre enc Tryd.prog Tryd.f3 Rows.fnBytNumberRow.domain false w args ∧ laidMetH Tryd.prog Rows.fnBytNumberRow.laid w) ∧ sizedMet enc Tryd.prog Tryd.f3 (OpenSpec.ofChange Rows.fnBytNumberSpec) false w args) (Rows.fnBytNumberSpec.post enc Tryd.prog Tryd.f3 false true false false) := by
  refine returnsInHanded_of_change_and (C := Tryd.checked) (X := fun w _ => laidMetH Tryd.prog Rows.fnBytNumberRow.laid w) (fun _ _ _ hh h => h.of_heap hh) own started (by kernel_rfl) Tryd.func3
    (ChangeSpec.witness_at (enc := enc) (C := Tryd.checked) (os := os) (X := fun w _ => laidMetH Tryd.prog Rows.fnBytNumberRow.laid w) false (laidWorld os) #[.slice none 0 0, .slice none 0 0] 8 rfl (by kernel_rfl) (by kernel_rfl) (by kernel_rfl) (by kernel_rfl) (by kernel_rfl) (laidWorld_met os _)) ?_
  intro W base args ds gs before hval0 hW _ _ hL _
  have hval : ∀ (j : Nat) t v, Tryd.f3.params[j]? = some t → args[j]? = some v → Value.okWide Tryd.prog W .any base t v := hval0
  have hW' := hW
  obtain ⟨p, q, hA0, hV, rfl, hfz, hnd⟩ := hW
  have hA : DataW.TrodAll enc Tryd.prog W 0 (fun _ => true) true Tryd.f3.params.toList args.toList ds p := hA0
  rw [Tryd.params3] at hA hval
  obtain ⟨v0, vs0, d0, ds0, p0, q0, hargs, rfl, rfl, h0, r0⟩ := trodAll_cons hA
  obtain ⟨v1, vs1, d1, ds1, p1, q1, rfl, rfl, rfl, h1, r1⟩ := trodAll_cons r0
  obtain ⟨rfl, rfl, rfl⟩ := trodAll_nil r1
  obtain rfl : args = #[v0, v1] := by cases args; simp_all
  obtain ⟨rfl, rfl⟩ := trodVars_none hV
  obtain ⟨a0, len0, cap0, rfl⟩ := okWide_slice Tryd.underlying22 (hval 0 22 v0 rfl rfl)
  have k0 := h0
  have lt0 : ∀ x ∈ p0, x.block < W.heap.size := by obtain ⟨m, hm⟩ := k0; exact DataW.trod_lt m _ _ _ hm
  obtain ⟨z0, w0⟩ : ∃ zs, IsRow .u8 W a0 len0 cap0 zs := by
    obtain ⟨fuel, hf⟩ := h0
    rcases open_ints Tryd.underlying22 Tryd.underlying5 (by kernel_rfl) hf with ⟨hcs, _⟩ | ⟨x, l, c, zs, hcs, _, hl, hm, hz, _, hcell, hwz⟩
    · simp [Value.cells] at hcs
      obtain ⟨rfl, rfl, rfl⟩ := hcs
      exact ⟨[], .inl ⟨rfl, rfl, rfl, rfl⟩⟩
    · simp [Value.cells] at hcs
      obtain ⟨rfl, rfl, rfl⟩ := hcs
      exact ⟨zs, .inr ⟨_, rfl, hl, hm, by simpa using hz, hcell, hwz⟩⟩
  obtain ⟨a1, len1, cap1, rfl⟩ := okWide_slice Tryd.underlying22 (hval 1 22 v1 rfl rfl)
  have k1 := h1
  have lt1 : ∀ x ∈ p1, x.block < W.heap.size := by obtain ⟨m, hm⟩ := k1; exact DataW.trod_lt m _ _ _ hm
  obtain ⟨z1, w1⟩ : ∃ zs, IsRow .u8 W a1 len1 cap1 zs := by
    obtain ⟨fuel, hf⟩ := h1
    rcases open_ints Tryd.underlying22 Tryd.underlying5 (by kernel_rfl) hf with ⟨hcs, _⟩ | ⟨x, l, c, zs, hcs, _, hl, hm, hz, _, hcell, hwz⟩
    · simp [Value.cells] at hcs
      obtain ⟨rfl, rfl, rfl⟩ := hcs
      exact ⟨[], .inl ⟨rfl, rfl, rfl, rfl⟩⟩
    · simp [Value.cells] at hcs
      obtain ⟨rfl, rfl, rfl⟩ := hcs
      exact ⟨zs, .inr ⟨_, rfl, hl, hm, by simpa using hz, hcell, hwz⟩⟩
  clear hA0 hval0
  refine (walk a0 len0 cap0 z0 a1 len1 cap1 z1 W w0 w1 (handle_of_laid hL)).mono fun e W' ⟨he, bel⟩ => ?_
  subst he
  exact ⟨_, rfl, _, _, _, [], _, [], hW', trodAll_mk1 (shut_bool Tryd.underlying4 _), (trodAll_cons_mk (Below.trod laidOut (by kernel_rfl) (of_decide_eq_true (by kernel_rfl)) k0 bel lt0) (trodAll_cons_mk (Below.trod laidOut (by kernel_rfl) (of_decide_eq_true (by kernel_rfl)) k1 bel lt1) trodAll_mk0)), rfl, bel.frame _, fun h => by cases h⟩

theorem over : Rows.fnBytNumberRow.holds Tryd.pinned (OpenSpec.ofChange Rows.fnBytNumberSpec) :=
  OpenClaim.holds_of_wide 3 Tryd.f3 rfl rfl rfl rfl rfl rfl rfl ⟨rfl, rfl, rfl, rfl, rfl⟩ rfl rfl rfl rfl rfl (by kernel_rfl) Tryd.func3 (by kernel_rfl)
    (of_decide_eq_true (by kernel_rfl)) (by unfold Func.isWrapper; first | (rw [if_pos (by decide +kernel)]; kernel_rfl) | (rw [if_neg (by decide +kernel)]; exact ⟨rfl, rfl⟩))
    (fun os started H enc _ => lifted os started H enc)

end Go.Proofs.YtbmjaiojeehifaaDoor.fnBytNumber
namespace Go.Proofs.YtbmjaiojeehifaaDoor
open Go
theorem fnBytNumber_row : Rows.FnBytNumberSaid := fnBytNumber.over
theorem fnBytNumber_holds : Rows.FnBytNumberCardSaid :=
  Claim7.holds_tied_plain_at .later [] [.handle] true Rows.fnBytNumberCard.stood.harness true
    fnBytNumber_row (fun _ h => by cases h) (by kernel_rfl) (fun _ h => by cases h) fnBytNumber_row_tie rfl ⟨rfl, rfl⟩ (by kernel_rfl) rfl
    (fun f fn hf hfn => by
      obtain rfl : f = 3 := Option.some.inj ((show Tryd.prog.funcNamed Rows.fnBytNumberRow.func = some 3 by kernel_rfl).symm.trans hf) |>.symm
      obtain rfl : fn = Tryd.f3 := (Option.some.inj (Tryd.func3.symm.trans hfn)).symm
      exact ⟨by kernel_rfl, fun j t ht => by
        rw [Tryd.params3] at ht
        rcases j with _ | _ | j
        · simp at ht; subst ht; exact (show Tryd.prog.wantsStandIn 22 = false by kernel_rfl)
        · simp at ht; subst ht; exact (show Tryd.prog.wantsStandIn 22 = false by kernel_rfl)
        · simp at ht⟩)
    (by kernel_rfl)
#print axioms fnBytNumber_holds
end Go.Proofs.YtbmjaiojeehifaaDoor
