/- What is sealed is four bytes longer, and is opened as it was by the same key, number and head: for whatever is drawn, where errors.errorType holds what the library's own text lays there. -/
import Derived.Test.YtbmjaiojeehifaaDoorDoorBase
import Derived.Test.YtbmjaiojeehifaaDoorSealBack1
import Derived.Test.YtbmjaiojeehifaaDoorDrawRaw
import Derived.Test.YtbmjaiojeehifaaDoorCards
import Derived.Test.YtbmjaiojeehifaaDoorTie
namespace Go.Proofs.YtbmjaiojeehifaaDoor
open Go.ChangeShapes Go.WideShapes Go.ChangeAt Go.RowKit Go.Joins Go.Deep
set_option linter.unusedVariables false
set_option linter.unusedSimpArgs false
set_option maxRecDepth 4000

end Go.Proofs.YtbmjaiojeehifaaDoor
namespace Go.Proofs.YtbmjaiojeehifaaDoor.fnSealBack
open Go.ChangeShapes Go.WideShapes Go.ChangeAt Go.RowKit Go.Joins Go.Deep
set_option linter.unusedVariables false
set_option maxRecDepth 4000
theorem cap_of {w : World} {a : Option Addr} {len cap : Nat} {zs : List Int} (h : IsRow .u8 w a len cap zs) : len ≤ cap := by
  rcases h with ⟨_, rfl, rfl, _⟩ | ⟨_, _, h1, _⟩
  · exact Nat.le_refl _
  · exact h1
theorem own_oneD (w : World) (x : Int) (x0 : 0 ≤ x) (x1 : x ≤ 255) : Own (w.alloc (.cells #[.int .u8 x] 5)) w.heap.size (.slice (some ⟨w.heap.size, 0, none⟩) 1 1) [x] :=
  ⟨by intro y hy; simp at hy; subst hy; exact ⟨x0, x1⟩, by simp, .inr ⟨w.heap.size, 1, #[.int .u8 x], rfl, Nat.le_refl _, heap_alloc_new w _, by simp, by unfold maxLen; omega, by simp, by simp⟩⟩
theorem own_two (w : World) (a b : Int) (h : (0 ≤ a ∧ a ≤ 255) ∧ (0 ≤ b ∧ b ≤ 255)) : Own (w.alloc (.cells #[.int .u8 a, .int .u8 b] 5)) w.heap.size (.slice (some ⟨w.heap.size, 0, none⟩) 2 2) [a, b] :=
  ⟨by simp; omega, by simp, .inr ⟨w.heap.size, 2, #[.int .u8 a, .int .u8 b], rfl, Nat.le_refl _, heap_alloc_new w _, by simp, by unfold maxLen; omega, by simp, by simp⟩⟩

set_option maxHeartbeats 8000000 in
theorem walk (a0 : Option Addr) (len0 cap0 : Nat) (z0 : List Int) (w : World) (k0 : IsRow .u8 w a0 len0 cap0 z0) (het : Et w) :
    Calls Tryd.prog 4 #[.slice a0 len0 cap0] w fun e w' => e = .returned (.bool true) ∧ Below w.heap.size w w' := by
  have m0 := k0.max
  have hp := het.pos
  by_cases hl0 : len0 ≤ 1048576
  · have hl0' : (len0 : Int) ≤ 1048576 := by omega
    obtain ⟨zs, hx0, r0⟩ := k0.rd hl0
    have hcp := cap_of k0
    have R0 := hid r0
    have HE := hid het
    clear k0 r0 het
    go_enter Tryd.func4, Tryd.ntmps4
    go_wp2_with fail
    refine (drawShut_any a0 len0 cap0 zs _ hx0 R0.out hcp).mono ?_
    rintro e w1 ⟨key, seq, v, u, hs, xs, rfl, hhs, hxs, ov, ou, b1⟩
    have RV := hid (ov.rd (by omega))
    have RU := hid (ou.rd (by omega))
    have HX := hid ou.1
    obtain ⟨av, cv, rfl, hcv⟩ := own_cap ov
    obtain ⟨au, cu, rfl, hcu⟩ := own_cap ou
    have B1 := hid b1
    clear ov ou b1 R0
    go_wp2_with fail
    refine (sealShut_any key seq _ _ hs xs _ RV.out RU.out).mono ?_
    rintro e w2 ⟨s2, rfl, o2, b2⟩
    have HL := shutL_len key seq hs xs
    have RS := hid (o2.rd (by omega))
    obtain ⟨a2, c2, rfl, hc2⟩ := own_cap o2
    have B2 := hid (B1.out.trans (b2.mono B1.out.size))
    have RV := hid (RV.out.keep b2)
    have RU := hid (RU.out.keep b2)
    clear b2 o2 B1
    go_wp2_with fail
    refine (specShut_any key seq _ _ hs xs _ RV.out RU.out).mono ?_
    rintro e w3 ⟨s3, rfl, o3, b3⟩
    have R3 := hid (o3.rd (by omega))
    have RS := hid (RS.out.keep b3)
    have RV := hid (RV.out.keep b3)
    have RU := hid (RU.out.keep b3)
    have B3 := hid (B2.out.trans (b3.mono B2.out.size))
    clear o3 b3 B2
    go_wp2_with fail
    refine (caBytes_any _ _ (shutL key seq hs xs) (shutL key seq hs xs) _ RS.out R3.out).mono ?_
    rintro e w4 ⟨rfl, rfl⟩
    clear R3
    cases hm : mayB key seq hs.length xs.length
    · have hn : shutL key seq hs xs = [] := shut_nil.2 hm
      rw [hn]
      have h66 : (shutL 5 0 [1] [2, 3]).length = 6 := by
        rw [shutL_yes (by decide), List.length_append, putB_tag_len, hidL_len]; rfl
      have H66 := hid h66
      clear h66 RS RV RU hn hm
      go_wp2_with fail
      refine (sealShut_any 5 0 _ _ [1] [2, 3] _ (((own_oneD w4 1 (by omega) (by omega)).keep (below_alloc1 _ _)).rd (by simp)) (by simpa using (own_two (w4.alloc (.cells #[.int .u8 1] 5)) 2 3 (by omega)).rd (by simp))).mono ?_
      rintro e w5 ⟨s5, rfl, o5, b5⟩
      obtain ⟨a5, c5, rfl, _⟩ := own_form o5
      rw [H66.out]
      have B5 := hid (((B3.out.alloc B3.out.size (.cells #[.int .u8 1] 5)).alloc (by have := B3.out.size; simp; omega) (.cells #[.int .u8 2, .int .u8 3] 5)).trans (b5.mono (by have := B3.out.size; simp; omega)))
      clear o5 b5 B3
      go_wp2
      go_ret
      exact ⟨rfl, B5.out⟩
    · have hy := open_shut HX.out hm
      have HY := hid hy
      obtain ⟨F, hF⟩ : ∃ F, shutL key seq hs xs = F := ⟨_, rfl⟩
      rw [hF] at RS hc2 HY HL ⊢
      have h4 := HY.out.2.2
      have hop := sealOpen_any key seq av 0 cv hs a2 c2 F w4 RV.out RS.out hc2 (HE.out.keep B3.out hp)
      rw [h4] at hop ⊢
      have HOP := hid hop
      clear hy hm hF hop
      go_wp2_with fail
      refine HOP.out.mono ?_
      rintro e w5 ⟨g5, he, o5, b5⟩
      rw [HY.out.1] at he
      rw [HY.out.2.1] at o5
      subst he
      have R5 := hid (o5.rd (by omega))
      have RU := hid (RU.out.keep b5)
      have B5 := hid (B3.out.trans (b5.mono B3.out.size))
      clear o5 b5 B3 HOP
      go_wp2_with fail
      refine (caBytes_any _ _ xs xs _ R5.out RU.out).mono ?_
      rintro e w6 ⟨rfl, rfl⟩
      go_wp2
      go_ret
      exact ⟨rfl, B5.out⟩
  · have hl' : (1048576 : Int) < (len0 : Int) := by omega
    clear k0
    go_enter Tryd.func4, Tryd.ntmps4
    go_wp2
    go_ret
    exact ⟨rfl, Below.refl _ _⟩
theorem own : ownKnob Tryd.prog.godebug = none := by kernel_rfl
theorem laidOut : laidOutB Tryd.prog = true := by kernel_rfl
set_option maxRecDepth 100000 in
theorem lifted (os : Os) (started : os.Started) (H : Type) (enc : TypeId × Value → H) :
    ReturnsInHanded {} Tryd.checked os 4 .any (fun w args => (Rows.fnSealBackSpec.pre enc Tryd.prog Tryd.f4 Rows.fnSealBackRow.domain false w args ∧ laidMetH Tryd.prog Rows.fnSealBackRow.laid w) ∧ sizedMet enc Tryd.prog Tryd.f4 (OpenSpec.ofChange Rows.fnSealBackSpec) false w args) (Rows.fnSealBackSpec.post enc Tryd.prog Tryd.f4 false true false false) := by
  refine returnsInHanded_of_change_and (C := Tryd.checked) (X := fun w _ => laidMetH Tryd.prog Rows.fnSealBackRow.laid w) (fun _ _ _ hh h => h.of_heap hh) own started (by kernel_rfl) Tryd.func4
    (ChangeSpec.witness_at (enc := enc) (C := Tryd.checked) (os := os) (X := fun w _ => laidMetH Tryd.prog Rows.fnSealBackRow.laid w) false (laidWorld os) #[.slice none 0 0] 8 rfl (by kernel_rfl) (by kernel_rfl) (by kernel_rfl) (by kernel_rfl) (by kernel_rfl) (laidWorld_met os _)) ?_
  intro W base args ds gs before hval0 hW _ _ hL _
  have hval : ∀ (j : Nat) t v, Tryd.f4.params[j]? = some t → args[j]? = some v → Value.okWide Tryd.prog W .any base t v := hval0
  have hW' := hW
  obtain ⟨p, q, hA0, hV, rfl, hfz, hnd⟩ := hW
  have hA : DataW.TrodAll enc Tryd.prog W 0 (fun _ => true) true Tryd.f4.params.toList args.toList ds p := hA0
  rw [Tryd.params4] at hA hval
  obtain ⟨v0, vs0, d0, ds0, p0, q0, hargs, rfl, rfl, h0, r0⟩ := trodAll_cons hA
  obtain ⟨rfl, rfl, rfl⟩ := trodAll_nil r0
  obtain rfl : args = #[v0] := by cases args; simp_all
  obtain ⟨rfl, rfl⟩ := trodVars_none hV
  obtain ⟨a0, len0, cap0, rfl⟩ := okWide_slice Tryd.underlying22 (hval 0 22 v0 rfl rfl)
  have k0 := h0
  have lt0 : ∀ x ∈ p0, x.block < W.heap.size := by obtain ⟨m, hm⟩ := k0; exact DataW.trod_lt m _ _ _ hm
  obtain ⟨z0, w0⟩ : ∃ zs, IsRow .u8 W a0 len0 cap0 zs := by
    obtain ⟨fuel, hf⟩ := h0
    rcases open_ints Tryd.underlying22 Tryd.underlying5 (by kernel_rfl) hf with ⟨hcs, _⟩ | ⟨x, l, c, zs, hcs, _, hl, hm, hz, _, hcell, hwz⟩
    · simp [Value.cells] at hcs
      obtain ⟨rfl, rfl, rfl⟩ := hcs
      exact ⟨[], .inl ⟨rfl, rfl, rfl, rfl⟩⟩
    · simp [Value.cells] at hcs
      obtain ⟨rfl, rfl, rfl⟩ := hcs
      exact ⟨zs, .inr ⟨_, rfl, hl, hm, by simpa using hz, hcell, hwz⟩⟩
  clear hA0 hval0
  refine (walk a0 len0 cap0 z0 W w0 (handle_of_laid hL)).mono fun e W' ⟨he, bel⟩ => ?_
  subst he
  exact ⟨_, rfl, _, _, _, [], _, [], hW', trodAll_mk1 (shut_bool Tryd.underlying4 _), (trodAll_cons_mk (Below.trod laidOut (by kernel_rfl) (of_decide_eq_true (by kernel_rfl)) k0 bel lt0) trodAll_mk0), rfl, bel.frame _, fun h => by cases h⟩

theorem over : Rows.fnSealBackRow.holds Tryd.pinned (OpenSpec.ofChange Rows.fnSealBackSpec) :=
  OpenClaim.holds_of_wide 4 Tryd.f4 rfl rfl rfl rfl rfl rfl rfl ⟨rfl, rfl, rfl, rfl, rfl⟩ rfl rfl rfl rfl rfl (by kernel_rfl) Tryd.func4 (by kernel_rfl)
    (of_decide_eq_true (by kernel_rfl)) (by unfold Func.isWrapper; first | (rw [if_pos (by decide +kernel)]; kernel_rfl) | (rw [if_neg (by decide +kernel)]; exact ⟨rfl, rfl⟩))
    (fun os started H enc _ => lifted os started H enc)

end Go.Proofs.YtbmjaiojeehifaaDoor.fnSealBack
namespace Go.Proofs.YtbmjaiojeehifaaDoor
open Go
theorem fnSealBack_row : Rows.FnSealBackSaid := fnSealBack.over
theorem fnSealBack_holds : Rows.FnSealBackCardSaid :=
  Claim7.holds_tied_plain_at .later [] [.handle] true Rows.fnSealBackCard.stood.harness true
    fnSealBack_row (fun _ h => by cases h) (by kernel_rfl) (fun _ h => by cases h) fnSealBack_row_tie rfl ⟨rfl, rfl⟩ (by kernel_rfl) rfl
    (fun f fn hf hfn => by
      obtain rfl : f = 4 := Option.some.inj ((show Tryd.prog.funcNamed Rows.fnSealBackRow.func = some 4 by kernel_rfl).symm.trans hf) |>.symm
      obtain rfl : fn = Tryd.f4 := (Option.some.inj (Tryd.func4.symm.trans hfn)).symm
      exact ⟨by kernel_rfl, fun j t ht => by
        rw [Tryd.params4] at ht
        rcases j with _ | j
        · simp at ht; subst ht; exact (show Tryd.prog.wantsStandIn 22 = false by kernel_rfl)
        · simp at ht⟩)
    (by kernel_rfl)
#print axioms fnSealBack_holds
end Go.Proofs.YtbmjaiojeehifaaDoor
