/- SealKey answers at every argument as the specification does, and keeps nothing. No conditions. -/
import Derived.Test.YtbmjaiojeehifaaSealKey
namespace Go.Proofs.Ytbmjaiojeehifaa
open Go.ChangeShapes Go.WideShapes Go.ChangeAt Go.RowKit Go.Joins
set_option linter.unusedVariables false

theorem list3 (a b c : Int) (P : Nat → Int → Prop) (h0 : P 0 a) (h1 : P 1 b) (h2 : P 2 c) : ∀ i, i < [a, b, c].length → P i ([a, b, c].getD i 0) := by
  intro i hi
  match i, hi with
  | 0, _ => exact h0
  | 1, _ => exact h1
  | 2, _ => exact h2
theorem list2 (a b : Int) (P : Nat → Int → Prop) (h0 : P 0 a) (h1 : P 1 b) : ∀ i, i < [a, b].length → P i ([a, b].getD i 0) := by
  intro i hi
  match i, hi with
  | 0, _ => exact h0
  | 1, _ => exact h1

theorem list6 (a b c d e f : Nat) (P : Nat → Nat → Prop) (h0 : P 0 a) (h1 : P 1 b) (h2 : P 2 c) (h3 : P 3 d) (h4 : P 4 e) (h5 : P 5 f) : ∀ i, i < [a, b, c, d, e, f].length → P i ([a, b, c, d, e, f].getD i 0) := by
  intro i hi
  match i, hi with
  | 0, _ => exact h0
  | 1, _ => exact h1
  | 2, _ => exact h2
  | 3, _ => exact h3
  | 4, _ => exact h4
  | 5, _ => exact h5

set_option maxHeartbeats 2000000 in
theorem sealKey_any (a b c d e f : Int) (w : World) :
    Calls Try.prog 34 #[.int .i64 a, .int .i64 b, .int .i64 c, .int .i64 d, .int .i64 e, .int .i64 f] w fun x w' => x = .returned (.int .i64 (keyV a b c d e f)) ∧ Below w.heap.size w w' := by
  cases h1 : inB a 0 4294967295
  · have H := hid (show keyV a b c d e f = 0 by simp [keyV, keyOk, h1])
    go_enter Try.func34, Try.ntmps34
    go_wp2_with (go_at_call 60; refine (within_any _ _ _ _).mono ?_; rintro e w' ⟨rfl, rfl⟩)
    go_ret
    exact ⟨ret_int H.out.symm, Below.refl _ _⟩
  cases h2 : ([b, c, f].all fun y => inB y 0 255)
  · have H := hid (show keyV a b c d e f = 0 by
      have : keyOk a b c d e f = false := by
        simp only [List.all_cons, List.all_nil, Bool.and_true] at h2
        simp only [keyOk]
        revert h2
        cases inB b 0 255 <;> cases inB c 0 255 <;> cases inB f 0 255 <;> simp
      simp [keyV, this])
    go_enter Try.func34, Try.ntmps34
    go_wp2_with (go_at_call 60; refine (within_any _ _ _ _).mono ?_; rintro e w' ⟨rfl, rfl⟩)
    refine (allUpTo_any 255 [b, c, f] _ 0 3 _ ?_ (by simp)).mono ?_
    · exact list3 b c f (fun i y => _ = some (Value.int .i64 y)) (by go_simp) (by go_simp) (by go_simp)
    rintro e w' ⟨rfl, rfl⟩
    rw [h2]
    go_wp2_with fail
    go_ret
    exact ⟨ret_int H.out.symm, by (repeat' (first | exact Below.refl _ _ | assumption | exact Nat.le_refl _ | (refine Below.alloc ?_ ?_ _) | (refine Below.drew ?_) | (refine Below.setCell ?_ ?_ _) | (refine Below.trans ?_ (Below.mono (by assumption) ?_)) | (simp; done) | (simp; omega) | omega))⟩
  cases h3 : ([d, e].all fun y => inB y 0 65535)
  · have H := hid (show keyV a b c d e f = 0 by
      have : keyOk a b c d e f = false := by
        simp only [List.all_cons, List.all_nil, Bool.and_true] at h3
        simp only [keyOk]
        revert h3
        cases inB d 0 65535 <;> cases inB e 0 65535 <;> simp
      simp [keyV, this])
    go_enter Try.func34, Try.ntmps34
    go_wp2_with (go_at_call 60; refine (within_any _ _ _ _).mono ?_; rintro e w' ⟨rfl, rfl⟩)
    refine (allUpTo_any 255 [b, c, f] _ 0 3 _ ?_ (by simp)).mono ?_
    · exact list3 b c f (fun i y => _ = some (Value.int .i64 y)) (by go_simp) (by go_simp) (by go_simp)
    rintro e w' ⟨rfl, rfl⟩
    rw [h2]
    go_wp2_with fail
    refine (allUpTo_any 65535 [d, e] _ 0 2 _ ?_ (by simp)).mono ?_
    · exact list2 d e (fun i y => _ = some (Value.int .i64 y)) (by go_simp) (by go_simp)
    rintro e w' ⟨rfl, rfl⟩
    rw [h3]
    go_wp2_with fail
    go_ret
    exact ⟨ret_int H.out.symm, by (repeat' (first | exact Below.refl _ _ | assumption | exact Nat.le_refl _ | (refine Below.alloc ?_ ?_ _) | (refine Below.drew ?_) | (refine Below.setCell ?_ ?_ _) | (refine Below.trans ?_ (Below.mono (by assumption) ?_)) | (simp; done) | (simp; omega) | omega))⟩
  have hk : keyOk a b c d e f = true := by
    simp only [List.all_cons, List.all_nil, Bool.and_true] at h2 h3
    simp only [keyOk, h1]
    revert h2 h3
    cases inB b 0 255 <;> cases inB c 0 255 <;> cases inB f 0 255 <;> cases inB d 0 65535 <;> cases inB e 0 65535 <;> simp
  have H := hid (show keyV a b c d e f = (((keyL b c d e f).foldl mixN a.toNat : Nat) : Int) by simp [keyV, hk])
  simp only [keyOk, Bool.and_eq_true] at hk
  obtain ⟨_, k2, k3, k4, k5, k6⟩ := hk
  have g1 := inB_iff.1 h1
  have g2 := inB_iff.1 k2
  have g3 := inB_iff.1 k3
  have g4 := inB_iff.1 k4
  have g5 := inB_iff.1 k5
  have g6 := inB_iff.1 k6
  clear k2 k3 k4 k5 k6
  have hlt := hid (foldl_lt (keyL b c d e f) a.toNat (by omega))
  obtain ⟨A, rfl⟩ := Int.eq_ofNat_of_zero_le g1.1
  go_enter Try.func34, Try.ntmps34
  go_wp2_with (go_at_call 60; refine (within_any _ _ _ _).mono ?_; rintro e w' ⟨rfl, rfl⟩)
  refine (allUpTo_any 255 [b, c, f] _ 0 3 _ ?_ (by simp)).mono ?_
  · exact list3 b c f (fun i y => _ = some (Value.int .i64 y)) (by go_simp) (by go_simp) (by go_simp)
  rintro e w' ⟨rfl, rfl⟩
  rw [h2]
  go_wp2_with fail
  refine (allUpTo_any 65535 [d, e] _ 0 2 _ ?_ (by simp)).mono ?_
  · exact list2 d e (fun i y => _ = some (Value.int .i64 y)) (by go_simp) (by go_simp)
  rintro e w' ⟨rfl, rfl⟩
  rw [h3]
  go_wp2_with fail
  refine (sealSum_n A (keyL b c d e f) 6 _ _ 0 6 _ rfl (by omega) ?_ ?_ ?_ ?_ ?_ (by simp [keyL])).mono ?_
  · exact list6 _ _ _ _ _ _ (fun _ y => y < 2147483648) (by omega) (by omega) (by omega) (by omega) (by omega) (by omega)
  · omega
  · go_simp
  · go_simp
  · refine list6 _ _ _ _ _ _ (fun i (y : Nat) => World.cell? _ ⟨_, 0 + i, none⟩ = some (Value.int .i64 (y : Int))) ?_ ?_ ?_ ?_ ?_ ?_
    · rw [Int.toNat_of_nonneg (by omega)]; go_simp
    · rw [Int.toNat_of_nonneg (by omega)]; go_simp
    · rw [Int.toNat_of_nonneg (by omega)]; go_simp
    · rw [Int.toNat_of_nonneg (by omega)]; go_simp
    · rw [Int.toNat_of_nonneg (by omega)]; go_simp
    · go_simp
  rintro e w2 ⟨rfl, hc2, hf2, hg2, hs2⟩
  have hl2 := hlt.out
  rw [Int.toNat_natCast] at hl2
  generalize hk : List.foldl mixN A (keyL b c d e f) = K at hc2 hl2
  have HK := hid hk
  clear hk h1 h2 h3
  go_wp2_with fail
  go_ret
  refine ⟨ret_int ?_, ?_⟩
  · rw [H.out, Int.toNat_natCast, HK.out]
  · refine Below.grown (row := some (w'.heap.size + 1 + 1)) ?_ hg2 (by simp; omega) (by intro k hk; simp at hk; omega)
    (repeat' (first | exact Below.refl _ _ | assumption | exact Nat.le_refl _ | (refine Below.alloc ?_ ?_ _) | (refine Below.drew ?_) | (refine Below.setCell ?_ ?_ _) | (refine Below.trans ?_ (Below.mono (by assumption) ?_)) | (simp; done) | (simp; omega) | omega))
end Go.Proofs.Ytbmjaiojeehifaa
namespace Go.Proofs.Ytbmjaiojeehifaa.fnExactSealKey
open Go.ChangeShapes Go.WideShapes Go.ChangeAt Go.RowKit Go.Joins
set_option linter.unusedVariables false
theorem walk (a b c d e f : Int) (w : World) (x0 : (Lit.int .i64 a).wf = true) (x1 : (Lit.int .i64 b).wf = true) (x2 : (Lit.int .i64 c).wf = true) (x3 : (Lit.int .i64 d).wf = true) (x4 : (Lit.int .i64 e).wf = true) (x5 : (Lit.int .i64 f).wf = true) :
    Calls Try.prog 7 #[.int .i64 a, .int .i64 b, .int .i64 c, .int .i64 d, .int .i64 e, .int .i64 f] w fun x w' => x = .returned (.bool true) ∧ Below w.heap.size w w' := by
  clear x0 x1 x2 x3 x4 x5
  go_enter Try.func7, Try.ntmps7
  go_wp2_with fail
  refine (specKey_any _ _ _ _ _ _ _).mono ?_
  rintro x w1 ⟨rfl, rfl⟩
  go_wp2_with fail
  refine (sealKey_any _ _ _ _ _ _ _).mono ?_
  rintro x w2 ⟨rfl, hb⟩
  go_wp2
  go_ret
  exact ⟨rfl, hb⟩
theorem own : ownKnob Try.prog.godebug = none := by kernel_rfl
theorem laidOut : laidOutB Try.prog = true := by kernel_rfl
set_option maxRecDepth 100000 in
theorem lifted (os : Os) (started : os.Started) (H : Type) (enc : TypeId × Value → H) :
    ReturnsInHanded {} Try.checked os 7 .any (Rows.fnExactSealKeySpec.pre6 enc Try.prog Try.f7 Rows.fnExactSealKeyRow.domain false) (Rows.fnExactSealKeySpec.post enc Try.prog Try.f7 false true false false) := by
  refine returnsInHanded_of_change (C := Try.checked) own started (by kernel_rfl) Try.func7
    (ChangeSpec.witness6 (enc := enc) (C := Try.checked) false ⟨#[], #[.int .i64 0, .int .i64 0, .int .i64 0, .int .i64 0, .int .i64 0, .int .i64 0], []⟩ 8 (by kernel_rfl) (by kernel_rfl) (by kernel_rfl) (by kernel_rfl)) ?_
  intro W base args ds gs before hval0 hW hcnd _
  have hval : ∀ (j : Nat) t v, Try.f7.params[j]? = some t → args[j]? = some v → Value.okWide Try.prog W .any base t v := hval0
  have hW' := hW
  obtain ⟨p, q, hA0, hV, rfl, hfz, hnd⟩ := hW
  have hA : DataW.TrodAll enc Try.prog W 0 (fun _ => true) true Try.f7.params.toList args.toList ds p := hA0
  rw [Try.params7] at hA hval
  obtain ⟨v0, vs0, d0, ds0, p0, q0, hargs, rfl, rfl, h0, r0⟩ := trodAll_cons hA
  obtain ⟨v1, vs1, d1, ds1, p1, q1, rfl, rfl, rfl, h1, r1⟩ := trodAll_cons r0
  obtain ⟨v2, vs2, d2, ds2, p2, q2, rfl, rfl, rfl, h2, r2⟩ := trodAll_cons r1
  obtain ⟨v3, vs3, d3, ds3, p3, q3, rfl, rfl, rfl, h3, r3⟩ := trodAll_cons r2
  obtain ⟨v4, vs4, d4, ds4, p4, q4, rfl, rfl, rfl, h4, r4⟩ := trodAll_cons r3
  obtain ⟨v5, vs5, d5, ds5, p5, q5, rfl, rfl, rfl, h5, r5⟩ := trodAll_cons r4
  obtain ⟨rfl, rfl, rfl⟩ := trodAll_nil r5
  obtain rfl : args = #[v0, v1, v2, v3, v4, v5] := by cases args; simp_all
  obtain ⟨rfl, rfl⟩ := trodVars_none hV
  obtain ⟨a0, rfl, rfl, rfl, w0⟩ := open_int Try.underlying3 (hval 0 3 v0 rfl rfl) h0
  obtain ⟨a1, rfl, rfl, rfl, w1⟩ := open_int Try.underlying3 (hval 1 3 v1 rfl rfl) h1
  obtain ⟨a2, rfl, rfl, rfl, w2⟩ := open_int Try.underlying3 (hval 2 3 v2 rfl rfl) h2
  obtain ⟨a3, rfl, rfl, rfl, w3⟩ := open_int Try.underlying3 (hval 3 3 v3 rfl rfl) h3
  obtain ⟨a4, rfl, rfl, rfl, w4⟩ := open_int Try.underlying3 (hval 4 3 v4 rfl rfl) h4
  obtain ⟨a5, rfl, rfl, rfl, w5⟩ := open_int Try.underlying3 (hval 5 3 v5 rfl rfl) h5
  clear hA0 hval0
  refine (walk a0 a1 a2 a3 a4 a5 W w0 w1 w2 w3 w4 w5).mono fun e W' ⟨he, bel⟩ => ?_
  subst he
  exact ⟨_, rfl, _, _, _, [], _, [], hW', trodAll_mk1 (shut_bool Try.underlying4 _), (trodAll_cons_mk (shut_int Try.underlying3 w0) (trodAll_cons_mk (shut_int Try.underlying3 w1) (trodAll_cons_mk (shut_int Try.underlying3 w2) (trodAll_cons_mk (shut_int Try.underlying3 w3) (trodAll_cons_mk (shut_int Try.underlying3 w4) (trodAll_cons_mk (shut_int Try.underlying3 w5) trodAll_mk0)))))), rfl, bel.frame _, fun h => by cases h⟩

theorem over : Rows.fnExactSealKeyRow.holds Try.pinned (OpenSpec.ofChange Rows.fnExactSealKeySpec) :=
  OpenClaim.holds_of_wide 7 Try.f7 rfl rfl rfl rfl rfl rfl rfl ⟨rfl, rfl, rfl, rfl, rfl⟩ rfl rfl rfl rfl rfl (by kernel_rfl) Try.func7 (by kernel_rfl)
    (of_decide_eq_true (by kernel_rfl)) (by unfold Func.isWrapper; first | (rw [if_pos (by decide +kernel)]; kernel_rfl) | (rw [if_neg (by decide +kernel)]; exact ⟨rfl, rfl⟩))
    (fun os started H enc _ => lifted os started H enc)

end Go.Proofs.Ytbmjaiojeehifaa.fnExactSealKey
namespace Go.Proofs.Ytbmjaiojeehifaa
theorem fnExactSealKey_holds : Rows.FnExactSealKeySaid := fnExactSealKey.over
#print axioms fnExactSealKey_holds
end Go.Proofs.Ytbmjaiojeehifaa
