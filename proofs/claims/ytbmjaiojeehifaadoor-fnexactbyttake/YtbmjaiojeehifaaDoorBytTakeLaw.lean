/- BytTake answers at every argument as the specification does; it writes into no argument and keeps nothing of one: where errors.errorType holds what the library's own text lays there. -/
import Derived.Test.YtbmjaiojeehifaaDoorDoorBase
import Derived.Test.YtbmjaiojeehifaaDoorBytTake
import Derived.Test.YtbmjaiojeehifaaDoorCards
import Derived.Test.YtbmjaiojeehifaaDoorTie
namespace Go.Proofs.YtbmjaiojeehifaaDoor
open Go.ChangeShapes Go.WideShapes Go.ChangeAt Go.RowKit Go.Joins Go.Deep
theorem own_capD {w : World} {B : Nat} {v : Value} {xs : List Int} (h : Own w B v xs) : ∃ a cap, v = .slice a xs.length cap ∧ xs.length ≤ cap := by
  obtain ⟨h1, h2, h3⟩ := h
  rcases h3 with ⟨hv, h0⟩ | ⟨g, cap, cur, hv, hg, hh, hnc, hm, hsz, hcur⟩
  · exact ⟨none, 0, by rw [hv, h0], by omega⟩
  · exact ⟨_, cap, hv, by omega⟩
end Go.Proofs.YtbmjaiojeehifaaDoor
namespace Go.Proofs.YtbmjaiojeehifaaDoor.fnExactBytTake
open Go.ChangeShapes Go.WideShapes Go.ChangeAt Go.RowKit Go.Joins Go.Deep
set_option linter.unusedVariables false
set_option maxHeartbeats 4000000 in
theorem walk (a0 : Option Addr) (len0 cap0 : Nat) (z0 : List Int) (A S : Int) (w : World) (k0 : IsRow .u8 w a0 len0 cap0 z0) (wA : (Lit.int .i64 A).wf = true) (wS : (Lit.int .i64 S).wf = true) (het : Et w) :
    Calls Tryd.prog 8 #[.slice a0 len0 cap0, .int .i64 A, .int .i64 S] w fun e w' => e = .returned (.bool true) ∧ Below w.heap.size w w' := by
  have m0 := k0.max
  have hp := het.pos
  by_cases hl0 : len0 ≤ 1048576
  · obtain ⟨xs, hx0, r0⟩ := k0.rd hl0
    have R0 := hid r0
    have N0 : xs.length ≤ 2000000 := r0.2.1
    have HE := hid het
    clear hx0 k0 r0 het
    obtain ⟨TN, hTN⟩ : ∃ TN, tkN xs A S = TN := ⟨_, rfl⟩
    obtain ⟨TK, hTK⟩ : ∃ TK, tkOk xs A S = TK := ⟨_, rfl⟩
    have HT := hid (And.intro hTN hTK)
    clear hTN hTK
    go_enter Tryd.func8, Tryd.ntmps8
    go_wp2_with fail
    refine (toBytes_any _ xs _ R0.out).mono ?_
    rintro e w1 ⟨v1, rfl, o1, b1⟩
    have B1 := hid b1
    have P1 := hid (o1.rd N0)
    obtain ⟨aa1, cc1, rfl, hcc1⟩ := own_capD o1
    clear b1 o1
    go_wp2_with fail
    refine (specTake_any _ _ xs A S _ P1.out).mono ?_
    rintro e w2 ⟨he, rfl⟩
    rw [HT.out.1, HT.out.2] at he
    subst he
    go_wp2_with fail
    refine (toBytes_any _ xs _ (R0.out.keep B1.out)).mono ?_
    rintro e w3 ⟨x3, rfl, o3, b3⟩
    have B3 := hid (B1.out.trans (b3.mono B1.out.size))
    have X3 := hid (o3.rd N0)
    obtain ⟨aa3, cc3, rfl, hcc3⟩ := own_capD o3
    clear b3 o3
    go_wp2_with fail
    refine (bytTake_any _ _ xs A S _ X3.out hcc3 (HE.out.keep B3.out hp)).mono ?_
    rintro e w4 ⟨he, b4⟩
    rw [HT.out.1, HT.out.2] at he
    subst he
    have B4 := hid (B3.out.trans (b4.mono B3.out.size))
    have X3 := hid (X3.out.keep b4)
    clear b4
    go_wp2_with fail
    refine (toBytes_any _ xs _ (R0.out.keep B4.out)).mono ?_
    rintro e w5 ⟨x5, rfl, o5, b5⟩
    have B5 := hid (B4.out.trans (b5.mono B4.out.size))
    have X5 := hid (o5.rd N0)
    have X3 := hid (X3.out.keep b5)
    clear b5 o5
    go_wp2_with fail
    refine (eqBytes_same _ _ xs _ X3.out X5.out).mono ?_
    rintro e w6 ⟨rfl, b6⟩
    go_wp2
    go_ret
    exact ⟨rfl, B5.out.trans (b6.mono B5.out.size)⟩
  · have hl' : (1048576 : Int) < (len0 : Int) := by omega
    clear k0
    go_enter Tryd.func8, Tryd.ntmps8
    go_wp2
    go_ret
    exact ⟨rfl, Below.refl _ _⟩
theorem own : ownKnob Tryd.prog.godebug = none := by kernel_rfl
theorem laidOut : laidOutB Tryd.prog = true := by kernel_rfl
set_option maxRecDepth 100000 in
theorem lifted (os : Os) (started : os.Started) (H : Type) (enc : TypeId × Value → H) :
    ReturnsInHanded {} Tryd.checked os 8 .any (fun w args => (Rows.fnExactBytTakeSpec.pre enc Tryd.prog Tryd.f8 Rows.fnExactBytTakeRow.domain false w args ∧ laidMetH Tryd.prog Rows.fnExactBytTakeRow.laid w) ∧ sizedMet enc Tryd.prog Tryd.f8 (OpenSpec.ofChange Rows.fnExactBytTakeSpec) false w args) (Rows.fnExactBytTakeSpec.post enc Tryd.prog Tryd.f8 false true false false) := by
  refine returnsInHanded_of_change_and (C := Tryd.checked) (X := fun w _ => laidMetH Tryd.prog Rows.fnExactBytTakeRow.laid w) (fun _ _ _ hh h => h.of_heap hh) own started (by kernel_rfl) Tryd.func8
    (ChangeSpec.witness_at (enc := enc) (C := Tryd.checked) (os := os) (X := fun w _ => laidMetH Tryd.prog Rows.fnExactBytTakeRow.laid w) false (laidWorld os) #[.slice none 0 0, .int .i64 0, .int .i64 0] 8 rfl (by kernel_rfl) (by kernel_rfl) (by kernel_rfl) (by kernel_rfl) (by kernel_rfl) (laidWorld_met os _)) ?_
  intro W base args ds gs before hval0 hW _ _ hL _
  have hval : ∀ (j : Nat) t v, Tryd.f8.params[j]? = some t → args[j]? = some v → Value.okWide Tryd.prog W .any base t v := hval0
  have hW' := hW
  obtain ⟨p, q, hA0, hV, rfl, hfz, hnd⟩ := hW
  have hA : DataW.TrodAll enc Tryd.prog W 0 (fun _ => true) true Tryd.f8.params.toList args.toList ds p := hA0
  rw [Tryd.params8] at hA hval
  obtain ⟨v0, vs0, d0, ds0, p0, q0, hargs, rfl, rfl, h0, r0⟩ := trodAll_cons hA
  obtain ⟨v1, vs1, d1, ds1, p1, q1, rfl, rfl, rfl, h1, r1⟩ := trodAll_cons r0
  obtain ⟨v2, vs2, d2, ds2, p2, q2, rfl, rfl, rfl, h2, r2⟩ := trodAll_cons r1
  obtain ⟨rfl, rfl, rfl⟩ := trodAll_nil r2
  obtain rfl : args = #[v0, v1, v2] := by cases args; simp_all
  obtain ⟨rfl, rfl⟩ := trodVars_none hV
  obtain ⟨a0, len0, cap0, rfl⟩ := okWide_slice Tryd.underlying22 (hval 0 22 v0 rfl rfl)
  have k0 := h0
  have lt0 : ∀ x ∈ p0, x.block < W.heap.size := by obtain ⟨m, hm⟩ := k0; exact DataW.trod_lt m _ _ _ hm
  obtain ⟨z0, w0⟩ : ∃ zs, IsRow .u8 W a0 len0 cap0 zs := by
    obtain ⟨fuel, hf⟩ := h0
    rcases open_ints Tryd.underlying22 Tryd.underlying5 (by kernel_rfl) hf with ⟨hcs, _⟩ | ⟨x, l, c, zs, hcs, _, hl, hm, hz, _, hcell, hwz⟩
    · simp [Value.cells] at hcs
      obtain ⟨rfl, rfl, rfl⟩ := hcs
      exact ⟨[], .inl ⟨rfl, rfl, rfl, rfl⟩⟩
    · simp [Value.cells] at hcs
      obtain ⟨rfl, rfl, rfl⟩ := hcs
      exact ⟨zs, .inr ⟨_, rfl, hl, hm, by simpa using hz, hcell, hwz⟩⟩
  obtain ⟨a1, rfl, rfl, rfl, w1⟩ := open_int Tryd.underlying3 (hval 1 3 v1 rfl rfl) h1
  obtain ⟨a2, rfl, rfl, rfl, w2⟩ := open_int Tryd.underlying3 (hval 2 3 v2 rfl rfl) h2
  clear hA0 hval0
  refine (walk a0 len0 cap0 z0 a1 a2 W w0 w1 w2 (handle_of_laid hL)).mono fun e W' ⟨he, bel⟩ => ?_
  subst he
  exact ⟨_, rfl, _, _, _, [], _, [], hW', trodAll_mk1 (shut_bool Tryd.underlying4 _), (trodAll_cons_mk (Below.trod laidOut (by kernel_rfl) (of_decide_eq_true (by kernel_rfl)) k0 bel lt0) (trodAll_cons_mk (shut_int Tryd.underlying3 w1) (trodAll_cons_mk (shut_int Tryd.underlying3 w2) trodAll_mk0))), rfl, bel.frame _, fun h => by cases h⟩

theorem over : Rows.fnExactBytTakeRow.holds Tryd.pinned (OpenSpec.ofChange Rows.fnExactBytTakeSpec) :=
  OpenClaim.holds_of_wide 8 Tryd.f8 rfl rfl rfl rfl rfl rfl rfl ⟨rfl, rfl, rfl, rfl, rfl⟩ rfl rfl rfl rfl rfl (by kernel_rfl) Tryd.func8 (by kernel_rfl)
    (of_decide_eq_true (by kernel_rfl)) (by unfold Func.isWrapper; first | (rw [if_pos (by decide +kernel)]; kernel_rfl) | (rw [if_neg (by decide +kernel)]; exact ⟨rfl, rfl⟩))
    (fun os started H enc _ => lifted os started H enc)

end Go.Proofs.YtbmjaiojeehifaaDoor.fnExactBytTake
namespace Go.Proofs.YtbmjaiojeehifaaDoor
open Go
theorem fnExactBytTake_row : Rows.FnExactBytTakeSaid := fnExactBytTake.over
theorem fnExactBytTake_holds : Rows.FnExactBytTakeCardSaid :=
  Claim7.holds_tied_plain_at .later [] [.handle] true Rows.fnExactBytTakeCard.stood.harness true
    fnExactBytTake_row (fun _ h => by cases h) (by kernel_rfl) (fun _ h => by cases h) fnExactBytTake_row_tie rfl ⟨rfl, rfl⟩ (by kernel_rfl) rfl
    (fun f fn hf hfn => by
      obtain rfl : f = 8 := Option.some.inj ((show Tryd.prog.funcNamed Rows.fnExactBytTakeRow.func = some 8 by kernel_rfl).symm.trans hf) |>.symm
      obtain rfl : fn = Tryd.f8 := (Option.some.inj (Tryd.func8.symm.trans hfn)).symm
      exact ⟨by kernel_rfl, fun j t ht => by
        rw [Tryd.params8] at ht
        rcases j with _ | _ | _ | j
        · simp at ht; subst ht; exact (show Tryd.prog.wantsStandIn 22 = false by kernel_rfl)
        · simp at ht; subst ht; exact (show Tryd.prog.wantsStandIn 3 = false by kernel_rfl)
        · simp at ht; subst ht; exact (show Tryd.prog.wantsStandIn 3 = false by kernel_rfl)
        · simp at ht⟩)
    (by kernel_rfl)
#print axioms fnExactBytTake_holds
end Go.Proofs.YtbmjaiojeehifaaDoor
