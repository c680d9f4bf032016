/- HrdNew answers at every number as the specification does, field by field; its answer owns its memory, behind another call too. No conditions. -/
import Derived.Test.YtoahbodaeipcoaaHrdNewC
namespace Go.Proofs.Ytoahbodaeipcoaa.fnExactHrdNew
open Go.ChangeShapes Go.WideShapes Go.ChangeAt Go.RowKit Go.Joins Go.Deep
set_option linter.unusedVariables false
set_option maxRecDepth 4000
set_option maxHeartbeats 8000000 in
theorem walk (n : Int) (w : World) (x0 : (Lit.int .i64 n).wf = true) :
    Calls Try.prog 14 #[.int .i64 n] w fun e w' => e = .returned (.bool true) ∧ Below w.heap.size w w' := by
  clear x0
  have hk4 : nwK n ≤ 4 := by
    unfold nwK
    split
    · rename_i h; have : 1 ≤ n ∧ n ≤ 4 := by simpa [inB] using h
      omega
    · omega
  go_enter Try.func14, Try.ntmps14
  go_wp2_with fail
  refine (specHrdNew_any n _).mono ?_
  rintro e w1 ⟨u1, v1, rfl, p1, t1, _, b1⟩
  obtain ⟨K, hK⟩ : ∃ K, nwK n = K := ⟨_, rfl⟩
  have HK := hid hK
  rw [hK] at p1 t1 hk4
  clear hK
  obtain ⟨a1, c1, rfl, _⟩ := ownI_form p1
  obtain ⟨d1, f1, rfl, _⟩ := ownI_form t1
  have V1 := hid (vb_new w1 [.slice a1 K c1, .slice d1 K f1] 44)
  have P1 := hid (p1.keep (below_alloc1 w1 (.cells #[.slice a1 K c1, .slice d1 K f1] 44)))
  have T1 := hid (t1.keep (below_alloc1 w1 (.cells #[.slice a1 K c1, .slice d1 K f1] 44)))
  have B1 := hid (b1.alloc b1.size (.cells #[.slice a1 K c1, .slice d1 K f1] 44))
  have z1 : (w1.alloc (.cells #[.slice a1 K c1, .slice d1 K f1] 44)).heap.size = w1.heap.size + 1 := by simp
  have l1 := b1.size
  clear p1 t1 b1
  go_wp2_with fail
  refine (hrdNew_any n _).mono ?_
  rw [HK.out]
  rintro e w2 ⟨u2, v2, rfl, p2, t2, ap, b2⟩
  obtain ⟨a2, c2, rfl, _⟩ := ownI_form p2
  obtain ⟨d2, f2, rfl, _⟩ := ownI_form t2
  have AP := hid ap
  have A1 := hid (ownI_apart P1.out p2 (Nat.le_refl _))
  have A2 := hid (ownI_apart P1.out t2 (Nat.le_refl _))
  have A3 := hid (ownI_apart T1.out p2 (Nat.le_refl _))
  have A4 := hid (ownI_apart T1.out t2 (Nat.le_refl _))
  have LP := hid (fun j hj => p2.blk j hj)
  have LT := hid (fun j hj => t2.blk j hj)
  have l2 := b2.size
  rw [z1] at l2
  have V1 := hid ((V1.out.keep b2).keep (below_alloc1 w2 (.cells #[.slice a2 K c2, .slice d2 K f2] 44)))
  have P1 := hid ((P1.out.keep b2).keep (below_alloc1 w2 (.cells #[.slice a2 K c2, .slice d2 K f2] 44)))
  have T1 := hid ((T1.out.keep b2).keep (below_alloc1 w2 (.cells #[.slice a2 K c2, .slice d2 K f2] 44)))
  have V2 := hid (vb_new w2 [.slice a2 K c2, .slice d2 K f2] 44)
  have P2 := hid (p2.keep (below_alloc1 w2 (.cells #[.slice a2 K c2, .slice d2 K f2] 44)))
  have T2 := hid (t2.keep (below_alloc1 w2 (.cells #[.slice a2 K c2, .slice d2 K f2] 44)))
  have B2 := hid ((B1.out.trans (b2.mono B1.out.size)).alloc (B1.out.trans (b2.mono B1.out.size)).size (.cells #[.slice a2 K c2, .slice d2 K f2] 44))
  clear p2 t2 ap b2
  obtain ⟨x0, x1⟩ := vb2 V1.out
  obtain ⟨y0, y1⟩ := vb2 V2.out
  go_wp2_with fail
  clear x0 x1 y0 y1
  refine (eqBook_same _ _ _ _ K K _ _ _ (P2.out.rd (by omega)) (T2.out.rd (by omega)) (P1.out.rd (by omega)) (T1.out.rd (by omega))).mono ?_
  rintro e w3 ⟨rfl, b3⟩
  have V1 := hid (V1.out.keep b3)
  have P1 := hid (P1.out.keep b3)
  have T1 := hid (T1.out.keep b3)
  have V2 := hid (V2.out.keep b3)
  have P2 := hid (P2.out.keep b3)
  have T2 := hid (T2.out.keep b3)
  have B3 := hid (B2.out.trans (b3.mono B2.out.size))
  clear b3
  obtain ⟨y0, y1⟩ := vb2 V2.out
  go_wp2_with fail
  clear y0 y1
  refine (markBook_any 1 _ _ K K _ _ _ _ P2.out T2.out AP.out (by omega) (by omega) (by omega) (by omega)).mono ?_
  rintro e w4 ⟨rfl, m1, m2, cg⟩
  have S2 : Hid (∀ j, ((Value.slice a2 K c2).ownBlock = some j ∨ (Value.slice d2 K f2).ownBlock = some j) → w1.heap.size + 1 ≤ j ∧ j < w2.heap.size) := hid (fun j hj => by
    rcases hj with hj | hj
    · have := LP.out j hj; rw [z1] at this; exact this
    · have := LT.out j hj; rw [z1] at this; exact this)
  have V1 := hid (V1.out.chg cg (fun hj => by have := S2.out _ hj; omega))
  have V2 := hid (V2.out.chg cg (fun hj => by have := S2.out _ hj; omega))
  have P1 := hid (P1.out.chg cg (fun j hj hj' => by rcases hj' with h | h; exact A1.out j hj h; exact A2.out j hj h))
  have T1 := hid (T1.out.chg cg (fun j hj hj' => by rcases hj' with h | h; exact A3.out j hj h; exact A4.out j hj h))
  have M1 := hid m1
  have M2 := hid m2
  have B4 := hid (below_chg B3.out cg (by have := B3.out.size; omega) (fun j hj => by have := S2.out _ hj; omega))
  clear m1 m2 cg P2 T2
  obtain ⟨y0, y1⟩ := vb2 V2.out
  have d4 : decide ((1 : Int) + K + K < 0) = false := by simp; omega
  go_wp2_with fail
  clear y0 y1
  refine (heldBook_any 1 _ _ K K _ (M1.out.rd (by omega)) (M2.out.rd (by omega)) (by omega) (by omega)).mono ?_
  rintro e w5 ⟨rfl, b5⟩
  have V1 := hid (V1.out.keep b5)
  have P1 := hid (P1.out.keep b5)
  have T1 := hid (T1.out.keep b5)
  have V2 := hid (V2.out.keep b5)
  have M1 := hid (M1.out.keep b5)
  have M2 := hid (M2.out.keep b5)
  have B5 := hid (B4.out.trans (b5.mono B4.out.size))
  clear b5
  go_wp2_with fail
  refine (hrdNew_any n _).mono ?_
  rw [HK.out]
  rintro e w6 ⟨u3, v3, rfl, p3, t3, _, b6⟩
  obtain ⟨a3, c3, rfl, _⟩ := ownI_form p3
  obtain ⟨d3, f3, rfl, _⟩ := ownI_form t3
  have V1 := hid ((V1.out.keep b6).keep (below_alloc1 w6 (.cells #[.slice a3 K c3, .slice d3 K f3] 44)))
  have P1 := hid ((P1.out.keep b6).keep (below_alloc1 w6 (.cells #[.slice a3 K c3, .slice d3 K f3] 44)))
  have T1 := hid ((T1.out.keep b6).keep (below_alloc1 w6 (.cells #[.slice a3 K c3, .slice d3 K f3] 44)))
  have V2 := hid ((V2.out.keep b6).keep (below_alloc1 w6 (.cells #[.slice a3 K c3, .slice d3 K f3] 44)))
  have M1 := hid ((M1.out.keep b6).keep (below_alloc1 w6 (.cells #[.slice a3 K c3, .slice d3 K f3] 44)))
  have M2 := hid ((M2.out.keep b6).keep (below_alloc1 w6 (.cells #[.slice a3 K c3, .slice d3 K f3] 44)))
  have P3 := hid ((p3.keep (below_alloc1 w6 (.cells #[.slice a3 K c3, .slice d3 K f3] 44))).rd (by omega))
  have T3 := hid ((t3.keep (below_alloc1 w6 (.cells #[.slice a3 K c3, .slice d3 K f3] 44))).rd (by omega))
  have B6 := hid ((B5.out.trans (b6.mono B5.out.size)).alloc (B5.out.trans (b6.mono B5.out.size)).size (.cells #[.slice a3 K c3, .slice d3 K f3] 44))
  clear p3 t3 b6
  obtain ⟨x0, x1⟩ := vb2 V1.out
  go_wp2_with fail
  clear x0 x1
  refine (eqBook_same _ _ _ _ K K _ _ _ P3.out T3.out (P1.out.rd (by omega)) (T1.out.rd (by omega))).mono ?_
  rintro e w7 ⟨rfl, b7⟩
  have V2 := hid (V2.out.keep b7)
  have M1 := hid (M1.out.keep b7)
  have M2 := hid (M2.out.keep b7)
  have B7 := hid (B6.out.trans (b7.mono B6.out.size))
  clear b7
  obtain ⟨y0, y1⟩ := vb2 V2.out
  go_wp2_with fail
  clear y0 y1
  refine (heldBook_any 1 _ _ K K _ (M1.out.rd (by omega)) (M2.out.rd (by omega)) (by omega) (by omega)).mono ?_
  rintro e w8 ⟨rfl, b8⟩
  go_wp2
  go_ret
  exact ⟨rfl, B7.out.trans (b8.mono B7.out.size)⟩
theorem own : ownKnob Try.prog.godebug = none := by kernel_rfl
theorem laidOut : laidOutB Try.prog = true := by kernel_rfl
set_option maxRecDepth 100000 in
theorem lifted (os : Os) (started : os.Started) (H : Type) (enc : TypeId × Value → H) :
    ReturnsInHanded {} Try.checked os 14 .any (Rows.fnExactHrdNewSpec.pre6 enc Try.prog Try.f14 Rows.fnExactHrdNewRow.domain false) (Rows.fnExactHrdNewSpec.post enc Try.prog Try.f14 false true false false) := by
  refine returnsInHanded_of_change (C := Try.checked) own started (by kernel_rfl) Try.func14
    (ChangeSpec.witness6 (enc := enc) (C := Try.checked) false ⟨#[], #[.int .i64 0], []⟩ 8 (by kernel_rfl) (by kernel_rfl) (by kernel_rfl) (by kernel_rfl)) ?_
  intro W base args ds gs before hval0 hW hcnd _
  have hval : ∀ (j : Nat) t v, Try.f14.params[j]? = some t → args[j]? = some v → Value.okWide Try.prog W .any base t v := hval0
  have hW' := hW
  obtain ⟨p, q, hA0, hV, rfl, hfz, hnd⟩ := hW
  have hA : DataW.TrodAll enc Try.prog W 0 (fun _ => true) true Try.f14.params.toList args.toList ds p := hA0
  rw [Try.params14] at hA hval
  obtain ⟨v0, vs0, d0, ds0, p0, q0, hargs, rfl, rfl, h0, r0⟩ := trodAll_cons hA
  obtain ⟨rfl, rfl, rfl⟩ := trodAll_nil r0
  obtain rfl : args = #[v0] := by cases args; simp_all
  obtain ⟨rfl, rfl⟩ := trodVars_none hV
  obtain ⟨a0, rfl, rfl, rfl, w0⟩ := open_int Try.underlying3 (hval 0 3 v0 rfl rfl) h0
  clear hA0 hval0
  refine (walk a0 W w0).mono fun e W' ⟨he, bel⟩ => ?_
  subst he
  exact ⟨_, rfl, _, _, _, [], _, [], hW', trodAll_mk1 (shut_bool Try.underlying4 _), (trodAll_cons_mk (shut_int Try.underlying3 w0) trodAll_mk0), rfl, bel.frame _, fun h => by cases h⟩

theorem over : Rows.fnExactHrdNewRow.holds Try.pinned (OpenSpec.ofChange Rows.fnExactHrdNewSpec) :=
  OpenClaim.holds_of_wide 14 Try.f14 rfl rfl rfl rfl rfl rfl rfl ⟨rfl, rfl, rfl, rfl, rfl⟩ rfl rfl rfl rfl rfl (by kernel_rfl) Try.func14 (by kernel_rfl)
    (of_decide_eq_true (by kernel_rfl)) (by unfold Func.isWrapper; first | (rw [if_pos (by decide +kernel)]; kernel_rfl) | (rw [if_neg (by decide +kernel)]; exact ⟨rfl, rfl⟩))
    (fun os started H enc _ => lifted os started H enc)

end Go.Proofs.Ytoahbodaeipcoaa.fnExactHrdNew
namespace Go.Proofs.Ytoahbodaeipcoaa
theorem fnExactHrdNew_holds : Rows.FnExactHrdNewSaid := fnExactHrdNew.over
#print axioms fnExactHrdNew_holds
end Go.Proofs.Ytoahbodaeipcoaa
