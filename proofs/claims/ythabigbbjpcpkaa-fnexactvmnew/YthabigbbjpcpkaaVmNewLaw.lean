/- VmNew answers as the specification does; its answer owns its memory, behind another call too. No conditions. -/
import Derived.Test.YthabigbbjpcpkaaVmNew
namespace Go.Proofs.Ythabigbbjpcpkaa.fnExactVmNew
open Go.ChangeShapes Go.WideShapes Go.ChangeAt Go.RowKit Go.Joins Go.Deep
set_option linter.unusedVariables false
set_option maxRecDepth 4000
set_option maxHeartbeats 4000000 in
theorem walk (w : World) :
    Calls Try.prog 8 #[] w fun e w' => e = .returned (.bool true) ∧ Below w.heap.size w w' := by
  go_enter Try.func8, Try.ntmps8
  go_wp2_with fail
  refine (specVmNew_any _).mono ?_
  rintro e w1 ⟨u1, v1, rfl, p1, r1, _, b1⟩
  obtain ⟨a1, c1, rfl, _⟩ := ownI_form p1
  obtain ⟨a2, c2, rfl, _⟩ := ownI_form r1
  have SR := hid (p1.rd (by omega))
  have SM := hid (r1.rd (by omega))
  have B := hid b1
  clear p1 r1 b1
  have s0 : (w1.alloc (.cells #[.int .i64 0, .slice a1 4 c1, .slice a2 8 c2, .int .i64 0] 25)).cell? ⟨w1.heap.size, 0, none⟩ = some (.int .i64 0) := by go_simp
  have s1 : (w1.alloc (.cells #[.int .i64 0, .slice a1 4 c1, .slice a2 8 c2, .int .i64 0] 25)).cell? ⟨w1.heap.size, 1, none⟩ = some (.slice a1 4 c1) := by go_simp
  have s2 : (w1.alloc (.cells #[.int .i64 0, .slice a1 4 c1, .slice a2 8 c2, .int .i64 0] 25)).cell? ⟨w1.heap.size, 2, none⟩ = some (.slice a2 8 c2) := by go_simp
  have s3 : (w1.alloc (.cells #[.int .i64 0, .slice a1 4 c1, .slice a2 8 c2, .int .i64 0] 25)).cell? ⟨w1.heap.size, 3, none⟩ = some (.int .i64 0) := by go_simp
  have A1 := hid (below_alloc1 w1 (.cells #[.int .i64 0, .slice a1 4 c1, .slice a2 8 c2, .int .i64 0] 25))
  have B := hid (B.out.trans (A1.out.mono B.out.size))
  have BK := hid B.out
  have SRK := hid (SR.out.keep A1.out)
  have SMK := hid (SM.out.keep A1.out)
  go_wp2_with fail
  refine (vmNew_any _).mono ?_
  rintro e w2 ⟨u2, v2, rfl, p2, r2, ap, b2⟩
  obtain ⟨a3, c3, rfl, _⟩ := ownI_form p2
  obtain ⟨a4, c4, rfl, _⟩ := ownI_form r2
  have SR := hid ((SR.out.keep A1.out).keep b2)
  have SM := hid ((SM.out.keep A1.out).keep b2)
  have s0 := cell_keep b2 s0
  have s1 := cell_keep b2 s1
  have s2 := cell_keep b2 s2
  have s3 := cell_keep b2 s3
  have A2 := hid (below_alloc1 w2 (.cells #[.int .i64 0, .slice a3 4 c3, .slice a4 8 c4, .int .i64 0] 25))
  have s0 := cell_keep A2.out s0
  have s1 := cell_keep A2.out s1
  have s2 := cell_keep A2.out s2
  have s3 := cell_keep A2.out s3
  have g0 : (w2.alloc (.cells #[.int .i64 0, .slice a3 4 c3, .slice a4 8 c4, .int .i64 0] 25)).cell? ⟨w2.heap.size, 0, none⟩ = some (.int .i64 0) := by go_simp
  have g1 : (w2.alloc (.cells #[.int .i64 0, .slice a3 4 c3, .slice a4 8 c4, .int .i64 0] 25)).cell? ⟨w2.heap.size, 1, none⟩ = some (.slice a3 4 c3) := by go_simp
  have g2 : (w2.alloc (.cells #[.int .i64 0, .slice a3 4 c3, .slice a4 8 c4, .int .i64 0] 25)).cell? ⟨w2.heap.size, 2, none⟩ = some (.slice a4 8 c4) := by go_simp
  have g3 : (w2.alloc (.cells #[.int .i64 0, .slice a3 4 c3, .slice a4 8 c4, .int .i64 0] 25)).cell? ⟨w2.heap.size, 3, none⟩ = some (.int .i64 0) := by go_simp
  have SR := hid (SR.out.keep A2.out)
  have SM := hid (SM.out.keep A2.out)
  have GR := hid (p2.keep A2.out)
  have GM := hid (r2.keep A2.out)
  have AP := hid ap
  have GS := hid (fun (j : Nat) (hj : (Value.slice a3 4 c3).ownBlock = some j) => (p2.blk j hj).2)
  have GT := hid (fun (j : Nat) (hj : (Value.slice a4 8 c4).ownBlock = some j) => (r2.blk j hj).2)
  have C := hid (b2.trans (A2.out.mono b2.size))
  have B := hid (B.out.trans (C.out.mono B.out.size))
  have zb : (w1.alloc (.cells #[.int .i64 0, .slice a1 4 c1, .slice a2 8 c2, .int .i64 0] 25)).heap.size = w1.heap.size + 1 := by simp
  have z2 : (w1.alloc (.cells #[.int .i64 0, .slice a1 4 c1, .slice a2 8 c2, .int .i64 0] 25)).heap.size ≤ w2.heap.size := b2.size
  clear p2 r2 ap b2
  go_wp2_with fail
  refine (eqVm_same 0 0 _ _ _ _ 4 8 _ _ _ (GR.out.rd (by omega)) (GM.out.rd (by omega)) SR.out SM.out).mono ?_
  rintro e w3 ⟨rfl, b3⟩
  have s0 := cell_keep b3 s0
  have s1 := cell_keep b3 s1
  have s2 := cell_keep b3 s2
  have s3 := cell_keep b3 s3
  have g0 := cell_keep b3 g0
  have g1 := cell_keep b3 g1
  have g2 := cell_keep b3 g2
  have g3 := cell_keep b3 g3
  have SR := hid (SR.out.keep b3)
  have SM := hid (SM.out.keep b3)
  have GR := hid (GR.out.keep b3)
  have GM := hid (GM.out.keep b3)
  have KG := hid (fun j hj => (GR.out.blk j hj))
  have KM := hid (fun j hj => (GM.out.blk j hj))
  have C := hid (C.out.trans (b3.mono C.out.size))
  have B := hid (B.out.trans (b3.mono B.out.size))
  clear b3
  go_wp2_with fail
  refine (markVm_any 0 0 1 _ _ 4 8 _ _ _ _ GR.out GM.out AP.out (by omega) (by omega) (by omega) (by omega)).mono ?_
  rintro e w4 ⟨rfl, p4, r4, h4⟩
  have NS : ∀ j, (Value.slice a3 4 c3).ownBlock = some j ∨ (Value.slice a4 8 c4).ownBlock = some j → w1.heap.size + 1 ≤ j ∧ ¬ j = w2.heap.size := by
    intro j hj
    rcases hj with hj | hj
    · exact ⟨by have := (KG.out j hj).1; rw [zb] at this; exact this, Nat.ne_of_lt (GS.out j hj)⟩
    · exact ⟨by have := (KM.out j hj).1; rw [zb] at this; exact this, Nat.ne_of_lt (GT.out j hj)⟩
  have s0 := h4.cell (p := ⟨w1.heap.size, 0, none⟩) (fun h => by have := (NS _ h).1; dsimp only at this; omega) s0
  have s1 := h4.cell (p := ⟨w1.heap.size, 1, none⟩) (fun h => by have := (NS _ h).1; dsimp only at this; omega) s1
  have s2 := h4.cell (p := ⟨w1.heap.size, 2, none⟩) (fun h => by have := (NS _ h).1; dsimp only at this; omega) s2
  have s3 := h4.cell (p := ⟨w1.heap.size, 3, none⟩) (fun h => by have := (NS _ h).1; dsimp only at this; omega) s3
  have g0 := h4.cell (p := ⟨w2.heap.size, 0, none⟩) (fun h => (NS _ h).2 rfl) g0
  have g1 := h4.cell (p := ⟨w2.heap.size, 1, none⟩) (fun h => (NS _ h).2 rfl) g1
  have g2 := h4.cell (p := ⟨w2.heap.size, 2, none⟩) (fun h => (NS _ h).2 rfl) g2
  have g3 := h4.cell (p := ⟨w2.heap.size, 3, none⟩) (fun h => (NS _ h).2 rfl) g3
  have D4 := hid (h4.below (n := (w1.alloc (.cells #[.int .i64 0, .slice a1 4 c1, .slice a2 8 c2, .int .i64 0] 25)).heap.size) C.out.size (fun j hj => by rw [zb]; exact (NS j hj).1))
  have SR := hid (SRK.out.keep (C.out.trans D4.out))
  have SM := hid (SMK.out.keep (C.out.trans D4.out))
  have GR := hid p4
  have GM := hid r4
  have C := hid (C.out.trans D4.out)
  have B := hid (BK.out.trans (C.out.mono BK.out.size))
  clear p4 r4 h4 NS GS GT
  go_wp2_with fail
  refine (heldVm_any 0 0 1 _ _ 4 8 _ (GR.out.rd (by omega)) (GM.out.rd (by omega)) (by omega) (by omega)).mono ?_
  rintro e w5 ⟨rfl, b5⟩
  have s0 := cell_keep b5 s0
  have s1 := cell_keep b5 s1
  have s2 := cell_keep b5 s2
  have s3 := cell_keep b5 s3
  have g0 := cell_keep b5 g0
  have g1 := cell_keep b5 g1
  have g2 := cell_keep b5 g2
  have g3 := cell_keep b5 g3
  have SR := hid (SR.out.keep b5)
  have SM := hid (SM.out.keep b5)
  have GR := hid (GR.out.keep b5)
  have GM := hid (GM.out.keep b5)
  have B := hid (B.out.trans (b5.mono B.out.size))
  clear b5
  go_wp2_with fail
  refine (vmNew_any _).mono ?_
  rintro e w6 ⟨u6, v6, rfl, p6, r6, _, b6⟩
  obtain ⟨a5, c5, rfl, _⟩ := ownI_form p6
  obtain ⟨a6, c6, rfl, _⟩ := ownI_form r6
  have A6 := hid (below_alloc1 w6 (.cells #[.int .i64 0, .slice a5 4 c5, .slice a6 8 c6, .int .i64 0] 25))
  have s0 := cell_keep (b6.trans (A6.out.mono b6.size)) s0
  have s1 := cell_keep (b6.trans (A6.out.mono b6.size)) s1
  have s2 := cell_keep (b6.trans (A6.out.mono b6.size)) s2
  have s3 := cell_keep (b6.trans (A6.out.mono b6.size)) s3
  have g0 := cell_keep (b6.trans (A6.out.mono b6.size)) g0
  have g1 := cell_keep (b6.trans (A6.out.mono b6.size)) g1
  have g2 := cell_keep (b6.trans (A6.out.mono b6.size)) g2
  have g3 := cell_keep (b6.trans (A6.out.mono b6.size)) g3
  have h0 : (w6.alloc (.cells #[.int .i64 0, .slice a5 4 c5, .slice a6 8 c6, .int .i64 0] 25)).cell? ⟨w6.heap.size, 0, none⟩ = some (.int .i64 0) := by go_simp
  have h1 : (w6.alloc (.cells #[.int .i64 0, .slice a5 4 c5, .slice a6 8 c6, .int .i64 0] 25)).cell? ⟨w6.heap.size, 1, none⟩ = some (.slice a5 4 c5) := by go_simp
  have h2 : (w6.alloc (.cells #[.int .i64 0, .slice a5 4 c5, .slice a6 8 c6, .int .i64 0] 25)).cell? ⟨w6.heap.size, 2, none⟩ = some (.slice a6 8 c6) := by go_simp
  have h3 : (w6.alloc (.cells #[.int .i64 0, .slice a5 4 c5, .slice a6 8 c6, .int .i64 0] 25)).cell? ⟨w6.heap.size, 3, none⟩ = some (.int .i64 0) := by go_simp
  have SR := hid ((SR.out.keep b6).keep A6.out)
  have SM := hid ((SM.out.keep b6).keep A6.out)
  have GR := hid ((GR.out.keep b6).keep A6.out)
  have GM := hid ((GM.out.keep b6).keep A6.out)
  have HR := hid ((p6.keep A6.out).rd (by omega))
  have HM := hid ((r6.keep A6.out).rd (by omega))
  have B := hid ((B.out.trans (b6.mono B.out.size)))
  have B := hid ((B.out.trans (A6.out.mono B.out.size)))
  clear p6 r6 b6
  go_wp2_with fail
  refine (eqVm_same 0 0 _ _ _ _ 4 8 _ _ _ HR.out HM.out SR.out SM.out).mono ?_
  rintro e w7 ⟨rfl, b7⟩
  have g0 := cell_keep b7 g0
  have g1 := cell_keep b7 g1
  have g2 := cell_keep b7 g2
  have g3 := cell_keep b7 g3
  have GR := hid (GR.out.keep b7)
  have GM := hid (GM.out.keep b7)
  have B := hid (B.out.trans (b7.mono B.out.size))
  clear b7
  go_wp2_with fail
  refine (heldVm_any 0 0 1 _ _ 4 8 _ (GR.out.rd (by omega)) (GM.out.rd (by omega)) (by omega) (by omega)).mono ?_
  rintro e w8 ⟨rfl, b8⟩
  have B := hid (B.out.trans (b8.mono B.out.size))
  clear b8
  go_wp2
  go_ret
  exact ⟨rfl, B.out⟩
theorem own : ownKnob Try.prog.godebug = none := by kernel_rfl
theorem laidOut : laidOutB Try.prog = true := by kernel_rfl
set_option maxRecDepth 100000 in
theorem lifted (os : Os) (started : os.Started) (H : Type) (enc : TypeId × Value → H) :
    ReturnsInHanded {} Try.checked os 8 .any (Rows.fnExactVmNewSpec.pre6 enc Try.prog Try.f8 Rows.fnExactVmNewRow.domain false) (Rows.fnExactVmNewSpec.post enc Try.prog Try.f8 false true false false) := by
  refine returnsInHanded_of_change (C := Try.checked) own started (by kernel_rfl) Try.func8
    (ChangeSpec.witness6 (enc := enc) (C := Try.checked) false ⟨#[], #[], []⟩ 8 (by kernel_rfl) (by kernel_rfl) (by kernel_rfl) (by kernel_rfl)) ?_
  intro W base args ds gs before hval0 hW hcnd _
  have hval : ∀ (j : Nat) t v, Try.f8.params[j]? = some t → args[j]? = some v → Value.okWide Try.prog W .any base t v := hval0
  have hW' := hW
  obtain ⟨p, q, hA0, hV, rfl, hfz, hnd⟩ := hW
  have hA : DataW.TrodAll enc Try.prog W 0 (fun _ => true) true Try.f8.params.toList args.toList ds p := hA0
  rw [Try.params8] at hA hval
  obtain ⟨hargs, rfl, rfl⟩ := trodAll_nil hA
  obtain rfl : args = #[] := by cases args; simp_all
  obtain ⟨rfl, rfl⟩ := trodVars_none hV
  clear hA0 hval0
  refine (walk  W ).mono fun e W' ⟨he, bel⟩ => ?_
  subst he
  exact ⟨_, rfl, _, _, _, [], _, [], hW', trodAll_mk1 (shut_bool Try.underlying4 _), trodAll_mk0, rfl, bel.frame _, fun h => by cases h⟩

theorem over : Rows.fnExactVmNewRow.holds Try.pinned (OpenSpec.ofChange Rows.fnExactVmNewSpec) :=
  OpenClaim.holds_of_wide 8 Try.f8 rfl rfl rfl rfl rfl rfl rfl ⟨rfl, rfl, rfl, rfl, rfl⟩ rfl rfl rfl rfl rfl (by kernel_rfl) Try.func8 (by kernel_rfl)
    (of_decide_eq_true (by kernel_rfl)) (by unfold Func.isWrapper; first | (rw [if_pos (by decide +kernel)]; kernel_rfl) | (rw [if_neg (by decide +kernel)]; exact ⟨rfl, rfl⟩))
    (fun os started H enc _ => lifted os started H enc)

end Go.Proofs.Ythabigbbjpcpkaa.fnExactVmNew
namespace Go.Proofs.Ythabigbbjpcpkaa
theorem fnExactVmNew_holds : Rows.FnExactVmNewSaid := fnExactVmNew.over
#print axioms fnExactVmNew_holds
end Go.Proofs.Ythabigbbjpcpkaa
