/- FrmFill answers at every argument as the specification does, writes into no argument and keeps nothing of one; its answer owns its memory, behind another call too. No conditions. -/
import Derived.Test.YthkfebpjmnkkmaaFrmFill
namespace Go.Proofs.Ythkfebpjmnkkmaa.fnExactFrmFill
open Go.ChangeShapes Go.WideShapes Go.ChangeAt Go.RowKit Go.Joins Go.Deep
set_option linter.unusedVariables false
set_option maxHeartbeats 4000000 in
theorem walk (a0 : Option Addr) (len0 cap0 : Nat) (z0 : List Int) (r : Bool) (w : World) (k0 : IsRow .u8 w a0 len0 cap0 z0) :
    Calls Try.prog 13 #[.slice a0 len0 cap0, .bool r] w fun e w' => e = .returned (.bool true) ∧ Below w.heap.size w w' := by
  have m0 := k0.max
  by_cases hl0 : len0 ≤ 1048576
  · skip
    obtain ⟨xs, hx0, r0⟩ := k0.rd hl0
    have R0 := hid r0
    have N0 : xs.length ≤ 2000000 := r0.2.1
    have NL := fillL_len xs r
    clear hx0 k0 r0
    go_enter Try.func13, Try.ntmps13
    go_wp2_with fail
    refine (toBytes_any _ xs _ R0.out).mono ?_
    rintro e w1 ⟨v1, rfl, o1, b1⟩
    have B1 := hid b1
    have P1 := hid (o1.rd N0)
    clear b1 o1
    go_wp2_with fail
    refine (specFill_any _ xs r _ P1.out).mono ?_
    rintro e w2 ⟨s2, rfl, o2, b2⟩
    have B2 := hid (B1.out.trans (b2.mono B1.out.size))
    have S2 := hid (o2.rd (by omega))
    clear b2 o2
    go_wp2_with fail
    refine (toBytes_any _ xs _ (R0.out.keep B2.out)).mono ?_
    rintro e w3 ⟨x3, rfl, o3, b3⟩
    have C3 := hid b3
    have X3 := hid o3
    have K3 := hid (fun k hk => (o3.blk k hk).2)
    have q3 : w2.heap.size ≤ w3.heap.size := b3.size
    clear b3 o3
    go_wp2_with fail
    refine (frmFill_any _ xs r _ (X3.out.rd N0)).mono ?_
    rintro e w4 ⟨g4, rfl, o4, b4⟩
    have C4 := hid (C3.out.trans (b4.mono C3.out.size))
    have X3 := hid (X3.out.keep b4)
    have G := hid o4
    clear b4 o4
    go_wp2_with fail
    refine (eqBytes_same _ _ (fillL xs r) _ (G.out.rd (by omega)) (S2.out.keep C4.out)).mono ?_
    rintro e w5 ⟨rfl, b5⟩
    have C5 := hid (C4.out.trans (b5.mono C4.out.size))
    have X3 := hid (X3.out.keep b5)
    have G := hid (G.out.keep b5)
    clear b5
    go_wp2_with fail
    refine (toBytes_any _ xs _ (R0.out.keep (B2.out.trans (C5.out.mono B2.out.size)))).mono ?_
    rintro e w6 ⟨v6, rfl, o6, b6⟩
    have C6 := hid (C5.out.trans (b6.mono C5.out.size))
    have X3 := hid (X3.out.keep b6)
    have G := hid (G.out.keep b6)
    have T6 := hid (o6.rd N0)
    clear b6 o6
    go_wp2_with fail
    refine (eqBytes_same _ _ xs _ (X3.out.rd N0) T6.out).mono ?_
    rintro e w7 ⟨rfl, b7⟩
    have C7 := hid (C6.out.trans (b7.mono C6.out.size))
    have X3 := hid (X3.out.keep b7)
    have G := hid (G.out.keep b7)
    clear b7
    go_wp2_with fail
    refine (mark_any _ xs _ w2.heap.size _ X3.out N0 (by omega) (by omega)).mono ?_
    rintro e w8 ⟨rfl, o8, h8, z8⟩
    have C8 := hid (C7.out.grown h8 C7.out.size (fun k hk => by have := (X3.out.blk k hk).1; omega))
    have G := hid (G.out.grown h8 (fun k hk => by have := K3.out k hk; omega))
    clear h8 o8 z8 X3
    have hneg : decide (1 + (xs.length : Int) < 0) = false := by simp; omega
    go_wp2_with fail
    refine (eqBytes_same _ _ (fillL xs r) _ (G.out.rd (by omega)) (S2.out.keep C8.out)).mono ?_
    rintro e w9 ⟨rfl, b9⟩
    have C9 := hid (C8.out.trans (b9.mono C8.out.size))
    have G := hid (G.out.keep b9)
    clear b9
    go_wp2_with fail
    refine (mark_any _ (fillL xs r) 1 w3.heap.size _ G.out (by omega) (by omega) (by omega)).mono ?_
    rintro e w10 ⟨rfl, o10, h10, z10⟩
    have C10 := hid (C9.out.grown h10 C9.out.size (fun k hk => by have := (G.out.blk k hk).1; omega))
    have G := hid o10
    clear h10 o10 z10
    go_wp2_with fail
    refine (held_any _ (fillL xs r).length 1 _ (G.out.rd (by rw [marks_len]; omega)) (by omega) (by omega)).mono ?_
    rintro e w11 ⟨rfl, rfl⟩
    go_wp2_with fail
    refine (toBytes_any _ xs _ (R0.out.keep (B2.out.trans (C10.out.mono B2.out.size)))).mono ?_
    rintro e w12 ⟨v12, rfl, o12, b12⟩
    have C12 := hid (C10.out.trans (b12.mono C10.out.size))
    have G := hid (G.out.keep b12)
    have T12 := hid (o12.rd N0)
    clear b12 o12
    go_wp2_with fail
    refine (frmFill_any _ xs r _ T12.out).mono ?_
    rintro e w13 ⟨v13, rfl, o13, b13⟩
    have C13 := hid (C12.out.trans (b13.mono C12.out.size))
    have G := hid (G.out.keep b13)
    have T13 := hid (o13.rd (by omega))
    clear b13 o13
    go_wp2_with fail
    refine (eqBytes_same _ _ (fillL xs r) _ T13.out (S2.out.keep C13.out)).mono ?_
    rintro e w14 ⟨rfl, b14⟩
    have C14 := hid (C13.out.trans (b14.mono C13.out.size))
    have G := hid (G.out.keep b14)
    clear b14
    go_wp2_with fail
    refine (held_any _ (fillL xs r).length 1 _ (G.out.rd (by rw [marks_len]; omega)) (by omega) (by omega)).mono ?_
    rintro e w15 ⟨rfl, rfl⟩
    go_wp2
    go_ret
    exact ⟨rfl, B2.out.trans (C14.out.mono B2.out.size)⟩
  · have hl' : (1048576 : Int) < (len0 : Int) := by omega
    clear k0
    go_enter Try.func13, Try.ntmps13
    go_wp2
    go_ret
    exact ⟨rfl, Below.refl _ _⟩
theorem own : ownKnob Try.prog.godebug = none := by kernel_rfl
theorem laidOut : laidOutB Try.prog = true := by kernel_rfl
set_option maxRecDepth 100000 in
theorem lifted (os : Os) (started : os.Started) (H : Type) (enc : TypeId × Value → H) :
    ReturnsInHanded {} Try.checked os 13 .any (Rows.fnExactFrmFillSpec.pre6 enc Try.prog Try.f13 Rows.fnExactFrmFillRow.domain false) (Rows.fnExactFrmFillSpec.post enc Try.prog Try.f13 false true false false) := by
  refine returnsInHanded_of_change (C := Try.checked) own started (by kernel_rfl) Try.func13
    (ChangeSpec.witness6 (enc := enc) (C := Try.checked) false ⟨#[], #[.slice none 0 0, .bool false], []⟩ 8 (by kernel_rfl) (by kernel_rfl) (by kernel_rfl) (by kernel_rfl)) ?_
  intro W base args ds gs before hval0 hW hcnd _
  have hval : ∀ (j : Nat) t v, Try.f13.params[j]? = some t → args[j]? = some v → Value.okWide Try.prog W .any base t v := hval0
  have hW' := hW
  obtain ⟨p, q, hA0, hV, rfl, hfz, hnd⟩ := hW
  have hA : DataW.TrodAll enc Try.prog W 0 (fun _ => true) true Try.f13.params.toList args.toList ds p := hA0
  rw [Try.params13] at hA hval
  obtain ⟨v0, vs0, d0, ds0, p0, q0, hargs, rfl, rfl, h0, r0⟩ := trodAll_cons hA
  obtain ⟨v1, vs1, d1, ds1, p1, q1, rfl, rfl, rfl, h1, r1⟩ := trodAll_cons r0
  obtain ⟨rfl, rfl, rfl⟩ := trodAll_nil r1
  obtain rfl : args = #[v0, v1] := by cases args; simp_all
  obtain ⟨rfl, rfl⟩ := trodVars_none hV
  obtain ⟨a0, len0, cap0, rfl⟩ := okWide_slice Try.underlying22 (hval 0 22 v0 rfl rfl)
  have k0 := h0
  have lt0 : ∀ x ∈ p0, x.block < W.heap.size := by obtain ⟨m, hm⟩ := k0; exact DataW.trod_lt m _ _ _ hm
  obtain ⟨z0, w0⟩ : ∃ zs, IsRow .u8 W a0 len0 cap0 zs := by
    obtain ⟨fuel, hf⟩ := h0
    rcases open_ints Try.underlying22 Try.underlying5 (by kernel_rfl) hf with ⟨hcs, _⟩ | ⟨x, l, c, zs, hcs, _, hl, hm, hz, _, hcell, hwz⟩
    · simp [Value.cells] at hcs
      obtain ⟨rfl, rfl, rfl⟩ := hcs
      exact ⟨[], .inl ⟨rfl, rfl, rfl, rfl⟩⟩
    · simp [Value.cells] at hcs
      obtain ⟨rfl, rfl, rfl⟩ := hcs
      exact ⟨zs, .inr ⟨_, rfl, hl, hm, by simpa using hz, hcell, hwz⟩⟩
  obtain ⟨a1, rfl, rfl, rfl⟩ := open_bool Try.underlying4 (hval 1 4 v1 rfl rfl) h1
  clear hA0 hval0
  refine (walk a0 len0 cap0 z0 a1 W w0).mono fun e W' ⟨he, bel⟩ => ?_
  subst he
  exact ⟨_, rfl, _, _, _, [], _, [], hW', trodAll_mk1 (shut_bool Try.underlying4 _), (trodAll_cons_mk (Below.trod laidOut (by kernel_rfl) (of_decide_eq_true (by kernel_rfl)) k0 bel lt0) (trodAll_cons_mk (shut_bool Try.underlying4 a1) trodAll_mk0)), rfl, bel.frame _, fun h => by cases h⟩

theorem over : Rows.fnExactFrmFillRow.holds Try.pinned (OpenSpec.ofChange Rows.fnExactFrmFillSpec) :=
  OpenClaim.holds_of_wide 13 Try.f13 rfl rfl rfl rfl rfl rfl rfl ⟨rfl, rfl, rfl, rfl, rfl⟩ rfl rfl rfl rfl rfl (by kernel_rfl) Try.func13 (by kernel_rfl)
    (of_decide_eq_true (by kernel_rfl)) (by unfold Func.isWrapper; first | (rw [if_pos (by decide +kernel)]; kernel_rfl) | (rw [if_neg (by decide +kernel)]; exact ⟨rfl, rfl⟩))
    (fun os started H enc _ => lifted os started H enc)

end Go.Proofs.Ythkfebpjmnkkmaa.fnExactFrmFill
namespace Go.Proofs.Ythkfebpjmnkkmaa
theorem fnExactFrmFill_holds : Rows.FnExactFrmFillSaid := fnExactFrmFill.over
#print axioms fnExactFrmFill_holds
end Go.Proofs.Ythkfebpjmnkkmaa
