/- FrmSpill answers at every argument as the specification does, writes into no argument and keeps nothing of one; its answer owns its memory, behind another call too. No conditions. -/
import Derived.Test.YtbmjaiojeehifaaFrmSpillSpec
namespace Go.Proofs.Ytbmjaiojeehifaa
open Go.ChangeShapes Go.WideShapes Go.ChangeAt Go.RowKit Go.Joins Go.Deep
theorem own_cap {w : World} {B : Nat} {v : Value} {xs : List Int} (h : Own w B v xs) : ∃ a cap, v = .slice a xs.length cap ∧ xs.length ≤ cap := by
  obtain ⟨h1, h2, h3⟩ := h
  rcases h3 with ⟨hv, h0⟩ | ⟨g, cap, cur, hv, hg, hh, hnc, hm, hsz, hcur⟩
  · exact ⟨none, 0, by rw [hv, h0], by omega⟩
  · exact ⟨_, cap, hv, by omega⟩
theorem spL_len (xs : List Int) (h : xs.length ≤ 2000000) : (spL xs).length ≤ 2000000 := by
  unfold spL spM
  split
  · simp; omega
  · simp
end Go.Proofs.Ytbmjaiojeehifaa
namespace Go.Proofs.Ytbmjaiojeehifaa.fnExactFrmSpill
open Go.ChangeShapes Go.WideShapes Go.ChangeAt Go.RowKit Go.Joins Go.Deep
set_option linter.unusedVariables false
set_option maxHeartbeats 4000000 in
theorem walk (a0 : Option Addr) (len0 cap0 : Nat) (z0 : List Int) (w : World) (k0 : IsRow .u8 w a0 len0 cap0 z0) :
    Calls Try.prog 14 #[.slice a0 len0 cap0] w fun e w' => e = .returned (.bool true) ∧ Below w.heap.size w w' := by
  have m0 := k0.max
  by_cases hl0 : len0 ≤ 1048576
  · skip
    obtain ⟨xs, hx0, r0⟩ := k0.rd hl0
    have R0 := hid r0
    have N0 : xs.length ≤ 2000000 := r0.2.1
    have NL := spL_len xs N0
    obtain ⟨L, hL⟩ : ∃ L, spL xs = L := ⟨_, rfl⟩
    obtain ⟨RR, hRR⟩ : ∃ RR, spR xs = RR := ⟨_, rfl⟩
    obtain ⟨OK, hOK⟩ : ∃ OK, spOk xs = OK := ⟨_, rfl⟩
    have HE := hid (And.intro hL (And.intro hRR hOK))
    rw [hL] at NL
    clear hx0 k0 r0 hL hRR hOK
    go_enter Try.func14, Try.ntmps14
    go_wp2_with fail
    refine (toBytes_any _ xs _ R0.out).mono ?_
    rintro e w1 ⟨v1, rfl, o1, b1⟩
    have B1 := hid b1
    have P1 := hid (o1.rd N0)
    obtain ⟨aa1, cc1, rfl, hcc1⟩ := own_cap o1
    clear b1 o1
    go_wp2_with fail
    refine (specSpill_any _ _ xs _ P1.out hcc1).mono ?_
    rintro e w2 ⟨s2, he2, o2, b2⟩
    rw [HE.out.2.1, HE.out.2.2] at he2
    rw [HE.out.1] at o2
    subst he2
    have B2 := hid (B1.out.trans (b2.mono B1.out.size))
    have S2 := hid (o2.rd NL)
    clear b2 o2
    go_wp2_with fail
    refine (toBytes_any _ xs _ (R0.out.keep B2.out)).mono ?_
    rintro e w3 ⟨x3, rfl, o3, b3⟩
    have C3 := hid b3
    have X3 := hid o3
    have K3 := hid (fun k hk => (o3.blk k hk).2)
    have q3 : w2.heap.size ≤ w3.heap.size := b3.size
    obtain ⟨aa3, cc3, rfl, hcc3⟩ := own_cap o3
    clear b3 o3
    go_wp2_with fail
    refine (frmSpill_any _ _ xs _ (X3.out.rd N0) hcc3).mono ?_
    rintro e w4 ⟨g4, he4, o4, b4⟩
    rw [HE.out.2.1, HE.out.2.2] at he4
    rw [HE.out.1] at o4
    subst he4
    have C4 := hid (C3.out.trans (b4.mono C3.out.size))
    have X3 := hid (X3.out.keep b4)
    have G := hid o4
    clear b4 o4
    go_wp2_with fail
    refine (eqBytes_same _ _ L _ (G.out.rd NL) (S2.out.keep C4.out)).mono ?_
    rintro e w5 ⟨rfl, b5⟩
    have C5 := hid (C4.out.trans (b5.mono C4.out.size))
    have X3 := hid (X3.out.keep b5)
    have G := hid (G.out.keep b5)
    clear b5
    go_wp2_with fail
    refine (toBytes_any _ xs _ (R0.out.keep (B2.out.trans (C5.out.mono B2.out.size)))).mono ?_
    rintro e w6 ⟨v6, rfl, o6, b6⟩
    have C6 := hid (C5.out.trans (b6.mono C5.out.size))
    have X3 := hid (X3.out.keep b6)
    have G := hid (G.out.keep b6)
    have T6 := hid (o6.rd N0)
    clear b6 o6
    go_wp2_with fail
    refine (eqBytes_same _ _ xs _ (X3.out.rd N0) T6.out).mono ?_
    rintro e w7 ⟨rfl, b7⟩
    have C7 := hid (C6.out.trans (b7.mono C6.out.size))
    have X3 := hid (X3.out.keep b7)
    have G := hid (G.out.keep b7)
    clear b7
    go_wp2_with fail
    refine (mark_any _ xs _ w2.heap.size _ X3.out N0 (by omega) (by omega)).mono ?_
    rintro e w8 ⟨rfl, o8, h8, z8⟩
    have C8 := hid (C7.out.grown h8 C7.out.size (fun k hk => by have := (X3.out.blk k hk).1; omega))
    have G := hid (G.out.grown h8 (fun k hk => by have := K3.out k hk; omega))
    clear h8 o8 z8 X3
    have hneg : decide (1 + (xs.length : Int) < 0) = false := by simp; omega
    go_wp2_with fail
    refine (eqBytes_same _ _ L _ (G.out.rd NL) (S2.out.keep C8.out)).mono ?_
    rintro e w9 ⟨rfl, b9⟩
    have C9 := hid (C8.out.trans (b9.mono C8.out.size))
    have G := hid (G.out.keep b9)
    clear b9
    go_wp2_with fail
    refine (mark_any _ L 1 w3.heap.size _ G.out NL (by omega) (by omega)).mono ?_
    rintro e w10 ⟨rfl, o10, h10, z10⟩
    have C10 := hid (C9.out.grown h10 C9.out.size (fun k hk => by have := (G.out.blk k hk).1; omega))
    have G := hid o10
    clear h10 o10 z10
    go_wp2_with fail
    refine (held_any _ L.length 1 _ (G.out.rd (by rw [marks_len]; omega)) (by omega) (by omega)).mono ?_
    rintro e w11 ⟨rfl, rfl⟩
    go_wp2_with fail
    refine (toBytes_any _ xs _ (R0.out.keep (B2.out.trans (C10.out.mono B2.out.size)))).mono ?_
    rintro e w12 ⟨v12, rfl, o12, b12⟩
    have C12 := hid (C10.out.trans (b12.mono C10.out.size))
    have G := hid (G.out.keep b12)
    have T12 := hid (o12.rd N0)
    obtain ⟨aa12, cc12, rfl, hcc12⟩ := own_cap o12
    clear b12 o12
    go_wp2_with fail
    refine (frmSpill_any _ _ xs _ T12.out hcc12).mono ?_
    rintro e w13 ⟨v13, he13, o13, b13⟩
    rw [HE.out.2.1, HE.out.2.2] at he13
    rw [HE.out.1] at o13
    subst he13
    have C13 := hid (C12.out.trans (b13.mono C12.out.size))
    have G := hid (G.out.keep b13)
    have T13 := hid (o13.rd NL)
    clear b13 o13
    go_wp2_with fail
    refine (eqBytes_same _ _ L _ T13.out (S2.out.keep C13.out)).mono ?_
    rintro e w14 ⟨rfl, b14⟩
    have C14 := hid (C13.out.trans (b14.mono C13.out.size))
    have G := hid (G.out.keep b14)
    clear b14
    go_wp2_with fail
    refine (held_any _ L.length 1 _ (G.out.rd (by rw [marks_len]; omega)) (by omega) (by omega)).mono ?_
    rintro e w15 ⟨rfl, rfl⟩
    go_wp2
    go_ret
    exact ⟨rfl, B2.out.trans (C14.out.mono B2.out.size)⟩
  · have hl' : (1048576 : Int) < (len0 : Int) := by omega
    clear k0
    go_enter Try.func14, Try.ntmps14
    go_wp2
    go_ret
    exact ⟨rfl, Below.refl _ _⟩
theorem own : ownKnob Try.prog.godebug = none := by kernel_rfl
theorem laidOut : laidOutB Try.prog = true := by kernel_rfl
set_option maxRecDepth 100000 in
theorem lifted (os : Os) (started : os.Started) (H : Type) (enc : TypeId × Value → H) :
    ReturnsInHanded {} Try.checked os 14 .any (Rows.fnExactFrmSpillSpec.pre6 enc Try.prog Try.f14 Rows.fnExactFrmSpillRow.domain false) (Rows.fnExactFrmSpillSpec.post enc Try.prog Try.f14 false true false false) := by
  refine returnsInHanded_of_change (C := Try.checked) own started (by kernel_rfl) Try.func14
    (ChangeSpec.witness6 (enc := enc) (C := Try.checked) false ⟨#[], #[.slice none 0 0], []⟩ 8 (by kernel_rfl) (by kernel_rfl) (by kernel_rfl) (by kernel_rfl)) ?_
  intro W base args ds gs before hval0 hW hcnd _
  have hval : ∀ (j : Nat) t v, Try.f14.params[j]? = some t → args[j]? = some v → Value.okWide Try.prog W .any base t v := hval0
  have hW' := hW
  obtain ⟨p, q, hA0, hV, rfl, hfz, hnd⟩ := hW
  have hA : DataW.TrodAll enc Try.prog W 0 (fun _ => true) true Try.f14.params.toList args.toList ds p := hA0
  rw [Try.params14] at hA hval
  obtain ⟨v0, vs0, d0, ds0, p0, q0, hargs, rfl, rfl, h0, r0⟩ := trodAll_cons hA
  obtain ⟨rfl, rfl, rfl⟩ := trodAll_nil r0
  obtain rfl : args = #[v0] := by cases args; simp_all
  obtain ⟨rfl, rfl⟩ := trodVars_none hV
  obtain ⟨a0, len0, cap0, rfl⟩ := okWide_slice Try.underlying22 (hval 0 22 v0 rfl rfl)
  have k0 := h0
  have lt0 : ∀ x ∈ p0, x.block < W.heap.size := by obtain ⟨m, hm⟩ := k0; exact DataW.trod_lt m _ _ _ hm
  obtain ⟨z0, w0⟩ : ∃ zs, IsRow .u8 W a0 len0 cap0 zs := by
    obtain ⟨fuel, hf⟩ := h0
    rcases open_ints Try.underlying22 Try.underlying5 (by kernel_rfl) hf with ⟨hcs, _⟩ | ⟨x, l, c, zs, hcs, _, hl, hm, hz, _, hcell, hwz⟩
    · simp [Value.cells] at hcs
      obtain ⟨rfl, rfl, rfl⟩ := hcs
      exact ⟨[], .inl ⟨rfl, rfl, rfl, rfl⟩⟩
    · simp [Value.cells] at hcs
      obtain ⟨rfl, rfl, rfl⟩ := hcs
      exact ⟨zs, .inr ⟨_, rfl, hl, hm, by simpa using hz, hcell, hwz⟩⟩
  clear hA0 hval0
  refine (walk a0 len0 cap0 z0 W w0).mono fun e W' ⟨he, bel⟩ => ?_
  subst he
  exact ⟨_, rfl, _, _, _, [], _, [], hW', trodAll_mk1 (shut_bool Try.underlying4 _), (trodAll_cons_mk (Below.trod laidOut (by kernel_rfl) (of_decide_eq_true (by kernel_rfl)) k0 bel lt0) trodAll_mk0), rfl, bel.frame _, fun h => by cases h⟩

theorem over : Rows.fnExactFrmSpillRow.holds Try.pinned (OpenSpec.ofChange Rows.fnExactFrmSpillSpec) :=
  OpenClaim.holds_of_wide 14 Try.f14 rfl rfl rfl rfl rfl rfl rfl ⟨rfl, rfl, rfl, rfl, rfl⟩ rfl rfl rfl rfl rfl (by kernel_rfl) Try.func14 (by kernel_rfl)
    (of_decide_eq_true (by kernel_rfl)) (by unfold Func.isWrapper; first | (rw [if_pos (by decide +kernel)]; kernel_rfl) | (rw [if_neg (by decide +kernel)]; exact ⟨rfl, rfl⟩))
    (fun os started H enc _ => lifted os started H enc)

end Go.Proofs.Ytbmjaiojeehifaa.fnExactFrmSpill
namespace Go.Proofs.Ytbmjaiojeehifaa
theorem fnExactFrmSpill_holds : Rows.FnExactFrmSpillSaid := fnExactFrmSpill.over
#print axioms fnExactFrmSpill_holds
end Go.Proofs.Ytbmjaiojeehifaa
