/- GrdDo answers at every argument as the specification does, writes into no argument and keeps nothing of one; its answer owns its memory, behind another call too. No conditions. -/
import Derived.Test.YtdlggbeefbhjoaaGrdDoSpec
import Derived.Test.YtdlggbeefbhjoaaOpenI
import Derived.Test.YtdlggbeefbhjoaaGrdMark
namespace Go.Proofs.Ytdlggbeefbhjoaa
open Go.ChangeShapes Go.WideShapes Go.ChangeAt Go.RowKit Go.Joins Go.Deep
set_option linter.unusedVariables false
set_option maxRecDepth 4000
theorem own_capO {w : World} {B : Nat} {v : Value} {zs : List Int} (h : Own w B v zs) : ∃ a cap, v = .slice a zs.length cap ∧ zs.length ≤ cap := by
  obtain ⟨h1, h2, h3⟩ := h
  rcases h3 with ⟨hv, h0⟩ | ⟨g, cap, cur, hv, hg, hh, hnc, hm, hsz, hcur⟩
  · exact ⟨none, 0, by rw [hv, h0], by omega⟩
  · exact ⟨_, cap, hv, by omega⟩
theorem doL_len (n : Nat) (xs ms : List Int) : (doL n xs ms).length ≤ ms.length := by
  unfold doL
  split
  · exact thr_len _ _ _
  · simp
end Go.Proofs.Ytdlggbeefbhjoaa
namespace Go.Proofs.Ytdlggbeefbhjoaa.fnExactGrdDo
open Go.ChangeShapes Go.WideShapes Go.ChangeAt Go.RowKit Go.Joins Go.Deep
set_option linter.unusedVariables false
set_option maxRecDepth 4000
set_option maxHeartbeats 8000000 in
theorem walk (a0 : Option Addr) (len0 cap0 : Nat) (z0 : List Int) (a1 : Option Addr) (len1 cap1 : Nat) (z1 : List Int) (w : World) (k0 : IsRowI 7 w a0 len0 cap0 z0) (k1 : IsRow .u8 w a1 len1 cap1 z1) :
    Calls Try.prog 15 #[.slice a0 len0 cap0, .slice a1 len1 cap1] w fun e w' => e = .returned (.bool true) ∧ Below w.heap.size w w' := by
  have m0 := k0.max
  have m1 := k1.max
  by_cases hl1 : len1 ≤ 1048576
  · have hl1' : (len1 : Int) ≤ 1048576 := by omega
    by_cases hl0 : len0 ≤ 1048576
    · obtain ⟨xs, r0⟩ := k0.rd hl0 (by omega)
      obtain ⟨ms, hx1, r1⟩ := k1.rd hl1
      have R0 := hid r0
      have R1 := hid r1
      have N1 : ms.length ≤ 2000000 := r1.2.1
      have NL := doL_len len0 xs ms
      obtain ⟨L, hL⟩ : ∃ L, doL len0 xs ms = L := ⟨_, rfl⟩
      obtain ⟨OK, hOK⟩ : ∃ OK, (doR len0 xs ms).isSome = OK := ⟨_, rfl⟩
      have HO := hid (And.intro hL hOK)
      rw [hL] at NL
      have NL : L.length ≤ 2000000 := by omega
      have d1 : decide ((1048576 : Int) - len0 < 0) = false := by simp; omega
      have E1 := hid (show (if (1048576 : Int) - len0 < 0 then -1 else (1048576 : Int) - len0) = 1048576 - len0 by rw [if_neg (by omega)])
      clear k0 k1 r0 r1 hL hOK hx1
      go_enter Try.func15, Try.ntmps15
      go_wp2_with fail
      refine (szGrdRuleS_any a0 len0 cap0 1048576 _ (by omega) (by omega) (by omega)).mono ?_
      rw [E1.out]
      rintro e w0 ⟨rfl, rfl⟩
      go_wp2_with fail
      refine (toGrdRuleS_any _ len0 xs _ R0.out).mono ?_
      rintro e w1 ⟨v1, rfl, o1, b1⟩
      have P1 := hid (o1.rd (by omega))
      have B := hid b1
      clear o1 b1
      go_wp2_with fail
      refine (toBytes_any _ ms _ (R1.out.keep B.out)).mono ?_
      rintro e w2 ⟨v2, rfl, o2, b2⟩
      have P1 := hid (P1.out.keep b2)
      have P2 := hid (o2.rd N1)
      have B := hid (B.out.trans (b2.mono B.out.size))
      clear o2 b2
      go_wp2_with fail
      refine (specGrdDo_any _ len0 xs _ ms _ P1.out P2.out).mono ?_
      rintro e w3 ⟨s3, he, o3, b3⟩
      rw [HO.out.2] at he
      rw [HO.out.1] at o3
      subst he
      have S := hid (o3.rd NL)
      have B := hid (B.out.trans (b3.mono B.out.size))
      clear o3 b3 P1 P2
      have R0 := hid (R0.out.keep B.out)
      have R1 := hid (R1.out.keep B.out)
      have BK := hid B.out
      go_wp2_with fail
      refine (toGrdRuleS_any _ len0 xs _ R0.out).mono ?_
      rintro e w4 ⟨x4, rfl, o4, b4⟩
      obtain ⟨ax, cx, rfl, _⟩ := ownI_form o4
      have X := hid o4
      have KX := hid (fun j hj => (o4.blk j hj))
      have C := hid b4
      have q4 : w3.heap.size ≤ w4.heap.size := b4.size
      clear o4 b4
      go_wp2_with fail
      refine (toBytes_any _ ms _ (R1.out.keep C.out)).mono ?_
      rintro e w5 ⟨y5, rfl, o5, b5⟩
      obtain ⟨ay, cy, hy, hcy⟩ := own_capO o5
      subst hy
      have X := hid (X.out.keep b5)
      have Y := hid o5
      have KY := hid (fun j hj => (o5.blk j hj))
      have C := hid (C.out.trans (b5.mono C.out.size))
      have q5 : w4.heap.size ≤ w5.heap.size := b5.size
      clear o5 b5
      go_wp2_with fail
      refine (grdDo_any _ len0 xs ay cy ms _ (X.out.rd (by omega)) (Y.out.rd N1) hcy).mono ?_
      rintro e w6 ⟨g6, he, o6, b6⟩
      rw [HO.out.2] at he
      rw [HO.out.1] at o6
      subst he
      have X := hid (X.out.keep b6)
      have Y := hid (Y.out.keep b6)
      have Gv := hid o6
      have KG := hid (fun j hj => (o6.blk j hj))
      have C := hid (C.out.trans (b6.mono C.out.size))
      clear o6 b6
      go_wp2_with fail
      refine (eqBytes_same _ _ L _ (Gv.out.rd NL) (S.out.keep C.out)).mono ?_
      rintro e w7 ⟨rfl, b7⟩
      have X := hid (X.out.keep b7)
      have Y := hid (Y.out.keep b7)
      have Gv := hid (Gv.out.keep b7)
      have C := hid (C.out.trans (b7.mono C.out.size))
      clear b7
      go_wp2_with fail
      refine (toGrdRuleS_any _ len0 xs _ (R0.out.keep C.out)).mono ?_
      rintro e w8 ⟨v8, rfl, o8, b8⟩
      have P8 := hid (o8.rd (by omega))
      clear o8
      have X := hid (X.out.keep b8)
      have Y := hid (Y.out.keep b8)
      have Gv := hid (Gv.out.keep b8)
      have C := hid (C.out.trans (b8.mono C.out.size))
      clear b8
      go_wp2_with fail
      refine (eqGrdRuleS_same _ _ len0 xs _ (X.out.rd (by omega)) P8.out).mono ?_
      rintro e w9 ⟨rfl, b9⟩
      clear P8
      have X := hid (X.out.keep b9)
      have Y := hid (Y.out.keep b9)
      have Gv := hid (Gv.out.keep b9)
      have C := hid (C.out.trans (b9.mono C.out.size))
      clear b9
      go_wp2_with fail
      refine (toBytes_any _ ms _ (R1.out.keep C.out)).mono ?_
      rintro e w10 ⟨v10, rfl, o10, b10⟩
      have P10 := hid (o10.rd N1)
      clear o10
      have X := hid (X.out.keep b10)
      have Y := hid (Y.out.keep b10)
      have Gv := hid (Gv.out.keep b10)
      have C := hid (C.out.trans (b10.mono C.out.size))
      clear b10
      go_wp2_with fail
      refine (eqBytes_same _ _ ms _ (Y.out.rd N1) P10.out).mono ?_
      rintro e w11 ⟨rfl, b11⟩
      clear P10
      have X := hid (X.out.keep b11)
      have Y := hid (Y.out.keep b11)
      have Gv := hid (Gv.out.keep b11)
      have C := hid (C.out.trans (b11.mono C.out.size))
      clear b11
      go_wp2_with fail
      refine (markRules_any _ len0 xs 1 w3.heap.size _ X.out (by omega) (by omega) (by omega)).mono ?_
      rintro e w12 ⟨rfl, h12, z12⟩
      have C := hid (C.out.grown h12 C.out.size (fun k hk => (KX.out k hk).1))
      have Y := hid (Y.out.grown h12 (fun k hk => by have := (KX.out k hk).2; omega))
      have Gv := hid (Gv.out.grown h12 (fun k hk => by have := (KX.out k hk).2; omega))
      clear h12 z12 X
      go_wp2_with fail
      refine (mark_any _ ms _ w4.heap.size _ Y.out N1 (by omega) (by omega)).mono ?_
      rintro e w13 ⟨rfl, o13, h13, z13⟩
      have C := hid (C.out.grown h13 C.out.size (fun k hk => by have := (KY.out k hk).1; omega))
      have Gv := hid (Gv.out.grown h13 (fun k hk => (KY.out k hk).2))
      clear h13 o13 z13 Y
      have hneg : decide ((1 : Int) + len0 * 7 + ms.length < 0) = false := by simp; omega
      go_wp2_with fail
      refine (eqBytes_same _ _ L _ (Gv.out.rd NL) (S.out.keep C.out)).mono ?_
      rintro e w14 ⟨rfl, b14⟩
      have C := hid (C.out.trans (b14.mono C.out.size))
      have Gv := hid (Gv.out.keep b14)
      clear b14
      go_wp2_with fail
      refine (mark_any _ L 1 w5.heap.size _ Gv.out NL (by omega) (by omega)).mono ?_
      rintro e w15 ⟨rfl, o15, h15, z15⟩
      have C := hid (C.out.grown h15 C.out.size (fun k hk => by have := (KG.out k hk).1; omega))
      have Gv := hid o15
      clear h15 o15 z15
      go_wp2_with fail
      refine (held_any _ L.length 1 _ (Gv.out.rd (by rw [marks_len]; omega)) (by omega) (by omega)).mono ?_
      rintro e w16 ⟨rfl, rfl⟩
      go_wp2_with fail
      refine (toGrdRuleS_any _ len0 xs _ (R0.out.keep C.out)).mono ?_
      rintro e w17 ⟨v17, rfl, o17, b17⟩
      have P17 := hid (o17.rd (by omega))
      have C := hid (C.out.trans (b17.mono C.out.size))
      have Gv := hid (Gv.out.keep b17)
      clear o17 b17
      go_wp2_with fail
      refine (toBytes_any _ ms _ (R1.out.keep C.out)).mono ?_
      rintro e w18 ⟨v18, rfl, o18, b18⟩
      obtain ⟨ah, ch, hh, hch⟩ := own_capO o18
      subst hh
      have P17 := hid (P17.out.keep b18)
      have P18 := hid (o18.rd N1)
      have C := hid (C.out.trans (b18.mono C.out.size))
      have Gv := hid (Gv.out.keep b18)
      clear o18 b18
      go_wp2_with fail
      refine (grdDo_any _ len0 xs ah ch ms _ P17.out P18.out hch).mono ?_
      rintro e w19 ⟨h19, he, o19, b19⟩
      rw [HO.out.2] at he
      rw [HO.out.1] at o19
      subst he
      have P19 := hid (o19.rd NL)
      have C := hid (C.out.trans (b19.mono C.out.size))
      have Gv := hid (Gv.out.keep b19)
      clear o19 b19 P17 P18
      go_wp2_with fail
      refine (eqBytes_same _ _ L _ P19.out (S.out.keep C.out)).mono ?_
      rintro e w20 ⟨rfl, b20⟩
      have C := hid (C.out.trans (b20.mono C.out.size))
      have Gv := hid (Gv.out.keep b20)
      clear b20
      go_wp2_with fail
      refine (held_any _ L.length 1 _ (Gv.out.rd (by rw [marks_len]; omega)) (by omega) (by omega)).mono ?_
      rintro e w21 ⟨rfl, rfl⟩
      go_wp2
      go_ret
      exact ⟨rfl, BK.out.trans (C.out.mono BK.out.size)⟩
    · have E1 := hid (show (if (1048576 : Int) - len0 < 0 then -1 else (1048576 : Int) - len0) = -1 by rw [if_pos (by omega)])
      clear k0 k1
      go_enter Try.func15, Try.ntmps15
      go_wp2_with fail
      refine (szGrdRuleS_any a0 len0 cap0 1048576 _ (by omega) (by omega) (by omega)).mono ?_
      rw [E1.out]
      rintro e w1 ⟨rfl, rfl⟩
      go_wp2
      go_ret
      exact ⟨rfl, Below.refl _ _⟩
  · have hl' : (1048576 : Int) < (len1 : Int) := by omega
    clear k0 k1
    go_enter Try.func15, Try.ntmps15
    go_wp2
    go_ret
    exact ⟨rfl, Below.refl _ _⟩
theorem own : ownKnob Try.prog.godebug = none := by kernel_rfl
theorem laidOut : laidOutB Try.prog = true := by kernel_rfl
set_option maxRecDepth 100000 in
theorem lifted (os : Os) (started : os.Started) (H : Type) (enc : TypeId × Value → H) :
    ReturnsInHanded {} Try.checked os 15 .any (Rows.fnExactGrdDoSpec.pre6 enc Try.prog Try.f15 Rows.fnExactGrdDoRow.domain false) (Rows.fnExactGrdDoSpec.post enc Try.prog Try.f15 false true false false) := by
  refine returnsInHanded_of_change (C := Try.checked) own started (by kernel_rfl) Try.func15
    (ChangeSpec.witness6 (enc := enc) (C := Try.checked) false ⟨#[], #[.slice none 0 0, .slice none 0 0], []⟩ 8 (by kernel_rfl) (by kernel_rfl) (by kernel_rfl) (by kernel_rfl)) ?_
  intro W base args ds gs before hval0 hW hcnd _
  have hval : ∀ (j : Nat) t v, Try.f15.params[j]? = some t → args[j]? = some v → Value.okWide Try.prog W .any base t v := hval0
  have hW' := hW
  obtain ⟨p, q, hA0, hV, rfl, hfz, hnd⟩ := hW
  have hA : DataW.TrodAll enc Try.prog W 0 (fun _ => true) true Try.f15.params.toList args.toList ds p := hA0
  rw [Try.params15] at hA hval
  obtain ⟨v0, vs0, d0, ds0, p0, q0, hargs, rfl, rfl, h0, r0⟩ := trodAll_cons hA
  obtain ⟨v1, vs1, d1, ds1, p1, q1, rfl, rfl, rfl, h1, r1⟩ := trodAll_cons r0
  obtain ⟨rfl, rfl, rfl⟩ := trodAll_nil r1
  obtain rfl : args = #[v0, v1] := by cases args; simp_all
  obtain ⟨rfl, rfl⟩ := trodVars_none hV
  obtain ⟨a0, len0, cap0, rfl⟩ := okWide_slice Try.underlying61 (hval 0 61 v0 rfl rfl)
  have k0 := h0
  have lt0 : ∀ x ∈ p0, x.block < W.heap.size := by obtain ⟨m, hm⟩ := k0; exact DataW.trod_lt m _ _ _ hm
  obtain ⟨z0, w0⟩ : ∃ zs, IsRowI 7 W a0 len0 cap0 zs := by
    obtain ⟨fuel, hf⟩ := h0
    obtain ⟨a', l', c', zs, hcs, hr⟩ := open_rowI Try.underlying61 Try.underlying58 (by kernel_rfl) Try.underlying3 (by rfl) (by kernel_rfl) (by decide) (c := .slice a0 len0 cap0) hf
    simp only [Value.slice.injEq] at hcs
    obtain ⟨rfl, rfl, rfl⟩ := hcs
    exact ⟨zs, hr⟩
  obtain ⟨a1, len1, cap1, rfl⟩ := okWide_slice Try.underlying22 (hval 1 22 v1 rfl rfl)
  have k1 := h1
  have lt1 : ∀ x ∈ p1, x.block < W.heap.size := by obtain ⟨m, hm⟩ := k1; exact DataW.trod_lt m _ _ _ hm
  obtain ⟨z1, w1⟩ : ∃ zs, IsRow .u8 W a1 len1 cap1 zs := by
    obtain ⟨fuel, hf⟩ := h1
    rcases open_ints Try.underlying22 Try.underlying5 (by kernel_rfl) hf with ⟨hcs, _⟩ | ⟨x, l, c, zs, hcs, _, hl, hm, hz, _, hcell, hwz⟩
    · simp [Value.cells] at hcs
      obtain ⟨rfl, rfl, rfl⟩ := hcs
      exact ⟨[], .inl ⟨rfl, rfl, rfl, rfl⟩⟩
    · simp [Value.cells] at hcs
      obtain ⟨rfl, rfl, rfl⟩ := hcs
      exact ⟨zs, .inr ⟨_, rfl, hl, hm, by simpa using hz, hcell, hwz⟩⟩
  clear hA0 hval0
  refine (walk a0 len0 cap0 z0 a1 len1 cap1 z1 W w0 w1).mono fun e W' ⟨he, bel⟩ => ?_
  subst he
  exact ⟨_, rfl, _, _, _, [], _, [], hW', trodAll_mk1 (shut_bool Try.underlying4 _), (trodAll_cons_mk (Below.trod laidOut (by kernel_rfl) (of_decide_eq_true (by kernel_rfl)) k0 bel lt0) (trodAll_cons_mk (Below.trod laidOut (by kernel_rfl) (of_decide_eq_true (by kernel_rfl)) k1 bel lt1) trodAll_mk0)), rfl, bel.frame _, fun h => by cases h⟩

theorem over : Rows.fnExactGrdDoRow.holds Try.pinned (OpenSpec.ofChange Rows.fnExactGrdDoSpec) :=
  OpenClaim.holds_of_wide 15 Try.f15 rfl rfl rfl rfl rfl rfl rfl ⟨rfl, rfl, rfl, rfl, rfl⟩ rfl rfl rfl rfl rfl (by kernel_rfl) Try.func15 (by kernel_rfl)
    (of_decide_eq_true (by kernel_rfl)) (by unfold Func.isWrapper; first | (rw [if_pos (by decide +kernel)]; kernel_rfl) | (rw [if_neg (by decide +kernel)]; exact ⟨rfl, rfl⟩))
    (fun os started H enc _ => lifted os started H enc)

end Go.Proofs.Ytdlggbeefbhjoaa.fnExactGrdDo
namespace Go.Proofs.Ytdlggbeefbhjoaa
theorem fnExactGrdDo_holds : Rows.FnExactGrdDoSaid := fnExactGrdDo.over
#print axioms fnExactGrdDo_holds
end Go.Proofs.Ytdlggbeefbhjoaa
