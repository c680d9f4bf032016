/- SealOpen answers at every argument as the specification does, writes into no argument and keeps nothing of one; its answer owns its memory, behind another call too: where errors.errorType holds what the library's own text lays there. -/
import Derived.Test.YtbmjaiojeehifaaDoorDoorBase
import Derived.Test.YtbmjaiojeehifaaDoorSealOpenSpec
import Derived.Test.YtbmjaiojeehifaaDoorCards
import Derived.Test.YtbmjaiojeehifaaDoorTie
namespace Go.Proofs.YtbmjaiojeehifaaDoor.fnExactSealOpen
open Go.ChangeShapes Go.WideShapes Go.ChangeAt Go.RowKit Go.Joins Go.Deep
set_option linter.unusedVariables false
set_option maxRecDepth 4000
theorem own_capO {w : World} {B : Nat} {v : Value} {xs : List Int} (h : Own w B v xs) : ∃ a cap, v = .slice a xs.length cap ∧ xs.length ≤ cap := by
  obtain ⟨h1, h2, h3⟩ := h
  rcases h3 with ⟨hv, h0⟩ | ⟨g, cap, cur, hv, hg, hh, hnc, hm, hsz, hcur⟩
  · exact ⟨none, 0, by rw [hv, h0], by omega⟩
  · exact ⟨_, cap, hv, by omega⟩
set_option maxHeartbeats 8000000 in
theorem walk (key seq : Int) (a0 : Option Addr) (len0 cap0 : Nat) (z0 : List Int) (a1 : Option Addr) (len1 cap1 : Nat) (z1 : List Int) (w : World) (wk : (Lit.int .i64 key).wf = true) (ws : (Lit.int .i64 seq).wf = true) (k0 : IsRow .u8 w a0 len0 cap0 z0) (k1 : IsRow .u8 w a1 len1 cap1 z1) (het : Et w) :
    Calls Tryd.prog 9 #[.int .i64 key, .int .i64 seq, .slice a0 len0 cap0, .slice a1 len1 cap1] w fun e w' => e = .returned (.bool true) ∧ Below w.heap.size w w' := by
  have m0 := k0.max
  have m1 := k1.max
  have hp := het.pos
  by_cases hl0 : len0 ≤ 1048576
  · by_cases hl1 : len1 ≤ 1048576
    · have hl0' : (len0 : Int) ≤ 1048576 := by omega
      have hl1' : (len1 : Int) ≤ 1048576 := by omega
      obtain ⟨hs, hx0, r0⟩ := k0.rd hl0
      obtain ⟨xs, hx1, r1⟩ := k1.rd hl1
      have R0 := hid r0
      have R1 := hid r1
      have N0 : hs.length ≤ 2000000 := r0.2.1
      have N1 : xs.length ≤ 2000000 := r1.2.1
      have NL := opL_len key seq hs xs N1
      obtain ⟨L, hL⟩ : ∃ L, opL key seq hs xs = L := ⟨_, rfl⟩
      obtain ⟨OK, hOK⟩ : ∃ OK, opOk key seq hs xs = OK := ⟨_, rfl⟩
      have HO := hid (And.intro hL hOK)
      rw [hL] at NL
      have HE := hid het
      clear hx0 hx1 k0 k1 r0 r1 het hL hOK wk ws
      have C := hid (Below.refl w.heap.size w)
      go_enter Tryd.func9, Tryd.ntmps9
      go_wp2_with fail
      refine (toBytes_any _ hs _ (R0.out.keep C.out)).mono ?_
      rintro e w1 ⟨v1, rfl, oo, hb⟩
      have C := hid (C.out.trans (hb.mono C.out.size))
      have P_v1 := hid (oo.rd N0)
      obtain ⟨aa1, cc1, rfl, hcc1⟩ := own_capO oo
      clear hb oo
      go_wp2_with fail
      refine (toBytes_any _ xs _ (R1.out.keep C.out)).mono ?_
      rintro e w2 ⟨v2, rfl, oo, hb⟩
      have C := hid (C.out.trans (hb.mono C.out.size))
      have P_v1 := hid (P_v1.out.keep hb)
      have P_v2 := hid (oo.rd N1)
      obtain ⟨aa2, cc2, rfl, hcc2⟩ := own_capO oo
      clear hb oo
      go_wp2_with fail
      refine (specOpen_any key seq _ _ hs _ _ xs _ P_v1.out P_v2.out hcc2).mono ?_
      rintro e w3 ⟨s3, he, oo, hb⟩
      rw [HO.out.2] at he
      rw [HO.out.1] at oo
      subst he
      have C := hid (C.out.trans (hb.mono C.out.size))
      have S := hid (oo.rd NL)
      clear hb oo
      clear P_v1 P_v2
      have B3 := hid C.out
      have z3 : w.heap.size ≤ w3.heap.size := C.out.size
      have R0 := hid (R0.out.keep C.out)
      have R1 := hid (R1.out.keep C.out)
      have HE := hid (HE.out.keep C.out hp)
      have hp3 : 0 < w3.heap.size := by omega
      clear C
      have C := hid (Below.refl w3.heap.size w3)
      go_wp2_with fail
      refine (toBytes_any _ hs _ (R0.out.keep C.out)).mono ?_
      rintro e w4 ⟨x2, rfl, oo, hb⟩
      have C := hid (C.out.trans (hb.mono C.out.size))
      have X2 := hid oo
      have zz_w4 := hb.size
      obtain ⟨aa3, cc3, rfl, hcc3⟩ := own_capO oo
      clear hb oo
      have K2 := hid (fun k hk => (X2.out.blk k hk).2)
      have z4 : w3.heap.size ≤ w4.heap.size := C.out.size
      go_wp2_with fail
      refine (toBytes_any _ xs _ (R1.out.keep C.out)).mono ?_
      rintro e w5 ⟨x3, rfl, oo, hb⟩
      have C := hid (C.out.trans (hb.mono C.out.size))
      have X2 := hid (X2.out.keep hb)
      have X3 := hid oo
      have zz_w5 := hb.size
      obtain ⟨aa4, cc4, rfl, hcc4⟩ := own_capO oo
      clear hb oo
      have K3 := hid (fun k hk => (X3.out.blk k hk).2)
      have z5 : w3.heap.size ≤ w5.heap.size := C.out.size
      have z45 : w4.heap.size ≤ w5.heap.size := zz_w5
      go_wp2_with fail
      refine (sealOpen_any key seq _ 0 _ hs _ _ xs _ (X2.out.rd N0) (X3.out.rd N1) hcc4 (HE.out.keep C.out hp3)).mono ?_
      rintro e w6 ⟨g, he, oo, hb⟩
      rw [HO.out.2] at he
      rw [HO.out.1] at oo
      subst he
      have C := hid (C.out.trans (hb.mono C.out.size))
      have X2 := hid (X2.out.keep hb)
      have X3 := hid (X3.out.keep hb)
      have G := hid oo
      clear hb oo
      go_wp2_with fail
      refine (eqBytes_same _ _ L _ (G.out.rd NL) (S.out.keep C.out)).mono ?_
      rintro e we ⟨rfl, hb⟩
      have C := hid (C.out.trans (hb.mono C.out.size))
      have X2 := hid (X2.out.keep hb)
      have X3 := hid (X3.out.keep hb)
      have G := hid (G.out.keep hb)
      clear hb
      go_wp2_with fail
      refine (toBytes_any _ hs _ (R0.out.keep C.out)).mono ?_
      rintro e w8 ⟨v8, rfl, oo, hb⟩
      have C := hid (C.out.trans (hb.mono C.out.size))
      have X2 := hid (X2.out.keep hb)
      have X3 := hid (X3.out.keep hb)
      have G := hid (G.out.keep hb)
      have P_v8 := hid (oo.rd N0)
      clear hb oo
      go_wp2_with fail
      refine (eqBytes_same _ _ hs _ (X2.out.rd N0) P_v8.out).mono ?_
      rintro e we ⟨rfl, hb⟩
      have C := hid (C.out.trans (hb.mono C.out.size))
      have X2 := hid (X2.out.keep hb)
      have X3 := hid (X3.out.keep hb)
      have G := hid (G.out.keep hb)
      clear hb
      go_wp2_with fail
      refine (toBytes_any _ xs _ (R1.out.keep C.out)).mono ?_
      rintro e w10 ⟨v10, rfl, oo, hb⟩
      have C := hid (C.out.trans (hb.mono C.out.size))
      have X2 := hid (X2.out.keep hb)
      have X3 := hid (X3.out.keep hb)
      have G := hid (G.out.keep hb)
      have P_v10 := hid (oo.rd N1)
      clear hb oo
      go_wp2_with fail
      refine (eqBytes_same _ _ xs _ (X3.out.rd N1) P_v10.out).mono ?_
      rintro e we ⟨rfl, hb⟩
      have C := hid (C.out.trans (hb.mono C.out.size))
      have X2 := hid (X2.out.keep hb)
      have X3 := hid (X3.out.keep hb)
      have G := hid (G.out.keep hb)
      clear hb
      clear P_v8 P_v10
      go_wp2_with fail
      refine (mark_any _ hs _ w3.heap.size _ X2.out N0 (by omega) (by omega)).mono ?_
      rintro e w12 ⟨rfl, o12, h12, z12⟩
      have C := hid (C.out.grown h12 C.out.size (fun k hk => by have := (X2.out.blk k hk).1; omega))
      have X3 := hid (X3.out.grown h12 (fun k hk => by have := K2.out k hk; omega))
      have G := hid (G.out.grown h12 (fun k hk => by have := K2.out k hk; omega))
      clear h12 o12 z12 X2
      go_wp2_with fail
      refine (mark_any _ xs _ w4.heap.size _ X3.out N1 (by omega) (by omega)).mono ?_
      rintro e w13 ⟨rfl, o13, h13, z13⟩
      have C := hid (C.out.grown h13 C.out.size (fun k hk => by have := (X3.out.blk k hk).1; omega))
      have G := hid (G.out.grown h13 (fun k hk => by have := K3.out k hk; omega))
      clear h13 o13 z13 X3
      have hneg : decide (1 + (hs.length : Int) + (xs.length : Int) < 0) = false := by simp; omega
      go_wp2_with fail
      refine (eqBytes_same _ _ L _ (G.out.rd NL) (S.out.keep C.out)).mono ?_
      rintro e we ⟨rfl, hb⟩
      have C := hid (C.out.trans (hb.mono C.out.size))
      have G := hid (G.out.keep hb)
      clear hb
      go_wp2_with fail
      refine (mark_any _ L 1 w5.heap.size _ G.out NL (by omega) (by omega)).mono ?_
      rintro e w15 ⟨rfl, o15, h15, z15⟩
      have C := hid (C.out.grown h15 C.out.size (fun k hk => by have := (G.out.blk k hk).1; omega))
      have G := hid o15
      clear h15 o15 z15
      go_wp2_with fail
      refine (held_any _ L.length 1 _ (G.out.rd (by rw [marks_len]; omega)) (by omega) (by omega)).mono ?_
      rintro e w16 ⟨rfl, rfl⟩
      go_wp2_with fail
      refine (toBytes_any _ hs _ (R0.out.keep C.out)).mono ?_
      rintro e w17 ⟨v17, rfl, oo, hb⟩
      have C := hid (C.out.trans (hb.mono C.out.size))
      have G := hid (G.out.keep hb)
      have P_v17 := hid (oo.rd N0)
      obtain ⟨aa17, cc17, rfl, hcc17⟩ := own_capO oo
      clear hb oo
      go_wp2_with fail
      refine (toBytes_any _ xs _ (R1.out.keep C.out)).mono ?_
      rintro e w18 ⟨v18, rfl, oo, hb⟩
      have C := hid (C.out.trans (hb.mono C.out.size))
      have G := hid (G.out.keep hb)
      have P_v17 := hid (P_v17.out.keep hb)
      have P_v18 := hid (oo.rd N1)
      obtain ⟨aa18, cc18, rfl, hcc18⟩ := own_capO oo
      clear hb oo
      go_wp2_with fail
      refine (sealOpen_any key seq _ 0 _ hs _ _ xs _ P_v17.out P_v18.out hcc18 (HE.out.keep C.out hp3)).mono ?_
      rintro e w19 ⟨h19, he, oo, hb⟩
      rw [HO.out.2] at he
      rw [HO.out.1] at oo
      subst he
      have C := hid (C.out.trans (hb.mono C.out.size))
      have G := hid (G.out.keep hb)
      have T := hid (oo.rd NL)
      clear hb oo
      go_wp2_with fail
      refine (eqBytes_same _ _ L _ T.out (S.out.keep C.out)).mono ?_
      rintro e we ⟨rfl, hb⟩
      have C := hid (C.out.trans (hb.mono C.out.size))
      have G := hid (G.out.keep hb)
      clear hb
      go_wp2_with fail
      refine (held_any _ L.length 1 _ (G.out.rd (by rw [marks_len]; omega)) (by omega) (by omega)).mono ?_
      rintro e w21 ⟨rfl, rfl⟩
      go_wp2
      go_ret
      exact ⟨rfl, B3.out.trans (C.out.mono z3)⟩
    · have hl1' : (1048576 : Int) < (len1 : Int) := by omega
      have hl0' : (len0 : Int) ≤ 1048576 := by omega
      clear k0 k1
      go_enter Tryd.func9, Tryd.ntmps9
      go_wp2
      go_ret
      exact ⟨rfl, Below.refl _ _⟩
  · have hl0' : (1048576 : Int) < (len0 : Int) := by omega
    clear k0 k1
    go_enter Tryd.func9, Tryd.ntmps9
    go_wp2
    go_ret
    exact ⟨rfl, Below.refl _ _⟩
theorem own : ownKnob Tryd.prog.godebug = none := by kernel_rfl
theorem laidOut : laidOutB Tryd.prog = true := by kernel_rfl
set_option maxRecDepth 100000 in
theorem lifted (os : Os) (started : os.Started) (H : Type) (enc : TypeId × Value → H) :
    ReturnsInHanded {} Tryd.checked os 9 .any (fun w args => (Rows.fnExactSealOpenSpec.pre enc Tryd.prog Tryd.f9 Rows.fnExactSealOpenRow.domain false w args ∧ laidMetH Tryd.prog Rows.fnExactSealOpenRow.laid w) ∧ sizedMet enc Tryd.prog Tryd.f9 (OpenSpec.ofChange Rows.fnExactSealOpenSpec) false w args) (Rows.fnExactSealOpenSpec.post enc Tryd.prog Tryd.f9 false true false false) := by
  refine returnsInHanded_of_change_and (C := Tryd.checked) (X := fun w _ => laidMetH Tryd.prog Rows.fnExactSealOpenRow.laid w) (fun _ _ _ hh h => h.of_heap hh) own started (by kernel_rfl) Tryd.func9
    (ChangeSpec.witness_at (enc := enc) (C := Tryd.checked) (os := os) (X := fun w _ => laidMetH Tryd.prog Rows.fnExactSealOpenRow.laid w) false (laidWorld os) #[.int .i64 0, .int .i64 0, .slice none 0 0, .slice none 0 0] 8 rfl (by kernel_rfl) (by kernel_rfl) (by kernel_rfl) (by kernel_rfl) (by kernel_rfl) (laidWorld_met os _)) ?_
  intro W base args ds gs before hval0 hW _ _ hL _
  have hval : ∀ (j : Nat) t v, Tryd.f9.params[j]? = some t → args[j]? = some v → Value.okWide Tryd.prog W .any base t v := hval0
  have hW' := hW
  obtain ⟨p, q, hA0, hV, rfl, hfz, hnd⟩ := hW
  have hA : DataW.TrodAll enc Tryd.prog W 0 (fun _ => true) true Tryd.f9.params.toList args.toList ds p := hA0
  rw [Tryd.params9] at hA hval
  obtain ⟨v0, vs0, d0, ds0, p0, q0, hargs, rfl, rfl, h0, r0⟩ := trodAll_cons hA
  obtain ⟨v1, vs1, d1, ds1, p1, q1, rfl, rfl, rfl, h1, r1⟩ := trodAll_cons r0
  obtain ⟨v2, vs2, d2, ds2, p2, q2, rfl, rfl, rfl, h2, r2⟩ := trodAll_cons r1
  obtain ⟨v3, vs3, d3, ds3, p3, q3, rfl, rfl, rfl, h3, r3⟩ := trodAll_cons r2
  obtain ⟨rfl, rfl, rfl⟩ := trodAll_nil r3
  obtain rfl : args = #[v0, v1, v2, v3] := by cases args; simp_all
  obtain ⟨rfl, rfl⟩ := trodVars_none hV
  obtain ⟨a0, rfl, rfl, rfl, w0⟩ := open_int Tryd.underlying3 (hval 0 3 v0 rfl rfl) h0
  obtain ⟨a1, rfl, rfl, rfl, w1⟩ := open_int Tryd.underlying3 (hval 1 3 v1 rfl rfl) h1
  obtain ⟨a2, len2, cap2, rfl⟩ := okWide_slice Tryd.underlying22 (hval 2 22 v2 rfl rfl)
  have k2 := h2
  have lt2 : ∀ x ∈ p2, x.block < W.heap.size := by obtain ⟨m, hm⟩ := k2; exact DataW.trod_lt m _ _ _ hm
  obtain ⟨z2, w2⟩ : ∃ zs, IsRow .u8 W a2 len2 cap2 zs := by
    obtain ⟨fuel, hf⟩ := h2
    rcases open_ints Tryd.underlying22 Tryd.underlying5 (by kernel_rfl) hf with ⟨hcs, _⟩ | ⟨x, l, c, zs, hcs, _, hl, hm, hz, _, hcell, hwz⟩
    · simp [Value.cells] at hcs
      obtain ⟨rfl, rfl, rfl⟩ := hcs
      exact ⟨[], .inl ⟨rfl, rfl, rfl, rfl⟩⟩
    · simp [Value.cells] at hcs
      obtain ⟨rfl, rfl, rfl⟩ := hcs
      exact ⟨zs, .inr ⟨_, rfl, hl, hm, by simpa using hz, hcell, hwz⟩⟩
  obtain ⟨a3, len3, cap3, rfl⟩ := okWide_slice Tryd.underlying22 (hval 3 22 v3 rfl rfl)
  have k3 := h3
  have lt3 : ∀ x ∈ p3, x.block < W.heap.size := by obtain ⟨m, hm⟩ := k3; exact DataW.trod_lt m _ _ _ hm
  obtain ⟨z3, w3⟩ : ∃ zs, IsRow .u8 W a3 len3 cap3 zs := by
    obtain ⟨fuel, hf⟩ := h3
    rcases open_ints Tryd.underlying22 Tryd.underlying5 (by kernel_rfl) hf with ⟨hcs, _⟩ | ⟨x, l, c, zs, hcs, _, hl, hm, hz, _, hcell, hwz⟩
    · simp [Value.cells] at hcs
      obtain ⟨rfl, rfl, rfl⟩ := hcs
      exact ⟨[], .inl ⟨rfl, rfl, rfl, rfl⟩⟩
    · simp [Value.cells] at hcs
      obtain ⟨rfl, rfl, rfl⟩ := hcs
      exact ⟨zs, .inr ⟨_, rfl, hl, hm, by simpa using hz, hcell, hwz⟩⟩
  clear hA0 hval0
  refine (walk a0 a1 a2 len2 cap2 z2 a3 len3 cap3 z3 W w0 w1 w2 w3 (handle_of_laid hL)).mono fun e W' ⟨he, bel⟩ => ?_
  subst he
  exact ⟨_, rfl, _, _, _, [], _, [], hW', trodAll_mk1 (shut_bool Tryd.underlying4 _), (trodAll_cons_mk (shut_int Tryd.underlying3 w0) (trodAll_cons_mk (shut_int Tryd.underlying3 w1) (trodAll_cons_mk (Below.trod laidOut (by kernel_rfl) (of_decide_eq_true (by kernel_rfl)) k2 bel lt2) (trodAll_cons_mk (Below.trod laidOut (by kernel_rfl) (of_decide_eq_true (by kernel_rfl)) k3 bel lt3) trodAll_mk0)))), rfl, bel.frame _, fun h => by cases h⟩

theorem over : Rows.fnExactSealOpenRow.holds Tryd.pinned (OpenSpec.ofChange Rows.fnExactSealOpenSpec) :=
  OpenClaim.holds_of_wide 9 Tryd.f9 rfl rfl rfl rfl rfl rfl rfl ⟨rfl, rfl, rfl, rfl, rfl⟩ rfl rfl rfl rfl rfl (by kernel_rfl) Tryd.func9 (by kernel_rfl)
    (of_decide_eq_true (by kernel_rfl)) (by unfold Func.isWrapper; first | (rw [if_pos (by decide +kernel)]; kernel_rfl) | (rw [if_neg (by decide +kernel)]; exact ⟨rfl, rfl⟩))
    (fun os started H enc _ => lifted os started H enc)

end Go.Proofs.YtbmjaiojeehifaaDoor.fnExactSealOpen
namespace Go.Proofs.YtbmjaiojeehifaaDoor
open Go
theorem fnExactSealOpen_row : Rows.FnExactSealOpenSaid := fnExactSealOpen.over
theorem fnExactSealOpen_holds : Rows.FnExactSealOpenCardSaid :=
  Claim7.holds_tied_plain_at .later [] [.handle] true Rows.fnExactSealOpenCard.stood.harness true
    fnExactSealOpen_row (fun _ h => by cases h) (by kernel_rfl) (fun _ h => by cases h) fnExactSealOpen_row_tie rfl ⟨rfl, rfl⟩ (by kernel_rfl) rfl
    (fun f fn hf hfn => by
      obtain rfl : f = 9 := Option.some.inj ((show Tryd.prog.funcNamed Rows.fnExactSealOpenRow.func = some 9 by kernel_rfl).symm.trans hf) |>.symm
      obtain rfl : fn = Tryd.f9 := (Option.some.inj (Tryd.func9.symm.trans hfn)).symm
      exact ⟨by kernel_rfl, fun j t ht => by
        rw [Tryd.params9] at ht
        rcases j with _ | _ | _ | _ | j
        · simp at ht; subst ht; exact (show Tryd.prog.wantsStandIn 3 = false by kernel_rfl)
        · simp at ht; subst ht; exact (show Tryd.prog.wantsStandIn 3 = false by kernel_rfl)
        · simp at ht; subst ht; exact (show Tryd.prog.wantsStandIn 22 = false by kernel_rfl)
        · simp at ht; subst ht; exact (show Tryd.prog.wantsStandIn 22 = false by kernel_rfl)
        · simp at ht⟩)
    (by kernel_rfl)
#print axioms fnExactSealOpen_holds
end Go.Proofs.YtbmjaiojeehifaaDoor
