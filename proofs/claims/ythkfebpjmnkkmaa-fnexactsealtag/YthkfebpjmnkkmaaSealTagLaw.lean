/- SealTag answers at every argument as the specification does, writes into no argument and keeps nothing of one. No conditions. -/
import Derived.Test.YthkfebpjmnkkmaaSealTag3
namespace Go.Proofs.Ythkfebpjmnkkmaa
open Go.ChangeShapes Go.WideShapes Go.ChangeAt Go.RowKit Go.Joins Go.Deep
theorem IsRow.max {w : World} {a : Option Addr} {len cap : Nat} {zs : List Int} (h : IsRow .u8 w a len cap zs) : (len : Int) ≤ 9223372036854775807 := by
  rcases h with ⟨_, h, _⟩ | ⟨_, _, h, h', _⟩
  · omega
  · unfold maxLen at h'; omega
end Go.Proofs.Ythkfebpjmnkkmaa
namespace Go.Proofs.Ythkfebpjmnkkmaa.fnExactSealTag
open Go.ChangeShapes Go.WideShapes Go.ChangeAt Go.RowKit Go.Joins Go.Deep
set_option linter.unusedVariables false
set_option maxHeartbeats 1000000 in
theorem walk (key seq : Int) (a2 : Option Addr) (len2 cap2 : Nat) (z2 : List Int) (a3 : Option Addr) (len3 cap3 : Nat) (z3 : List Int) (w : World) (x0 : (Lit.int .i64 key).wf = true) (x1 : (Lit.int .i64 seq).wf = true) (w2 : IsRow .u8 w a2 len2 cap2 z2) (w3 : IsRow .u8 w a3 len3 cap3 z3) :
    Calls Try.prog 8 #[.int .i64 key, .int .i64 seq, .slice a2 len2 cap2, .slice a3 len3 cap3] w fun e w' => e = .returned (.bool true) ∧ Below w.heap.size w w' := by
  have m2 := w2.max
  have m3 := w3.max
  clear x0 x1
  by_cases hl2 : len2 ≤ 1048576
  · by_cases hl3 : len3 ≤ 1048576
    · obtain ⟨hs, hx2, r2⟩ := w2.rd hl2
      obtain ⟨cs, hx3, r3⟩ := w3.rd hl3
      have R2 := hid r2
      have R3 := hid r3
      have N2 := hid r2.2.1
      have N3 := hid r3.2.1
      clear hx2 hx3 w2 w3 r2 r3
      go_enter Try.func8, Try.ntmps8
      go_wp2_with fail
      refine (toBytes_any _ hs _ R2.out).mono ?_
      rintro e w1 ⟨v1, rfl, o1, b1⟩
      have B1 := hid b1
      have O1 := hid o1
      clear b1 o1
      go_wp2_with fail
      refine (toBytes_any _ cs _ (R3.out.keep B1.out)).mono ?_
      rintro e w2 ⟨v2, rfl, o2, b2⟩
      have B2 := hid (B1.out.trans (b2.mono B1.out.size))
      have O2 := hid (o2.rd N3.out)
      have O1 := hid ((O1.out.rd N2.out).keep b2)
      clear b2 o2
      go_wp2_with fail
      refine (specTag_any _ _ _ _ hs cs _ O1.out O2.out).mono ?_
      rintro e w3 ⟨rfl, rfl⟩
      go_wp2_with fail
      refine (toBytes_any _ hs _ (R2.out.keep B2.out)).mono ?_
      rintro e w4 ⟨v4, rfl, o4, b4⟩
      have B4 := hid (B2.out.trans (b4.mono B2.out.size))
      have O4 := hid (o4.rd N2.out)
      clear b4 o4
      go_wp2_with fail
      refine (toBytes_any _ cs _ (R3.out.keep B4.out)).mono ?_
      rintro e w5 ⟨v5, rfl, o5, b5⟩
      have B5 := hid (B4.out.trans (b5.mono B4.out.size))
      have O5 := hid (o5.rd N3.out)
      have O4 := hid (O4.out.keep b5)
      clear b5 o5
      go_wp2_with fail
      refine (sealTag_any _ _ _ _ hs cs _ O4.out O5.out).mono ?_
      rintro e w6 ⟨rfl, b6⟩
      have B6 := hid (B5.out.trans (b6.mono B5.out.size))
      have O5 := hid (O5.out.keep b6)
      have O4 := hid (O4.out.keep b6)
      clear b6
      go_wp2_with fail
      refine (toBytes_any _ hs _ (R2.out.keep B6.out)).mono ?_
      rintro e w7 ⟨v7, rfl, o7, b7⟩
      have B7 := hid (B6.out.trans (b7.mono B6.out.size))
      have O7 := hid (o7.rd N2.out)
      have O5 := hid (O5.out.keep b7)
      have O4 := hid (O4.out.keep b7)
      clear b7 o7
      go_wp2_with fail
      refine (eqBytes_same _ _ hs _ O4.out O7.out).mono ?_
      rintro e w8 ⟨rfl, b8⟩
      have B8 := hid (B7.out.trans (b8.mono B7.out.size))
      have O5 := hid (O5.out.keep b8)
      clear b8
      go_wp2_with fail
      refine (toBytes_any _ cs _ (R3.out.keep B8.out)).mono ?_
      rintro e w9 ⟨v9, rfl, o9, b9⟩
      have B9 := hid (B8.out.trans (b9.mono B8.out.size))
      have O9 := hid (o9.rd N3.out)
      have O5 := hid (O5.out.keep b9)
      clear b9 o9
      go_wp2_with fail
      refine (eqBytes_same _ _ cs _ O5.out O9.out).mono ?_
      rintro e w10 ⟨rfl, b10⟩
      have B10 := hid (B9.out.trans (b10.mono B9.out.size))
      clear b10
      go_wp2
      go_ret
      exact ⟨rfl, B10.out⟩
    · have hl' : (1048576 : Int) < (len3 : Int) := by omega
      clear w2 w3
      go_enter Try.func8, Try.ntmps8
      go_wp2
      go_ret
      exact ⟨rfl, Below.refl _ _⟩
  · have hl' : (1048576 : Int) < (len2 : Int) := by omega
    clear w2 w3
    go_enter Try.func8, Try.ntmps8
    go_wp2
    go_ret
    exact ⟨rfl, Below.refl _ _⟩
theorem own : ownKnob Try.prog.godebug = none := by kernel_rfl
theorem laidOut : laidOutB Try.prog = true := by kernel_rfl
set_option maxRecDepth 100000 in
theorem lifted (os : Os) (started : os.Started) (H : Type) (enc : TypeId × Value → H) :
    ReturnsInHanded {} Try.checked os 8 .any (Rows.fnExactSealTagSpec.pre6 enc Try.prog Try.f8 Rows.fnExactSealTagRow.domain false) (Rows.fnExactSealTagSpec.post enc Try.prog Try.f8 false true false false) := by
  refine returnsInHanded_of_change (C := Try.checked) own started (by kernel_rfl) Try.func8
    (ChangeSpec.witness6 (enc := enc) (C := Try.checked) false ⟨#[], #[.int .i64 0, .int .i64 0, .slice none 0 0, .slice none 0 0], []⟩ 8 (by kernel_rfl) (by kernel_rfl) (by kernel_rfl) (by kernel_rfl)) ?_
  intro W base args ds gs before hval0 hW hcnd _
  have hval : ∀ (j : Nat) t v, Try.f8.params[j]? = some t → args[j]? = some v → Value.okWide Try.prog W .any base t v := hval0
  have hW' := hW
  obtain ⟨p, q, hA0, hV, rfl, hfz, hnd⟩ := hW
  have hA : DataW.TrodAll enc Try.prog W 0 (fun _ => true) true Try.f8.params.toList args.toList ds p := hA0
  rw [Try.params8] at hA hval
  obtain ⟨v0, vs0, d0, ds0, p0, q0, hargs, rfl, rfl, h0, r0⟩ := trodAll_cons hA
  obtain ⟨v1, vs1, d1, ds1, p1, q1, rfl, rfl, rfl, h1, r1⟩ := trodAll_cons r0
  obtain ⟨v2, vs2, d2, ds2, p2, q2, rfl, rfl, rfl, h2, r2⟩ := trodAll_cons r1
  obtain ⟨v3, vs3, d3, ds3, p3, q3, rfl, rfl, rfl, h3, r3⟩ := trodAll_cons r2
  obtain ⟨rfl, rfl, rfl⟩ := trodAll_nil r3
  obtain rfl : args = #[v0, v1, v2, v3] := by cases args; simp_all
  obtain ⟨rfl, rfl⟩ := trodVars_none hV
  obtain ⟨a0, rfl, rfl, rfl, w0⟩ := open_int Try.underlying3 (hval 0 3 v0 rfl rfl) h0
  obtain ⟨a1, rfl, rfl, rfl, w1⟩ := open_int Try.underlying3 (hval 1 3 v1 rfl rfl) h1
  obtain ⟨a2, len2, cap2, rfl⟩ := okWide_slice Try.underlying22 (hval 2 22 v2 rfl rfl)
  have k2 := h2
  have lt2 : ∀ x ∈ p2, x.block < W.heap.size := by obtain ⟨m, hm⟩ := k2; exact DataW.trod_lt m _ _ _ hm
  obtain ⟨z2, w2⟩ : ∃ zs, IsRow .u8 W a2 len2 cap2 zs := by
    obtain ⟨fuel, hf⟩ := h2
    rcases open_ints Try.underlying22 Try.underlying5 (by kernel_rfl) hf with ⟨hcs, _⟩ | ⟨x, l, c, zs, hcs, _, hl, hm, hz, _, hcell, hwz⟩
    · simp [Value.cells] at hcs
      obtain ⟨rfl, rfl, rfl⟩ := hcs
      exact ⟨[], .inl ⟨rfl, rfl, rfl, rfl⟩⟩
    · simp [Value.cells] at hcs
      obtain ⟨rfl, rfl, rfl⟩ := hcs
      exact ⟨zs, .inr ⟨_, rfl, hl, hm, by simpa using hz, hcell, hwz⟩⟩
  obtain ⟨a3, len3, cap3, rfl⟩ := okWide_slice Try.underlying22 (hval 3 22 v3 rfl rfl)
  have k3 := h3
  have lt3 : ∀ x ∈ p3, x.block < W.heap.size := by obtain ⟨m, hm⟩ := k3; exact DataW.trod_lt m _ _ _ hm
  obtain ⟨z3, w3⟩ : ∃ zs, IsRow .u8 W a3 len3 cap3 zs := by
    obtain ⟨fuel, hf⟩ := h3
    rcases open_ints Try.underlying22 Try.underlying5 (by kernel_rfl) hf with ⟨hcs, _⟩ | ⟨x, l, c, zs, hcs, _, hl, hm, hz, _, hcell, hwz⟩
    · simp [Value.cells] at hcs
      obtain ⟨rfl, rfl, rfl⟩ := hcs
      exact ⟨[], .inl ⟨rfl, rfl, rfl, rfl⟩⟩
    · simp [Value.cells] at hcs
      obtain ⟨rfl, rfl, rfl⟩ := hcs
      exact ⟨zs, .inr ⟨_, rfl, hl, hm, by simpa using hz, hcell, hwz⟩⟩
  clear hA0 hval0
  refine (walk a0 a1 a2 len2 cap2 z2 a3 len3 cap3 z3 W w0 w1 w2 w3).mono fun e W' ⟨he, bel⟩ => ?_
  subst he
  exact ⟨_, rfl, _, _, _, [], _, [], hW', trodAll_mk1 (shut_bool Try.underlying4 _), (trodAll_cons_mk (shut_int Try.underlying3 w0) (trodAll_cons_mk (shut_int Try.underlying3 w1) (trodAll_cons_mk (Below.trod laidOut (by kernel_rfl) (of_decide_eq_true (by kernel_rfl)) k2 bel lt2) (trodAll_cons_mk (Below.trod laidOut (by kernel_rfl) (of_decide_eq_true (by kernel_rfl)) k3 bel lt3) trodAll_mk0)))), rfl, bel.frame _, fun h => by cases h⟩

theorem over : Rows.fnExactSealTagRow.holds Try.pinned (OpenSpec.ofChange Rows.fnExactSealTagSpec) :=
  OpenClaim.holds_of_wide 8 Try.f8 rfl rfl rfl rfl rfl rfl rfl ⟨rfl, rfl, rfl, rfl, rfl⟩ rfl rfl rfl rfl rfl (by kernel_rfl) Try.func8 (by kernel_rfl)
    (of_decide_eq_true (by kernel_rfl)) (by unfold Func.isWrapper; first | (rw [if_pos (by decide +kernel)]; kernel_rfl) | (rw [if_neg (by decide +kernel)]; exact ⟨rfl, rfl⟩))
    (fun os started H enc _ => lifted os started H enc)

end Go.Proofs.Ythkfebpjmnkkmaa.fnExactSealTag
namespace Go.Proofs.Ythkfebpjmnkkmaa
theorem fnExactSealTag_holds : Rows.FnExactSealTagSaid := fnExactSealTag.over
#print axioms fnExactSealTag_holds
end Go.Proofs.Ythkfebpjmnkkmaa
