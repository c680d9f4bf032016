/- SealShut answers at every argument as the specification does, writes into no argument and keeps nothing of one; its answer owns its memory, behind another call too. No conditions. -/
import Derived.Test.YthkfebpjmnkkmaaSealShut
import Derived.Test.YthkfebpjmnkkmaaBytesMark2
namespace Go.Proofs.Ythkfebpjmnkkmaa.fnExactSealShut
open Go.ChangeShapes Go.WideShapes Go.ChangeAt Go.RowKit Go.Joins Go.Deep
set_option linter.unusedVariables false
set_option maxHeartbeats 2000000 in
theorem walk (key seq : Int) (a2 : Option Addr) (len2 cap2 : Nat) (z2 : List Int) (a3 : Option Addr) (len3 cap3 : Nat) (z3 : List Int) (w : World) (x0 : (Lit.int .i64 key).wf = true) (x1 : (Lit.int .i64 seq).wf = true) (w2 : IsRow .u8 w a2 len2 cap2 z2) (w3 : IsRow .u8 w a3 len3 cap3 z3) :
    Calls Try.prog 9 #[.int .i64 key, .int .i64 seq, .slice a2 len2 cap2, .slice a3 len3 cap3] w fun e w' => e = .returned (.bool true) ∧ Below w.heap.size w w' := by
  have m2 := w2.max
  have m3 := w3.max
  clear x0 x1
  by_cases hl2 : len2 ≤ 1048576
  · by_cases hl3 : len3 ≤ 1048576
    · obtain ⟨hs, hx2, r2⟩ := w2.rd hl2
      obtain ⟨xs, hx3, r3⟩ := w3.rd hl3
      have R2 := hid r2
      have R3 := hid r3
      have N2 : hs.length ≤ 2000000 := r2.2.1
      have N3 : xs.length ≤ 2000000 := r3.2.1
      have NL := shutL_len key seq hs xs
      clear hx2 hx3 w2 w3 r2 r3
      go_enter Try.func9, Try.ntmps9
      go_wp2_with fail
      refine (toBytes_any _ hs _ R2.out).mono ?_
      rintro e w1 ⟨v1, rfl, o1, b1⟩
      have B1 := hid b1
      have O1 := hid o1
      clear b1 o1
      go_wp2_with fail
      refine (toBytes_any _ xs _ (R3.out.keep B1.out)).mono ?_
      rintro e w2 ⟨v2, rfl, o2, b2⟩
      have B2 := hid (B1.out.trans (b2.mono B1.out.size))
      have O2 := hid (o2.rd N3)
      have O1 := hid ((O1.out.rd N2).keep b2)
      clear b2 o2
      go_wp2_with fail
      refine (specShut_any _ _ _ _ hs xs _ O1.out O2.out).mono ?_
      rintro e w3 ⟨s3, rfl, o3, b3⟩
      have B3 := hid (B2.out.trans (b3.mono B2.out.size))
      have S3 := hid (o3.rd (by omega))
      clear b3 o3 O1 O2 B1 B2
      go_wp2_with fail
      refine (toBytes_any _ hs _ (R2.out.keep B3.out)).mono ?_
      rintro e w4 ⟨x4, rfl, o4, b4⟩
      have O4 := hid o4
      have C4 := hid b4
      clear b4 o4
      go_wp2_with fail
      refine (toBytes_any _ xs _ (R3.out.keep (B3.out.trans (C4.out.mono B3.out.size)))).mono ?_
      rintro e w5 ⟨x5, rfl, o5, b5⟩
      have C5 := hid (C4.out.trans (b5.mono C4.out.size))
      have X5 := hid o5
      have X4 := hid (O4.out.keep b5)
      have K4 := hid (fun k hk => (O4.out.blk k hk).2)
      have z45 := b5.size
      clear b5 o5 O4
      go_wp2_with fail
      refine (sealShut_any _ _ _ _ hs xs _ (X4.out.rd N2) (X5.out.rd N3)).mono ?_
      rintro e w6 ⟨g6, rfl, o6, b6⟩
      have C6 := hid (C5.out.trans (b6.mono C5.out.size))
      have K5 := hid (fun k hk => (X5.out.blk k hk).2)
      have X5 := hid (X5.out.keep b6)
      have X4 := hid (X4.out.keep b6)
      have G6 := hid o6
      clear b6 o6
      go_wp2_with fail
      refine (eqBytes_same _ _ (shutL key seq hs xs) _ (G6.out.rd (by omega)) (S3.out.keep C6.out)).mono ?_
      rintro e w7 ⟨rfl, b7⟩
      have C7 := hid (C6.out.trans (b7.mono C6.out.size))
      have X5 := hid (X5.out.keep b7)
      have X4 := hid (X4.out.keep b7)
      have G6 := hid (G6.out.keep b7)
      clear b7
      go_wp2_with fail
      refine (toBytes_any _ hs _ (R2.out.keep (B3.out.trans (C7.out.mono B3.out.size)))).mono ?_
      rintro e w8 ⟨v8, rfl, o8, b8⟩
      have C8 := hid (C7.out.trans (b8.mono C7.out.size))
      have X5 := hid (X5.out.keep b8)
      have X4 := hid (X4.out.keep b8)
      have G6 := hid (G6.out.keep b8)
      have O8 := hid (o8.rd N2)
      clear b8 o8
      go_wp2_with fail
      refine (eqBytes_same _ _ hs _ (X4.out.rd N2) O8.out).mono ?_
      rintro e w9 ⟨rfl, b9⟩
      have C9 := hid (C8.out.trans (b9.mono C8.out.size))
      have X5 := hid (X5.out.keep b9)
      have X4 := hid (X4.out.keep b9)
      have G6 := hid (G6.out.keep b9)
      clear b9
      go_wp2_with fail
      refine (toBytes_any _ xs _ (R3.out.keep (B3.out.trans (C9.out.mono B3.out.size)))).mono ?_
      rintro e w10 ⟨v10, rfl, o10, b10⟩
      have C10 := hid (C9.out.trans (b10.mono C9.out.size))
      have X5 := hid (X5.out.keep b10)
      have X4 := hid (X4.out.keep b10)
      have G6 := hid (G6.out.keep b10)
      have O10 := hid (o10.rd N3)
      clear b10 o10
      go_wp2_with fail
      refine (eqBytes_same _ _ xs _ (X5.out.rd N3) O10.out).mono ?_
      rintro e w11 ⟨rfl, b11⟩
      have C11 := hid (C10.out.trans (b11.mono C10.out.size))
      have X5 := hid (X5.out.keep b11)
      have X4 := hid (X4.out.keep b11)
      have G6 := hid (G6.out.keep b11)
      clear b11
      go_wp2_with fail
      refine (mark_any _ hs 1 w3.heap.size _ X4.out N2 (by omega) (by omega)).mono ?_
      rintro e w12 ⟨rfl, o12, g12, z12⟩
      have C12 := hid (C11.out.grown g12 C11.out.size (fun k hk => (X4.out.blk k hk).1))
      have X5 := hid (X5.out.grown g12 (fun k hk => K4.out k hk))
      have G6 := hid (G6.out.grown g12 (fun k hk => Nat.lt_of_lt_of_le (K4.out k hk) z45))
      clear g12 o12 z12
      go_wp2_with fail
      refine (mark_any _ xs _ w4.heap.size _ X5.out N3 (by omega) (by omega)).mono ?_
      rintro e w13 ⟨rfl, o13, g13, z13⟩
      have C13 := hid (C12.out.grown g13 C12.out.size (fun k hk => Nat.le_trans C4.out.size (X5.out.blk k hk).1))
      have G6 := hid (G6.out.grown g13 (fun k hk => K5.out k hk))
      clear g13 o13 z13 X5 X4
      have hneg : decide (1 + (hs.length : Int) + (xs.length : Int) < 0) = false := by simp; omega
      go_wp2_with fail
      refine (eqBytes_same _ _ (shutL key seq hs xs) _ (G6.out.rd (by omega)) (S3.out.keep C13.out)).mono ?_
      rintro e w14 ⟨rfl, b14⟩
      have C14 := hid (C13.out.trans (b14.mono C13.out.size))
      have G6 := hid (G6.out.keep b14)
      clear b14
      go_wp2_with fail
      refine (mark_any _ (shutL key seq hs xs) 1 w5.heap.size _ G6.out (by omega) (by omega) (by omega)).mono ?_
      rintro e w15 ⟨rfl, o15, g15, z15⟩
      have C15 := hid (C14.out.grown g15 C14.out.size (fun k hk => Nat.le_trans C5.out.size (G6.out.blk k hk).1))
      have G7 := hid o15
      clear g15 o15 z15 G6
      go_wp2_with fail
      refine (held_any _ (shutL key seq hs xs).length 1 _ (G7.out.rd (by rw [marks_len]; omega)) (by omega) (by omega)).mono ?_
      rintro e w16 ⟨rfl, rfl⟩
      go_wp2_with fail
      refine (toBytes_any _ hs _ (R2.out.keep (B3.out.trans (C15.out.mono B3.out.size)))).mono ?_
      rintro e w17 ⟨v17, rfl, o17, b17⟩
      have C17 := hid (C15.out.trans (b17.mono C15.out.size))
      have G7 := hid (G7.out.keep b17)
      have O17 := hid (o17.rd N2)
      clear b17 o17
      go_wp2_with fail
      refine (toBytes_any _ xs _ (R3.out.keep (B3.out.trans (C17.out.mono B3.out.size)))).mono ?_
      rintro e w18 ⟨v18, rfl, o18, b18⟩
      have C18 := hid (C17.out.trans (b18.mono C17.out.size))
      have G7 := hid (G7.out.keep b18)
      have O17 := hid (O17.out.keep b18)
      have O18 := hid (o18.rd N3)
      clear b18 o18
      go_wp2_with fail
      refine (sealShut_any _ _ _ _ hs xs _ O17.out O18.out).mono ?_
      rintro e w19 ⟨v19, rfl, o19, b19⟩
      have C19 := hid (C18.out.trans (b19.mono C18.out.size))
      have G7 := hid (G7.out.keep b19)
      have O19 := hid (o19.rd (by omega))
      clear b19 o19
      go_wp2_with fail
      refine (eqBytes_same _ _ (shutL key seq hs xs) _ O19.out (S3.out.keep C19.out)).mono ?_
      rintro e w20 ⟨rfl, b20⟩
      have C20 := hid (C19.out.trans (b20.mono C19.out.size))
      have G7 := hid (G7.out.keep b20)
      clear b20
      go_wp2_with fail
      refine (held_any _ (shutL key seq hs xs).length 1 _ (G7.out.rd (by rw [marks_len]; omega)) (by omega) (by omega)).mono ?_
      rintro e w21 ⟨rfl, rfl⟩
      go_wp2
      go_ret
      exact ⟨rfl, B3.out.trans (C20.out.mono B3.out.size)⟩
    · have hl' : (1048576 : Int) < (len3 : Int) := by omega
      clear w2 w3
      go_enter Try.func9, Try.ntmps9
      go_wp2
      go_ret
      exact ⟨rfl, Below.refl _ _⟩
  · have hl' : (1048576 : Int) < (len2 : Int) := by omega
    clear w2 w3
    go_enter Try.func9, Try.ntmps9
    go_wp2
    go_ret
    exact ⟨rfl, Below.refl _ _⟩
theorem own : ownKnob Try.prog.godebug = none := by kernel_rfl
theorem laidOut : laidOutB Try.prog = true := by kernel_rfl
set_option maxRecDepth 100000 in
theorem lifted (os : Os) (started : os.Started) (H : Type) (enc : TypeId × Value → H) :
    ReturnsInHanded {} Try.checked os 9 .any (Rows.fnExactSealShutSpec.pre6 enc Try.prog Try.f9 Rows.fnExactSealShutRow.domain false) (Rows.fnExactSealShutSpec.post enc Try.prog Try.f9 false true false false) := by
  refine returnsInHanded_of_change (C := Try.checked) own started (by kernel_rfl) Try.func9
    (ChangeSpec.witness6 (enc := enc) (C := Try.checked) false ⟨#[], #[.int .i64 0, .int .i64 0, .slice none 0 0, .slice none 0 0], []⟩ 8 (by kernel_rfl) (by kernel_rfl) (by kernel_rfl) (by kernel_rfl)) ?_
  intro W base args ds gs before hval0 hW hcnd _
  have hval : ∀ (j : Nat) t v, Try.f9.params[j]? = some t → args[j]? = some v → Value.okWide Try.prog W .any base t v := hval0
  have hW' := hW
  obtain ⟨p, q, hA0, hV, rfl, hfz, hnd⟩ := hW
  have hA : DataW.TrodAll enc Try.prog W 0 (fun _ => true) true Try.f9.params.toList args.toList ds p := hA0
  rw [Try.params9] at hA hval
  obtain ⟨v0, vs0, d0, ds0, p0, q0, hargs, rfl, rfl, h0, r0⟩ := trodAll_cons hA
  obtain ⟨v1, vs1, d1, ds1, p1, q1, rfl, rfl, rfl, h1, r1⟩ := trodAll_cons r0
  obtain ⟨v2, vs2, d2, ds2, p2, q2, rfl, rfl, rfl, h2, r2⟩ := trodAll_cons r1
  obtain ⟨v3, vs3, d3, ds3, p3, q3, rfl, rfl, rfl, h3, r3⟩ := trodAll_cons r2
  obtain ⟨rfl, rfl, rfl⟩ := trodAll_nil r3
  obtain rfl : args = #[v0, v1, v2, v3] := by cases args; simp_all
  obtain ⟨rfl, rfl⟩ := trodVars_none hV
  obtain ⟨a0, rfl, rfl, rfl, w0⟩ := open_int Try.underlying3 (hval 0 3 v0 rfl rfl) h0
  obtain ⟨a1, rfl, rfl, rfl, w1⟩ := open_int Try.underlying3 (hval 1 3 v1 rfl rfl) h1
  obtain ⟨a2, len2, cap2, rfl⟩ := okWide_slice Try.underlying22 (hval 2 22 v2 rfl rfl)
  have k2 := h2
  have lt2 : ∀ x ∈ p2, x.block < W.heap.size := by obtain ⟨m, hm⟩ := k2; exact DataW.trod_lt m _ _ _ hm
  obtain ⟨z2, w2⟩ : ∃ zs, IsRow .u8 W a2 len2 cap2 zs := by
    obtain ⟨fuel, hf⟩ := h2
    rcases open_ints Try.underlying22 Try.underlying5 (by kernel_rfl) hf with ⟨hcs, _⟩ | ⟨x, l, c, zs, hcs, _, hl, hm, hz, _, hcell, hwz⟩
    · simp [Value.cells] at hcs
      obtain ⟨rfl, rfl, rfl⟩ := hcs
      exact ⟨[], .inl ⟨rfl, rfl, rfl, rfl⟩⟩
    · simp [Value.cells] at hcs
      obtain ⟨rfl, rfl, rfl⟩ := hcs
      exact ⟨zs, .inr ⟨_, rfl, hl, hm, by simpa using hz, hcell, hwz⟩⟩
  obtain ⟨a3, len3, cap3, rfl⟩ := okWide_slice Try.underlying22 (hval 3 22 v3 rfl rfl)
  have k3 := h3
  have lt3 : ∀ x ∈ p3, x.block < W.heap.size := by obtain ⟨m, hm⟩ := k3; exact DataW.trod_lt m _ _ _ hm
  obtain ⟨z3, w3⟩ : ∃ zs, IsRow .u8 W a3 len3 cap3 zs := by
    obtain ⟨fuel, hf⟩ := h3
    rcases open_ints Try.underlying22 Try.underlying5 (by kernel_rfl) hf with ⟨hcs, _⟩ | ⟨x, l, c, zs, hcs, _, hl, hm, hz, _, hcell, hwz⟩
    · simp [Value.cells] at hcs
      obtain ⟨rfl, rfl, rfl⟩ := hcs
      exact ⟨[], .inl ⟨rfl, rfl, rfl, rfl⟩⟩
    · simp [Value.cells] at hcs
      obtain ⟨rfl, rfl, rfl⟩ := hcs
      exact ⟨zs, .inr ⟨_, rfl, hl, hm, by simpa using hz, hcell, hwz⟩⟩
  clear hA0 hval0
  refine (walk a0 a1 a2 len2 cap2 z2 a3 len3 cap3 z3 W w0 w1 w2 w3).mono fun e W' ⟨he, bel⟩ => ?_
  subst he
  exact ⟨_, rfl, _, _, _, [], _, [], hW', trodAll_mk1 (shut_bool Try.underlying4 _), (trodAll_cons_mk (shut_int Try.underlying3 w0) (trodAll_cons_mk (shut_int Try.underlying3 w1) (trodAll_cons_mk (Below.trod laidOut (by kernel_rfl) (of_decide_eq_true (by kernel_rfl)) k2 bel lt2) (trodAll_cons_mk (Below.trod laidOut (by kernel_rfl) (of_decide_eq_true (by kernel_rfl)) k3 bel lt3) trodAll_mk0)))), rfl, bel.frame _, fun h => by cases h⟩

theorem over : Rows.fnExactSealShutRow.holds Try.pinned (OpenSpec.ofChange Rows.fnExactSealShutSpec) :=
  OpenClaim.holds_of_wide 9 Try.f9 rfl rfl rfl rfl rfl rfl rfl ⟨rfl, rfl, rfl, rfl, rfl⟩ rfl rfl rfl rfl rfl (by kernel_rfl) Try.func9 (by kernel_rfl)
    (of_decide_eq_true (by kernel_rfl)) (by unfold Func.isWrapper; first | (rw [if_pos (by decide +kernel)]; kernel_rfl) | (rw [if_neg (by decide +kernel)]; exact ⟨rfl, rfl⟩))
    (fun os started H enc _ => lifted os started H enc)

end Go.Proofs.Ythkfebpjmnkkmaa.fnExactSealShut
namespace Go.Proofs.Ythkfebpjmnkkmaa
theorem fnExactSealShut_holds : Rows.FnExactSealShutSaid := fnExactSealShut.over
#print axioms fnExactSealShut_holds
end Go.Proofs.Ythkfebpjmnkkmaa
