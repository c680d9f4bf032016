/- A label that is ok has a text that is read as it; a text that is read is the text of what was read: for whatever is drawn. No conditions. -/
import Derived.Test.YtjblhjnicoggaaaDrawTxt
import Derived.Test.YtjblhjnicoggaaaLblRdSpec
namespace Go.Proofs.Ytjblhjnicoggaaa.fnLblText
open Go.ChangeShapes Go.WideShapes Go.ChangeAt Go.RowKit Go.Joins Go.Deep
set_option linter.unusedVariables false

theorem IsRow.max {k : IntKind} {w : World} {a : Option Addr} {len cap : Nat} {zs : List Int} (h : IsRow k w a len cap zs) : len ≤ cap ∧ cap ≤ maxLen := by
  rcases h with ⟨_, rfl, rfl, _⟩ | ⟨_, _, h1, h2, _⟩
  · simp [maxLen]
  · exact ⟨h1, h2⟩

theorem rd_back {t : ByteArray} (h : rdOk t = true) : lblTxt (rdL t) (rdM t) = t := by
  have e : rdL t = guL t.data.toList ∧ rdM t = (guM t.data.toList 4 : Int) := ⟨by simp [rdL, h], by simp [rdM, h]⟩
  rw [e.1, e.2]
  unfold rdOk at h
  exact (of_decide_eq_true h).2
set_option maxHeartbeats 8000000 in
theorem walk (ad0 : Option Addr) (len0 cap0 : Nat) (z0 : List Int) (ad1 : Option Addr) (len1 cap1 : Nat) (z1 : List Int) (w : World) (k0 : IsRow .u8 w ad0 len0 cap0 z0) (k1 : IsRow .u8 w ad1 len1 cap1 z1) :
    Calls Try.prog 6 #[.slice ad0 len0 cap0, .slice ad1 len1 cap1] w fun e w' => e = .returned (.bool true) ∧ Below w.heap.size w w' := by
  have m0 := IsRow.max k0
  have m1 := IsRow.max k1
  by_cases hl0 : len0 ≤ 1048576
  · by_cases hl1 : len1 ≤ 1048576
    · have hl0' : (len0 : Int) ≤ 1048576 := by omega
      have hl1' : (len1 : Int) ≤ 1048576 := by omega
      obtain ⟨xs, hx0, r0⟩ := k0.rd hl0
      obtain ⟨ys, hy0, r1⟩ := k1.rd hl1
      have R0 := hid r0
      have R1 := hid r1
      clear k0 k1 r0 r1
      go_enter Try.func6, Try.ntmps6
      go_wp2_with fail
      refine (drawText_any ad0 len0 cap0 xs _ hx0 R0.out m0.1).mono ?_
      rintro e w1 ⟨l, m, rfl, b1⟩
      have B1 := hid b1
      clear b1
      go_wp2_with fail
      refine (lblText_any _ _ _).mono ?_
      rintro e w2 ⟨rfl, b2⟩
      have a0 : w2.cell? ⟨w1.heap.size, 0, none⟩ = some (.int .i64 l) := cell_keep b2 (by simp)
      have a1 : w2.cell? ⟨w1.heap.size, 1, none⟩ = some (.int .i64 m) := cell_keep b2 (by simp)
      have B2 := hid ((B1.out.alloc B1.out.size (Obj.cells #[Value.int IntKind.i64 l, Value.int IntKind.i64 m] 24)).trans (b2.mono (by have := B1.out.size; simp; omega)))
      have z2 : w1.heap.size < w2.heap.size := by have := b2.size; simp at this; omega
      clear b2 B1
      obtain ⟨S, hS⟩ : ∃ S, lblTxt l m = S := ⟨_, rfl⟩
      obtain ⟨L2, hL2⟩ : ∃ L2, rdL S = L2 := ⟨_, rfl⟩
      obtain ⟨M2, hM2⟩ : ∃ M2, rdM S = M2 := ⟨_, rfl⟩
      obtain ⟨O2, hO2⟩ : ∃ O2, rdOk S = O2 := ⟨_, rfl⟩
      have HS := hid hS
      have HR := hid (And.intro hL2 (And.intro hM2 hO2))
      rw [hS]
      clear hS hL2 hM2 hO2
      go_wp2_with fail
      refine (lblRead_any S _).mono ?_
      rintro e w3 ⟨he, b3⟩
      rw [HR.out.1, HR.out.2.1, HR.out.2.2] at he
      subst he
      have a0 := cell_keep b3 a0
      have a1 := cell_keep b3 a1
      have B3 := hid (B2.out.trans (b3.mono (by have := B2.out.size; omega)))
      have z3 : w1.heap.size < w3.heap.size := by have := b3.size; omega
      clear b3 B2
      have R1 := hid (R1.out.keep (B3.out.alloc B3.out.size (Obj.cells #[Value.int IntKind.i64 L2, Value.int IntKind.i64 M2] 24)))
      go_wp2_with fail
      refine (drawRead_any ad1 len1 cap1 ys _ hy0 R1.out m1.1).mono ?_
      rintro e w4 ⟨t, rfl, b4⟩
      have a0 : w4.cell? ⟨w1.heap.size, 0, none⟩ = some (.int .i64 l) := cell_keep b4 (cell_keep (below_alloc1 _ _) a0)
      have a1 : w4.cell? ⟨w1.heap.size, 1, none⟩ = some (.int .i64 m) := cell_keep b4 (cell_keep (below_alloc1 _ _) a1)
      have b0 : w4.cell? ⟨w3.heap.size, 0, none⟩ = some (.int .i64 L2) := cell_keep b4 (by simp)
      have b1 : w4.cell? ⟨w3.heap.size, 1, none⟩ = some (.int .i64 M2) := cell_keep b4 (by simp)
      have z4 : w3.heap.size < w4.heap.size := by have := b4.size; simp at this; omega
      have B4 := hid ((B3.out.alloc B3.out.size (Obj.cells #[Value.int IntKind.i64 L2, Value.int IntKind.i64 M2] 24)).trans (b4.mono (by have := B3.out.size; simp; omega)))
      clear b4 B3 R1 R0
      obtain ⟨L5, hL5⟩ : ∃ L5, rdL t = L5 := ⟨_, rfl⟩
      obtain ⟨M5, hM5⟩ : ∃ M5, rdM t = M5 := ⟨_, rfl⟩
      obtain ⟨O5, hO5⟩ : ∃ O5, rdOk t = O5 := ⟨_, rfl⟩
      have HT := hid (And.intro hL5 (And.intro hM5 hO5))
      have HTB : Hid (O5 = true → lblTxt L5 M5 = t) := by
        intro h; rw [← hO5] at h; rw [← hL5, ← hM5]; exact rd_back h
      clear hL5 hM5 hO5
      go_wp2_with fail
      refine (lblRead_any t _).mono ?_
      rintro e w5 ⟨he, b5⟩
      rw [HT.out.1, HT.out.2.1, HT.out.2.2] at he
      subst he
      have a0 := cell_keep b5 a0
      have a1 := cell_keep b5 a1
      have b0 := cell_keep b5 b0
      have b1 := cell_keep b5 b1
      have z5 : w4.heap.size ≤ w5.heap.size := b5.size
      have B5 := hid (B4.out.trans (b5.mono (by have := B4.out.size; omega)))
      clear b5 B4
      go_wp2_with fail
      refine (specRead_any t _).mono ?_
      rintro e w6 ⟨he, b6⟩
      rw [HT.out.1, HT.out.2.1, HT.out.2.2] at he
      subst he
      have a0 := cell_keep b6 (cell_keep (below_alloc1 _ _) a0)
      have a1 := cell_keep b6 (cell_keep (below_alloc1 _ _) a1)
      have b0 := cell_keep b6 (cell_keep (below_alloc1 _ _) b0)
      have b1 := cell_keep b6 (cell_keep (below_alloc1 _ _) b1)
      have c0 : w6.cell? ⟨w5.heap.size, 0, none⟩ = some (.int .i64 L5) := cell_keep b6 (by simp)
      have c1 : w6.cell? ⟨w5.heap.size, 1, none⟩ = some (.int .i64 M5) := cell_keep b6 (by simp)
      have z6 : w5.heap.size < w6.heap.size := by have := b6.size; simp at this; omega
      have B6 := hid ((B5.out.alloc B5.out.size (Obj.cells #[Value.int IntKind.i64 L5, Value.int IntKind.i64 M5] 24)).trans (b6.mono (by have := B5.out.size; simp; omega)))
      clear b6 B5
      have d0 : ∀ o, (w6.alloc o).cell? ⟨w1.heap.size, 0, none⟩ = some (.int .i64 l) := fun o => cell_keep (below_alloc1 _ _) a0
      have d1 : ∀ o, (w6.alloc o).cell? ⟨w1.heap.size, 1, none⟩ = some (.int .i64 m) := fun o => cell_keep (below_alloc1 _ _) a1
      go_wp2_with fail
      refine (specText_any l m _).mono ?_
      rintro e w7 ⟨he, b7⟩
      rw [HS.out] at he
      subst he
      have a0 := cell_keep b7 (cell_keep (below_alloc1 _ _) a0)
      have a1 := cell_keep b7 (cell_keep (below_alloc1 _ _) a1)
      have b0 := cell_keep b7 (cell_keep (below_alloc1 _ _) b0)
      have b1 := cell_keep b7 (cell_keep (below_alloc1 _ _) b1)
      have c0 := cell_keep b7 (cell_keep (below_alloc1 _ _) c0)
      have c1 := cell_keep b7 (cell_keep (below_alloc1 _ _) c1)
      have e0 : w7.cell? ⟨w6.heap.size, 0, none⟩ = some (.int .i64 L5) := cell_keep b7 (by simp)
      have e1 : w7.cell? ⟨w6.heap.size, 1, none⟩ = some (.int .i64 M5) := cell_keep b7 (by simp)
      have z7 : w6.heap.size < w7.heap.size := by have := b7.size; simp at this; omega
      have B7 := hid ((B6.out.alloc B6.out.size (Obj.cells #[Value.int IntKind.i64 L5, Value.int IntKind.i64 M5] 24)).trans (b7.mono (by have := B6.out.size; simp; omega)))
      clear b7 B6 d0 d1
      cases O5
      · go_wp2_with fail
        refine (specOk_any l m _).mono ?_
        rintro e w9 ⟨rfl, b9⟩
        have a0 := cell_keep b9 a0
        have a1 := cell_keep b9 a1
        have b0 := cell_keep b9 b0
        have b1 := cell_keep b9 b1
        have B9 := hid (B7.out.trans (b9.mono (by have := B7.out.size; omega)))
        clear b9 B7 c0 c1 e0 e1
        cases h : okB l m
        · have hS0 : S = ⟨#[]⟩ := by rw [← HS.out]; unfold lblTxt; simp [h]
          have h00 : lblTxt 0 0 = ⟨#[48]⟩ := by decide +kernel
          clear HR HS HT HTB
          subst hS0
          go_wp2_with fail
          refine (lblText_any 0 0 _).mono ?_
          rintro e w10 ⟨he, b10⟩
          rw [h00] at he
          subst he
          go_wp2
          go_ret
          exact ⟨rfl, B9.out.trans (b10.mono (by have := B9.out.size; omega))⟩
        · have hy := rd_yes h HS.out
          have hr := HR.out
          obtain rfl : L2 = l := hr.1.symm.trans hy.2.1
          obtain rfl : M2 = m := hr.2.1.symm.trans hy.2.2
          obtain rfl : O2 = true := hr.2.2.symm.trans hy.1
          clear hy hr HR HS HT HTB
          go_wp2
          go_ret
          exact ⟨rfl, B9.out⟩
      · have hT5 := HTB.out rfl
        go_wp2_with fail
        refine (lblText_any L5 M5 _).mono ?_
        rintro e w8 ⟨he, b8⟩
        rw [hT5] at he
        subst he
        have a0 := cell_keep b8 a0
        have a1 := cell_keep b8 a1
        have b0 := cell_keep b8 b0
        have b1 := cell_keep b8 b1
        have B8 := hid (B7.out.trans (b8.mono (by have := B7.out.size; omega)))
        clear b8 B7 hT5
        go_wp2_with fail
        refine (specOk_any l m _).mono ?_
        rintro e w9 ⟨rfl, b9⟩
        have a0 := cell_keep b9 a0
        have a1 := cell_keep b9 a1
        have b0 := cell_keep b9 b0
        have b1 := cell_keep b9 b1
        have B9 := hid (B8.out.trans (b9.mono (by have := B8.out.size; omega)))
        clear b9 B8 c0 c1 e0 e1
        cases h : okB l m
        · have hS0 : S = ⟨#[]⟩ := by rw [← HS.out]; unfold lblTxt; simp [h]
          have h00 : lblTxt 0 0 = ⟨#[48]⟩ := by decide +kernel
          clear HR HS HT HTB
          subst hS0
          go_wp2_with fail
          refine (lblText_any 0 0 _).mono ?_
          rintro e w10 ⟨he, b10⟩
          rw [h00] at he
          subst he
          go_wp2
          go_ret
          exact ⟨rfl, B9.out.trans (b10.mono (by have := B9.out.size; omega))⟩
        · have hy := rd_yes h HS.out
          have hr := HR.out
          obtain rfl : L2 = l := hr.1.symm.trans hy.2.1
          obtain rfl : M2 = m := hr.2.1.symm.trans hy.2.2
          obtain rfl : O2 = true := hr.2.2.symm.trans hy.1
          clear hy hr HR HS HT HTB
          go_wp2
          go_ret
          exact ⟨rfl, B9.out⟩
    · have hl1' : (1048576 : Int) < (len1 : Int) := by omega
      have hl0' : (len0 : Int) ≤ 1048576 := by omega
      clear k0 k1
      go_enter Try.func6, Try.ntmps6
      go_wp2
      go_ret
      exact ⟨rfl, Below.refl _ _⟩
  · have hl0' : (1048576 : Int) < (len0 : Int) := by omega
    clear k0 k1
    go_enter Try.func6, Try.ntmps6
    go_wp2
    go_ret
    exact ⟨rfl, Below.refl _ _⟩
theorem own : ownKnob Try.prog.godebug = none := by kernel_rfl
theorem laidOut : laidOutB Try.prog = true := by kernel_rfl
set_option maxRecDepth 100000 in
theorem lifted (os : Os) (started : os.Started) (H : Type) (enc : TypeId × Value → H) :
    ReturnsInHanded {} Try.checked os 6 .any (Rows.fnLblTextSpec.pre6 enc Try.prog Try.f6 Rows.fnLblTextRow.domain false) (Rows.fnLblTextSpec.post enc Try.prog Try.f6 false true false false) := by
  refine returnsInHanded_of_change (C := Try.checked) own started (by kernel_rfl) Try.func6
    (ChangeSpec.witness6 (enc := enc) (C := Try.checked) false ⟨#[], #[.slice none 0 0, .slice none 0 0], []⟩ 8 (by kernel_rfl) (by kernel_rfl) (by kernel_rfl) (by kernel_rfl)) ?_
  intro W base args ds gs before hval0 hW hcnd _
  have hval : ∀ (j : Nat) t v, Try.f6.params[j]? = some t → args[j]? = some v → Value.okWide Try.prog W .any base t v := hval0
  have hW' := hW
  obtain ⟨p, q, hA0, hV, rfl, hfz, hnd⟩ := hW
  have hA : DataW.TrodAll enc Try.prog W 0 (fun _ => true) true Try.f6.params.toList args.toList ds p := hA0
  rw [Try.params6] at hA hval
  obtain ⟨v0, vs0, d0, ds0, p0, q0, hargs, rfl, rfl, h0, r0⟩ := trodAll_cons hA
  obtain ⟨v1, vs1, d1, ds1, p1, q1, rfl, rfl, rfl, h1, r1⟩ := trodAll_cons r0
  obtain ⟨rfl, rfl, rfl⟩ := trodAll_nil r1
  obtain rfl : args = #[v0, v1] := by cases args; simp_all
  obtain ⟨rfl, rfl⟩ := trodVars_none hV
  obtain ⟨a0, len0, cap0, rfl⟩ := okWide_slice Try.underlying22 (hval 0 22 v0 rfl rfl)
  have k0 := h0
  have lt0 : ∀ x ∈ p0, x.block < W.heap.size := by obtain ⟨m, hm⟩ := k0; exact DataW.trod_lt m _ _ _ hm
  obtain ⟨z0, w0⟩ : ∃ zs, IsRow .u8 W a0 len0 cap0 zs := by
    obtain ⟨fuel, hf⟩ := h0
    rcases open_ints Try.underlying22 Try.underlying5 (by kernel_rfl) hf with ⟨hcs, _⟩ | ⟨x, l, c, zs, hcs, _, hl, hm, hz, _, hcell, hwz⟩
    · simp [Value.cells] at hcs
      obtain ⟨rfl, rfl, rfl⟩ := hcs
      exact ⟨[], .inl ⟨rfl, rfl, rfl, rfl⟩⟩
    · simp [Value.cells] at hcs
      obtain ⟨rfl, rfl, rfl⟩ := hcs
      exact ⟨zs, .inr ⟨_, rfl, hl, hm, by simpa using hz, hcell, hwz⟩⟩
  obtain ⟨a1, len1, cap1, rfl⟩ := okWide_slice Try.underlying22 (hval 1 22 v1 rfl rfl)
  have k1 := h1
  have lt1 : ∀ x ∈ p1, x.block < W.heap.size := by obtain ⟨m, hm⟩ := k1; exact DataW.trod_lt m _ _ _ hm
  obtain ⟨z1, w1⟩ : ∃ zs, IsRow .u8 W a1 len1 cap1 zs := by
    obtain ⟨fuel, hf⟩ := h1
    rcases open_ints Try.underlying22 Try.underlying5 (by kernel_rfl) hf with ⟨hcs, _⟩ | ⟨x, l, c, zs, hcs, _, hl, hm, hz, _, hcell, hwz⟩
    · simp [Value.cells] at hcs
      obtain ⟨rfl, rfl, rfl⟩ := hcs
      exact ⟨[], .inl ⟨rfl, rfl, rfl, rfl⟩⟩
    · simp [Value.cells] at hcs
      obtain ⟨rfl, rfl, rfl⟩ := hcs
      exact ⟨zs, .inr ⟨_, rfl, hl, hm, by simpa using hz, hcell, hwz⟩⟩
  clear hA0 hval0
  refine (walk a0 len0 cap0 z0 a1 len1 cap1 z1 W w0 w1).mono fun e W' ⟨he, bel⟩ => ?_
  subst he
  exact ⟨_, rfl, _, _, _, [], _, [], hW', trodAll_mk1 (shut_bool Try.underlying4 _), (trodAll_cons_mk (Below.trod laidOut (by kernel_rfl) (of_decide_eq_true (by kernel_rfl)) k0 bel lt0) (trodAll_cons_mk (Below.trod laidOut (by kernel_rfl) (of_decide_eq_true (by kernel_rfl)) k1 bel lt1) trodAll_mk0)), rfl, bel.frame _, fun h => by cases h⟩

theorem over : Rows.fnLblTextRow.holds Try.pinned (OpenSpec.ofChange Rows.fnLblTextSpec) :=
  OpenClaim.holds_of_wide 6 Try.f6 rfl rfl rfl rfl rfl rfl rfl ⟨rfl, rfl, rfl, rfl, rfl⟩ rfl rfl rfl rfl rfl (by kernel_rfl) Try.func6 (by kernel_rfl)
    (of_decide_eq_true (by kernel_rfl)) (by unfold Func.isWrapper; first | (rw [if_pos (by decide +kernel)]; kernel_rfl) | (rw [if_neg (by decide +kernel)]; exact ⟨rfl, rfl⟩))
    (fun os started H enc _ => lifted os started H enc)

end Go.Proofs.Ytjblhjnicoggaaa.fnLblText
namespace Go.Proofs.Ytjblhjnicoggaaa
theorem fnLblText_holds : Rows.FnLblTextSaid := fnLblText.over
#print axioms fnLblText_holds
end Go.Proofs.Ytjblhjnicoggaaa
