/- A message, or none, fills a body of FrmBodyLen bytes, from which it is read: for whatever is drawn. No conditions. -/
import Derived.Test.YtbmjaiojeehifaaDrawMsg
namespace Go.Proofs.Ytbmjaiojeehifaa
open Go.ChangeShapes Go.WideShapes Go.ChangeAt Go.RowKit Go.Joins Go.Deep
set_option linter.unusedVariables false
/-- what is read from a body fills it again -/
theorem sp_fill {xs : List Int} (h : spOk xs = true) : fillL (spL xs) (spR xs) = xs := by
  have e1 : spL xs = spM xs := by simp [spL, h]
  have e2 : spR xs = decide (0 < spN xs) := by simp [spR, h]
  rw [e1, e2]
  simp only [spOk, Bool.and_eq_true, decide_eq_true_eq] at h
  exact h.2.2
theorem fill_sp {xs : List Int} {r : Bool} (h : fillOk xs r = true) : spOk (fillL xs r) = true ∧ spR (fillL xs r) = r ∧ spL (fillL xs r) = xs ∧ (fillL xs r).length = 9 := by
  have h' : xs.length ≤ 8 ∧ (r = true ∨ xs = []) := by simpa [fillOk] using h
  have hf : fillL xs r = (if r then (xs.length : Int) + 1 else 0) :: (xs ++ List.replicate (8 - xs.length) 0) := by simp [fillL, h]
  have hl : (fillL xs r).length = 9 := by rw [hf]; simp; omega
  have hN : spN (fillL xs r) = (if r then (xs.length : Int) + 1 else 0) := by rw [hf]; rfl
  have hM : spM (fillL xs r) = xs := by
    unfold spM; rw [hN, hf]
    rcases h'.2 with rfl | rfl
    · have e : max 1 ((if true = true then (xs.length : Int) + 1 else 0)).toNat = xs.length + 1 := by simp
      rw [e]; simp
    · cases r <;> simp
  have hR : decide (0 < spN (fillL xs r)) = r := by
    rw [hN]; cases r <;> simp <;> omega
  have hO : spOk (fillL xs r) = true := by
    simp only [spOk, Bool.and_eq_true, decide_eq_true_eq]
    refine ⟨hl, ?_, ?_⟩
    · rw [hN]; cases r <;> simp <;> omega
    · rw [hM, hR]
  exact ⟨hO, by simp [spR, hO, hR], by simp [spL, hO, hM], hl⟩
theorem fill_nil {xs : List Int} {r : Bool} (h : fillOk xs r = false) : fillL xs r = [] := by simp [fillL, h]
end Go.Proofs.Ytbmjaiojeehifaa
namespace Go.Proofs.Ytbmjaiojeehifaa.fnFrmBody
open Go.ChangeShapes Go.WideShapes Go.ChangeAt Go.RowKit Go.Joins Go.Deep
set_option linter.unusedVariables false

theorem cap_of {w : World} {a : Option Addr} {len cap : Nat} {zs : List Int} (h : IsRow .u8 w a len cap zs) : len ≤ cap := by
  rcases h with ⟨_, rfl, rfl, _⟩ | ⟨_, _, h1, _⟩
  · exact Nat.le_refl _
  · exact h1

set_option maxHeartbeats 8000000 in
theorem walk (a0 : Option Addr) (len0 cap0 : Nat) (z0 : List Int) (a1 : Option Addr) (len1 cap1 : Nat) (z1 : List Int) (w : World) (k0 : IsRow .u8 w a0 len0 cap0 z0) (k1 : IsRow .u8 w a1 len1 cap1 z1) :
    Calls Try.prog 4 #[.slice a0 len0 cap0, .slice a1 len1 cap1] w fun e w' => e = .returned (.bool true) ∧ Below w.heap.size w w' := by
  have m0 := k0.max
  have m1 := k1.max
  by_cases hl0 : len0 ≤ 1048576
  · by_cases hl1 : len1 ≤ 1048576
    · have hl0' : (len0 : Int) ≤ 1048576 := by omega
      have hl1' : (len1 : Int) ≤ 1048576 := by omega
      obtain ⟨zs, hx0, r0⟩ := k0.rd hl0
      obtain ⟨ys, hy0, r1⟩ := k1.rd hl1
      have hcp := cap_of k0
      have hcp1 := cap_of k1
      have R0 := hid r0
      have R1 := hid r1
      clear k0 k1 r0 r1
      go_enter Try.func4, Try.ntmps4
      go_wp2_with fail
      refine (drawFill_any a0 len0 cap0 zs _ hx0 R0.out hcp).mono ?_
      rintro e w1 ⟨u, r, ms, rfl, hms, ou, b1⟩
      have RU := hid (ou.rd (by omega))
      have B1 := hid b1
      clear ou b1 R0
      go_wp2_with fail
      refine (frmFill_any _ ms r _ RU.out).mono ?_
      rintro e w2 ⟨v2, rfl, o2, b2⟩
      have HL := hid (fillL_len ms r)
      have RB := hid (o2.rd (by have := HL.out; omega))
      obtain ⟨a2, c2, rfl, hc2⟩ := own_cap' o2
      have RU := hid (RU.out.keep b2)
      have B2 := hid (B1.out.trans (b2.mono B1.out.size))
      clear o2 b2 B1
      go_wp2_with fail
      refine (drawSpill_any a1 len1 cap1 ys _ hy0 (R1.out.keep B2.out) hcp1).mono ?_
      rintro e w3 ⟨c3, cs, rfl, hcs, o3, b3⟩
      have RC := hid (o3.rd (by omega))
      obtain ⟨a3, c3, rfl, hc3⟩ := own_cap' o3
      have RU := hid (RU.out.keep b3)
      have RB := hid (RB.out.keep b3)
      have B3 := hid (B2.out.trans (b3.mono B2.out.size))
      clear o3 b3 B2 R1
      obtain ⟨L, hL⟩ : ∃ L, spL cs = L := ⟨_, rfl⟩
      obtain ⟨RR, hRR⟩ : ∃ RR, spR cs = RR := ⟨_, rfl⟩
      obtain ⟨OK, hOK⟩ : ∃ OK, spOk cs = OK := ⟨_, rfl⟩
      have HE := hid (And.intro hL (And.intro hRR hOK))
      have HF : Hid (OK = true → fillL L RR = cs) := by
        intro h; rw [← hL, ← hRR]; exact sp_fill (hOK.trans h)
      have NL : L.length ≤ 2000000 := by rw [← hL]; unfold spL spM; split <;> simp <;> omega
      clear hL hRR hOK
      go_wp2_with fail
      refine (frmSpill_any _ _ cs _ RC.out hc3).mono ?_
      rintro e w4 ⟨g4, he, o4, b4⟩
      rw [HE.out.2.1, HE.out.2.2] at he
      rw [HE.out.1] at o4
      subst he
      have RG := hid (o4.rd NL)
      have RU := hid (RU.out.keep b4)
      have RB := hid (RB.out.keep b4)
      have RC := hid (RC.out.keep b4)
      have B4 := hid (B3.out.trans (b4.mono B3.out.size))
      clear o4 b4 B3
      go_wp2_with fail
      refine (specSpill_any _ _ cs _ RC.out hc3).mono ?_
      rintro e w5 ⟨g5, he, o5, b5⟩
      rw [HE.out.2.1, HE.out.2.2] at he
      rw [HE.out.1] at o5
      subst he
      have RW := hid (o5.rd NL)
      have RU := hid (RU.out.keep b5)
      have RB := hid (RB.out.keep b5)
      have RC := hid (RC.out.keep b5)
      have RG := hid (RG.out.keep b5)
      have B5 := hid (B4.out.trans (b5.mono B4.out.size))
      clear o5 b5 B4 HE
      go_wp2_with fail
      refine (specFill_any _ ms r _ RU.out).mono ?_
      rintro e w6 ⟨v6, rfl, o6, b6⟩
      have R6 := hid (o6.rd (by have := HL.out; omega))
      have RU := hid (RU.out.keep b6)
      have RB := hid (RB.out.keep b6)
      have RC := hid (RC.out.keep b6)
      have RG := hid (RG.out.keep b6)
      have RW := hid (RW.out.keep b6)
      have B6 := hid (B5.out.trans (b6.mono B5.out.size))
      clear o6 b6 B5
      go_wp2_with fail
      refine (caBytes_any _ _ (fillL ms r) (fillL ms r) _ RB.out R6.out).mono ?_
      rintro e w7 ⟨rfl, rfl⟩
      go_wp2_with fail
      refine (caBytes_any _ _ L L _ RG.out RW.out).mono ?_
      rintro e w7 ⟨rfl, rfl⟩
      cases OK
      · have W7 : w7 = w7 := rfl
        cases hk : fillOk ms r
        · have hn := fill_nil hk
          rw [hn] at RB hc2
          have RB := hid RB.out
          rw [hn]
          have h91 : (fillL [1] true).length = 9 := rfl
          have H91 := hid h91
          have R1' := hid (own_one w7 1 (by omega) (by omega))
          clear h91 hk hn HF HL RB R6
          go_wp2_with fail
          refine (frmFill_any _ [1] true _ (R1'.out.rd (by simp))).mono ?_
          rintro e w9 ⟨v9, rfl, o9, b9⟩
          obtain ⟨a9, c9, rfl, _⟩ := own_cap' o9
          rw [H91.out]
          have B9 := hid ((B6.out.alloc B6.out.size (.cells #[.int .u8 1] 5)).trans (b9.mono (by have := B6.out.size; simp; omega)))
          clear o9 b9 B6
          go_wp2
          go_ret
          exact ⟨rfl, B9.out⟩
        · have hy := fill_sp hk
          have HY := hid hy
          have h9 := hy.2.2.2
          obtain ⟨F, hF⟩ : ∃ F, fillL ms r = F := ⟨_, rfl⟩
          rw [hF] at RB hc2 HY h9 ⊢
          have RB := hid RB.out
          clear hy hk HF HL R6 hF
          rw [h9]
          have hsp := frmSpill_any a2 c2 F w7 RB.out hc2
          rw [h9] at hsp
          have HSP := hid hsp
          clear hsp
          go_wp2_with fail
          refine HSP.out.mono ?_
          rintro e w9 ⟨v9, he, o9, b9⟩
          rw [HY.out.1, HY.out.2.1] at he
          rw [HY.out.2.2.1] at o9
          subst he
          have R9 := hid (o9.rd (by omega))
          have RU := hid (RU.out.keep b9)
          have B9 := hid (B6.out.trans (b9.mono B6.out.size))
          clear o9 b9 B6 HSP RB
          go_wp2_with fail
          refine (caBytes_any _ _ ms ms _ R9.out RU.out).mono ?_
          rintro e w10 ⟨rfl, rfl⟩
          go_wp2
          go_ret
          exact ⟨rfl, B9.out⟩
      · have hf := HF.out rfl
        go_wp2_with fail
        refine (frmFill_any _ L RR _ RG.out).mono ?_
        rintro e w8 ⟨v8, rfl, o8, b8⟩
        rw [hf] at o8
        have R8 := hid (o8.rd (by omega))
        have RU := hid (RU.out.keep b8)
        have RB := hid (RB.out.keep b8)
        have R6 := hid (R6.out.keep b8)
        have RC := hid (RC.out.keep b8)
        have B8 := hid (B6.out.trans (b8.mono B6.out.size))
        clear o8 b8 B6 hf
        go_wp2_with fail
        refine (caBytes_any _ _ cs cs _ R8.out RC.out).mono ?_
        rintro e w9 ⟨rfl, rfl⟩
        cases hk : fillOk ms r
        · have hn := fill_nil hk
          rw [hn] at RB hc2
          have RB := hid RB.out
          rw [hn]
          have h91 : (fillL [1] true).length = 9 := rfl
          have H91 := hid h91
          have R1' := hid (own_one w9 1 (by omega) (by omega))
          clear h91 hk hn HF HL RB R6
          go_wp2_with fail
          refine (frmFill_any _ [1] true _ (R1'.out.rd (by simp))).mono ?_
          rintro e w9 ⟨v9, rfl, o9, b9⟩
          obtain ⟨a9, c9, rfl, _⟩ := own_cap' o9
          rw [H91.out]
          have B9 := hid ((B8.out.alloc B8.out.size (.cells #[.int .u8 1] 5)).trans (b9.mono (by have := B8.out.size; simp; omega)))
          clear o9 b9 B8
          go_wp2
          go_ret
          exact ⟨rfl, B9.out⟩
        · have hy := fill_sp hk
          have HY := hid hy
          have h9 := hy.2.2.2
          obtain ⟨F, hF⟩ : ∃ F, fillL ms r = F := ⟨_, rfl⟩
          rw [hF] at RB hc2 HY h9 ⊢
          have RB := hid RB.out
          clear hy hk HF HL R6 hF
          rw [h9]
          have hsp := frmSpill_any a2 c2 F w9 RB.out hc2
          rw [h9] at hsp
          have HSP := hid hsp
          clear hsp
          go_wp2_with fail
          refine HSP.out.mono ?_
          rintro e w9 ⟨v9, he, o9, b9⟩
          rw [HY.out.1, HY.out.2.1] at he
          rw [HY.out.2.2.1] at o9
          subst he
          have R9 := hid (o9.rd (by omega))
          have RU := hid (RU.out.keep b9)
          have B9 := hid (B8.out.trans (b9.mono B8.out.size))
          clear o9 b9 B8 HSP RB
          go_wp2_with fail
          refine (caBytes_any _ _ ms ms _ R9.out RU.out).mono ?_
          rintro e w10 ⟨rfl, rfl⟩
          go_wp2
          go_ret
          exact ⟨rfl, B9.out⟩
    · have hl1' : (1048576 : Int) < (len1 : Int) := by omega
      have hl0' : (len0 : Int) ≤ 1048576 := by omega
      clear k0 k1
      go_enter Try.func4, Try.ntmps4
      go_wp2
      go_ret
      exact ⟨rfl, Below.refl _ _⟩
  · have hl0' : (1048576 : Int) < (len0 : Int) := by omega
    clear k0 k1
    go_enter Try.func4, Try.ntmps4
    go_wp2
    go_ret
    exact ⟨rfl, Below.refl _ _⟩
theorem own : ownKnob Try.prog.godebug = none := by kernel_rfl
theorem laidOut : laidOutB Try.prog = true := by kernel_rfl
set_option maxRecDepth 100000 in
theorem lifted (os : Os) (started : os.Started) (H : Type) (enc : TypeId × Value → H) :
    ReturnsInHanded {} Try.checked os 4 .any (Rows.fnFrmBodySpec.pre6 enc Try.prog Try.f4 Rows.fnFrmBodyRow.domain false) (Rows.fnFrmBodySpec.post enc Try.prog Try.f4 false true false false) := by
  refine returnsInHanded_of_change (C := Try.checked) own started (by kernel_rfl) Try.func4
    (ChangeSpec.witness6 (enc := enc) (C := Try.checked) false ⟨#[], #[.slice none 0 0, .slice none 0 0], []⟩ 8 (by kernel_rfl) (by kernel_rfl) (by kernel_rfl) (by kernel_rfl)) ?_
  intro W base args ds gs before hval0 hW hcnd _
  have hval : ∀ (j : Nat) t v, Try.f4.params[j]? = some t → args[j]? = some v → Value.okWide Try.prog W .any base t v := hval0
  have hW' := hW
  obtain ⟨p, q, hA0, hV, rfl, hfz, hnd⟩ := hW
  have hA : DataW.TrodAll enc Try.prog W 0 (fun _ => true) true Try.f4.params.toList args.toList ds p := hA0
  rw [Try.params4] at hA hval
  obtain ⟨v0, vs0, d0, ds0, p0, q0, hargs, rfl, rfl, h0, r0⟩ := trodAll_cons hA
  obtain ⟨v1, vs1, d1, ds1, p1, q1, rfl, rfl, rfl, h1, r1⟩ := trodAll_cons r0
  obtain ⟨rfl, rfl, rfl⟩ := trodAll_nil r1
  obtain rfl : args = #[v0, v1] := by cases args; simp_all
  obtain ⟨rfl, rfl⟩ := trodVars_none hV
  obtain ⟨a0, len0, cap0, rfl⟩ := okWide_slice Try.underlying22 (hval 0 22 v0 rfl rfl)
  have k0 := h0
  have lt0 : ∀ x ∈ p0, x.block < W.heap.size := by obtain ⟨m, hm⟩ := k0; exact DataW.trod_lt m _ _ _ hm
  obtain ⟨z0, w0⟩ : ∃ zs, IsRow .u8 W a0 len0 cap0 zs := by
    obtain ⟨fuel, hf⟩ := h0
    rcases open_ints Try.underlying22 Try.underlying5 (by kernel_rfl) hf with ⟨hcs, _⟩ | ⟨x, l, c, zs, hcs, _, hl, hm, hz, _, hcell, hwz⟩
    · simp [Value.cells] at hcs
      obtain ⟨rfl, rfl, rfl⟩ := hcs
      exact ⟨[], .inl ⟨rfl, rfl, rfl, rfl⟩⟩
    · simp [Value.cells] at hcs
      obtain ⟨rfl, rfl, rfl⟩ := hcs
      exact ⟨zs, .inr ⟨_, rfl, hl, hm, by simpa using hz, hcell, hwz⟩⟩
  obtain ⟨a1, len1, cap1, rfl⟩ := okWide_slice Try.underlying22 (hval 1 22 v1 rfl rfl)
  have k1 := h1
  have lt1 : ∀ x ∈ p1, x.block < W.heap.size := by obtain ⟨m, hm⟩ := k1; exact DataW.trod_lt m _ _ _ hm
  obtain ⟨z1, w1⟩ : ∃ zs, IsRow .u8 W a1 len1 cap1 zs := by
    obtain ⟨fuel, hf⟩ := h1
    rcases open_ints Try.underlying22 Try.underlying5 (by kernel_rfl) hf with ⟨hcs, _⟩ | ⟨x, l, c, zs, hcs, _, hl, hm, hz, _, hcell, hwz⟩
    · simp [Value.cells] at hcs
      obtain ⟨rfl, rfl, rfl⟩ := hcs
      exact ⟨[], .inl ⟨rfl, rfl, rfl, rfl⟩⟩
    · simp [Value.cells] at hcs
      obtain ⟨rfl, rfl, rfl⟩ := hcs
      exact ⟨zs, .inr ⟨_, rfl, hl, hm, by simpa using hz, hcell, hwz⟩⟩
  clear hA0 hval0
  refine (walk a0 len0 cap0 z0 a1 len1 cap1 z1 W w0 w1).mono fun e W' ⟨he, bel⟩ => ?_
  subst he
  exact ⟨_, rfl, _, _, _, [], _, [], hW', trodAll_mk1 (shut_bool Try.underlying4 _), (trodAll_cons_mk (Below.trod laidOut (by kernel_rfl) (of_decide_eq_true (by kernel_rfl)) k0 bel lt0) (trodAll_cons_mk (Below.trod laidOut (by kernel_rfl) (of_decide_eq_true (by kernel_rfl)) k1 bel lt1) trodAll_mk0)), rfl, bel.frame _, fun h => by cases h⟩

theorem over : Rows.fnFrmBodyRow.holds Try.pinned (OpenSpec.ofChange Rows.fnFrmBodySpec) :=
  OpenClaim.holds_of_wide 4 Try.f4 rfl rfl rfl rfl rfl rfl rfl ⟨rfl, rfl, rfl, rfl, rfl⟩ rfl rfl rfl rfl rfl (by kernel_rfl) Try.func4 (by kernel_rfl)
    (of_decide_eq_true (by kernel_rfl)) (by unfold Func.isWrapper; first | (rw [if_pos (by decide +kernel)]; kernel_rfl) | (rw [if_neg (by decide +kernel)]; exact ⟨rfl, rfl⟩))
    (fun os started H enc _ => lifted os started H enc)

end Go.Proofs.Ytbmjaiojeehifaa.fnFrmBody
namespace Go.Proofs.Ytbmjaiojeehifaa
theorem fnFrmBody_holds : Rows.FnFrmBodySaid := fnFrmBody.over
#print axioms fnFrmBody_holds
end Go.Proofs.Ytbmjaiojeehifaa
