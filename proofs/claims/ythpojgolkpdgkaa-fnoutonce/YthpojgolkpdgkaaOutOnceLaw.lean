/- No number is given away twice: the numbers of a drawn half, given away one behind the other, rise, and are as many as there are left. No conditions. -/
import Derived.Test.YthpojgolkpdgkaaDrawOut
import Derived.Test.YthpojgolkpdgkaaOutNextC
import Derived.Deep.LoopGhost
namespace Go.Proofs.Ythpojgolkpdgkaa.fnOutOnce
open Go.ChangeShapes Go.WideShapes Go.ChangeAt Go.RowKit Go.Joins Go.Deep
set_option linter.unusedVariables false
set_option linter.unusedSimpArgs false
set_option maxRecDepth 4000
theorem cap_ofO {w : World} {a : Option Addr} {len cap : Nat} {zs : List Int} (h : IsRow .u8 w a len cap zs) : len ≤ cap := by
  rcases h with ⟨_, rfl, rfl, _⟩ | ⟨_, _, h1, _⟩
  · exact Nat.le_refl _
  · exact h1
theorem maxO {w : World} {a : Option Addr} {len cap : Nat} {zs : List Int} (h : IsRow .u8 w a len cap zs) : (len : Int) ≤ 9223372036854775807 := by
  rcases h with ⟨_, h, _⟩ | ⟨_, _, h, h', _⟩
  · omega
  · unfold maxLen at h'; omega
theorem next_go (b p e s : Int) (h : outB b p e s = true) (he : ¬ e = 200) : ∃ e1 s1 : Int, outB b p e1 s1 = true ∧ (200 - e1) * 16 - s1 = (200 - e) * 16 - s - 1 ∧ e * 100 + s < e1 * 100 + s1 ∧
    ∀ w, Calls Try.prog 18 #[.agg #[.int .i64 b, .int .i64 p, .int .i64 e, .int .i64 s]] w fun x w' => x = .returned (Value.tuple #[.agg #[.int .i64 b, .int .i64 p, .int .i64 e1, .int .i64 s1], .int .i64 e, .int .i64 s, .bool true]) ∧ Below w.heap.size w w' := by
  have hb := outB_at h
  have hn : nxB b p e s = true := by simp [nxB, h, he]
  have H := outNext_any b p e s
  rw [hn] at H
  simp only [sel, pk, if_true] at H
  refine ⟨nE e s, nS e s, ?_, ?_, ?_, H⟩
  · unfold nE nS
    simp only [he, if_false]
    split
    · rw [wrap_in (by omega) (by omega)]; simp only [outB, inB]; simp; omega
    · rw [wrap_in (by omega) (by omega)]; simp only [outB, inB]; simp; omega
  · unfold nE nS
    simp only [he, if_false]
    split
    · rw [wrap_in (by omega) (by omega)]; omega
    · rw [wrap_in (by omega) (by omega)]; omega
  · unfold nE nS
    simp only [he, if_false]
    split
    · rw [wrap_in (by omega) (by omega)]; omega
    · rw [wrap_in (by omega) (by omega)]; omega
theorem next_stop (b p s : Int) (w : World) : Calls Try.prog 18 #[.agg #[.int .i64 b, .int .i64 p, .int .i64 200, .int .i64 s]] w fun x w' => x = .returned (Value.tuple #[.agg #[.int .i64 b, .int .i64 p, .int .i64 200, .int .i64 s], .int .i64 0, .int .i64 0, .bool false]) ∧ Below w.heap.size w w' := by
  have hn : nxB b p 200 s = false := by simp [nxB]
  have H := outNext_any b p 200 s w
  rw [hn] at H
  simpa only [sel, pk, if_false, Bool.false_eq_true] using H
set_option maxHeartbeats 8000000 in
theorem walk (a0 : Option Addr) (len0 cap0 : Nat) (z0 : List Int) (w : World) (k0 : IsRow .u8 w a0 len0 cap0 z0) :
    Calls Try.prog 3 #[.slice a0 len0 cap0] w fun e w' => e = .returned (.bool true) ∧ Below w.heap.size w w' := by
  have m0 := maxO k0
  by_cases hl0 : len0 ≤ 1048576
  · have hl0' : (len0 : Int) ≤ 1048576 := by omega
    have d0 : decide ((1048576 : Int) < (len0 : Int)) = false := by simp; omega
    obtain ⟨xs0, hx0, r0⟩ := k0.rd hl0
    have hc0 := cap_ofO k0
    clear k0
    go_enter Try.func3, Try.ntmps3
    go_wp2_with fail
    refine (drawOutNext_any a0 len0 cap0 xs0 w hx0 r0 hc0).mono ?_
    rintro x w1 ⟨b, p, e, s, rfl, hb1⟩
    have A3 : Hid (IB (w1.alloc (.cells #[.int .i64 b, .int .i64 p, .int .i64 e, .int .i64 s] 24)) w1.heap.size [b, p, e, s]) := hid (ib_new w1 [b, p, e, s] 24)
    have B1 := hid (hb1.alloc hb1.size (.cells #[.int .i64 b, .int .i64 p, .int .i64 e, .int .i64 s] 24))
    have Z3 := hid hb1.size
    obtain ⟨B3, hB3⟩ : ∃ B3, w1.heap.size = B3 := ⟨_, rfl⟩
    rw [hB3] at A3 Z3
    clear r0 hb1 hc0 hx0
    have HF := hid (outNext_any b p e s)
    have HS := hid (specOutNext_any b p e s)
    obtain ⟨K2, K3, U, V, c, hK⟩ : ∃ (K2 K3 U V : Int) (c : Bool), (Value.tuple #[.agg #[.int .i64 b, .int .i64 p, .int .i64 K2, .int .i64 K3], .int .i64 U, .int .i64 V, .bool c]) = (Value.tuple #[.agg #[.int .i64 b, .int .i64 p, .int .i64 (sel (nxB b p e s) (nE e s) e), .int .i64 (sel (nxB b p e s) (nS e s) s)], .int .i64 (pk (nxB b p e s) e), .int .i64 (pk (nxB b p e s) s), .bool (nxB b p e s)]) ∧ c = nxB b p e s := ⟨_, _, _, _, _, rfl, rfl⟩
    rw [← hK.1] at HF HS
    have HC := hid hK.2
    clear hK
    obtain ⟨c0, c1, c2, c3⟩ := ib4 A3.out
    go_wp2_with fail
    try rw [hB3]
    clear hB3
    refine (HF.out _).mono ?_
    rintro x w2 ⟨rfl, hb2⟩
    clear c0 c1 c2 c3
    have A3 := hid ((A3.out.keep hb2).keep (below_alloc1 w2 (.cells #[.int .i64 b, .int .i64 p, .int .i64 K2, .int .i64 K3] 24)))
    have A4 : Hid (IB (w2.alloc (.cells #[.int .i64 b, .int .i64 p, .int .i64 K2, .int .i64 K3] 24)) w2.heap.size [b, p, K2, K3]) := hid (ib_new w2 [b, p, K2, K3] 24)
    have B2 := hid ((B1.out.trans (hb2.mono B1.out.size)).alloc (B1.out.trans (hb2.mono B1.out.size)).size (.cells #[.int .i64 b, .int .i64 p, .int .i64 K2, .int .i64 K3] 24))
    obtain ⟨B4, hB4⟩ : ∃ B4, w2.heap.size = B4 := ⟨_, rfl⟩
    rw [hB4] at A4
    clear hb2 B1
    obtain ⟨c0, c1, c2, c3⟩ := ib4 A3.out
    go_wp2_with fail
    try rw [hB4]
    clear hB4
    refine (HS.out _).mono ?_
    rintro x w3 ⟨rfl, hb3⟩
    clear c0 c1 c2 c3
    have A3 := hid ((A3.out.keep hb3).keep (below_alloc1 w3 (.cells #[.int .i64 b, .int .i64 p, .int .i64 K2, .int .i64 K3] 24)))
    have A4 := hid ((A4.out.keep hb3).keep (below_alloc1 w3 (.cells #[.int .i64 b, .int .i64 p, .int .i64 K2, .int .i64 K3] 24)))
    have A8 : Hid (IB (w3.alloc (.cells #[.int .i64 b, .int .i64 p, .int .i64 K2, .int .i64 K3] 24)) w3.heap.size [b, p, K2, K3]) := hid (ib_new w3 [b, p, K2, K3] 24)
    have B3' := hid ((B2.out.trans (hb3.mono B2.out.size)).alloc (B2.out.trans (hb3.mono B2.out.size)).size (.cells #[.int .i64 b, .int .i64 p, .int .i64 K2, .int .i64 K3] 24))
    clear hb3 B2
    obtain ⟨c0, c1, c2, c3⟩ := ib4 A3.out
    obtain ⟨e0, e1, e2, e3⟩ := ib4 A4.out
    have hc : (c != c) = false := by simp
    go_wp2_with fail
    refine (specOutOk_any b p e s _).mono ?_
    rintro x w4 ⟨rfl, hb4⟩
    clear c0 c1 c2 c3 e0 e1 e2 e3 hc A4 A8 HF HS
    have A3 := hid (A3.out.keep hb4)
    have B4' := hid (B3'.out.trans (hb4.mono B3'.out.size))
    clear hb4 B3'
    cases hok : outB b p e s
    · have hcf : c = false := by rw [HC.out]; simp [nxB, hok]
      subst hcf
      have HK1 := hid (outOk_any 1 0 0 0)
      rw [show outB 1 0 0 0 = true from by decide] at HK1
      clear HC
      go_wp2_with fail
      refine (HK1.out _).mono ?_
      rintro x w5 ⟨rfl, hb5⟩
      have BB := hid (B4'.out.trans (hb5.mono B4'.out.size))
      clear hb5
      go_wp2
      go_ret
      exact ⟨rfl, BB.out⟩
    · have hbd := outB_at hok
      have HOK := hid hok
      obtain ⟨F, hF⟩ : ∃ F, (200 - e) * 16 - s = F := ⟨_, rfl⟩
      have q1 : IntKind.i64.wrap (200 - e) = 200 - e := by rw [IntKind.wrap_i64]; omega
      have q2 : IntKind.i64.wrap ((200 - e) * 16) = (200 - e) * 16 := by rw [IntKind.wrap_i64]; omega
      have q3 : IntKind.i64.wrap ((200 - e) * 16 - s) = F := by rw [IntKind.wrap_i64]; omega
      have HFB : Hid (-15 ≤ F ∧ F ≤ 3200) := hid (by omega)
      have HFI : Hid ((e < 200 ∧ (200 - e) * 16 - s = F - (0 : Nat)) ∨ (e = 200 ∧ F ≤ (0 : Nat))) := hid (by omega)
      have HLS : Hid (-1 < e * 100 + s) := hid (by omega)
      obtain ⟨c0, c1, c2, c3⟩ := ib4 A3.out
      clear hok hbd hF HC
      go_wp2_with fail
      clear q1 q2 q3 c0 c1 c2 c3
      go_loopw [13, 14, 15, 16, 17, 18] (fun la i v15 v16 v17 v18 wr => ∃ (n : Nat) (e' s' l : Int), n ≤ 40 ∧ i = .int .i64 (n : Int) ∧ la = .int .i64 l ∧ outB b p e' s' = true ∧ ((e' < 200 ∧ (200 - e') * 16 - s' = F - n) ∨ (e' = 200 ∧ F ≤ n)) ∧ l < e' * 100 + s' ∧ IB wr B3 [b, p, e', s'] ∧ Below w.heap.size w wr) (fun _ i _ _ _ _ _ => 40 - (intOf i).toNat)
      case atStart => exact ⟨0, e, s, -1, by omega, rfl, rfl, HOK.out, HFI.out, HLS.out, A3.out, B4'.out⟩
      case round =>
        obtain ⟨n, e', s', l, hn, rfl, rfl, ho, hinv, hl, hib, hB⟩ := hrel
        have A := hid hib
        have BW := hid hB
        have HO := hid ho
        have HL := hid hl
        have HI := hid hinv
        have ob := outB_at ho
        clear hib hB ho hl hinv
        by_cases hlt : n < 40
        · have dn : decide ((n : Int) < 40) = true := by simp; omega
          by_cases he : e' = 200
          · subst he
            have df : decide ((n : Int) < F) = false := by have := HI.out; simp; omega
            obtain ⟨c0, c1, c2, c3⟩ := ib4 A.out
            go_wp2_with fail
            refine (next_stop b p s' _).mono ?_
            rintro x w5 ⟨rfl, hb5⟩
            clear c0 c1 c2 c3
            have A := hid ((A.out.keep hb5).keep (below_alloc1 w5 (.cells #[.int .i64 b, .int .i64 p, .int .i64 200, .int .i64 s'] 24)))
            have A15 : Hid (IB (w5.alloc (.cells #[.int .i64 b, .int .i64 p, .int .i64 200, .int .i64 s'] 24)) w5.heap.size [b, p, 200, s']) := hid (ib_new w5 [b, p, 200, s'] 24)
            have BW := hid ((BW.out.trans (hb5.mono BW.out.size)).alloc (BW.out.trans (hb5.mono BW.out.size)).size (.cells #[.int .i64 b, .int .i64 p, .int .i64 200, .int .i64 s'] 24))
            have A' := hid (ibset4 b p 200 s' A.out)
            have BW' := hid ((((BW.out.setCell (p := ⟨B3, 0, none⟩) Z3.out (.int .i64 b)).setCell (p := ⟨B3, 1, none⟩) Z3.out (.int .i64 p)).setCell (p := ⟨B3, 2, none⟩) Z3.out (.int .i64 200)).setCell (p := ⟨B3, 3, none⟩) Z3.out (.int .i64 s'))
            obtain ⟨c0, c1, c2, c3⟩ := ib4 A.out
            obtain ⟨g0, g1, g2, g3⟩ := ib4 A15.out
            have ff := A.out.2.1
            clear hb5
            go_wp2_with fail
            go_roundw
            case rel => exact ⟨n + 1, 200, s', l, by omega, by go_num, rfl, HO.out, Or.inr ⟨rfl, by have := HI.out; omega⟩, HL.out, A'.out, BW'.out⟩
            case measure => simp [intOf]; omega
          · obtain ⟨e1, s1, o1, D1, L1, H1⟩ := next_go b p e' s' HO.out he
            have df : decide ((n : Int) < F) = true := by have := HI.out; simp; omega
            have HO1 := hid o1
            have HD1 := hid D1
            have HL1 := hid L1
            have HH := hid H1
            have q1 : IntKind.i64.wrap (e' * 100) = e' * 100 := by rw [IntKind.wrap_i64]; omega
            have q2 : IntKind.i64.wrap (e' * 100 + s') = e' * 100 + s' := by rw [IntKind.wrap_i64]; omega
            have dl : decide (e' * 100 + s' ≤ l) = false := by have := HL.out; simp; omega
            clear o1 D1 L1 H1
            obtain ⟨c0, c1, c2, c3⟩ := ib4 A.out
            go_wp2_with fail
            refine (HH.out _).mono ?_
            rintro x w5 ⟨rfl, hb5⟩
            clear c0 c1 c2 c3
            have A := hid ((A.out.keep hb5).keep (below_alloc1 w5 (.cells #[.int .i64 b, .int .i64 p, .int .i64 e1, .int .i64 s1] 24)))
            have A15 : Hid (IB (w5.alloc (.cells #[.int .i64 b, .int .i64 p, .int .i64 e1, .int .i64 s1] 24)) w5.heap.size [b, p, e1, s1]) := hid (ib_new w5 [b, p, e1, s1] 24)
            have BW := hid ((BW.out.trans (hb5.mono BW.out.size)).alloc (BW.out.trans (hb5.mono BW.out.size)).size (.cells #[.int .i64 b, .int .i64 p, .int .i64 e1, .int .i64 s1] 24))
            have A' := hid (ibset4 b p e1 s1 A.out)
            have BW' := hid ((((BW.out.setCell (p := ⟨B3, 0, none⟩) Z3.out (.int .i64 b)).setCell (p := ⟨B3, 1, none⟩) Z3.out (.int .i64 p)).setCell (p := ⟨B3, 2, none⟩) Z3.out (.int .i64 e1)).setCell (p := ⟨B3, 3, none⟩) Z3.out (.int .i64 s1))
            obtain ⟨c0, c1, c2, c3⟩ := ib4 A.out
            obtain ⟨g0, g1, g2, g3⟩ := ib4 A15.out
            have ff := A.out.2.1
            clear hb5 HH
            go_wp2_with fail
            go_roundw
            case rel => exact ⟨n + 1, e1, s1, e' * 100 + s', by omega, by go_num, rfl, HO1.out, by have := HI.out; have := HD1.out; have := outB_at HO1.out; omega, HL1.out, A'.out, BW'.out⟩
            case measure => simp [intOf]; omega
        · have dn : decide ((n : Int) < 40) = false := by simp; omega
          have HK := hid (outOk_any b p e' s')
          rw [HO.out] at HK
          obtain ⟨c0, c1, c2, c3⟩ := ib4 A.out
          go_wp2_with fail
          refine (HK.out _).mono ?_
          rintro x w5 ⟨rfl, hb5⟩
          have BB := hid (BW.out.trans (hb5.mono BW.out.size))
          clear hb5
          go_wp2
          go_ret
          exact ⟨rfl, BB.out⟩
  · have hl0' : (1048576 : Int) < (len0 : Int) := by omega
    have d0 : decide ((1048576 : Int) < (len0 : Int)) = true := by simp; omega
    clear k0
    go_enter Try.func3, Try.ntmps3
    go_wp2
    go_ret
    exact ⟨rfl, Below.refl _ _⟩
theorem own : ownKnob Try.prog.godebug = none := by kernel_rfl
theorem laidOut : laidOutB Try.prog = true := by kernel_rfl
set_option maxRecDepth 100000 in
theorem lifted (os : Os) (started : os.Started) (H : Type) (enc : TypeId × Value → H) :
    ReturnsInHanded {} Try.checked os 3 .any (Rows.fnOutOnceSpec.pre6 enc Try.prog Try.f3 Rows.fnOutOnceRow.domain false) (Rows.fnOutOnceSpec.post enc Try.prog Try.f3 false true false false) := by
  refine returnsInHanded_of_change (C := Try.checked) own started (by kernel_rfl) Try.func3
    (ChangeSpec.witness6 (enc := enc) (C := Try.checked) false ⟨#[], #[.slice none 0 0], []⟩ 8 (by kernel_rfl) (by kernel_rfl) (by kernel_rfl) (by kernel_rfl)) ?_
  intro W base args ds gs before hval0 hW hcnd _
  have hval : ∀ (j : Nat) t v, Try.f3.params[j]? = some t → args[j]? = some v → Value.okWide Try.prog W .any base t v := hval0
  have hW' := hW
  obtain ⟨p, q, hA0, hV, rfl, hfz, hnd⟩ := hW
  have hA : DataW.TrodAll enc Try.prog W 0 (fun _ => true) true Try.f3.params.toList args.toList ds p := hA0
  rw [Try.params3] at hA hval
  obtain ⟨v0, vs0, d0, ds0, p0, q0, hargs, rfl, rfl, h0, r0⟩ := trodAll_cons hA
  obtain ⟨rfl, rfl, rfl⟩ := trodAll_nil r0
  obtain rfl : args = #[v0] := by cases args; simp_all
  obtain ⟨rfl, rfl⟩ := trodVars_none hV
  obtain ⟨a0, len0, cap0, rfl⟩ := okWide_slice Try.underlying22 (hval 0 22 v0 rfl rfl)
  have k0 := h0
  have lt0 : ∀ x ∈ p0, x.block < W.heap.size := by obtain ⟨m, hm⟩ := k0; exact DataW.trod_lt m _ _ _ hm
  obtain ⟨z0, w0⟩ : ∃ zs, IsRow .u8 W a0 len0 cap0 zs := by
    obtain ⟨fuel, hf⟩ := h0
    rcases open_ints Try.underlying22 Try.underlying5 (by kernel_rfl) hf with ⟨hcs, _⟩ | ⟨x, l, c, zs, hcs, _, hl, hm, hz, _, hcell, hwz⟩
    · simp [Value.cells] at hcs
      obtain ⟨rfl, rfl, rfl⟩ := hcs
      exact ⟨[], .inl ⟨rfl, rfl, rfl, rfl⟩⟩
    · simp [Value.cells] at hcs
      obtain ⟨rfl, rfl, rfl⟩ := hcs
      exact ⟨zs, .inr ⟨_, rfl, hl, hm, by simpa using hz, hcell, hwz⟩⟩
  clear hA0 hval0
  refine (walk a0 len0 cap0 z0 W w0).mono fun e W' ⟨he, bel⟩ => ?_
  subst he
  exact ⟨_, rfl, _, _, _, [], _, [], hW', trodAll_mk1 (shut_bool Try.underlying4 _), (trodAll_cons_mk (Below.trod laidOut (by kernel_rfl) (of_decide_eq_true (by kernel_rfl)) k0 bel lt0) trodAll_mk0), rfl, bel.frame _, fun h => by cases h⟩

theorem over : Rows.fnOutOnceRow.holds Try.pinned (OpenSpec.ofChange Rows.fnOutOnceSpec) :=
  OpenClaim.holds_of_wide 3 Try.f3 rfl rfl rfl rfl rfl rfl rfl ⟨rfl, rfl, rfl, rfl, rfl⟩ rfl rfl rfl rfl rfl (by kernel_rfl) Try.func3 (by kernel_rfl)
    (of_decide_eq_true (by kernel_rfl)) (by unfold Func.isWrapper; first | (rw [if_pos (by decide +kernel)]; kernel_rfl) | (rw [if_neg (by decide +kernel)]; exact ⟨rfl, rfl⟩))
    (fun os started H enc _ => lifted os started H enc)

end Go.Proofs.Ythpojgolkpdgkaa.fnOutOnce
namespace Go.Proofs.Ythpojgolkpdgkaa
theorem fnOutOnce_holds : Rows.FnOutOnceSaid := fnOutOnce.over
#print axioms fnOutOnce_holds
end Go.Proofs.Ythpojgolkpdgkaa
