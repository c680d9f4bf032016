/- No number comes twice: of drawn numbers that are heard one behind the other each that is fresh is behind all that were fresh ahead of it. No conditions. -/
import Derived.Test.YthpojgolkpdgkaaDrawIn
import Derived.Test.YthpojgolkpdgkaaInHearC
import Derived.Test.YthpojgolkpdgkaaRegLw
import Derived.Deep.LoopGhost
namespace Go.Proofs.Ythpojgolkpdgkaa.fnInOnce
open Go.ChangeShapes Go.WideShapes Go.ChangeAt Go.RowKit Go.Joins Go.Deep
set_option linter.unusedVariables false
set_option linter.unusedSimpArgs false
set_option maxRecDepth 4000
theorem cap_ofO {w : World} {a : Option Addr} {len cap : Nat} {zs : List Int} (h : IsRow .u8 w a len cap zs) : len ≤ cap := by
  rcases h with ⟨_, rfl, rfl, _⟩ | ⟨_, _, h1, _⟩
  · exact Nat.le_refl _
  · exact h1
theorem maxO {w : World} {a : Option Addr} {len cap : Nat} {zs : List Int} (h : IsRow .u8 w a len cap zs) : (len : Int) ≤ 9223372036854775807 := by
  rcases h with ⟨_, h, _⟩ | ⟨_, _, h, h', _⟩
  · omega
  · unfold maxLen at h'; omega
theorem rd_byte {w : World} {a : Option Addr} {n cap : Nat} {xs : List Int} (h : Rd w (.slice a n cap) xs) {i : Nat} (hi : i < xs.length) : ∃ b off, a = some ⟨b, off, none⟩ ∧ w.cell? ⟨b, off + i, none⟩ = some (.int .u8 (xs.getD i 0)) ∧ 0 ≤ xs.getD i 0 ∧ xs.getD i 0 ≤ 255 := by
  obtain ⟨h1, h2, a', cap', hv, h3⟩ := h
  simp only [Value.slice.injEq] at hv
  obtain ⟨rfl, _, rfl⟩ := hv
  rcases h3 with h0 | ⟨b, off, rfl, hc⟩
  · simp [h0] at hi
  · have hm : xs.getD i 0 ∈ xs := by rw [List.getD_eq_getElem?_getD, List.getElem?_eq_getElem hi]; exact List.getElem_mem hi
    exact ⟨b, off, rfl, hc i hi, h1 _ hm⟩
theorem hear_go (B E S b e s : Int) (h : inhB B E S = true) (hf : frB B E S b e s = true) (w : World) :
    Calls Try.prog 28 #[.agg #[.int .i64 B, .int .i64 E, .int .i64 S], .int .i64 b, .int .i64 e, .int .i64 s] w fun x w' => x = .returned (.agg #[.int .i64 b, .int .i64 e, .int .i64 (s + 1)]) ∧ Below w.heap.size w w' := by
  have H := inHear_any B E S b e s w
  rw [h, hf] at H
  simpa only [hr, if_true] using H
theorem hear_no (B E S b e s : Int) (h : inhB B E S = true) (hf : frB B E S b e s = false) (w : World) :
    Calls Try.prog 28 #[.agg #[.int .i64 B, .int .i64 E, .int .i64 S], .int .i64 b, .int .i64 e, .int .i64 s] w fun x w' => x = .returned (.agg #[.int .i64 B, .int .i64 E, .int .i64 S]) ∧ Below w.heap.size w w' := by
  have H := inHear_any B E S b e s w
  rw [h, hf] at H
  simpa only [hr, if_true, if_false, Bool.false_eq_true] using H
/-- what is fresh, by one number -/
theorem fresh_num {B E S b e s : Int} (h1 : 0 ≤ B ∧ B ≤ 3) (h2 : 0 ≤ E ∧ E ≤ 3) (h3 : 0 ≤ S ∧ S ≤ 16) (h4 : 1 ≤ b ∧ b ≤ 3) (h5 : 0 ≤ e ∧ e ≤ 3) (h6 : 0 ≤ s ∧ s ≤ 15) :
    inhB B E S = true ∧ frB B E S b e s = decide (B * 10000 + E * 100 + S ≤ b * 10000 + e * 100 + s) := by
  have hi : inhB B E S = true := by simp [inhB, inB]; omega
  have hn : nuB b e s = true := by simp [nuB, inB]; omega
  refine ⟨hi, ?_⟩
  rw [frB, hi, hn, Bool.eq_iff_iff]
  simp only [Bool.true_and, Bool.not_eq_true', decide_eq_true_eq]
  unfold lexB
  split
  · split <;> simp <;> omega
  · simp; omega
set_option maxHeartbeats 8000000 in
theorem walk (a0 : Option Addr) (len0 cap0 : Nat) (z0 : List Int) (a1 : Option Addr) (len1 cap1 : Nat) (z1 : List Int) (w : World) (k0 : IsRow .u8 w a0 len0 cap0 z0) (k1 : IsRow .u8 w a1 len1 cap1 z1) :
    Calls Try.prog 5 #[.slice a0 len0 cap0, .slice a1 len1 cap1] w fun e w' => e = .returned (.bool true) ∧ Below w.heap.size w w' := by
  have m0 := maxO k0
  have m1 := maxO k1
  by_cases hl0 : len0 ≤ 1048576
  · by_cases hl1 : len1 ≤ 300
    · have hl0' : (len0 : Int) ≤ 1048576 := by omega
      have hl1' : (len1 : Int) ≤ 300 := by omega
      have d0 : decide ((1048576 : Int) < (len0 : Int)) = false := by simp; omega
      have d1 : decide ((300 : Int) < (len1 : Int)) = false := by simp; omega
      obtain ⟨xs0, hx0, r0⟩ := k0.rd hl0
      obtain ⟨xs1, hx1, r1⟩ := k1.rd (by omega)
      have hc0 := cap_ofO k0
      have hc1 := cap_ofO k1
      have R1 := hid r1
      clear k0 k1 r1
      go_enter Try.func5, Try.ntmps5
      go_wp2_with fail
      refine (drawInHear_any a0 len0 cap0 xs0 w hx0 r0 hc0).mono ?_
      rintro x w1 ⟨B, E, S, b, e, s, rfl, hb1⟩
      have A5 : Hid (IB (w1.alloc (.cells #[.int .i64 B, .int .i64 E, .int .i64 S] 36)) w1.heap.size [B, E, S]) := hid (ib_new w1 [B, E, S] 36)
      have B1 := hid (hb1.alloc hb1.size (.cells #[.int .i64 B, .int .i64 E, .int .i64 S] 36))
      obtain ⟨B5, hB5⟩ : ∃ B5, w1.heap.size = B5 := ⟨_, rfl⟩
      rw [hB5] at A5
      clear r0 hb1 hc0 hx0
      have HF := hid (inHear_any B E S b e s)
      have HS := hid (specInHear_any B E S b e s)
      have HU := hid (inFresh_any B E S b e s)
      have HV := hid (specFresh_any B E S b e s)
      have HI := hid (specInOk_any B E S)
      obtain ⟨X0, X1, X2, hX⟩ : ∃ X0 X1 X2 : Int, [X0, X1, X2] = [hr (inhB B E S) (frB B E S b e s) b B, hr (inhB B E S) (frB B E S b e s) e E, hr (inhB B E S) (frB B E S b e s) (s + 1) S] := ⟨_, _, _, rfl⟩
      simp only [List.cons.injEq, and_true] at hX
      obtain ⟨hX0, hX1, hX2⟩ := hX
      rw [← hX0, ← hX1, ← hX2] at HF HS
      have HX := hid (And.intro hX0 (And.intro hX1 hX2))
      clear hX0 hX1 hX2
      obtain ⟨fr, hfr⟩ : ∃ fr, frB B E S b e s = fr := ⟨_, rfl⟩
      rw [hfr] at HU HV HX
      clear hfr
      obtain ⟨c0, c1, c2⟩ := ib3 A5.out
      go_wp2_with fail
      try rw [hB5]
      clear hB5
      refine (HF.out _).mono ?_
      rintro x w3 ⟨rfl, hb3⟩
      clear c0 c1 c2
      have A5 := hid ((A5.out.keep hb3).keep (below_alloc1 w3 (.cells #[.int .i64 X0, .int .i64 X1, .int .i64 X2] 36)))
      have A9 : Hid (IB (w3.alloc (.cells #[.int .i64 X0, .int .i64 X1, .int .i64 X2] 36)) w3.heap.size [X0, X1, X2]) := hid (ib_new w3 [X0, X1, X2] 36)
      have Z9 := hid (B1.out.trans (hb3.mono B1.out.size)).size
      have B3 := hid ((B1.out.trans (hb3.mono B1.out.size)).alloc (B1.out.trans (hb3.mono B1.out.size)).size (.cells #[.int .i64 X0, .int .i64 X1, .int .i64 X2] 36))
      clear hb3 B1 HF
      go_upto_region 5 with fail
      obtain ⟨V3, hV3⟩ : ∃ V, w3.alloc (.cells #[.int .i64 X0, .int .i64 X1, .int .i64 X2] 36) = V := ⟨_, rfl⟩
      obtain ⟨B9, hB9⟩ : ∃ B9, w3.heap.size = B9 := ⟨_, rfl⟩
      rw [hV3] at A5 A9 B3 ⊢
      rw [hB9] at A9 Z9
      try rw [hB9]
      clear hV3 hB9
      have hnn : (fr != fr) = false := by simp
      refine region_law [(B5, [B, E, S]), (B9, [X0, X1, X2])] [some (.agg #[.int .i64 X0, .int .i64 X1, .int .i64 X2]), some (.agg #[.int .i64 B, .int .i64 E, .int .i64 S]), some (.int .i64 b), some (.int .i64 e), some (.int .i64 s), some (.agg #[.int .i64 X0, .int .i64 X1, .int .i64 X2]), some (.bool false), some (.bool false), some (.agg #[.int .i64 B, .int .i64 E, .int .i64 S]), some (.int .i64 b), some (.int .i64 e), some (.int .i64 s), some (.bool fr), some (.agg #[.int .i64 B, .int .i64 E, .int .i64 S]), some (.int .i64 b), some (.int .i64 e), some (.int .i64 s), some (.bool fr), some (.bool false), some (.bool false)] (by kernel_rfl) (by kernel_rfl) B3.out (by intro x hx; simp at hx; rcases hx with rfl | rfl; exact A5.out; exact A9.out) ⟨?_, ?_, ?_, ?_, ?_, ?_, ?_, ?_, ?_, ?_, ?_, ?_, ?_, ?_, ?_, ?_, ?_, ?_, ?_, ?_, trivial⟩ ?_
      · exact ob_un (lw_load (fun w hL => ld3_InIn B9 [X0, X1, X2] w (hL (B9, [X0, X1, X2]) (by simp)) rfl) (ov_out rfl rfl) rfl)
      · exact ob_un (lw_load (fun w hL => ld3_InIn B5 [B, E, S] w (hL (B5, [B, E, S]) (by simp)) rfl) (ov_out rfl rfl) rfl)
      · exact ob_un (lw_move rfl (ov_out rfl rfl))
      · exact ob_un (lw_move rfl (ov_out rfl rfl))
      · exact ob_un (lw_move rfl (ov_out rfl rfl))
      · exact ob_un (lw_call (fun xs w => by go_simp) (fun w hL => HS.out w) ⟨(ov_in 1 rfl rfl rfl), (ov_in 2 rfl rfl rfl), (ov_in 3 rfl rfl rfl), (ov_in 4 rfl rfl rfl), trivial⟩ rfl)
      · exact ob_un (lw_bin (fun w => by go_simp) (ov_in 0 rfl rfl rfl) (ov_in 5 rfl rfl rfl) rfl)
      · exact ob_un (lw_move rfl (ov_in 6 rfl rfl rfl))
      · exact lw_on 7 false rfl rfl (lw_load (fun w hL => ld3_InIn B5 [B, E, S] w (hL (B5, [B, E, S]) (by simp)) rfl) (ov_out rfl rfl) rfl)
      · exact lw_on 7 false rfl rfl (lw_move rfl (ov_out rfl rfl))
      · exact lw_on 7 false rfl rfl (lw_move rfl (ov_out rfl rfl))
      · exact lw_on 7 false rfl rfl (lw_move rfl (ov_out rfl rfl))
      · exact lw_on 7 false rfl rfl (lw_call (fun xs w => by go_simp) (fun w hL => HU.out w) ⟨(ov_in 8 rfl rfl rfl), (ov_in 9 rfl rfl rfl), (ov_in 10 rfl rfl rfl), (ov_in 11 rfl rfl rfl), trivial⟩ rfl)
      · exact lw_on 7 false rfl rfl (lw_load (fun w hL => ld3_InIn B5 [B, E, S] w (hL (B5, [B, E, S]) (by simp)) rfl) (ov_out rfl rfl) rfl)
      · exact lw_on 7 false rfl rfl (lw_move rfl (ov_out rfl rfl))
      · exact lw_on 7 false rfl rfl (lw_move rfl (ov_out rfl rfl))
      · exact lw_on 7 false rfl rfl (lw_move rfl (ov_out rfl rfl))
      · exact lw_on 7 false rfl rfl (lw_call (fun xs w => by go_simp) (fun w hL => HV.out w) ⟨(ov_in 13 rfl rfl rfl), (ov_in 14 rfl rfl rfl), (ov_in 15 rfl rfl rfl), (ov_in 16 rfl rfl rfl), trivial⟩ rfl)
      · exact lw_on 7 false rfl rfl (lw_bin (fun w => by go_simp) (ov_in 12 rfl rfl rfl) (ov_in 17 rfl rfl rfl) rfl)
      · exact ob_un (lw_pick false (ov_in 7 rfl rfl rfl) (ov_in 18 rfl rfl rfl) rfl)
      intro u4 w4 B4 hL hF
      obtain ⟨-, -, -, -, -, -, -, -, -, -, -, -, -, -, -, -, -, -, -, f19, -⟩ := hF
      have hn : u4 54 = .bool false := f19 _ rfl
      have A5 := hid (hL (B5, [B, E, S]) (by simp))
      have A9 := hid (hL (B9, [X0, X1, X2]) (by simp))
      have RK := hid B4
      clear hL f19
      simp only [outTmps, List.setIfInBounds_toArray, List.set_cons_zero, List.set_cons_succ, hn]
      obtain ⟨c0, c1, c2⟩ := ib3 A5.out
      go_wp2_with fail
      refine (HI.out _).mono ?_
      rintro x w5 ⟨rfl, hb5⟩
      clear c0 c1 c2 A5 HS HU HV HI hnn hn
      have RW := hid (RK.out.trans (hb5.mono RK.out.size))
      have A9 := hid (A9.out.keep hb5)
      clear hb5 RK B4 B3
      cases hib : inhB B E S
      · rw [hib] at HX
        have e0 : X0 = 0 := by rw [HX.out.1]; rfl
        have e1 : X1 = 0 := by rw [HX.out.2.1]; rfl
        have e2 : X2 = 0 := by rw [HX.out.2.2]; rfl
        subst e0 e1 e2
        have HU := hid (inFresh_any 0 0 0 1 0 0)
        rw [show frB 0 0 0 1 0 0 = true from by decide] at HU
        obtain ⟨c0, c1, c2⟩ := ib3 A9.out
        clear HX hib
        go_wp2_with fail
        refine (HU.out _).mono ?_
        rintro x w6 ⟨rfl, hb6⟩
        have BB := hid (RW.out.trans (hb6.mono RW.out.size))
        clear hb6 c0 c1 c2
        go_wp2
        go_ret
        exact ⟨rfl, BB.out⟩
      · clear hib HX
        obtain ⟨c0, c1, c2⟩ := ib3 A9.out
        have ff := A9.out.2.1
        have A9' := hid (ibset3 0 0 0 A9.out)
        have RW' := hid (setL_below RW.out B9 [0, 0, 0] 0 Z9.out)
        go_wp2_with fail
        go_loopw [10, 11, 12, 13, 14] (fun la i v12 v13 v14 wr => ∃ (k : Nat) (B E S : Int), i = .int .i64 (k : Int) ∧ la = .int .i64 (B * 10000 + E * 100 + S - 1) ∧ (0 ≤ B ∧ B ≤ 3) ∧ (0 ≤ E ∧ E ≤ 3) ∧ (0 ≤ S ∧ S ≤ 16) ∧ k ≤ len1 ∧ IB wr B9 [B, E, S] ∧ Below w.heap.size w wr) (fun _ i _ _ _ _ => len1 - (intOf i).toNat)
        case atStart => exact ⟨0, 0, 0, 0, rfl, rfl, by omega, by omega, by omega, by omega, A9'.out, RW'.out⟩
        case round =>
          clear c0 c1 c2 ff A9 A9' RW RW'
          obtain ⟨k, B, E, S, rfl, rfl, bB, bE, bS, hk, hib, hB⟩ := hrel
          have A := hid hib
          have BW := hid hB
          clear hib hB
          have k2 : (0 : Int) ≤ (k : Int) := by omega
          have q0 : IntKind.i64.wrap ((k : Int) + 1) = (k : Int) + 1 := by rw [IntKind.wrap_i64]; omega
          by_cases hlt : k + 1 < len1
          · have dn : decide ((k : Int) + 1 < (len1 : Int)) = true := by simp; omega
            obtain ⟨bb, off, rfl, cx, x0, x1⟩ := rd_byte (R1.out.keep BW.out) (i := k) (by omega)
            obtain ⟨bb2, off2, hh, cy, y0, y1⟩ := rd_byte (R1.out.keep BW.out) (i := k + 1) (by omega)
            simp only [Option.some.injEq, Addr.mk.injEq, and_true] at hh
            obtain ⟨rfl, rfl⟩ := hh
            have kk1 : (k : Int) < (len1 : Int) := by omega
            have kk2 : (k : Int) + 1 < (len1 : Int) := by omega
            have kk3 : (0 : Int) ≤ (k : Int) + 1 := by omega
            have tn : ((k : Int) + 1).toNat = k + 1 := by omega
            generalize xs1.getD k 0 = X at cx x0 x1
            generalize xs1.getD (k + 1) 0 = Y at cy y0 y1
            go_upto_region 17 with fail
            obtain ⟨b', hb'⟩ : ∃ b', 1 + X % 3 = b' := ⟨_, rfl⟩
            obtain ⟨e', he'⟩ : ∃ e', X / 64 = e' := ⟨_, rfl⟩
            obtain ⟨s', hs'⟩ : ∃ s', Y % 16 = s' := ⟨_, rfl⟩
            have b1 : 1 ≤ b' ∧ b' ≤ 3 := by omega
            have b2 : 0 ≤ e' ∧ e' ≤ 3 := by omega
            have b3 : 0 ≤ s' ∧ s' ≤ 15 := by omega
            rw [hb', he', hs']
            clear hb' he' hs' cx cy x0 x1 y0 y1 kk1 kk2 kk3 tn
            obtain ⟨hi, hfr⟩ := fresh_num bB bE bS b1 b2 b3
            have HU := hid (inFresh_any B E S b' e' s')
            rw [hfr] at HU
            have q1 : IntKind.i64.wrap (b' * 10000) = b' * 10000 := by rw [IntKind.wrap_i64]; omega
            have q2 : IntKind.i64.wrap (e' * 100) = e' * 100 := by rw [IntKind.wrap_i64]; omega
            have q3 : IntKind.i64.wrap (b' * 10000 + e' * 100) = b' * 10000 + e' * 100 := by rw [IntKind.wrap_i64]; omega
            have q4 : IntKind.i64.wrap (b' * 10000 + e' * 100 + s') = b' * 10000 + e' * 100 + s' := by rw [IntKind.wrap_i64]; omega
            obtain ⟨c0, c1, c2⟩ := ib3 A.out
            by_cases hv : B * 10000 + E * 100 + S ≤ b' * 10000 + e' * 100 + s'
            · have hvt : decide (B * 10000 + E * 100 + S ≤ b' * 10000 + e' * 100 + s') = true := by simpa using hv
              rw [hvt] at HU hfr
              have HG := hid (hear_go B E S b' e' s' hi hfr)
              have dl : decide (b' * 10000 + e' * 100 + s' ≤ B * 10000 + E * 100 + S - 1) = false := by simp; omega
              have HVV := hid hv
              clear hvt hv hi hfr
              go_wp2_with fail
              refine (HU.out _).mono ?_
              rintro x w6 ⟨rfl, hb6⟩
              clear c0 c1 c2
              have A := hid (A.out.keep hb6)
              have BW := hid (BW.out.trans (hb6.mono BW.out.size))
              obtain ⟨c0, c1, c2⟩ := ib3 A.out
              clear hb6
              go_wp2_with fail
              refine (HG.out _).mono ?_
              rintro x w7 ⟨rfl, hb7⟩
              clear c0 c1 c2
              have A := hid (A.out.keep hb7)
              have BW := hid (BW.out.trans (hb7.mono BW.out.size))
              obtain ⟨c0, c1, c2⟩ := ib3 A.out
              have ff := A.out.2.1
              have A' := hid (ibset3 b' e' (s' + 1) A.out)
              have BW' := hid (setL_below BW.out B9 [b', e', s' + 1] 0 Z9.out)
              clear hb7 HG HU
              go_wp2_with fail
              go_roundw
              case rel => exact ⟨k + 1, b', e', s' + 1, by go_num, by rw [show b' * 10000 + e' * 100 + (s' + 1) - 1 = b' * 10000 + e' * 100 + s' from by omega], by omega, by omega, by omega, by omega, A'.out, BW'.out⟩
              case measure => simp [intOf]; omega
            · have hvf : decide (B * 10000 + E * 100 + S ≤ b' * 10000 + e' * 100 + s') = false := by simpa using hv
              rw [hvf] at HU hfr
              have HG := hid (hear_no B E S b' e' s' hi hfr)
              have dl : decide (B * 10000 + E * 100 + S - 1 < b' * 10000 + e' * 100 + s') = false := by simp; omega
              clear hvf hv hi hfr
              go_wp2_with fail
              refine (HU.out _).mono ?_
              rintro x w6 ⟨rfl, hb6⟩
              clear c0 c1 c2
              have A := hid (A.out.keep hb6)
              have BW := hid (BW.out.trans (hb6.mono BW.out.size))
              obtain ⟨c0, c1, c2⟩ := ib3 A.out
              clear hb6
              go_wp2_with fail
              refine (HG.out _).mono ?_
              rintro x w7 ⟨rfl, hb7⟩
              clear c0 c1 c2
              have A := hid (A.out.keep hb7)
              have BW := hid (BW.out.trans (hb7.mono BW.out.size))
              obtain ⟨c0, c1, c2⟩ := ib3 A.out
              have ff := A.out.2.1
              have A' := hid (ibset3 B E S A.out)
              have BW' := hid (setL_below BW.out B9 [B, E, S] 0 Z9.out)
              clear hb7 HG HU
              go_wp2_with fail
              go_roundw
              case rel => exact ⟨k + 1, B, E, S, by go_num, rfl, bB, bE, bS, by omega, A'.out, BW'.out⟩
              case measure => simp [intOf]; omega
          · have dn : decide ((k : Int) + 1 < (len1 : Int)) = false := by simp; omega
            have hi : inhB B E S = true := by simp [inhB, inB]; omega
            have hfr : frB B E S 9 0 3 = true := by
              have hn : nuB 9 0 3 = true := by decide
              rw [frB, hi, hn]
              simp only [Bool.true_and, Bool.not_eq_true']
              unfold lexB
              rw [if_neg (by omega)]
              simp; omega
            have HK := hid (inOk_any B E S)
            rw [hi] at HK
            have HG := hid (hear_go B E S 9 0 3 hi hfr)
            have HU := hid (inFresh_any 9 0 4 9 0 3)
            rw [show frB 9 0 4 9 0 3 = false from by decide] at HU
            obtain ⟨c0, c1, c2⟩ := ib3 A.out
            clear hi hfr
            go_wp2_with fail
            refine (HK.out _).mono ?_
            rintro x w6 ⟨rfl, hb6⟩
            clear c0 c1 c2
            have A := hid (A.out.keep hb6)
            have BW := hid (BW.out.trans (hb6.mono BW.out.size))
            obtain ⟨c0, c1, c2⟩ := ib3 A.out
            clear hb6
            go_wp2_with fail
            refine (HG.out _).mono ?_
            rintro x w7 ⟨rfl, hb7⟩
            have BW := hid (BW.out.trans (hb7.mono BW.out.size))
            clear hb7 c0 c1 c2
            go_wp2_with fail
            refine (HU.out _).mono ?_
            rintro x w8 ⟨rfl, hb8⟩
            have BB := hid (BW.out.trans (hb8.mono BW.out.size))
            clear hb8
            go_wp2
            go_ret
            exact ⟨rfl, BB.out⟩
    · have hl0' : (len0 : Int) ≤ 1048576 := by omega
      have hl1' : (300 : Int) < (len1 : Int) := by omega
      have d0 : decide ((1048576 : Int) < (len0 : Int)) = false := by simp; omega
      have d1 : decide ((300 : Int) < (len1 : Int)) = true := by simp; omega
      clear k0 k1
      go_enter Try.func5, Try.ntmps5
      go_wp2
      go_ret
      exact ⟨rfl, Below.refl _ _⟩
  · have hl0' : (1048576 : Int) < (len0 : Int) := by omega
    have d0 : decide ((1048576 : Int) < (len0 : Int)) = true := by simp; omega
    clear k0 k1
    go_enter Try.func5, Try.ntmps5
    go_wp2
    go_ret
    exact ⟨rfl, Below.refl _ _⟩
theorem own : ownKnob Try.prog.godebug = none := by kernel_rfl
theorem laidOut : laidOutB Try.prog = true := by kernel_rfl
set_option maxRecDepth 100000 in
theorem lifted (os : Os) (started : os.Started) (H : Type) (enc : TypeId × Value → H) :
    ReturnsInHanded {} Try.checked os 5 .any (Rows.fnInOnceSpec.pre6 enc Try.prog Try.f5 Rows.fnInOnceRow.domain false) (Rows.fnInOnceSpec.post enc Try.prog Try.f5 false true false false) := by
  refine returnsInHanded_of_change (C := Try.checked) own started (by kernel_rfl) Try.func5
    (ChangeSpec.witness6 (enc := enc) (C := Try.checked) false ⟨#[], #[.slice none 0 0, .slice none 0 0], []⟩ 8 (by kernel_rfl) (by kernel_rfl) (by kernel_rfl) (by kernel_rfl)) ?_
  intro W base args ds gs before hval0 hW hcnd _
  have hval : ∀ (j : Nat) t v, Try.f5.params[j]? = some t → args[j]? = some v → Value.okWide Try.prog W .any base t v := hval0
  have hW' := hW
  obtain ⟨p, q, hA0, hV, rfl, hfz, hnd⟩ := hW
  have hA : DataW.TrodAll enc Try.prog W 0 (fun _ => true) true Try.f5.params.toList args.toList ds p := hA0
  rw [Try.params5] at hA hval
  obtain ⟨v0, vs0, d0, ds0, p0, q0, hargs, rfl, rfl, h0, r0⟩ := trodAll_cons hA
  obtain ⟨v1, vs1, d1, ds1, p1, q1, rfl, rfl, rfl, h1, r1⟩ := trodAll_cons r0
  obtain ⟨rfl, rfl, rfl⟩ := trodAll_nil r1
  obtain rfl : args = #[v0, v1] := by cases args; simp_all
  obtain ⟨rfl, rfl⟩ := trodVars_none hV
  obtain ⟨a0, len0, cap0, rfl⟩ := okWide_slice Try.underlying22 (hval 0 22 v0 rfl rfl)
  have k0 := h0
  have lt0 : ∀ x ∈ p0, x.block < W.heap.size := by obtain ⟨m, hm⟩ := k0; exact DataW.trod_lt m _ _ _ hm
  obtain ⟨z0, w0⟩ : ∃ zs, IsRow .u8 W a0 len0 cap0 zs := by
    obtain ⟨fuel, hf⟩ := h0
    rcases open_ints Try.underlying22 Try.underlying5 (by kernel_rfl) hf with ⟨hcs, _⟩ | ⟨x, l, c, zs, hcs, _, hl, hm, hz, _, hcell, hwz⟩
    · simp [Value.cells] at hcs
      obtain ⟨rfl, rfl, rfl⟩ := hcs
      exact ⟨[], .inl ⟨rfl, rfl, rfl, rfl⟩⟩
    · simp [Value.cells] at hcs
      obtain ⟨rfl, rfl, rfl⟩ := hcs
      exact ⟨zs, .inr ⟨_, rfl, hl, hm, by simpa using hz, hcell, hwz⟩⟩
  obtain ⟨a1, len1, cap1, rfl⟩ := okWide_slice Try.underlying22 (hval 1 22 v1 rfl rfl)
  have k1 := h1
  have lt1 : ∀ x ∈ p1, x.block < W.heap.size := by obtain ⟨m, hm⟩ := k1; exact DataW.trod_lt m _ _ _ hm
  obtain ⟨z1, w1⟩ : ∃ zs, IsRow .u8 W a1 len1 cap1 zs := by
    obtain ⟨fuel, hf⟩ := h1
    rcases open_ints Try.underlying22 Try.underlying5 (by kernel_rfl) hf with ⟨hcs, _⟩ | ⟨x, l, c, zs, hcs, _, hl, hm, hz, _, hcell, hwz⟩
    · simp [Value.cells] at hcs
      obtain ⟨rfl, rfl, rfl⟩ := hcs
      exact ⟨[], .inl ⟨rfl, rfl, rfl, rfl⟩⟩
    · simp [Value.cells] at hcs
      obtain ⟨rfl, rfl, rfl⟩ := hcs
      exact ⟨zs, .inr ⟨_, rfl, hl, hm, by simpa using hz, hcell, hwz⟩⟩
  clear hA0 hval0
  refine (walk a0 len0 cap0 z0 a1 len1 cap1 z1 W w0 w1).mono fun e W' ⟨he, bel⟩ => ?_
  subst he
  exact ⟨_, rfl, _, _, _, [], _, [], hW', trodAll_mk1 (shut_bool Try.underlying4 _), (trodAll_cons_mk (Below.trod laidOut (by kernel_rfl) (of_decide_eq_true (by kernel_rfl)) k0 bel lt0) (trodAll_cons_mk (Below.trod laidOut (by kernel_rfl) (of_decide_eq_true (by kernel_rfl)) k1 bel lt1) trodAll_mk0)), rfl, bel.frame _, fun h => by cases h⟩

theorem over : Rows.fnInOnceRow.holds Try.pinned (OpenSpec.ofChange Rows.fnInOnceSpec) :=
  OpenClaim.holds_of_wide 5 Try.f5 rfl rfl rfl rfl rfl rfl rfl ⟨rfl, rfl, rfl, rfl, rfl⟩ rfl rfl rfl rfl rfl (by kernel_rfl) Try.func5 (by kernel_rfl)
    (of_decide_eq_true (by kernel_rfl)) (by unfold Func.isWrapper; first | (rw [if_pos (by decide +kernel)]; kernel_rfl) | (rw [if_neg (by decide +kernel)]; exact ⟨rfl, rfl⟩))
    (fun os started H enc _ => lifted os started H enc)

end Go.Proofs.Ythpojgolkpdgkaa.fnInOnce
namespace Go.Proofs.Ythpojgolkpdgkaa
theorem fnInOnce_holds : Rows.FnInOnceSaid := fnInOnce.over
#print axioms fnInOnce_holds
end Go.Proofs.Ythpojgolkpdgkaa
