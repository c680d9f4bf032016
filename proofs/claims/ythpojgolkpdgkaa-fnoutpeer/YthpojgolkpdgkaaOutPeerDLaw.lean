/- What a sending half knows never goes back: a half that learns drawn lives, in any order, knows the greatest of them; its numbers stay. No conditions. -/
import Derived.Test.YthpojgolkpdgkaaDrawOut
import Derived.Test.YthpojgolkpdgkaaOutPeerC
import Derived.Test.YthpojgolkpdgkaaRegLw
namespace Go.Proofs.Ythpojgolkpdgkaa.fnOutPeer
open Go.ChangeShapes Go.WideShapes Go.ChangeAt Go.RowKit Go.Joins Go.Deep
set_option linter.unusedVariables false
set_option linter.unusedSimpArgs false
set_option maxRecDepth 4000
theorem cap_ofO {w : World} {a : Option Addr} {len cap : Nat} {zs : List Int} (h : IsRow .u8 w a len cap zs) : len ≤ cap := by
  rcases h with ⟨_, rfl, rfl, _⟩ | ⟨_, _, h1, _⟩
  · exact Nat.le_refl _
  · exact h1
theorem maxO {w : World} {a : Option Addr} {len cap : Nat} {zs : List Int} (h : IsRow .u8 w a len cap zs) : (len : Int) ≤ 9223372036854775807 := by
  rcases h with ⟨_, h, _⟩ | ⟨_, _, h, h', _⟩
  · omega
  · unfold maxLen at h'; omega
theorem ld_int (b k : Nat) (xs : List Int) (w : World) (h : IB w b xs) (hk : k < xs.length) : (Instr.loadAt 3 (.pointer (some ⟨b, k, none⟩))).run Try.prog w = .ok (.int .i64 (xs.getD k 0)) w := by
  have hc := h.1 k hk
  clear h
  go_simp
/-- whether the half that OutPeer answers is ok -/
theorem pr_ok (b p e s q : Int) : outB (pk (prB b p e s q) b) (pk (prB b p e s q) (mx p q)) (pk (prB b p e s q) e) (pk (prB b p e s q) s) = prB b p e s q := by
  cases h : prB b p e s q
  · simp [pk, outB, inB]
  · simp only [pk, if_true]
    rw [prB, Bool.and_eq_true] at h
    have h1 := outB_at h.1
    have h2 := inB_at h.2
    have hm : 0 ≤ mx p q ∧ mx p q ≤ 60000 := by unfold mx; split <;> omega
    simp only [outB, inB]
    simp
    omega
theorem mx_comm (p q r : Int) : mx (mx p q) r = mx (mx p r) q := by unfold mx; (repeat' split) <;> omega
theorem mx_ge (p q : Int) : p ≤ mx p q := by unfold mx; split <;> omega
theorem fld_boot (x0 x1 x2 x3 : Int) (w : World) : (Instr.field 24 (.agg #[.int .i64 x0, .int .i64 x1, .int .i64 x2, .int .i64 x3]) 0).run Try.prog w = .ok (.int .i64 x0) w := by
  kernel_rfl
theorem outPeer_ok (b p e s q : Int) (h : prB b p e s q = true) (w : World) :
    Calls Try.prog 23 #[.agg #[.int .i64 b, .int .i64 p, .int .i64 e, .int .i64 s], .int .i64 q] w fun x w' => x = .returned (.agg #[.int .i64 b, .int .i64 (mx p q), .int .i64 e, .int .i64 s]) ∧ Below w.heap.size w w' := by
  have H := outPeer_any b p e s q w
  rw [h] at H
  simpa only [pk, if_true] using H
set_option maxHeartbeats 8000000 in
theorem walk (a0 : Option Addr) (len0 cap0 : Nat) (z0 : List Int) (a1 : Option Addr) (len1 cap1 : Nat) (z1 : List Int) (w : World) (k0 : IsRow .u8 w a0 len0 cap0 z0) (k1 : IsRow .u8 w a1 len1 cap1 z1) :
    Calls Try.prog 4 #[.slice a0 len0 cap0, .slice a1 len1 cap1] w fun e w' => e = .returned (.bool true) ∧ Below w.heap.size w w' := by
  have m0 := maxO k0
  have m1 := maxO k1
  by_cases hl0 : len0 ≤ 1048576
  · by_cases hl1 : len1 ≤ 1048576
    · have hl0' : (len0 : Int) ≤ 1048576 := by omega
      have hl1' : (len1 : Int) ≤ 1048576 := by omega
      have d0 : decide ((1048576 : Int) < (len0 : Int)) = false := by simp; omega
      have d1 : decide ((1048576 : Int) < (len1 : Int)) = false := by simp; omega
      obtain ⟨xs0, hx0, r0⟩ := k0.rd hl0
      obtain ⟨xs1, hx1, r1⟩ := k1.rd hl1
      have hc0 := cap_ofO k0
      have hc1 := cap_ofO k1
      have R1 := hid r1
      clear k0 k1 r1
      go_enter Try.func4, Try.ntmps4
      go_wp2_with fail
      refine (drawOutPeer_any a0 len0 cap0 xs0 w hx0 r0 hc0).mono ?_
      rintro x w1 ⟨b, p, e, s, q, rfl, hb1⟩
      have A5 := hid (ib_new w1 [b, p, e, s] 24)
      have B1 := hid (hb1.alloc hb1.size (.cells #[.int .i64 b, .int .i64 p, .int .i64 e, .int .i64 s] 24))
      have R1 := hid ((R1.out.keep hb1).keep (below_alloc1 w1 (.cells #[.int .i64 b, .int .i64 p, .int .i64 e, .int .i64 s] 24)))
      obtain ⟨B5, hB5⟩ : ∃ B5, w1.heap.size = B5 := ⟨_, rfl⟩
      rw [hB5] at A5
      clear r0 hb1 hc0 hx0
      go_wp2_with fail
      try rw [hB5]
      refine (drawOutPeer_any a1 len1 cap1 xs1 _ hx1 R1.out hc1).mono ?_
      rintro x w2 ⟨b2, p2, e2, s2, r, rfl, hb2⟩
      have A5 := hid ((A5.out.keep hb2).keep (below_alloc1 w2 (.cells #[.int .i64 b2, .int .i64 p2, .int .i64 e2, .int .i64 s2] 24)))
      have B2 := hid ((B1.out.trans (hb2.mono B1.out.size)).alloc (B1.out.trans (hb2.mono B1.out.size)).size (.cells #[.int .i64 b2, .int .i64 p2, .int .i64 e2, .int .i64 s2] 24))
      clear hb2 hc1 hx1 R1 B1
      have HP := hid (pr_ok b p e s q)
      obtain ⟨K0, K1, K2, K3, hK⟩ : ∃ K0 K1 K2 K3 : Int, [K0, K1, K2, K3] = [pk (prB b p e s q) b, pk (prB b p e s q) (mx p q), pk (prB b p e s q) e, pk (prB b p e s q) s] := ⟨_, _, _, _, rfl⟩
      simp only [List.cons.injEq, and_true] at hK
      obtain ⟨hK0, hK1, hK2, hK3⟩ := hK
      rw [← hK0, ← hK1, ← hK2, ← hK3] at HP
      have HK := hid (And.intro hK0 (And.intro hK1 (And.intro hK2 hK3)))
      have HF := hid (outPeer_any b p e s q)
      have HS := hid (specOutPeer_any b p e s q)
      rw [← hK0, ← hK1, ← hK2, ← hK3] at HF HS
      clear hK0 hK1 hK2 hK3
      obtain ⟨c0, c1, c2, c3⟩ := ib4 A5.out
      clear hB5
      go_wp2_with fail
      refine (HF.out _).mono ?_
      rintro x w3 ⟨rfl, hb3⟩
      clear c0 c1 c2 c3
      have A5 := hid ((A5.out.keep hb3).keep (below_alloc1 w3 (.cells #[.int .i64 K0, .int .i64 K1, .int .i64 K2, .int .i64 K3] 24)))
      have A9 : Hid (IB (w3.alloc (.cells #[.int .i64 K0, .int .i64 K1, .int .i64 K2, .int .i64 K3] 24)) w3.heap.size [K0, K1, K2, K3]) := hid (ib_new w3 [K0, K1, K2, K3] 24)
      have B3 := hid ((B2.out.trans (hb3.mono B2.out.size)).alloc (B2.out.trans (hb3.mono B2.out.size)).size (.cells #[.int .i64 K0, .int .i64 K1, .int .i64 K2, .int .i64 K3] 24))
      clear hb3 B2
      go_upto_region 6 with fail
      obtain ⟨V3, hV3⟩ : ∃ V, w3.alloc (.cells #[.int .i64 K0, .int .i64 K1, .int .i64 K2, .int .i64 K3] 24) = V := ⟨_, rfl⟩
      obtain ⟨B9, hB9⟩ : ∃ B9, w3.heap.size = B9 := ⟨_, rfl⟩
      rw [hV3] at A5 A9 B3 ⊢
      rw [hB9] at A9
      try rw [hB9]
      clear hV3 hB9
      refine region_law [(B5, [b, p, e, s]), (B9, [K0, K1, K2, K3])] [some (.agg #[.int .i64 K0, .int .i64 K1, .int .i64 K2, .int .i64 K3]), some (.agg #[.int .i64 b, .int .i64 p, .int .i64 e, .int .i64 s]), some (.int .i64 q), some (.agg #[.int .i64 K0, .int .i64 K1, .int .i64 K2, .int .i64 K3]), some (.bool false)] (by kernel_rfl) (by kernel_rfl) B3.out (by intro x hx; simp at hx; rcases hx with rfl | rfl; exact A5.out; exact A9.out) ⟨?_, ?_, ?_, ?_, ?_, trivial⟩ ?_
      · exact ob_un (lw_load (fun w hL => ld4_OutOut B9 [K0, K1, K2, K3] w (hL (B9, [K0, K1, K2, K3]) (by simp)) rfl) (ov_out rfl rfl) rfl)
      · exact ob_un (lw_load (fun w hL => ld4_OutOut B5 [b, p, e, s] w (hL (B5, [b, p, e, s]) (by simp)) rfl) (ov_out rfl rfl) rfl)
      · exact ob_un (lw_move rfl (ov_out rfl rfl))
      · exact ob_un (lw_call (fun xs w => by go_simp) (fun w hL => HS.out w) ⟨(ov_in 1 rfl rfl rfl), (ov_in 2 rfl rfl rfl), trivial⟩ rfl)
      · exact ob_un (lw_bin (fun w => by go_simp) (ov_in 0 rfl rfl rfl) (ov_in 3 rfl rfl rfl) rfl)
      intro u4 w4 B4 hL hF
      obtain ⟨-, -, -, -, f4, -⟩ := hF
      have hn : u4 37 = .bool false := f4 _ rfl
      have A5 := hid (hL (B5, [b, p, e, s]) (by simp))
      have A9 := hid (hL (B9, [K0, K1, K2, K3]) (by simp))
      have B4 := hid B4
      clear hL f4 B3
      simp only [outTmps, List.setIfInBounds_toArray, List.set_cons_zero, List.set_cons_succ]
      obtain ⟨c0, c1, c2, c3⟩ := ib4 A9.out
      go_wp2_with fail
      refine (specOutOk_any K0 K1 K2 K3 _).mono ?_
      rintro x w5 ⟨rfl, hb5⟩
      rw [HP.out]
      have A5 := hid (A5.out.keep hb5)
      have A9 := hid (A9.out.keep hb5)
      have B5' := hid (B4.out.trans (hb5.mono B4.out.size))
      have HO1 := hid (outOpen_any 1)
      have HO2 := hid (outOpen_any 2)
      have HK1 := hid (outOk_any 1 0 0 0)
      rw [show opn 1 = 1 from by decide] at HO1
      rw [show opn 2 = 2 from by decide] at HO2
      rw [show outB 1 0 0 0 = true from by decide] at HK1
      clear hb5 B4 HS hn c0 c1 c2 c3
      cases hpr : prB b p e s q
      · clear hpr HK HF
        go_wp2_with fail
        refine (HO1.out _).mono ?_
        rintro x w6 ⟨rfl, hb6⟩
        have B6 := hid (B5'.out.trans (hb6.mono B5'.out.size))
        clear hb6
        go_wp2_with fail
        refine (HK1.out _).mono ?_
        rintro x w7 ⟨rfl, hb7⟩
        have B7 := hid (B6.out.trans (hb7.mono B6.out.size))
        clear hb7
        go_wp2_with fail
        refine (HO2.out _).mono ?_
        rintro x w8 ⟨rfl, hb8⟩
        have hfld := fld_boot 2 0 0 0
        have B8 := hid (B7.out.trans (hb8.mono B7.out.size))
        clear hb8
        go_wp2
        go_ret
        exact ⟨rfl, B8.out⟩
      have HPR := hid hpr
      rw [hpr] at HK
      clear hpr HF HP
      obtain ⟨e0, e1, e2, e3⟩ := HK.out
      simp only [pk, if_true] at e0 e1 e2 e3
      replace e0 := e0.symm
      replace e2 := e2.symm
      replace e3 := e3.symm
      subst e0 e2 e3
      have HM := hid e1
      clear e1 HK
      by_cases h0 : r < 0
      · have dr : decide (r < 0) = true := by simpa using h0
        go_wp2_with fail
        refine (HO1.out _).mono ?_
        rintro x w6 ⟨rfl, hb6⟩
        have B6 := hid (B5'.out.trans (hb6.mono B5'.out.size))
        clear hb6
        go_wp2_with fail
        refine (HK1.out _).mono ?_
        rintro x w7 ⟨rfl, hb7⟩
        have B7 := hid (B6.out.trans (hb7.mono B6.out.size))
        clear hb7
        go_wp2_with fail
        refine (HO2.out _).mono ?_
        rintro x w8 ⟨rfl, hb8⟩
        have hfld := fld_boot 2 0 0 0
        have B8 := hid (B7.out.trans (hb8.mono B7.out.size))
        clear hb8
        go_wp2
        go_ret
        exact ⟨rfl, B8.out⟩
      have dr : decide (r < 0) = false := by simpa using h0
      by_cases h1 : 60000 < r
      · have dq : decide (60000 < r) = true := by simpa using h1
        go_wp2_with fail
        refine (HO1.out _).mono ?_
        rintro x w6 ⟨rfl, hb6⟩
        have B6 := hid (B5'.out.trans (hb6.mono B5'.out.size))
        clear hb6
        go_wp2_with fail
        refine (HK1.out _).mono ?_
        rintro x w7 ⟨rfl, hb7⟩
        have B7 := hid (B6.out.trans (hb7.mono B6.out.size))
        clear hb7
        go_wp2_with fail
        refine (HO2.out _).mono ?_
        rintro x w8 ⟨rfl, hb8⟩
        have hfld := fld_boot 2 0 0 0
        have B8 := hid (B7.out.trans (hb8.mono B7.out.size))
        clear hb8
        go_wp2
        go_ret
        exact ⟨rfl, B8.out⟩
      have dq : decide (60000 < r) = false := by simpa using h1
      have HQ : Hid (0 ≤ q ∧ q ≤ 60000 ∧ outB b p e s = true) := hid (by have h := HPR.out; rw [prB, Bool.and_eq_true] at h; exact ⟨(inB_at h.2).1, (inB_at h.2).2, h.1⟩)
      have HX : Hid (outB b K1 e s = true) := hid (by have h := pr_ok b p e s q; rw [HPR.out] at h; simp only [pk, if_true] at h; rw [HM.out]; exact h)
      have hr : inB r 0 60000 = true := by simp [inB]; omega
      have G1 := hid (outPeer_ok b K1 e s r (by rw [prB, HX.out, hr]; rfl))
      have G2 := hid (outPeer_ok b p e s r (by rw [prB, HQ.out.2.2, hr]; rfl))
      have HY : Hid (outB b (mx p r) e s = true) := hid (by have h := pr_ok b p e s r; rw [prB, HQ.out.2.2, hr] at h; exact h)
      have G3 := hid (outPeer_ok b (mx p r) e s q (by rw [prB, HY.out]; simp [inB]; exact ⟨HQ.out.1, HQ.out.2.1⟩))
      rw [← mx_comm p q r, ← HM.out] at G3
      have HGE := hid (mx_ge K1 r)
      obtain ⟨N, hN⟩ : ∃ N, mx K1 r = N := ⟨_, rfl⟩
      obtain ⟨T, hT⟩ : ∃ T, mx p r = T := ⟨_, rfl⟩
      rw [hN] at G1 G3 HGE
      rw [hT] at G2 G3
      clear hN hT hr HX HY HM HPR HO1 HO2 HK1
      obtain ⟨c0, c1, c2, c3⟩ := ib4 A9.out
      go_wp2_with fail
      refine (G1.out _).mono ?_
      rintro x w6 ⟨rfl, hb6⟩
      clear c0 c1 c2 c3
      have A5 := hid ((A5.out.keep hb6).keep (below_alloc1 w6 (.cells #[.int .i64 b, .int .i64 N, .int .i64 e, .int .i64 s] 24)))
      have A9 := hid ((A9.out.keep hb6).keep (below_alloc1 w6 (.cells #[.int .i64 b, .int .i64 N, .int .i64 e, .int .i64 s] 24)))
      have A10 : Hid (IB (w6.alloc (.cells #[.int .i64 b, .int .i64 N, .int .i64 e, .int .i64 s] 24)) w6.heap.size [b, N, e, s]) := hid (ib_new w6 [b, N, e, s] 24)
      have B6 := hid ((B5'.out.trans (hb6.mono B5'.out.size)).alloc (B5'.out.trans (hb6.mono B5'.out.size)).size (.cells #[.int .i64 b, .int .i64 N, .int .i64 e, .int .i64 s] 24))
      obtain ⟨B10, hB10⟩ : ∃ B10, w6.heap.size = B10 := ⟨_, rfl⟩
      rw [hB10] at A10
      clear hb6 B5'
      obtain ⟨c0, c1, c2, c3⟩ := ib4 A5.out
      go_wp2_with fail
      try rw [hB10]
      clear hB10
      refine (G2.out _).mono ?_
      rintro x w7 ⟨rfl, hb7⟩
      clear c0 c1 c2 c3
      have A5 := hid (A5.out.keep hb7)
      have A9 := hid (A9.out.keep hb7)
      have A10 := hid (A10.out.keep hb7)
      have B7 := hid (B6.out.trans (hb7.mono B6.out.size))
      clear hb7 B6
      go_wp2_with fail
      refine (G3.out _).mono ?_
      rintro x w8 ⟨rfl, hb8⟩
      have A5 := hid ((A5.out.keep hb8).keep (below_alloc1 w8 (.cells #[.int .i64 b, .int .i64 N, .int .i64 e, .int .i64 s] 24)))
      have A9 := hid ((A9.out.keep hb8).keep (below_alloc1 w8 (.cells #[.int .i64 b, .int .i64 N, .int .i64 e, .int .i64 s] 24)))
      have A10 := hid ((A10.out.keep hb8).keep (below_alloc1 w8 (.cells #[.int .i64 b, .int .i64 N, .int .i64 e, .int .i64 s] 24)))
      have A11 : Hid (IB (w8.alloc (.cells #[.int .i64 b, .int .i64 N, .int .i64 e, .int .i64 s] 24)) w8.heap.size [b, N, e, s]) := hid (ib_new w8 [b, N, e, s] 24)
      have B8 := hid ((B7.out.trans (hb8.mono B7.out.size)).alloc (B7.out.trans (hb8.mono B7.out.size)).size (.cells #[.int .i64 b, .int .i64 N, .int .i64 e, .int .i64 s] 24))
      clear hb8 B7
      go_upto_region 12 with fail
      obtain ⟨V8, hV8⟩ : ∃ V, w8.alloc (.cells #[.int .i64 b, .int .i64 N, .int .i64 e, .int .i64 s] 24) = V := ⟨_, rfl⟩
      obtain ⟨B11, hB11⟩ : ∃ B11, w8.heap.size = B11 := ⟨_, rfl⟩
      rw [hV8] at A5 A9 A10 A11 B8 ⊢
      rw [hB11] at A11
      try rw [hB11]
      clear hV8 hB11
      have hge := HGE.out
      refine region_law [(B5, [b, p, e, s]), (B9, [b, K1, e, s]), (B10, [b, N, e, s]), (B11, [b, N, e, s])] [some (.agg #[.int .i64 b, .int .i64 N, .int .i64 e, .int .i64 s]), some (.agg #[.int .i64 b, .int .i64 N, .int .i64 e, .int .i64 s]), some (.bool true), some (.bool true), some (.pointer (some ⟨B10, 1, none⟩)), some (.int .i64 N), some (.pointer (some ⟨B9, 1, none⟩)), some (.int .i64 K1), some (.bool true), some (.bool true), some (.bool true), some (.pointer (some ⟨B10, 3, none⟩)), some (.int .i64 s), some (.pointer (some ⟨B5, 3, none⟩)), some (.int .i64 s), some (.bool true), some (.bool true), some (.bool true), some (.pointer (some ⟨B10, 2, none⟩)), some (.int .i64 e), some (.pointer (some ⟨B5, 2, none⟩)), some (.int .i64 e), some (.bool true), some (.bool true), some (.bool true), some (.pointer (some ⟨B5, 0, none⟩)), some (.int .i64 b), some (.agg #[.int .i64 (opn b), .int .i64 0, .int .i64 0, .int .i64 0]), some (.pointer (some ⟨B5, 0, none⟩)), some (.int .i64 b), some (.agg #[.int .i64 (opn b), .int .i64 0, .int .i64 0, .int .i64 0]), some (.bool true), some (.bool true), some (.bool true)] (by kernel_rfl) (by kernel_rfl) B8.out (by intro x hx; simp at hx; rcases hx with rfl | rfl | rfl | rfl; exact A5.out; exact A9.out; exact A10.out; exact A11.out) ⟨?_, ?_, ?_, ?_, ?_, ?_, ?_, ?_, ?_, ?_, ?_, ?_, ?_, ?_, ?_, ?_, ?_, ?_, ?_, ?_, ?_, ?_, ?_, ?_, ?_, ?_, ?_, ?_, ?_, ?_, ?_, ?_, ?_, ?_, trivial⟩ ?_
      · exact ob_un (lw_load (fun w hL => ld4_OutOut B10 [b, N, e, s] w (hL (B10, [b, N, e, s]) (by simp)) rfl) (ov_out rfl rfl) rfl)
      · exact ob_un (lw_load (fun w hL => ld4_OutOut B11 [b, N, e, s] w (hL (B11, [b, N, e, s]) (by simp)) rfl) (ov_out rfl rfl) rfl)
      · exact ob_un (lw_bin (fun w => by go_simp) (ov_in 0 rfl rfl rfl) (ov_in 1 rfl rfl rfl) rfl)
      · exact ob_un (lw_move rfl (ov_in 2 rfl rfl rfl))
      · exact lw_on 3 true rfl rfl (lw_fieldAddr (fun w => by go_simp) (ov_out rfl rfl) rfl)
      · exact lw_on 3 true rfl rfl (lw_load (fun w hL => ld_int B10 1 [b, N, e, s] w (hL (B10, [b, N, e, s]) (by simp)) (by simp)) (ov_in 4 rfl rfl rfl) rfl)
      · exact lw_on 3 true rfl rfl (lw_fieldAddr (fun w => by go_simp) (ov_out rfl rfl) rfl)
      · exact lw_on 3 true rfl rfl (lw_load (fun w hL => ld_int B9 1 [b, K1, e, s] w (hL (B9, [b, K1, e, s]) (by simp)) (by simp)) (ov_in 6 rfl rfl rfl) rfl)
      · exact lw_on 3 true rfl rfl (lw_bin (fun w => by go_simp) (ov_in 5 rfl rfl rfl) (ov_in 7 rfl rfl rfl) rfl)
      · exact ob_un (lw_pick true (ov_in 3 rfl rfl rfl) (ov_in 8 rfl rfl rfl) rfl)
      · exact ob_un (lw_move rfl (ov_in 9 rfl rfl rfl))
      · exact lw_on 10 true rfl rfl (lw_fieldAddr (fun w => by go_simp) (ov_out rfl rfl) rfl)
      · exact lw_on 10 true rfl rfl (lw_load (fun w hL => ld_int B10 3 [b, N, e, s] w (hL (B10, [b, N, e, s]) (by simp)) (by simp)) (ov_in 11 rfl rfl rfl) rfl)
      · exact lw_on 10 true rfl rfl (lw_fieldAddr (fun w => by go_simp) (ov_out rfl rfl) rfl)
      · exact lw_on 10 true rfl rfl (lw_load (fun w hL => ld_int B5 3 [b, p, e, s] w (hL (B5, [b, p, e, s]) (by simp)) (by simp)) (ov_in 13 rfl rfl rfl) rfl)
      · exact lw_on 10 true rfl rfl (lw_bin (fun w => by go_simp) (ov_in 12 rfl rfl rfl) (ov_in 14 rfl rfl rfl) rfl)
      · exact ob_un (lw_pick true (ov_in 10 rfl rfl rfl) (ov_in 15 rfl rfl rfl) rfl)
      · exact ob_un (lw_move rfl (ov_in 16 rfl rfl rfl))
      · exact lw_on 17 true rfl rfl (lw_fieldAddr (fun w => by go_simp) (ov_out rfl rfl) rfl)
      · exact lw_on 17 true rfl rfl (lw_load (fun w hL => ld_int B10 2 [b, N, e, s] w (hL (B10, [b, N, e, s]) (by simp)) (by simp)) (ov_in 18 rfl rfl rfl) rfl)
      · exact lw_on 17 true rfl rfl (lw_fieldAddr (fun w => by go_simp) (ov_out rfl rfl) rfl)
      · exact lw_on 17 true rfl rfl (lw_load (fun w hL => ld_int B5 2 [b, p, e, s] w (hL (B5, [b, p, e, s]) (by simp)) (by simp)) (ov_in 20 rfl rfl rfl) rfl)
      · exact lw_on 17 true rfl rfl (lw_bin (fun w => by go_simp) (ov_in 19 rfl rfl rfl) (ov_in 21 rfl rfl rfl) rfl)
      · exact ob_un (lw_pick true (ov_in 17 rfl rfl rfl) (ov_in 22 rfl rfl rfl) rfl)
      · exact ob_un (lw_move rfl (ov_in 23 rfl rfl rfl))
      · exact lw_on 24 true rfl rfl (lw_fieldAddr (fun w => by go_simp) (ov_out rfl rfl) rfl)
      · exact lw_on 24 true rfl rfl (lw_load (fun w hL => ld_int B5 0 [b, p, e, s] w (hL (B5, [b, p, e, s]) (by simp)) (by simp)) (ov_in 25 rfl rfl rfl) rfl)
      · exact lw_on 24 true rfl rfl (lw_call (fun xs w => by go_simp) (fun w hL => outOpen_any b w) ⟨(ov_in 26 rfl rfl rfl), trivial⟩ rfl)
      · exact lw_on 24 true rfl rfl (lw_fieldAddr (fun w => by go_simp) (ov_out rfl rfl) rfl)
      · exact lw_on 24 true rfl rfl (lw_load (fun w hL => ld_int B5 0 [b, p, e, s] w (hL (B5, [b, p, e, s]) (by simp)) (by simp)) (ov_in 28 rfl rfl rfl) rfl)
      · exact lw_on 24 true rfl rfl (lw_call (fun xs w => by go_simp) (fun w hL => specOutOpen_any b w) ⟨(ov_in 29 rfl rfl rfl), trivial⟩ rfl)
      · exact lw_on 24 true rfl rfl (lw_bin (fun w => by go_simp) (ov_in 27 rfl rfl rfl) (ov_in 30 rfl rfl rfl) rfl)
      · exact ob_un (lw_pick true (ov_in 24 rfl rfl rfl) (ov_in 31 rfl rfl rfl) rfl)
      · exact ob_un (lw_assign rfl (ov_in 32 rfl rfl rfl))
      intro u9 w9 B9' hL hF
      obtain ⟨-, -, -, -, -, -, -, -, -, -, -, -, -, -, -, -, -, -, -, -, -, -, -, -, -, -, -, -, -, -, -, -, -, f33, -⟩ := hF
      have hn : u9 4 = .bool true := f33 _ rfl
      have BB := hid B9'
      clear hL f33 B8 B9'
      simp only [outTmps, List.setIfInBounds_toArray, List.set_cons_zero, List.set_cons_succ, hn]
      go_wp2
      go_ret
      exact ⟨rfl, BB.out⟩
    · have hl0' : (len0 : Int) ≤ 1048576 := by omega
      have hl1' : (1048576 : Int) < (len1 : Int) := by omega
      have d0 : decide ((1048576 : Int) < (len0 : Int)) = false := by simp; omega
      have d1 : decide ((1048576 : Int) < (len1 : Int)) = true := by simp; omega
      clear k0 k1
      go_enter Try.func4, Try.ntmps4
      go_wp2
      go_ret
      exact ⟨rfl, Below.refl _ _⟩
  · have hl0' : (1048576 : Int) < (len0 : Int) := by omega
    have d0 : decide ((1048576 : Int) < (len0 : Int)) = true := by simp; omega
    clear k0 k1
    go_enter Try.func4, Try.ntmps4
    go_wp2
    go_ret
    exact ⟨rfl, Below.refl _ _⟩
theorem own : ownKnob Try.prog.godebug = none := by kernel_rfl
theorem laidOut : laidOutB Try.prog = true := by kernel_rfl
set_option maxRecDepth 100000 in
theorem lifted (os : Os) (started : os.Started) (H : Type) (enc : TypeId × Value → H) :
    ReturnsInHanded {} Try.checked os 4 .any (Rows.fnOutPeerSpec.pre6 enc Try.prog Try.f4 Rows.fnOutPeerRow.domain false) (Rows.fnOutPeerSpec.post enc Try.prog Try.f4 false true false false) := by
  refine returnsInHanded_of_change (C := Try.checked) own started (by kernel_rfl) Try.func4
    (ChangeSpec.witness6 (enc := enc) (C := Try.checked) false ⟨#[], #[.slice none 0 0, .slice none 0 0], []⟩ 8 (by kernel_rfl) (by kernel_rfl) (by kernel_rfl) (by kernel_rfl)) ?_
  intro W base args ds gs before hval0 hW hcnd _
  have hval : ∀ (j : Nat) t v, Try.f4.params[j]? = some t → args[j]? = some v → Value.okWide Try.prog W .any base t v := hval0
  have hW' := hW
  obtain ⟨p, q, hA0, hV, rfl, hfz, hnd⟩ := hW
  have hA : DataW.TrodAll enc Try.prog W 0 (fun _ => true) true Try.f4.params.toList args.toList ds p := hA0
  rw [Try.params4] at hA hval
  obtain ⟨v0, vs0, d0, ds0, p0, q0, hargs, rfl, rfl, h0, r0⟩ := trodAll_cons hA
  obtain ⟨v1, vs1, d1, ds1, p1, q1, rfl, rfl, rfl, h1, r1⟩ := trodAll_cons r0
  obtain ⟨rfl, rfl, rfl⟩ := trodAll_nil r1
  obtain rfl : args = #[v0, v1] := by cases args; simp_all
  obtain ⟨rfl, rfl⟩ := trodVars_none hV
  obtain ⟨a0, len0, cap0, rfl⟩ := okWide_slice Try.underlying22 (hval 0 22 v0 rfl rfl)
  have k0 := h0
  have lt0 : ∀ x ∈ p0, x.block < W.heap.size := by obtain ⟨m, hm⟩ := k0; exact DataW.trod_lt m _ _ _ hm
  obtain ⟨z0, w0⟩ : ∃ zs, IsRow .u8 W a0 len0 cap0 zs := by
    obtain ⟨fuel, hf⟩ := h0
    rcases open_ints Try.underlying22 Try.underlying5 (by kernel_rfl) hf with ⟨hcs, _⟩ | ⟨x, l, c, zs, hcs, _, hl, hm, hz, _, hcell, hwz⟩
    · simp [Value.cells] at hcs
      obtain ⟨rfl, rfl, rfl⟩ := hcs
      exact ⟨[], .inl ⟨rfl, rfl, rfl, rfl⟩⟩
    · simp [Value.cells] at hcs
      obtain ⟨rfl, rfl, rfl⟩ := hcs
      exact ⟨zs, .inr ⟨_, rfl, hl, hm, by simpa using hz, hcell, hwz⟩⟩
  obtain ⟨a1, len1, cap1, rfl⟩ := okWide_slice Try.underlying22 (hval 1 22 v1 rfl rfl)
  have k1 := h1
  have lt1 : ∀ x ∈ p1, x.block < W.heap.size := by obtain ⟨m, hm⟩ := k1; exact DataW.trod_lt m _ _ _ hm
  obtain ⟨z1, w1⟩ : ∃ zs, IsRow .u8 W a1 len1 cap1 zs := by
    obtain ⟨fuel, hf⟩ := h1
    rcases open_ints Try.underlying22 Try.underlying5 (by kernel_rfl) hf with ⟨hcs, _⟩ | ⟨x, l, c, zs, hcs, _, hl, hm, hz, _, hcell, hwz⟩
    · simp [Value.cells] at hcs
      obtain ⟨rfl, rfl, rfl⟩ := hcs
      exact ⟨[], .inl ⟨rfl, rfl, rfl, rfl⟩⟩
    · simp [Value.cells] at hcs
      obtain ⟨rfl, rfl, rfl⟩ := hcs
      exact ⟨zs, .inr ⟨_, rfl, hl, hm, by simpa using hz, hcell, hwz⟩⟩
  clear hA0 hval0
  refine (walk a0 len0 cap0 z0 a1 len1 cap1 z1 W w0 w1).mono fun e W' ⟨he, bel⟩ => ?_
  subst he
  exact ⟨_, rfl, _, _, _, [], _, [], hW', trodAll_mk1 (shut_bool Try.underlying4 _), (trodAll_cons_mk (Below.trod laidOut (by kernel_rfl) (of_decide_eq_true (by kernel_rfl)) k0 bel lt0) (trodAll_cons_mk (Below.trod laidOut (by kernel_rfl) (of_decide_eq_true (by kernel_rfl)) k1 bel lt1) trodAll_mk0)), rfl, bel.frame _, fun h => by cases h⟩

theorem over : Rows.fnOutPeerRow.holds Try.pinned (OpenSpec.ofChange Rows.fnOutPeerSpec) :=
  OpenClaim.holds_of_wide 4 Try.f4 rfl rfl rfl rfl rfl rfl rfl ⟨rfl, rfl, rfl, rfl, rfl⟩ rfl rfl rfl rfl rfl (by kernel_rfl) Try.func4 (by kernel_rfl)
    (of_decide_eq_true (by kernel_rfl)) (by unfold Func.isWrapper; first | (rw [if_pos (by decide +kernel)]; kernel_rfl) | (rw [if_neg (by decide +kernel)]; exact ⟨rfl, rfl⟩))
    (fun os started H enc _ => lifted os started H enc)

end Go.Proofs.Ythpojgolkpdgkaa.fnOutPeer
namespace Go.Proofs.Ythpojgolkpdgkaa
theorem fnOutPeer_holds : Rows.FnOutPeerSaid := fnOutPeer.over
#print axioms fnOutPeer_holds
end Go.Proofs.Ythpojgolkpdgkaa
