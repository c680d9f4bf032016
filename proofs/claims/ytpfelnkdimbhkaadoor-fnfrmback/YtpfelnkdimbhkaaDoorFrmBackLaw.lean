/- A head that is ok and thirteen bytes make a frame of FrmLen bytes that is read as them: for whatever is drawn, where errors.errorType holds what the library's own text lays there. -/
import Derived.Test.YtpfelnkdimbhkaaDoorDoorBase
import Derived.Test.YtpfelnkdimbhkaaDoorFrmDrw
import Derived.Test.YtpfelnkdimbhkaaDoorFrmTkS
import Derived.Deep.RegionWith
import Derived.Test.YtpfelnkdimbhkaaDoorRegBw
import Derived.Test.YtpfelnkdimbhkaaDoorCards
import Derived.Test.YtpfelnkdimbhkaaDoorTie
namespace Go.Proofs.YtpfelnkdimbhkaaDoor
open Go.ChangeShapes Go.WideShapes Go.ChangeAt Go.RowKit Go.Joins Go.Deep
set_option linter.unusedVariables false
set_option linter.unusedSimpArgs false
set_option maxRecDepth 4000
theorem cap_ofF {w : World} {a : Option Addr} {len cap : Nat} {zs : List Int} (h : IsRow .u8 w a len cap zs) : len ≤ cap := by
  rcases h with ⟨_, rfl, rfl, _⟩ | ⟨_, _, h1, _⟩
  · exact Nat.le_refl _
  · exact h1
theorem rdF_drew {w : World} {v : Value} {xs : List Int} (h : Rd w v xs) : Rd w.drew v xs := h
theorem lasts_rd (xs : List Int) : Lasts (fun v w => Rd w v xs) := fun v w w' hb h => h.keep hb
theorem ldH {w0 : World} {b : Nat} {h0 h1 h2 h3 h4 h5 h6 h7 : Int} (n : Unit) (w : World) {hb : Below w0.heap.size w0 w} (c0 : w0.cell? ⟨b, 0, none⟩ = some (.int .i64 h0)) (c1 : w0.cell? ⟨b, 1, none⟩ = some (.int .i64 h1)) (c2 : w0.cell? ⟨b, 2, none⟩ = some (.int .i64 h2)) (c3 : w0.cell? ⟨b, 3, none⟩ = some (.int .i64 h3)) (c4 : w0.cell? ⟨b, 4, none⟩ = some (.int .i64 h4)) (c5 : w0.cell? ⟨b, 5, none⟩ = some (.int .i64 h5)) (c6 : w0.cell? ⟨b, 6, none⟩ = some (.int .i64 h6)) (c7 : w0.cell? ⟨b, 7, none⟩ = some (.int .i64 h7)) :
    (Instr.loadAt 37 (.pointer (some ⟨b, 0, none⟩))).run Tryd.prog w = .ok (.agg #[.int .i64 h0, .int .i64 h1, .int .i64 h2, .int .i64 h3, .int .i64 h4, .int .i64 h5, .int .i64 h6, .int .i64 h7]) w := by
  have c0 := cell_keep hb c0
  have c1 := cell_keep hb c1
  have c2 := cell_keep hb c2
  have c3 := cell_keep hb c3
  have c4 := cell_keep hb c4
  have c5 := cell_keep hb c5
  have c6 := cell_keep hb c6
  have c7 := cell_keep hb c7
  clear hb
  go_simp
end Go.Proofs.YtpfelnkdimbhkaaDoor
namespace Go.Proofs.YtpfelnkdimbhkaaDoor.fnFrmBack
open Go.ChangeShapes Go.WideShapes Go.ChangeAt Go.RowKit Go.Joins Go.Deep
set_option linter.unusedVariables false
set_option linter.unusedSimpArgs false
set_option maxRecDepth 4000
set_option maxHeartbeats 8000000 in
theorem walk (a0 : Option Addr) (len0 cap0 : Nat) (z0 : List Int) (w : World) (k0 : IsRow .u8 w a0 len0 cap0 z0) (het : Et w) :
    Calls Tryd.prog 6 #[.slice a0 len0 cap0] w fun e w' => e = .returned (.bool true) ∧ Below w.heap.size w w' := by
  have m0 := k0.max
  have hp := het.pos
  by_cases hl0 : len0 ≤ 1048576
  · have hl0' : (len0 : Int) ≤ 1048576 := by omega
    obtain ⟨zs, hx0, r0⟩ := k0.rd hl0
    have hcp := cap_ofF k0
    have R0 := hid r0
    have HE := hid het
    clear k0 r0 het
    go_enter Tryd.func6, Tryd.ntmps6
    go_wp2_with fail
    refine (drawFPut_any a0 len0 cap0 zs _ hx0 R0.out hcp).mono ?_
    rintro e w1 ⟨h0, h1, h2, h3, h4, h5, h6, h7, u, xs, rfl, hxs, ou, b1⟩
    obtain ⟨au, cu, hu, hcu⟩ := own_capF ou
    subst hu
    have RX := hid ((ou.rd (by omega)).keep (below_alloc1 w1 (.cells #[.int .i64 h0, .int .i64 h1, .int .i64 h2, .int .i64 h3, .int .i64 h4, .int .i64 h5, .int .i64 h6, .int .i64 h7] 37)))
    have LB : Hid (IB (w1.alloc (.cells #[.int .i64 h0, .int .i64 h1, .int .i64 h2, .int .i64 h3, .int .i64 h4, .int .i64 h5, .int .i64 h6, .int .i64 h7] 37)) w1.heap.size [h0, h1, h2, h3, h4, h5, h6, h7]) := hid (ib_new w1 [h0, h1, h2, h3, h4, h5, h6, h7] 37)
    have B := hid (b1.alloc b1.size (.cells #[.int .i64 h0, .int .i64 h1, .int .i64 h2, .int .i64 h3, .int .i64 h4, .int .i64 h5, .int .i64 h6, .int .i64 h7] 37))
    clear ou b1 R0
    have NP := ptL_len h0 h1 h2 h3 h4 h5 h6 h7 xs
    obtain ⟨P, eP⟩ : ∃ P, ptL h0 h1 h2 h3 h4 h5 h6 h7 xs = P := ⟨_, rfl⟩
    have HP := hid eP
    rw [eP] at NP
    clear eP
    go_wp2_with fail
    refine (frmPut_any h0 h1 h2 h3 h4 h5 h6 h7 _ xs _ RX.out).mono ?_
    rintro e w2 ⟨u2, rfl, o2, b2⟩
    rw [HP.out] at o2
    obtain ⟨ab, cb, hu, hcb⟩ := own_capF o2
    subst hu
    have RP := hid (o2.rd (by omega))
    have RX := hid (RX.out.keep b2)
    have LB := hid (LB.out.keep b2)
    have B := hid (B.out.trans (b2.mono B.out.size))
    clear o2 b2
    obtain ⟨D, hD⟩ : ∃ D, w1.heap.size = D := ⟨_, rfl⟩
    rw [hD] at LB ⊢
    clear hD
    obtain ⟨c0, c1, c2, c3, c4, c5, c6, c7⟩ := ib8 LB.out
    go_wp2_with fail
    refine (specPutF_any h0 h1 h2 h3 h4 h5 h6 h7 _ xs _ RX.out).mono ?_
    rintro e w3 ⟨u3, rfl, o3, b3⟩
    rw [HP.out] at o3
    have RS := hid (o3.rd (by omega))
    have RP := hid (RP.out.keep b3)
    have RX := hid (RX.out.keep b3)
    have LB := hid (LB.out.keep b3)
    have B := hid (B.out.trans (b3.mono B.out.size))
    clear o3 b3 c0 c1 c2 c3 c4 c5 c6 c7
    go_wp2_with fail
    refine (caBytes_any _ _ P P _ RP.out RS.out).mono ?_
    rintro e w4 ⟨rfl, rfl⟩
    clear RS
    obtain ⟨c0, c1, c2, c3, c4, c5, c6, c7⟩ := ib8 LB.out
    cases hk : (headB h0 h1 h2 h3 h4 h5 h6 h7 && decide (xs.length = 13))
    · have eP : P = [] := by rw [← HP.out]; unfold ptL; rw [hk]; rfl
      subst eP
      have HL0 : Hid (headB 2 0 1 0 1 0 0 0 = true) := hid (by decide)
      cases hb : headB h0 h1 h2 h3 h4 h5 h6 h7
      · have HB := hid hb
        clear hb hk
        go_wp2_with fail
        refine (headOk_any h0 h1 h2 h3 h4 h5 h6 h7 _).mono ?_
        rintro e w5 ⟨he, b5⟩
        rw [HB.out] at he
        subst he
        have B := hid (B.out.trans (b5.mono B.out.size))
        clear b5
        go_wp2_with fail
        refine (headOk_any 2 0 1 0 1 0 0 0 _).mono ?_
        rintro e w6 ⟨he, b6⟩
        rw [HL0.out] at he
        subst he
        have B := hid (B.out.trans (b6.mono B.out.size))
        clear b6
        go_wp2
        go_ret
        exact ⟨rfl, B.out⟩
      · have HB := hid hb
        have hx13 : ¬ xs.length = 13 := by rw [hb, Bool.true_and] at hk; simpa using hk
        have d13 : ((xs.length : Int) == 13) = false := beq_eq_false_iff_ne.2 (by omega)
        have d13' : ((xs.length : Int) != 13) = true := by simp [bne, d13]
        clear hb hk
        go_wp2_with fail
        refine (headOk_any h0 h1 h2 h3 h4 h5 h6 h7 _).mono ?_
        rintro e w5 ⟨he, b5⟩
        rw [HB.out] at he
        subst he
        have B := hid (B.out.trans (b5.mono B.out.size))
        clear b5
        go_wp2_with fail
        refine (headOk_any 2 0 1 0 1 0 0 0 _).mono ?_
        rintro e w6 ⟨he, b6⟩
        rw [HL0.out] at he
        subst he
        have B := hid (B.out.trans (b6.mono B.out.size))
        clear b6
        go_wp2
        go_ret
        exact ⟨rfl, B.out⟩
    · rw [Bool.and_eq_true, decide_eq_true_eq] at hk
      have HF := hid (ft_put hk.1 hk.2)
      rw [HP.out] at HF
      have hP24 : P.length = 24 := HF.out.2.2.2.2.2.2.2.2.2.2.1
      have HT : Hid (P.take 11 = hdL h0 h1 h2 h3 h4 h5 h6 h7) := hid HF.out.2.2.2.2.2.2.2.2.2.2.2
      have ND : Hid ((hdL h0 h1 h2 h3 h4 h5 h6 h7).length ≤ 2000000) := hid (by rw [hdL_yes hk.1]; omega)
      clear hk
      have RT := hid (rd_take (n := 11) RP.out (by omega))
      rw [HT.out] at RT
      have HTK := hid (frmTake_any ab cb P _ RP.out hcb (HE.out.keep B.out hp))
      rw [hP24] at HTK
      rw [hP24] at hcb
      rw [hP24]
      clear hP24 NP
      clear c0 c1 c2 c3 c4 c5 c6 c7
      go_wp2_with fail
      refine HTK.out.mono ?_
      rintro e w5 ⟨u5, he, o5, b5⟩
      obtain ⟨f0, f1, f2, f3, f4, f5, f6, f7, f8, f9, _⟩ := HF.out
      rw [f1, f2, f3, f4, f5, f6, f7, f8, f0] at he
      rw [f9] at o5
      subst he
      clear f0 f1 f2 f3 f4 f5 f6 f7 f8 f9
      have RK := hid ((o5.rd (by omega)).keep (below_alloc1 w5 (.cells #[.int .i64 h0, .int .i64 h1, .int .i64 h2, .int .i64 h3, .int .i64 h4, .int .i64 h5, .int .i64 h6, .int .i64 h7] 37)))
      have RX := hid ((RX.out.keep b5).keep (below_alloc1 w5 (.cells #[.int .i64 h0, .int .i64 h1, .int .i64 h2, .int .i64 h3, .int .i64 h4, .int .i64 h5, .int .i64 h6, .int .i64 h7] 37)))
      have RT := hid ((RT.out.keep b5).keep (below_alloc1 w5 (.cells #[.int .i64 h0, .int .i64 h1, .int .i64 h2, .int .i64 h3, .int .i64 h4, .int .i64 h5, .int .i64 h6, .int .i64 h7] 37)))
      have LB := hid ((LB.out.keep b5).keep (below_alloc1 w5 (.cells #[.int .i64 h0, .int .i64 h1, .int .i64 h2, .int .i64 h3, .int .i64 h4, .int .i64 h5, .int .i64 h6, .int .i64 h7] 37)))
      have LC : Hid (IB (w5.alloc (.cells #[.int .i64 h0, .int .i64 h1, .int .i64 h2, .int .i64 h3, .int .i64 h4, .int .i64 h5, .int .i64 h6, .int .i64 h7] 37)) w5.heap.size [h0, h1, h2, h3, h4, h5, h6, h7]) := hid (ib_new w5 [h0, h1, h2, h3, h4, h5, h6, h7] 37)
      have B := hid ((B.out.trans (b5.mono B.out.size)).alloc (by have := B.out.size; have := b5.size; omega) (.cells #[.int .i64 h0, .int .i64 h1, .int .i64 h2, .int .i64 h3, .int .i64 h4, .int .i64 h5, .int .i64 h6, .int .i64 h7] 37))
      clear o5 b5 HTK
      go_upto_region 10 with fail
      obtain ⟨D', hD'⟩ : ∃ D', w5.heap.size = D' := ⟨_, rfl⟩
      obtain ⟨V, hV⟩ : ∃ V, w5.alloc (.cells #[.int .i64 h0, .int .i64 h1, .int .i64 h2, .int .i64 h3, .int .i64 h4, .int .i64 h5, .int .i64 h6, .int .i64 h7] 37) = V := ⟨_, rfl⟩
      rw [hV] at RK RX RT LB LC B ⊢
      rw [hD'] at LC ⊢
      clear hV hD'
      obtain ⟨c0, c1, c2, c3, c4, c5, c6, c7⟩ := ib8 LB.out
      obtain ⟨d0, d1, d2, d3, d4, d5, d6, d7⟩ := ib8 LC.out
      have hcb' : (11 : Int) ≤ (cb : Int) := by omega
      have hcb2 : 11 ≤ cb := by omega
      obtain ⟨HD, eHD⟩ : ∃ HD, hdL h0 h1 h2 h3 h4 h5 h6 h7 = HD := ⟨_, rfl⟩
      have HHD := hid eHD
      rw [eHD] at RT ND
      clear eHD
      clear LB LC HF HT HE HP RP hxs hl0' hl0 hx0 hcp
      have HAL : AllLast [(fun u _ => u = .bool true), (fun u _ => u = .bool true), (fun u _ => u = .agg #[.int .i64 h0, .int .i64 h1, .int .i64 h2, .int .i64 h3, .int .i64 h4, .int .i64 h5, .int .i64 h6, .int .i64 h7]), (fun u _ => u = .agg #[.int .i64 h0, .int .i64 h1, .int .i64 h2, .int .i64 h3, .int .i64 h4, .int .i64 h5, .int .i64 h6, .int .i64 h7]), (fun u _ => u = .bool true), (fun u _ => u = .bool true), (fun u _ => u = .bool true), (fun u _ => u = u5), (fun u _ => u = .slice au xs.length cu), (fun u _ => u = .bool true), (fun u _ => u = .bool true), (fun u _ => u = .bool true), (fun u _ => u = .slice ab 24 cb), (fun u _ => u = .int .i64 24), (fun u _ => u = .bool true), (fun u _ => u = .bool true), (fun u _ => u = .bool true), (fun u _ => u = .slice ab 24 cb), (fun u _ => u = .slice ab 11 cb), (fun u _ => u = .agg #[.int .i64 h0, .int .i64 h1, .int .i64 h2, .int .i64 h3, .int .i64 h4, .int .i64 h5, .int .i64 h6, .int .i64 h7]), (fun v w => Rd w v HD), (fun u _ => u = .bool true), (fun u _ => u = .bool true), (fun u _ => u = .bool true)] := ⟨lasts_val _, lasts_val _, lasts_val _, lasts_val _, lasts_val _, lasts_val _, lasts_val _, lasts_val _, lasts_val _, lasts_val _, lasts_val _, lasts_val _, lasts_val _, lasts_val _, lasts_val _, lasts_val _, lasts_val _, lasts_val _, lasts_val _, lasts_val _, lasts_rd _, lasts_val _, lasts_val _, lasts_val _, trivial⟩
      refine region_bw [(fun u _ => u = .bool true), (fun u _ => u = .bool true), (fun u _ => u = .agg #[.int .i64 h0, .int .i64 h1, .int .i64 h2, .int .i64 h3, .int .i64 h4, .int .i64 h5, .int .i64 h6, .int .i64 h7]), (fun u _ => u = .agg #[.int .i64 h0, .int .i64 h1, .int .i64 h2, .int .i64 h3, .int .i64 h4, .int .i64 h5, .int .i64 h6, .int .i64 h7]), (fun u _ => u = .bool true), (fun u _ => u = .bool true), (fun u _ => u = .bool true), (fun u _ => u = u5), (fun u _ => u = .slice au xs.length cu), (fun u _ => u = .bool true), (fun u _ => u = .bool true), (fun u _ => u = .bool true), (fun u _ => u = .slice ab 24 cb), (fun u _ => u = .int .i64 24), (fun u _ => u = .bool true), (fun u _ => u = .bool true), (fun u _ => u = .bool true), (fun u _ => u = .slice ab 24 cb), (fun u _ => u = .slice ab 11 cb), (fun u _ => u = .agg #[.int .i64 h0, .int .i64 h1, .int .i64 h2, .int .i64 h3, .int .i64 h4, .int .i64 h5, .int .i64 h6, .int .i64 h7]), (fun v w => Rd w v HD), (fun u _ => u = .bool true), (fun u _ => u = .bool true), (fun u _ => u = .bool true)] (by kernel_rfl) (by kernel_rfl) ⟨?_, ?_, ?_, ?_, ?_, ?_, ?_, ?_, ?_, ?_, ?_, ?_, ?_, ?_, ?_, ?_, ?_, ?_, ?_, ?_, ?_, ?_, ?_, ?_, trivial⟩ ?_
      · exact ob_un (bw_move rfl (ok_out rfl rfl))
      · exact ob_un (bw_move rfl (ok_in 0 rfl rfl rfl))
      · exact bw_on 1 true rfl rfl (bw_load (fun w hb => ldH () w (hb := hb) d0 d1 d2 d3 d4 d5 d6 d7) (ok_out rfl rfl) rfl)
      · exact bw_on 1 true rfl rfl (bw_load (fun w hb => ldH () w (hb := hb) c0 c1 c2 c3 c4 c5 c6 c7) (ok_out rfl rfl) rfl)
      · exact bw_on 1 true rfl rfl (bw_bin (fun w => by go_simp) (ok_in 2 rfl rfl rfl) (ok_in 3 rfl rfl rfl) rfl)
      · exact ob_un (bw_pick true (ok_in 1 rfl rfl rfl) (ok_in 4 rfl rfl rfl) rfl)
      · exact ob_un (bw_move rfl (ok_in 5 rfl rfl rfl))
      · exact bw_on 6 true rfl rfl (bw_move rfl (ok_out rfl rfl))
      · exact bw_on 6 true rfl rfl (bw_move rfl (ok_out rfl rfl))
      · exact bw_on 6 true rfl rfl (bw_call HAL (fun xs w => by go_simp) (fun a w hb hat => by
          have e54 : a.eval (.tmp 54) = u5 := ok_in 7 rfl rfl rfl a w hat
          have e55 : a.eval (.tmp 55) = .slice au xs.length cu := ok_in 8 rfl rfl rfl a w hat
          have e : (#[Operand.tmp 54, Operand.tmp 55].map a.eval) = #[u5, .slice au xs.length cu] := by simp [e54, e55]
          rw [e]
          refine (caBytes_any _ _ xs xs w (RK.out.keep hb) (RX.out.keep hb)).mono ?_
          rintro e w' ⟨rfl, rfl⟩
          exact ⟨_, rfl, by simp, Below.refl _ _⟩))
      · exact ob_un (bw_pick true (ok_in 6 rfl rfl rfl) (ok_in 9 rfl rfl rfl) rfl)
      · exact ob_un (bw_move rfl (ok_in 10 rfl rfl rfl))
      · exact bw_on 11 true rfl rfl (bw_move rfl (ok_out rfl rfl))
      · exact bw_on 11 true rfl rfl (bw_len (fun w => by go_simp) (ok_in 12 rfl rfl rfl) rfl)
      · exact bw_on 11 true rfl rfl (bw_bin (fun w => by go_simp) (ok_in 13 rfl rfl rfl) (ok_const _) rfl)
      · exact ob_un (bw_pick true (ok_in 11 rfl rfl rfl) (ok_in 14 rfl rfl rfl) rfl)
      · exact ob_un (bw_move rfl (ok_in 15 rfl rfl rfl))
      · exact bw_on 16 true rfl rfl (bw_move rfl (ok_out rfl rfl))
      · exact bw_on 16 true rfl rfl (bw_sliceHi (fun w => by go_simp) (ok_in 17 rfl rfl rfl) (ok_const _) rfl)
      · exact bw_on 16 true rfl rfl (bw_load (fun w hb => ldH () w (hb := hb) c0 c1 c2 c3 c4 c5 c6 c7) (ok_out rfl rfl) rfl)
      · exact bw_on 16 true rfl rfl (bw_call HAL (fun xs w => by go_simp) (fun a w hb hat => by
          have e66 : a.eval (.tmp 66) = .agg #[.int .i64 h0, .int .i64 h1, .int .i64 h2, .int .i64 h3, .int .i64 h4, .int .i64 h5, .int .i64 h6, .int .i64 h7] := ok_in 19 rfl rfl rfl a w hat
          have e : (#[Operand.tmp 66].map a.eval) = #[.agg #[.int .i64 h0, .int .i64 h1, .int .i64 h2, .int .i64 h3, .int .i64 h4, .int .i64 h5, .int .i64 h6, .int .i64 h7]] := by simp [e66]
          rw [e]
          refine (headBytes_any h0 h1 h2 h3 h4 h5 h6 h7 w).mono ?_
          rintro e w' ⟨u7, rfl, o7, b7⟩
          rw [HHD.out] at o7
          exact ⟨u7, rfl, o7.rd ND.out, b7⟩))
      · exact bw_on 16 true rfl rfl (bw_call HAL (fun xs w => by go_simp) (fun a w hb hat => by
          have e65 : a.eval (.tmp 65) = .slice ab 11 cb := ok_in 18 rfl rfl rfl a w hat
          have r67 := ok_of 20 rfl rfl rfl hat
          have e : (#[Operand.tmp 65, Operand.tmp 67].map a.eval) = #[.slice ab 11 cb, a.eval (.tmp 67)] := by simp [e65]
          rw [e]
          refine (caBytes_any _ _ HD HD w (RT.out.keep hb) r67).mono ?_
          rintro e w' ⟨rfl, rfl⟩
          exact ⟨_, rfl, by simp, Below.refl _ _⟩))
      · exact ob_un (bw_pick true (ok_in 16 rfl rfl rfl) (ok_in 21 rfl rfl rfl) rfl)
      · exact ob_un (bw_assign rfl (ok_in 22 rfl rfl rfl))
      intro u wz Bz hF
      obtain ⟨-, -, -, -, -, -, -, -, -, -, -, -, -, -, -, -, -, -, -, -, -, -, -, f23, -⟩ := hF
      have hn : u 2 = .bool true := f23
      simp only [outTmps, List.setIfInBounds_toArray, List.set_cons_zero, List.set_cons_succ, hn]
      clear f23 HAL
      go_wp2_with fail
      go_ret
      exact ⟨rfl, B.out.trans (Bz.mono B.out.size)⟩
  · have hl0' : (1048576 : Int) < (len0 : Int) := by omega
    clear k0
    go_enter Tryd.func6, Tryd.ntmps6
    go_wp2
    go_ret
    exact ⟨rfl, Below.refl _ _⟩
theorem own : ownKnob Tryd.prog.godebug = none := by kernel_rfl
theorem laidOut : laidOutB Tryd.prog = true := by kernel_rfl
set_option maxRecDepth 100000 in
theorem lifted (os : Os) (started : os.Started) (H : Type) (enc : TypeId × Value → H) :
    ReturnsInHanded {} Tryd.checked os 6 .any (fun w args => (Rows.fnFrmBackSpec.pre enc Tryd.prog Tryd.f6 Rows.fnFrmBackRow.domain false w args ∧ laidMetH Tryd.prog Rows.fnFrmBackRow.laid w) ∧ sizedMet enc Tryd.prog Tryd.f6 (OpenSpec.ofChange Rows.fnFrmBackSpec) false w args) (Rows.fnFrmBackSpec.post enc Tryd.prog Tryd.f6 false true false false) := by
  refine returnsInHanded_of_change_and (C := Tryd.checked) (X := fun w _ => laidMetH Tryd.prog Rows.fnFrmBackRow.laid w) (fun _ _ _ hh h => h.of_heap hh) own started (by kernel_rfl) Tryd.func6
    (ChangeSpec.witness_at (enc := enc) (C := Tryd.checked) (os := os) (X := fun w _ => laidMetH Tryd.prog Rows.fnFrmBackRow.laid w) false (laidWorld os) #[.slice none 0 0] 8 rfl (by kernel_rfl) (by kernel_rfl) (by kernel_rfl) (by kernel_rfl) (by kernel_rfl) (laidWorld_met os _)) ?_
  intro W base args ds gs before hval0 hW _ _ hL _
  have hval : ∀ (j : Nat) t v, Tryd.f6.params[j]? = some t → args[j]? = some v → Value.okWide Tryd.prog W .any base t v := hval0
  have hW' := hW
  obtain ⟨p, q, hA0, hV, rfl, hfz, hnd⟩ := hW
  have hA : DataW.TrodAll enc Tryd.prog W 0 (fun _ => true) true Tryd.f6.params.toList args.toList ds p := hA0
  rw [Tryd.params6] at hA hval
  obtain ⟨v0, vs0, d0, ds0, p0, q0, hargs, rfl, rfl, h0, r0⟩ := trodAll_cons hA
  obtain ⟨rfl, rfl, rfl⟩ := trodAll_nil r0
  obtain rfl : args = #[v0] := by cases args; simp_all
  obtain ⟨rfl, rfl⟩ := trodVars_none hV
  obtain ⟨a0, len0, cap0, rfl⟩ := okWide_slice Tryd.underlying22 (hval 0 22 v0 rfl rfl)
  have k0 := h0
  have lt0 : ∀ x ∈ p0, x.block < W.heap.size := by obtain ⟨m, hm⟩ := k0; exact DataW.trod_lt m _ _ _ hm
  obtain ⟨z0, w0⟩ : ∃ zs, IsRow .u8 W a0 len0 cap0 zs := by
    obtain ⟨fuel, hf⟩ := h0
    rcases open_ints Tryd.underlying22 Tryd.underlying5 (by kernel_rfl) hf with ⟨hcs, _⟩ | ⟨x, l, c, zs, hcs, _, hl, hm, hz, _, hcell, hwz⟩
    · simp [Value.cells] at hcs
      obtain ⟨rfl, rfl, rfl⟩ := hcs
      exact ⟨[], .inl ⟨rfl, rfl, rfl, rfl⟩⟩
    · simp [Value.cells] at hcs
      obtain ⟨rfl, rfl, rfl⟩ := hcs
      exact ⟨zs, .inr ⟨_, rfl, hl, hm, by simpa using hz, hcell, hwz⟩⟩
  clear hA0 hval0
  refine (walk a0 len0 cap0 z0 W w0 (handle_of_laid hL)).mono fun e W' ⟨he, bel⟩ => ?_
  subst he
  exact ⟨_, rfl, _, _, _, [], _, [], hW', trodAll_mk1 (shut_bool Tryd.underlying4 _), (trodAll_cons_mk (Below.trod laidOut (by kernel_rfl) (of_decide_eq_true (by kernel_rfl)) k0 bel lt0) trodAll_mk0), rfl, bel.frame _, fun h => by cases h⟩

theorem over : Rows.fnFrmBackRow.holds Tryd.pinned (OpenSpec.ofChange Rows.fnFrmBackSpec) :=
  OpenClaim.holds_of_wide 6 Tryd.f6 rfl rfl rfl rfl rfl rfl rfl ⟨rfl, rfl, rfl, rfl, rfl⟩ rfl rfl rfl rfl rfl (by kernel_rfl) Tryd.func6 (by kernel_rfl)
    (of_decide_eq_true (by kernel_rfl)) (by unfold Func.isWrapper; first | (rw [if_pos (by decide +kernel)]; kernel_rfl) | (rw [if_neg (by decide +kernel)]; exact ⟨rfl, rfl⟩))
    (fun os started H enc _ => lifted os started H enc)

end Go.Proofs.YtpfelnkdimbhkaaDoor.fnFrmBack
namespace Go.Proofs.YtpfelnkdimbhkaaDoor
open Go
theorem fnFrmBack_row : Rows.FnFrmBackSaid := fnFrmBack.over
theorem fnFrmBack_holds : Rows.FnFrmBackCardSaid :=
  Claim7.holds_tied_plain_at .later [] [.handle] true Rows.fnFrmBackCard.stood.harness true
    fnFrmBack_row (fun _ h => by cases h) (by kernel_rfl) (fun _ h => by cases h) fnFrmBack_row_tie rfl ⟨rfl, rfl⟩ (by kernel_rfl) rfl
    (fun f fn hf hfn => by
      obtain rfl : f = 6 := Option.some.inj ((show Tryd.prog.funcNamed Rows.fnFrmBackRow.func = some 6 by kernel_rfl).symm.trans hf) |>.symm
      obtain rfl : fn = Tryd.f6 := (Option.some.inj (Tryd.func6.symm.trans hfn)).symm
      exact ⟨by kernel_rfl, fun j t ht => by
        rw [Tryd.params6] at ht
        rcases j with _ | j
        · simp at ht; subst ht; exact (show Tryd.prog.wantsStandIn 22 = false by kernel_rfl)
        · simp at ht⟩)
    (by kernel_rfl)
#print axioms fnFrmBack_holds
end Go.Proofs.YtpfelnkdimbhkaaDoor
