/- HrdHear answers at every book and hello as the specification does, field by field, writes into no argument and keeps nothing of one; its answer owns its memory, behind another call too. No conditions. -/
import Derived.Test.YtoahbodaeipcoaaHrdHearS
import Derived.Test.YtoahbodaeipcoaaHrdBk
import Derived.Deep.RegionWith
import Derived.Deep.DeepCutAuto
namespace Go.Proofs.Ytoahbodaeipcoaa.fnExactHrdHear
open Go.ChangeShapes Go.WideShapes Go.ChangeAt Go.RowKit Go.Joins Go.Deep
set_option linter.unusedVariables false
set_option maxRecDepth 4000
theorem hK_le (n : Nat) (xs : List Int) (m : Nat) (ys : List Int) (node boot seq : Int) {w : World} {u v : Value} (h1 : RdI 1 w u n xs) (h2 : RdI 1 w v m ys) : hK n xs m ys node boot seq ≤ 4 := by
  unfold hK
  split
  · rename_i h
    simp only [hOk, Bool.and_eq_true] at h
    have := (book_at (by simpa using h1.1) (by simpa using h2.1) h.1).1
    omega
  · omega
set_option maxHeartbeats 8000000 in
theorem walk (a1 : Option Addr) (n c1 : Nat) (z1 : List Int) (a2 : Option Addr) (m c2 : Nat) (z2 : List Int) (node boot seq : Int) (w : World) (k1 : IsRowI 1 w a1 n c1 z1) (k2 : IsRowI 1 w a2 m c2 z2) (x1 : (Lit.int .i64 node).wf = true) (x2 : (Lit.int .i64 boot).wf = true) (x3 : (Lit.int .i64 seq).wf = true) :
    Calls Try.prog 16 #[.agg #[.slice a1 n c1, .slice a2 m c2], .int .i64 node, .int .i64 boot, .int .i64 seq] w fun e w' => e = .returned (.bool true) ∧ Below w.heap.size w w' := by
  clear x1 x2 x3
  have m1 := k1.max
  have m2 := k2.max
  by_cases hl : n + m ≤ 1048576
  · obtain ⟨xs, r1⟩ := k1.rd (by omega) (by omega)
    obtain ⟨ys, r2⟩ := k2.rd (by omega) (by omega)
    have R1 := hid r1
    have R2 := hid r2
    have PP := hid (below_alloc1 w (.cells #[.slice a1 n c1, .slice a2 m c2] 65))
    have VA := hid (vb_new w [.slice a1 n c1, .slice a2 m c2] 65)
    have d1 : decide ((1048576 : Int) - n - m < 0) = false := by simp; omega
    have e1 : (if (1048576 : Int) - n < 0 then -1 else if (1048576 : Int) - n - m < 0 then -1 else (1048576 : Int) - n - m) = 1048576 - n - m := by rw [if_neg (by omega), if_neg (by omega)]
    have E1 := hid e1
    clear k1 k2 r1 r2 e1
    go_enter Try.func16, Try.ntmps16
    go_wp2_with fail
    refine (szBook_any a1 a2 n m c1 c2 1048576 _ (by omega) (by omega) (by omega) (by omega)).mono ?_
    rw [E1.out]
    rintro e w1 ⟨rfl, b1⟩
    have y1 : w.heap.size + 1 ≤ w1.heap.size := by have := b1.size; simpa using this
    have VA := hid (VA.out.keep b1)
    have PP := hid (PP.out.trans (b1.mono PP.out.size))
    clear b1
    obtain ⟨q0a, q0b⟩ := vb2 VA.out
    go_wp2_with fail
    clear q0a q0b
    refine (toBook_any _ _ n m xs ys _ (R1.out.keep PP.out) (R2.out.keep PP.out)).mono ?_
    rintro e w2 ⟨u2, v2, rfl, p2, t2, _, b2⟩
    have y2 := b2.size
    have X1 := hid (p2.rd (by omega))
    have X2 := hid (t2.rd (by omega))
    clear p2 t2
    have VA := hid (VA.out.keep b2)
    have PP := hid (PP.out.trans (b2.mono PP.out.size))
    clear b2
    go_wp2_with fail
    refine (specHear_any _ _ n m xs ys node boot seq _ X1.out X2.out).mono ?_
    rintro e w3 ⟨u3, v3, rfl, p3, t3, d3, b3⟩
    clear X1 X2
    skip
    obtain ⟨c, hc⟩ : ∃ c, hC n xs m ys node boot seq = c := ⟨_, rfl⟩
    obtain ⟨k, hk⟩ : ∃ k, hK n xs m ys node boot seq = k := ⟨_, rfl⟩
    obtain ⟨us, hus⟩ : ∃ us, hX n xs m ys node boot seq = us := ⟨_, rfl⟩
    obtain ⟨vs, hvs⟩ : ∃ vs, hY n xs m ys node boot seq = vs := ⟨_, rfl⟩
    rw [hk, hus] at p3
    rw [hk, hvs] at t3
    rw [hc]
    have KL := hid (show k ≤ 4 by rw [← hk]; exact hK_le _ _ _ _ _ _ _ R1.out R2.out)
    have HC := hid hc
    have HK := hid hk
    have HU := hid hus
    have HV := hid hvs
    clear hc hk hus hvs
    have k4 := KL.out
    obtain ⟨a3, c3, rfl, _⟩ := ownI_form p3
    obtain ⟨e3, f3, rfl, _⟩ := ownI_form t3
    have S3 := hid (bk_mk p3 t3 d3)
    have y3 := b3.size
    clear p3 t3 d3
    have VA := hid (VA.out.keep b3)
    have PP := hid (PP.out.trans (b3.mono PP.out.size))
    clear b3
    have VA := hid (VA.out.keep (below_alloc1 w3 (.cells #[.slice a3 k c3, .slice e3 k f3] 44)))
    have S3 := hid (S3.out.keep (below_alloc1 w3 (.cells #[.slice a3 k c3, .slice e3 k f3] 44)))
    have PP := hid (PP.out.alloc PP.out.size (.cells #[.slice a3 k c3, .slice e3 k f3] 44))
    have V3 := hid (vb_new w3 [.slice a3 k c3, .slice e3 k f3] 44)
    have z3 : (w3.alloc (.cells #[.slice a3 k c3, .slice e3 k f3] 44)).heap.size = w3.heap.size + 1 := by simp
    have Z3 := hid z3
    clear z3
    obtain ⟨q0a, q0b⟩ := vb2 VA.out
    go_wp2_with fail
    clear q0a q0b
    refine (toBook_any _ _ n m xs ys _ (R1.out.keep PP.out) (R2.out.keep PP.out)).mono ?_
    rintro e w4 ⟨u4, v4, rfl, p4, t4, d4, b4⟩
    obtain ⟨a4, c4, rfl, _⟩ := ownI_form p4
    obtain ⟨e4, f4, rfl, _⟩ := ownI_form t4
    have S4 := hid (bk_mk p4 t4 d4)
    have y4 := b4.size
    rw [Z3.out] at y4 S4
    clear p4 t4 d4
    have VA := hid (VA.out.keep b4)
    have V3 := hid (V3.out.keep b4)
    have S3 := hid (S3.out.keep b4)
    have PP := hid (PP.out.trans (b4.mono PP.out.size))
    clear b4
    have VA := hid (VA.out.keep (below_alloc1 w4 (.cells #[.slice a4 n c4, .slice e4 m f4] 44)))
    have V3 := hid (V3.out.keep (below_alloc1 w4 (.cells #[.slice a4 n c4, .slice e4 m f4] 44)))
    have S3 := hid (S3.out.keep (below_alloc1 w4 (.cells #[.slice a4 n c4, .slice e4 m f4] 44)))
    have S4 := hid (S4.out.keep (below_alloc1 w4 (.cells #[.slice a4 n c4, .slice e4 m f4] 44)))
    have PP := hid (PP.out.alloc PP.out.size (.cells #[.slice a4 n c4, .slice e4 m f4] 44))
    have V4 := hid (vb_new w4 [.slice a4 n c4, .slice e4 m f4] 44)
    have z4 : (w4.alloc (.cells #[.slice a4 n c4, .slice e4 m f4] 44)).heap.size = w4.heap.size + 1 := by simp
    have Z4 := hid z4
    clear z4
    go_wp2_with fail
    refine (hrdHear_any _ _ n m xs ys node boot seq _ (S4.out.rd1 (by omega)) (S4.out.rd2 (by omega))).mono ?_
    rw [HC.out, HK.out, HU.out, HV.out]
    rintro e w5 ⟨u5, v5, rfl, p5, t5, d5, b5⟩
    obtain ⟨a5, c5, rfl, _⟩ := ownI_form p5
    obtain ⟨e5, f5, rfl, _⟩ := ownI_form t5
    have S5 := hid (bk_mk p5 t5 d5)
    have y5 := b5.size
    rw [Z4.out] at y5 S5
    clear p5 t5 d5
    have VA := hid (VA.out.keep b5)
    have V3 := hid (V3.out.keep b5)
    have V4 := hid (V4.out.keep b5)
    have S3 := hid (S3.out.keep b5)
    have S4 := hid (S4.out.keep b5)
    have PP := hid (PP.out.trans (b5.mono PP.out.size))
    clear b5
    have VA := hid (VA.out.keep (below_alloc1 w5 (.cells #[.slice a5 k c5, .slice e5 k f5] 44)))
    have V3 := hid (V3.out.keep (below_alloc1 w5 (.cells #[.slice a5 k c5, .slice e5 k f5] 44)))
    have V4 := hid (V4.out.keep (below_alloc1 w5 (.cells #[.slice a5 k c5, .slice e5 k f5] 44)))
    have S3 := hid (S3.out.keep (below_alloc1 w5 (.cells #[.slice a5 k c5, .slice e5 k f5] 44)))
    have S4 := hid (S4.out.keep (below_alloc1 w5 (.cells #[.slice a5 k c5, .slice e5 k f5] 44)))
    have S5 := hid (S5.out.keep (below_alloc1 w5 (.cells #[.slice a5 k c5, .slice e5 k f5] 44)))
    have PP := hid (PP.out.alloc PP.out.size (.cells #[.slice a5 k c5, .slice e5 k f5] 44))
    have V5 := hid (vb_new w5 [.slice a5 k c5, .slice e5 k f5] 44)
    obtain ⟨q0a, q0b⟩ := vb2 V5.out
    obtain ⟨q1a, q1b⟩ := vb2 V3.out
    go_wp2_with fail
    clear q0a q0b q1a q1b
    refine (eqBook_same _ _ _ _ k k _ _ _ (S5.out.rd1 (by omega)) (S5.out.rd2 (by omega)) (S3.out.rd1 (by omega)) (S3.out.rd2 (by omega))).mono ?_
    rintro e w6 ⟨rfl, b6⟩
    have VA := hid (VA.out.keep b6)
    have V3 := hid (V3.out.keep b6)
    have V4 := hid (V4.out.keep b6)
    have V5 := hid (V5.out.keep b6)
    have S3 := hid (S3.out.keep b6)
    have S4 := hid (S4.out.keep b6)
    have S5 := hid (S5.out.keep b6)
    have PP := hid (PP.out.trans (b6.mono PP.out.size))
    clear b6
    have VA := hid (VA.out.keep (Below.refl _ w6).drew)
    have V3 := hid (V3.out.keep (Below.refl _ w6).drew)
    have V4 := hid (V4.out.keep (Below.refl _ w6).drew)
    have V5 := hid (V5.out.keep (Below.refl _ w6).drew)
    have S3 := hid (S3.out.keep (Below.refl _ w6).drew)
    have S4 := hid (S4.out.keep (Below.refl _ w6).drew)
    have S5 := hid (S5.out.keep (Below.refl _ w6).drew)
    have PP := hid PP.out.drew
    obtain ⟨q0a, q0b⟩ := vb2 VA.out
    obtain ⟨q1a, q1b⟩ := vb2 V4.out
    go_upto_region 10 with fail
    go_cut [57] (fun t wx => t = .bool false ∧ Below w6.drew.heap.size w6.drew wx)
    case first =>
      have VA0 := VA
      go_region_with ((first | (go_at_call 50; refine (toBook_any _ _ n m xs ys _ (R1.out.keep PP.out) (R2.out.keep PP.out)).mono ?_; rintro e w7 ⟨u7, v7, rfl, p7, t7, _, b7⟩; have P7 := hid (p7.rd (by omega)); have T7 := hid (t7.rd (by omega)); have Y7 := hid (S4.out.keep b7); obtain ⟨q1a, q1b⟩ := vb2 (V4.out.keep b7); have B7 := hid b7) | (go_at_call 45; refine (eqBook_same _ _ _ _ n m xs ys _ (Y7.out.rd1 (by omega)) (Y7.out.rd2 (by omega)) P7.out T7.out).mono ?_; rintro e w8 ⟨rfl, b8⟩; have B8 := hid (B7.out.trans (b8.mono B7.out.size)))))
      all_goals
        go_wp2_with fail
        go_meet
        case rel => exact ⟨rfl, B8.out⟩
    case rest =>
      obtain ⟨rfl, bx⟩ := hcut
      have VA := hid (VA.out.keep bx)
      have V3 := hid (V3.out.keep bx)
      have V4 := hid (V4.out.keep bx)
      have V5 := hid (V5.out.keep bx)
      have S3 := hid (S3.out.keep bx)
      have S4 := hid (S4.out.keep bx)
      have S5 := hid (S5.out.keep bx)
      have PP := hid (PP.out.trans (bx.mono PP.out.size))
      clear bx
      obtain ⟨q0a, q0b⟩ := vb2 V4.out
      go_wp2_with fail
      clear q0a q0b
      refine (markBook_any 1 _ _ n m _ _ _ _ S4.out.1 S4.out.2.1 S4.out.2.2.1 (by omega) (by omega) (by omega) (by omega)).mono ?_
      rintro e w9 ⟨rfl, m1, m2, cg⟩
      have SS := hid S4.out.2.2.2
      have S4 := hid (S4.out.remark m1 m2)
      clear m1 m2
      have VA := hid (VA.out.offR cg SS.out (by omega))
      have V3 := hid (V3.out.offR cg SS.out (by omega))
      have V4 := hid (V4.out.offR cg SS.out (by omega))
      have V5 := hid (V5.out.offR cg SS.out (by omega))
      have S3 := hid (S3.out.off cg SS.out (by omega))
      have S5 := hid (S5.out.off cg SS.out (by omega))
      have PP := hid (below_off PP.out cg SS.out (by omega) PP.out.size)
      clear cg SS
      obtain ⟨q0a, q0b⟩ := vb2 V5.out
      obtain ⟨q1a, q1b⟩ := vb2 V3.out
      have dk : decide ((1 : Int) + n + m < 0) = false := by simp; omega
      go_wp2_with fail
      clear q0a q0b q1a q1b
      clear dk
      refine (eqBook_same _ _ _ _ k k _ _ _ (S5.out.rd1 (by omega)) (S5.out.rd2 (by omega)) (S3.out.rd1 (by omega)) (S3.out.rd2 (by omega))).mono ?_
      rintro e w10 ⟨rfl, b10⟩
      have VA := hid (VA.out.keep b10)
      have V3 := hid (V3.out.keep b10)
      have V4 := hid (V4.out.keep b10)
      have V5 := hid (V5.out.keep b10)
      have S3 := hid (S3.out.keep b10)
      have S4 := hid (S4.out.keep b10)
      have S5 := hid (S5.out.keep b10)
      have PP := hid (PP.out.trans (b10.mono PP.out.size))
      clear b10
      obtain ⟨q0a, q0b⟩ := vb2 V5.out
      go_wp2_with fail
      clear q0a q0b
      refine (markBook_any 1 _ _ k k _ _ _ _ S5.out.1 S5.out.2.1 S5.out.2.2.1 (by omega) (by omega) (by omega) (by omega)).mono ?_
      rintro e w11 ⟨rfl, m1, m2, cg⟩
      have SS := hid S5.out.2.2.2
      have S5 := hid (S5.out.remark m1 m2)
      clear m1 m2
      have VA := hid (VA.out.offR cg SS.out (by omega))
      have V3 := hid (V3.out.offR cg SS.out (by omega))
      have V4 := hid (V4.out.offR cg SS.out (by omega))
      have V5 := hid (V5.out.offR cg SS.out (by omega))
      have S3 := hid (S3.out.off cg SS.out (by omega))
      have S4 := hid (S4.out.off cg SS.out (by omega))
      have PP := hid (below_off PP.out cg SS.out (by omega) PP.out.size)
      clear cg SS
      obtain ⟨q0a, q0b⟩ := vb2 V5.out
      go_wp2_with fail
      clear q0a q0b
      refine (heldBook_any 1 _ _ k k _ (S5.out.rd1 (by omega)) (S5.out.rd2 (by omega)) (by omega) (by omega)).mono ?_
      rintro e w12 ⟨rfl, b12⟩
      have VA := hid (VA.out.keep b12)
      have V3 := hid (V3.out.keep b12)
      have V4 := hid (V4.out.keep b12)
      have V5 := hid (V5.out.keep b12)
      have S3 := hid (S3.out.keep b12)
      have S4 := hid (S4.out.keep b12)
      have S5 := hid (S5.out.keep b12)
      have PP := hid (PP.out.trans (b12.mono PP.out.size))
      clear b12
      obtain ⟨q0a, q0b⟩ := vb2 VA.out
      have dk : decide ((1 : Int) + k + k < 0) = false := by simp; omega
      go_wp2_with fail
      clear q0a q0b
      refine (toBook_any _ _ n m xs ys _ (R1.out.keep PP.out) (R2.out.keep PP.out)).mono ?_
      rintro e w13 ⟨u13, v13, rfl, p13, t13, _, b13⟩
      have X1 := hid (p13.rd (by omega))
      have X2 := hid (t13.rd (by omega))
      clear p13 t13
      have VA := hid (VA.out.keep b13)
      have V3 := hid (V3.out.keep b13)
      have V4 := hid (V4.out.keep b13)
      have V5 := hid (V5.out.keep b13)
      have S3 := hid (S3.out.keep b13)
      have S4 := hid (S4.out.keep b13)
      have S5 := hid (S5.out.keep b13)
      have PP := hid (PP.out.trans (b13.mono PP.out.size))
      clear b13
      go_wp2_with fail
      refine (hrdHear_any _ _ n m xs ys node boot seq _ X1.out X2.out).mono ?_
      rw [HC.out, HK.out, HU.out, HV.out]
      rintro e w14 ⟨u14, v14, rfl, p14, t14, _, b14⟩
      obtain ⟨a14, c14, rfl, _⟩ := ownI_form p14
      obtain ⟨e14, f14, rfl, _⟩ := ownI_form t14
      have X1 := hid ((p14.keep (below_alloc1 w14 (.cells #[.slice a14 k c14, .slice e14 k f14] 44))).rd (by omega))
      have X2 := hid ((t14.keep (below_alloc1 w14 (.cells #[.slice a14 k c14, .slice e14 k f14] 44))).rd (by omega))
      clear p14 t14
      have VA := hid (VA.out.keep b14)
      have V3 := hid (V3.out.keep b14)
      have V4 := hid (V4.out.keep b14)
      have V5 := hid (V5.out.keep b14)
      have S3 := hid (S3.out.keep b14)
      have S4 := hid (S4.out.keep b14)
      have S5 := hid (S5.out.keep b14)
      have PP := hid (PP.out.trans (b14.mono PP.out.size))
      clear b14
      have VA := hid (VA.out.keep (below_alloc1 w14 (.cells #[.slice a14 k c14, .slice e14 k f14] 44)))
      have V3 := hid (V3.out.keep (below_alloc1 w14 (.cells #[.slice a14 k c14, .slice e14 k f14] 44)))
      have V4 := hid (V4.out.keep (below_alloc1 w14 (.cells #[.slice a14 k c14, .slice e14 k f14] 44)))
      have V5 := hid (V5.out.keep (below_alloc1 w14 (.cells #[.slice a14 k c14, .slice e14 k f14] 44)))
      have S3 := hid (S3.out.keep (below_alloc1 w14 (.cells #[.slice a14 k c14, .slice e14 k f14] 44)))
      have S4 := hid (S4.out.keep (below_alloc1 w14 (.cells #[.slice a14 k c14, .slice e14 k f14] 44)))
      have S5 := hid (S5.out.keep (below_alloc1 w14 (.cells #[.slice a14 k c14, .slice e14 k f14] 44)))
      have PP := hid (PP.out.alloc PP.out.size (.cells #[.slice a14 k c14, .slice e14 k f14] 44))
      have V14 := hid (vb_new w14 [.slice a14 k c14, .slice e14 k f14] 44)
      obtain ⟨q0a, q0b⟩ := vb2 V14.out
      obtain ⟨q1a, q1b⟩ := vb2 V3.out
      go_wp2_with fail
      clear q0a q0b q1a q1b
      refine (eqBook_same _ _ _ _ k k _ _ _ X1.out X2.out (S3.out.rd1 (by omega)) (S3.out.rd2 (by omega))).mono ?_
      rintro e w15 ⟨rfl, b15⟩
      have VA := hid (VA.out.keep b15)
      have V3 := hid (V3.out.keep b15)
      have V4 := hid (V4.out.keep b15)
      have V5 := hid (V5.out.keep b15)
      have V14 := hid (V14.out.keep b15)
      have S3 := hid (S3.out.keep b15)
      have S4 := hid (S4.out.keep b15)
      have S5 := hid (S5.out.keep b15)
      have PP := hid (PP.out.trans (b15.mono PP.out.size))
      clear b15
      obtain ⟨q0a, q0b⟩ := vb2 V5.out
      go_wp2_with fail
      clear q0a q0b
      refine (heldBook_any 1 _ _ k k _ (S5.out.rd1 (by omega)) (S5.out.rd2 (by omega)) (by omega) (by omega)).mono ?_
      rintro e w16 ⟨rfl, b16⟩
      have VA := hid (VA.out.keep b16)
      have V3 := hid (V3.out.keep b16)
      have V4 := hid (V4.out.keep b16)
      have V5 := hid (V5.out.keep b16)
      have V14 := hid (V14.out.keep b16)
      have S3 := hid (S3.out.keep b16)
      have S4 := hid (S4.out.keep b16)
      have S5 := hid (S5.out.keep b16)
      have PP := hid (PP.out.trans (b16.mono PP.out.size))
      clear b16
      go_wp2
      go_ret
      exact ⟨rfl, PP.out⟩
  · have E1 : Hid ((if (1048576 : Int) - n < 0 then -1 else if (1048576 : Int) - n - m < 0 then -1 else (1048576 : Int) - n - m) = -1) := hid (by
      by_cases h : (1048576 : Int) - n < 0
      · rw [if_pos h]
      · rw [if_neg h, if_pos (by omega)])
    clear k1 k2
    go_enter Try.func16, Try.ntmps16
    go_wp2_with fail
    refine (szBook_any a1 a2 n m c1 c2 1048576 _ (by omega) (by omega) (by omega) (by omega)).mono ?_
    rw [E1.out]
    rintro e w1 ⟨rfl, b1⟩
    have B := hid ((below_alloc1 w (.cells #[.slice a1 n c1, .slice a2 m c2] 65)).trans (b1.mono (by simp)))
    clear b1
    go_wp2
    go_ret
    exact ⟨rfl, B.out⟩
theorem own : ownKnob Try.prog.godebug = none := by kernel_rfl
theorem laidOut : laidOutB Try.prog = true := by kernel_rfl
theorem cells65 : Try.prog.cellsOf 65 = 2 := by kernel_rfl
set_option maxRecDepth 100000 in
theorem lifted (os : Os) (started : os.Started) (H : Type) (enc : TypeId × Value → H) :
    ReturnsInHanded {} Try.checked os 16 .any (Rows.fnExactHrdHearSpec.pre6 enc Try.prog Try.f16 Rows.fnExactHrdHearRow.domain false) (Rows.fnExactHrdHearSpec.post enc Try.prog Try.f16 false true false false) := by
  refine returnsInHanded_of_change (C := Try.checked) own started (by kernel_rfl) Try.func16
    (ChangeSpec.witness6 (enc := enc) (C := Try.checked) false ⟨#[], #[.agg #[.slice none 0 0, .slice none 0 0], .int .i64 0, .int .i64 0, .int .i64 0], []⟩ 8 (by kernel_rfl) (by kernel_rfl) (by kernel_rfl) (by kernel_rfl)) ?_
  intro W base args ds gs before hval0 hW hcnd _
  have hval : ∀ (j : Nat) t v, Try.f16.params[j]? = some t → args[j]? = some v → Value.okWide Try.prog W .any base t v := hval0
  have hW' := hW
  obtain ⟨p, q, hA0, hV, rfl, hfz, hnd⟩ := hW
  have hA : DataW.TrodAll enc Try.prog W 0 (fun _ => true) true Try.f16.params.toList args.toList ds p := hA0
  rw [Try.params16] at hA hval
  obtain ⟨v0, vs0, d0, ds0, p0, q0, hargs, rfl, rfl, h0, r0⟩ := trodAll_cons hA
  obtain ⟨v1, vs1, d1, ds1, p1, q1, rfl, rfl, rfl, h1, r1⟩ := trodAll_cons r0
  obtain ⟨v2, vs2, d2, ds2, p2, q2, rfl, rfl, rfl, h2, r2⟩ := trodAll_cons r1
  obtain ⟨v3, vs3, d3, ds3, p3, q3, rfl, rfl, rfl, h3, r3⟩ := trodAll_cons r2
  obtain ⟨rfl, rfl, rfl⟩ := trodAll_nil r3
  obtain rfl : args = #[v0, v1, v2, v3] := by cases args; simp_all
  obtain ⟨rfl, rfl⟩ := trodVars_none hV
  have k0 := h0
  have lt0 : ∀ x ∈ p0, x.block < W.heap.size := by obtain ⟨m, hm⟩ := k0; exact DataW.trod_lt m _ _ _ hm
  obtain ⟨c0x0, c0x1, y0x0, y0x1, m0, rfl, rfl, rfl, h0y0, h0y1⟩ := open_agg2 Try.underlying65 (by kernel_rfl) cells65 (hval 0 65 v0 rfl rfl) h0
  obtain ⟨ra0, rl0, rc0, rz0, rfl, rk0⟩ := open_intsI Try.underlying42 Try.underlying3 (by kernel_rfl) h0y0
  obtain ⟨ma0, ml0, mc0, mz0, rfl, mk0⟩ := open_intsI Try.underlying42 Try.underlying3 (by kernel_rfl) h0y1
  obtain ⟨a1, rfl, rfl, rfl, w1⟩ := open_int Try.underlying3 (hval 1 3 v1 rfl rfl) h1
  obtain ⟨a2, rfl, rfl, rfl, w2⟩ := open_int Try.underlying3 (hval 2 3 v2 rfl rfl) h2
  obtain ⟨a3, rfl, rfl, rfl, w3⟩ := open_int Try.underlying3 (hval 3 3 v3 rfl rfl) h3
  clear hA0 hval0
  refine (walk ra0 rl0 rc0 rz0 ma0 ml0 mc0 mz0 a1 a2 a3 W rk0 mk0 w1 w2 w3).mono fun e W' ⟨he, bel⟩ => ?_
  subst he
  exact ⟨_, rfl, _, _, _, [], _, [], hW', trodAll_mk1 (shut_bool Try.underlying4 _), (trodAll_cons_mk (Below.trod laidOut (by kernel_rfl) (of_decide_eq_true (by kernel_rfl)) k0 bel lt0) (trodAll_cons_mk (shut_int Try.underlying3 w1) (trodAll_cons_mk (shut_int Try.underlying3 w2) (trodAll_cons_mk (shut_int Try.underlying3 w3) trodAll_mk0)))), rfl, bel.frame _, fun h => by cases h⟩

theorem over : Rows.fnExactHrdHearRow.holds Try.pinned (OpenSpec.ofChange Rows.fnExactHrdHearSpec) :=
  OpenClaim.holds_of_wide 16 Try.f16 rfl rfl rfl rfl rfl rfl rfl ⟨rfl, rfl, rfl, rfl, rfl⟩ rfl rfl rfl rfl rfl (by kernel_rfl) Try.func16 (by kernel_rfl)
    (of_decide_eq_true (by kernel_rfl)) (by unfold Func.isWrapper; first | (rw [if_pos (by decide +kernel)]; kernel_rfl) | (rw [if_neg (by decide +kernel)]; exact ⟨rfl, rfl⟩))
    (fun os started H enc _ => lifted os started H enc)

end Go.Proofs.Ytoahbodaeipcoaa.fnExactHrdHear
namespace Go.Proofs.Ytoahbodaeipcoaa
theorem fnExactHrdHear_holds : Rows.FnExactHrdHearSaid := fnExactHrdHear.over
#print axioms fnExactHrdHear_holds
end Go.Proofs.Ytoahbodaeipcoaa
