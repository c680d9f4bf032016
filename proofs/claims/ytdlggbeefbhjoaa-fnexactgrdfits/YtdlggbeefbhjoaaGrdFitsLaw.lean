/- GrdFits answers at every argument as the specification does, writes into no argument and keeps nothing of one. No conditions. -/
import Derived.Test.YtdlggbeefbhjoaaGrdFits
import Derived.Test.YtdlggbeefbhjoaaBytesMark2
namespace Go.Proofs.Ytdlggbeefbhjoaa
open Go.ChangeShapes Go.WideShapes Go.ChangeAt Go.RowKit Go.Joins Go.Deep
set_option linter.unusedVariables false
set_option maxRecDepth 4000
set_option maxHeartbeats 4000000 in
theorem grdFits_any (mi ma t lo hi z c : Int) (v : Value) (xs : List Int) (w : World) (hv : Rd w v xs) :
    Calls Try.prog 33 #[.agg #[.int .i64 mi, .int .i64 ma, .int .i64 t, .int .i64 lo, .int .i64 hi, .int .i64 z, .int .i64 c], v] w fun x w' => x = .returned (.bool (fitsB mi ma t lo hi z c xs)) ∧ Below w.heap.size w w' := by
  have HV := hid hv
  obtain ⟨h1, h2, a, cap, rfl, h3⟩ := hv
  clear h1 h3
  cases c0 : ruleB mi ma t lo hi z c
  · have H := hid (fitsB_no1 (xs := xs) c0)
    have HT : Hid (-1 ≤ -1) := hid (by omega)
    go_enter Try.func33, Try.ntmps33
    go_wp2_with ((first | (go_at_call 71; refine (ruleOk_any mi ma t lo hi z c _).mono ?_; rintro e w1 ⟨rfl, hb⟩; have q0 := cell_keep hb (show (w.alloc (.cells #[.int .i64 mi, .int .i64 ma, .int .i64 t, .int .i64 lo, .int .i64 hi, .int .i64 z, .int .i64 c] 46)).cell? ⟨w.heap.size, 0, none⟩ = some (.int .i64 mi) by go_simp); have q1 := cell_keep hb (show (w.alloc (.cells #[.int .i64 mi, .int .i64 ma, .int .i64 t, .int .i64 lo, .int .i64 hi, .int .i64 z, .int .i64 c] 46)).cell? ⟨w.heap.size, 1, none⟩ = some (.int .i64 ma) by go_simp); have q2 := cell_keep hb (show (w.alloc (.cells #[.int .i64 mi, .int .i64 ma, .int .i64 t, .int .i64 lo, .int .i64 hi, .int .i64 z, .int .i64 c] 46)).cell? ⟨w.heap.size, 2, none⟩ = some (.int .i64 t) by go_simp); have q3 := cell_keep hb (show (w.alloc (.cells #[.int .i64 mi, .int .i64 ma, .int .i64 t, .int .i64 lo, .int .i64 hi, .int .i64 z, .int .i64 c] 46)).cell? ⟨w.heap.size, 3, none⟩ = some (.int .i64 lo) by go_simp); have q4 := cell_keep hb (show (w.alloc (.cells #[.int .i64 mi, .int .i64 ma, .int .i64 t, .int .i64 lo, .int .i64 hi, .int .i64 z, .int .i64 c] 46)).cell? ⟨w.heap.size, 4, none⟩ = some (.int .i64 hi) by go_simp); have q5 := cell_keep hb (show (w.alloc (.cells #[.int .i64 mi, .int .i64 ma, .int .i64 t, .int .i64 lo, .int .i64 hi, .int .i64 z, .int .i64 c] 46)).cell? ⟨w.heap.size, 5, none⟩ = some (.int .i64 z) by go_simp); have q6 := cell_keep hb (show (w.alloc (.cells #[.int .i64 mi, .int .i64 ma, .int .i64 t, .int .i64 lo, .int .i64 hi, .int .i64 z, .int .i64 c] 46)).cell? ⟨w.heap.size, 6, none⟩ = some (.int .i64 c) by go_simp); have R1 := hid ((HV.out.keep (below_alloc1 w (.cells #[.int .i64 mi, .int .i64 ma, .int .i64 t, .int .i64 lo, .int .i64 hi, .int .i64 z, .int .i64 c] 46))).keep hb); have B1 := hid ((below_alloc1 w (.cells #[.int .i64 mi, .int .i64 ma, .int .i64 t, .int .i64 lo, .int .i64 hi, .int .i64 z, .int .i64 c] 46)).trans (hb.mono (by simp))); clear hb) | (go_at_call 55; refine (implMsg_any _ xs _ R1.out).mono ?_; rintro e w2 ⟨rfl, rfl⟩) | (go_at_call 69; refine (fits_any mi ma t lo hi z c _ xs _ R1.out (by omega)).mono ?_; rintro e w2 ⟨rfl, hb⟩; have B2 := hid (B1.out.trans (hb.mono B1.out.size)); clear hb)))
    go_ret
    exact ⟨ret_bool H.out.symm, B1.out⟩
  have HT := hid (rule_at c0).1
  cases c8 : decide (xs.length ≤ 8)
  · have H := hid (fitsB_no2 (mi := mi) (ma := ma) (t := t) (lo := lo) (hi := hi) (z := z) (c := c) c8)
    go_enter Try.func33, Try.ntmps33
    go_wp2_with ((first | (go_at_call 71; refine (ruleOk_any mi ma t lo hi z c _).mono ?_; rintro e w1 ⟨rfl, hb⟩; have q0 := cell_keep hb (show (w.alloc (.cells #[.int .i64 mi, .int .i64 ma, .int .i64 t, .int .i64 lo, .int .i64 hi, .int .i64 z, .int .i64 c] 46)).cell? ⟨w.heap.size, 0, none⟩ = some (.int .i64 mi) by go_simp); have q1 := cell_keep hb (show (w.alloc (.cells #[.int .i64 mi, .int .i64 ma, .int .i64 t, .int .i64 lo, .int .i64 hi, .int .i64 z, .int .i64 c] 46)).cell? ⟨w.heap.size, 1, none⟩ = some (.int .i64 ma) by go_simp); have q2 := cell_keep hb (show (w.alloc (.cells #[.int .i64 mi, .int .i64 ma, .int .i64 t, .int .i64 lo, .int .i64 hi, .int .i64 z, .int .i64 c] 46)).cell? ⟨w.heap.size, 2, none⟩ = some (.int .i64 t) by go_simp); have q3 := cell_keep hb (show (w.alloc (.cells #[.int .i64 mi, .int .i64 ma, .int .i64 t, .int .i64 lo, .int .i64 hi, .int .i64 z, .int .i64 c] 46)).cell? ⟨w.heap.size, 3, none⟩ = some (.int .i64 lo) by go_simp); have q4 := cell_keep hb (show (w.alloc (.cells #[.int .i64 mi, .int .i64 ma, .int .i64 t, .int .i64 lo, .int .i64 hi, .int .i64 z, .int .i64 c] 46)).cell? ⟨w.heap.size, 4, none⟩ = some (.int .i64 hi) by go_simp); have q5 := cell_keep hb (show (w.alloc (.cells #[.int .i64 mi, .int .i64 ma, .int .i64 t, .int .i64 lo, .int .i64 hi, .int .i64 z, .int .i64 c] 46)).cell? ⟨w.heap.size, 5, none⟩ = some (.int .i64 z) by go_simp); have q6 := cell_keep hb (show (w.alloc (.cells #[.int .i64 mi, .int .i64 ma, .int .i64 t, .int .i64 lo, .int .i64 hi, .int .i64 z, .int .i64 c] 46)).cell? ⟨w.heap.size, 6, none⟩ = some (.int .i64 c) by go_simp); have R1 := hid ((HV.out.keep (below_alloc1 w (.cells #[.int .i64 mi, .int .i64 ma, .int .i64 t, .int .i64 lo, .int .i64 hi, .int .i64 z, .int .i64 c] 46))).keep hb); have B1 := hid ((below_alloc1 w (.cells #[.int .i64 mi, .int .i64 ma, .int .i64 t, .int .i64 lo, .int .i64 hi, .int .i64 z, .int .i64 c] 46)).trans (hb.mono (by simp))); clear hb) | (go_at_call 55; refine (implMsg_any _ xs _ R1.out).mono ?_; rintro e w2 ⟨rfl, rfl⟩) | (go_at_call 69; refine (fits_any mi ma t lo hi z c _ xs _ R1.out HT.out).mono ?_; rintro e w2 ⟨rfl, hb⟩; have B2 := hid (B1.out.trans (hb.mono B1.out.size)); clear hb)))
    go_ret
    exact ⟨ret_bool H.out.symm, B1.out⟩
  have HY := hid (fitsB_yes c0 c8)
  go_enter Try.func33, Try.ntmps33
  go_wp2_with ((first | (go_at_call 71; refine (ruleOk_any mi ma t lo hi z c _).mono ?_; rintro e w1 ⟨rfl, hb⟩; have q0 := cell_keep hb (show (w.alloc (.cells #[.int .i64 mi, .int .i64 ma, .int .i64 t, .int .i64 lo, .int .i64 hi, .int .i64 z, .int .i64 c] 46)).cell? ⟨w.heap.size, 0, none⟩ = some (.int .i64 mi) by go_simp); have q1 := cell_keep hb (show (w.alloc (.cells #[.int .i64 mi, .int .i64 ma, .int .i64 t, .int .i64 lo, .int .i64 hi, .int .i64 z, .int .i64 c] 46)).cell? ⟨w.heap.size, 1, none⟩ = some (.int .i64 ma) by go_simp); have q2 := cell_keep hb (show (w.alloc (.cells #[.int .i64 mi, .int .i64 ma, .int .i64 t, .int .i64 lo, .int .i64 hi, .int .i64 z, .int .i64 c] 46)).cell? ⟨w.heap.size, 2, none⟩ = some (.int .i64 t) by go_simp); have q3 := cell_keep hb (show (w.alloc (.cells #[.int .i64 mi, .int .i64 ma, .int .i64 t, .int .i64 lo, .int .i64 hi, .int .i64 z, .int .i64 c] 46)).cell? ⟨w.heap.size, 3, none⟩ = some (.int .i64 lo) by go_simp); have q4 := cell_keep hb (show (w.alloc (.cells #[.int .i64 mi, .int .i64 ma, .int .i64 t, .int .i64 lo, .int .i64 hi, .int .i64 z, .int .i64 c] 46)).cell? ⟨w.heap.size, 4, none⟩ = some (.int .i64 hi) by go_simp); have q5 := cell_keep hb (show (w.alloc (.cells #[.int .i64 mi, .int .i64 ma, .int .i64 t, .int .i64 lo, .int .i64 hi, .int .i64 z, .int .i64 c] 46)).cell? ⟨w.heap.size, 5, none⟩ = some (.int .i64 z) by go_simp); have q6 := cell_keep hb (show (w.alloc (.cells #[.int .i64 mi, .int .i64 ma, .int .i64 t, .int .i64 lo, .int .i64 hi, .int .i64 z, .int .i64 c] 46)).cell? ⟨w.heap.size, 6, none⟩ = some (.int .i64 c) by go_simp); have R1 := hid ((HV.out.keep (below_alloc1 w (.cells #[.int .i64 mi, .int .i64 ma, .int .i64 t, .int .i64 lo, .int .i64 hi, .int .i64 z, .int .i64 c] 46))).keep hb); have B1 := hid ((below_alloc1 w (.cells #[.int .i64 mi, .int .i64 ma, .int .i64 t, .int .i64 lo, .int .i64 hi, .int .i64 z, .int .i64 c] 46)).trans (hb.mono (by simp))); clear hb) | (go_at_call 55; refine (implMsg_any _ xs _ R1.out).mono ?_; rintro e w2 ⟨rfl, rfl⟩) | (go_at_call 69; refine (fits_any mi ma t lo hi z c _ xs _ R1.out HT.out).mono ?_; rintro e w2 ⟨rfl, hb⟩; have B2 := hid (B1.out.trans (hb.mono B1.out.size)); clear hb)))
  go_ret
  exact ⟨ret_bool HY.out.symm, B2.out⟩
end Go.Proofs.Ytdlggbeefbhjoaa
namespace Go.Proofs.Ytdlggbeefbhjoaa.fnExactGrdFits
open Go.ChangeShapes Go.WideShapes Go.ChangeAt Go.RowKit Go.Joins Go.Deep
set_option linter.unusedVariables false
set_option maxRecDepth 4000
set_option maxHeartbeats 4000000 in
theorem walk (mi ma t lo hi z c : Int) (a0 : Option Addr) (len0 cap0 : Nat) (z0 : List Int) (w : World) (x0 : (Lit.int .i64 mi).wf = true) (x1 : (Lit.int .i64 ma).wf = true) (x2 : (Lit.int .i64 t).wf = true) (x3 : (Lit.int .i64 lo).wf = true) (x4 : (Lit.int .i64 hi).wf = true) (x5 : (Lit.int .i64 z).wf = true) (x6 : (Lit.int .i64 c).wf = true) (k0 : IsRow .u8 w a0 len0 cap0 z0) :
    Calls Try.prog 14 #[.agg #[.int .i64 mi, .int .i64 ma, .int .i64 t, .int .i64 lo, .int .i64 hi, .int .i64 z, .int .i64 c], .slice a0 len0 cap0] w fun e w' => e = .returned (.bool true) ∧ Below w.heap.size w w' := by
  have m0 := k0.max
  clear x0 x1 x2 x3 x4 x5 x6
  by_cases hl0 : len0 ≤ 1048576
  · skip
    obtain ⟨xs, hx0, r0⟩ := k0.rd hl0
    have R0 := hid r0
    have N0 : xs.length ≤ 2000000 := r0.2.1
    clear hx0 k0 r0
    go_enter Try.func14, Try.ntmps14
    go_wp2_with fail
    refine (toRule_any mi ma t lo hi z c _).mono ?_
    rintro e w1 ⟨rfl, b1⟩
    have q0 := cell_keep b1 (show (w.alloc (.cells #[.int .i64 mi, .int .i64 ma, .int .i64 t, .int .i64 lo, .int .i64 hi, .int .i64 z, .int .i64 c] 58)).cell? ⟨w.heap.size, 0, none⟩ = some (.int .i64 mi) by go_simp); have q1 := cell_keep b1 (show (w.alloc (.cells #[.int .i64 mi, .int .i64 ma, .int .i64 t, .int .i64 lo, .int .i64 hi, .int .i64 z, .int .i64 c] 58)).cell? ⟨w.heap.size, 1, none⟩ = some (.int .i64 ma) by go_simp); have q2 := cell_keep b1 (show (w.alloc (.cells #[.int .i64 mi, .int .i64 ma, .int .i64 t, .int .i64 lo, .int .i64 hi, .int .i64 z, .int .i64 c] 58)).cell? ⟨w.heap.size, 2, none⟩ = some (.int .i64 t) by go_simp); have q3 := cell_keep b1 (show (w.alloc (.cells #[.int .i64 mi, .int .i64 ma, .int .i64 t, .int .i64 lo, .int .i64 hi, .int .i64 z, .int .i64 c] 58)).cell? ⟨w.heap.size, 3, none⟩ = some (.int .i64 lo) by go_simp); have q4 := cell_keep b1 (show (w.alloc (.cells #[.int .i64 mi, .int .i64 ma, .int .i64 t, .int .i64 lo, .int .i64 hi, .int .i64 z, .int .i64 c] 58)).cell? ⟨w.heap.size, 4, none⟩ = some (.int .i64 hi) by go_simp); have q5 := cell_keep b1 (show (w.alloc (.cells #[.int .i64 mi, .int .i64 ma, .int .i64 t, .int .i64 lo, .int .i64 hi, .int .i64 z, .int .i64 c] 58)).cell? ⟨w.heap.size, 5, none⟩ = some (.int .i64 z) by go_simp); have q6 := cell_keep b1 (show (w.alloc (.cells #[.int .i64 mi, .int .i64 ma, .int .i64 t, .int .i64 lo, .int .i64 hi, .int .i64 z, .int .i64 c] 58)).cell? ⟨w.heap.size, 6, none⟩ = some (.int .i64 c) by go_simp)
    have B := hid ((below_alloc1 w (.cells #[.int .i64 mi, .int .i64 ma, .int .i64 t, .int .i64 lo, .int .i64 hi, .int .i64 z, .int .i64 c] 58)).trans (b1.mono (by simp)))
    clear b1
    go_wp2_with fail
    refine (toBytes_any _ xs _ (R0.out.keep B.out)).mono ?_
    rintro e w2 ⟨v2, rfl, o2, b2⟩
    have P2 := hid (o2.rd N0)
    have q0 := cell_keep b2 q0; have q1 := cell_keep b2 q1; have q2 := cell_keep b2 q2; have q3 := cell_keep b2 q3; have q4 := cell_keep b2 q4; have q5 := cell_keep b2 q5; have q6 := cell_keep b2 q6; have B := hid (B.out.trans (b2.mono B.out.size))
    clear o2 b2
    go_wp2_with fail
    refine (specFits_any mi ma t lo hi z c _ xs _ P2.out).mono ?_
    rintro e w3 ⟨rfl, b3⟩
    have q0 := cell_keep b3 q0; have q1 := cell_keep b3 q1; have q2 := cell_keep b3 q2; have q3 := cell_keep b3 q3; have q4 := cell_keep b3 q4; have q5 := cell_keep b3 q5; have q6 := cell_keep b3 q6; have B := hid (B.out.trans (b3.mono B.out.size))
    clear b3
    go_wp2_with fail
    refine (toBytes_any _ xs _ (R0.out.keep B.out)).mono ?_
    rintro e w4 ⟨v4, rfl, o4, b4⟩
    have X4 := hid o4
    have q0 := cell_keep b4 q0; have q1 := cell_keep b4 q1; have q2 := cell_keep b4 q2; have q3 := cell_keep b4 q3; have q4 := cell_keep b4 q4; have q5 := cell_keep b4 q5; have q6 := cell_keep b4 q6; have B := hid (B.out.trans (b4.mono B.out.size))
    clear o4 b4
    go_wp2_with fail
    refine (toRule_any mi ma t lo hi z c _).mono ?_
    rintro e w5 ⟨rfl, b5⟩
    have X4 := hid (X4.out.keep b5)
    have q0 := cell_keep b5 q0; have q1 := cell_keep b5 q1; have q2 := cell_keep b5 q2; have q3 := cell_keep b5 q3; have q4 := cell_keep b5 q4; have q5 := cell_keep b5 q5; have q6 := cell_keep b5 q6; have B := hid (B.out.trans (b5.mono B.out.size))
    clear b5
    go_wp2_with fail
    refine (grdFits_any mi ma t lo hi z c _ xs _ (X4.out.rd N0)).mono ?_
    rintro e w6 ⟨rfl, b6⟩
    have X4 := hid (X4.out.keep b6)
    have q0 := cell_keep b6 q0; have q1 := cell_keep b6 q1; have q2 := cell_keep b6 q2; have q3 := cell_keep b6 q3; have q4 := cell_keep b6 q4; have q5 := cell_keep b6 q5; have q6 := cell_keep b6 q6; have B := hid (B.out.trans (b6.mono B.out.size))
    clear b6
    go_wp2_with fail
    refine (toBytes_any _ xs _ (R0.out.keep B.out)).mono ?_
    rintro e w7 ⟨v7, rfl, o7, b7⟩
    have X4 := hid (X4.out.keep b7)
    have P7 := hid (o7.rd N0)
    have q0 := cell_keep b7 q0; have q1 := cell_keep b7 q1; have q2 := cell_keep b7 q2; have q3 := cell_keep b7 q3; have q4 := cell_keep b7 q4; have q5 := cell_keep b7 q5; have q6 := cell_keep b7 q6; have B := hid (B.out.trans (b7.mono B.out.size))
    clear o7 b7
    go_wp2_with fail
    refine (eqBytes_same _ _ xs _ (X4.out.rd N0) P7.out).mono ?_
    rintro e w8 ⟨rfl, b8⟩
    have q0 := cell_keep b8 q0; have q1 := cell_keep b8 q1; have q2 := cell_keep b8 q2; have q3 := cell_keep b8 q3; have q4 := cell_keep b8 q4; have q5 := cell_keep b8 q5; have q6 := cell_keep b8 q6; have B := hid (B.out.trans (b8.mono B.out.size))
    go_wp2
    go_ret
    exact ⟨rfl, B.out⟩
  · have hl' : (1048576 : Int) < (len0 : Int) := by omega
    clear k0
    go_enter Try.func14, Try.ntmps14
    go_wp2
    go_ret
    exact ⟨rfl, by (repeat' (first | exact Below.refl _ _ | assumption | exact Nat.le_refl _ | (refine Below.alloc ?_ ?_ _) | (refine Below.drew ?_) | (refine Below.setCell ?_ ?_ _) | (refine Below.trans ?_ (Below.mono (by assumption) ?_)) | (simp; done) | (simp; omega) | omega))⟩
theorem own : ownKnob Try.prog.godebug = none := by kernel_rfl
theorem laidOut : laidOutB Try.prog = true := by kernel_rfl
theorem cells58 : Try.prog.cellsOf 58 = 7 := by kernel_rfl
set_option maxRecDepth 100000 in
theorem lifted (os : Os) (started : os.Started) (H : Type) (enc : TypeId × Value → H) :
    ReturnsInHanded {} Try.checked os 14 .any (Rows.fnExactGrdFitsSpec.pre6 enc Try.prog Try.f14 Rows.fnExactGrdFitsRow.domain false) (Rows.fnExactGrdFitsSpec.post enc Try.prog Try.f14 false true false false) := by
  refine returnsInHanded_of_change (C := Try.checked) own started (by kernel_rfl) Try.func14
    (ChangeSpec.witness6 (enc := enc) (C := Try.checked) false ⟨#[], #[.agg #[.int .i64 0, .int .i64 0, .int .i64 0, .int .i64 0, .int .i64 0, .int .i64 0, .int .i64 0], .slice none 0 0], []⟩ 8 (by kernel_rfl) (by kernel_rfl) (by kernel_rfl) (by kernel_rfl)) ?_
  intro W base args ds gs before hval0 hW hcnd _
  have hval : ∀ (j : Nat) t v, Try.f14.params[j]? = some t → args[j]? = some v → Value.okWide Try.prog W .any base t v := hval0
  have hW' := hW
  obtain ⟨p, q, hA0, hV, rfl, hfz, hnd⟩ := hW
  have hA : DataW.TrodAll enc Try.prog W 0 (fun _ => true) true Try.f14.params.toList args.toList ds p := hA0
  rw [Try.params14] at hA hval
  obtain ⟨v0, vs0, d0, ds0, p0, q0, hargs, rfl, rfl, h0, r0⟩ := trodAll_cons hA
  obtain ⟨v1, vs1, d1, ds1, p1, q1, rfl, rfl, rfl, h1, r1⟩ := trodAll_cons r0
  obtain ⟨rfl, rfl, rfl⟩ := trodAll_nil r1
  obtain rfl : args = #[v0, v1] := by cases args; simp_all
  obtain ⟨rfl, rfl⟩ := trodVars_none hV
  have k0 := h0
  have lt0 : ∀ x ∈ p0, x.block < W.heap.size := by obtain ⟨m, hm⟩ := k0; exact DataW.trod_lt m _ _ _ hm
  obtain ⟨as0, hn0, rfl, hw0⟩ := open_aggI Try.underlying58 (by kernel_rfl) Try.underlying3 (by rfl) cells58 (hval 0 58 v0 rfl rfl) h0
  obtain ⟨a0x0, a0x1, a0x2, a0x3, a0x4, a0x5, a0x6, rfl⟩ := list_7 hn0
  have w0x0 := hw0 a0x0 (by simp)
  have w0x1 := hw0 a0x1 (by simp)
  have w0x2 := hw0 a0x2 (by simp)
  have w0x3 := hw0 a0x3 (by simp)
  have w0x4 := hw0 a0x4 (by simp)
  have w0x5 := hw0 a0x5 (by simp)
  have w0x6 := hw0 a0x6 (by simp)
  obtain ⟨a1, len1, cap1, rfl⟩ := okWide_slice Try.underlying22 (hval 1 22 v1 rfl rfl)
  have k1 := h1
  have lt1 : ∀ x ∈ p1, x.block < W.heap.size := by obtain ⟨m, hm⟩ := k1; exact DataW.trod_lt m _ _ _ hm
  obtain ⟨z1, w1⟩ : ∃ zs, IsRow .u8 W a1 len1 cap1 zs := by
    obtain ⟨fuel, hf⟩ := h1
    rcases open_ints Try.underlying22 Try.underlying5 (by kernel_rfl) hf with ⟨hcs, _⟩ | ⟨x, l, c, zs, hcs, _, hl, hm, hz, _, hcell, hwz⟩
    · simp [Value.cells] at hcs
      obtain ⟨rfl, rfl, rfl⟩ := hcs
      exact ⟨[], .inl ⟨rfl, rfl, rfl, rfl⟩⟩
    · simp [Value.cells] at hcs
      obtain ⟨rfl, rfl, rfl⟩ := hcs
      exact ⟨zs, .inr ⟨_, rfl, hl, hm, by simpa using hz, hcell, hwz⟩⟩
  clear hA0 hval0
  refine (walk a0x0 a0x1 a0x2 a0x3 a0x4 a0x5 a0x6 a1 len1 cap1 z1 W w0x0 w0x1 w0x2 w0x3 w0x4 w0x5 w0x6 w1).mono fun e W' ⟨he, bel⟩ => ?_
  subst he
  exact ⟨_, rfl, _, _, _, [], _, [], hW', trodAll_mk1 (shut_bool Try.underlying4 _), (trodAll_cons_mk (Below.trod laidOut (by kernel_rfl) (of_decide_eq_true (by kernel_rfl)) k0 bel lt0) (trodAll_cons_mk (Below.trod laidOut (by kernel_rfl) (of_decide_eq_true (by kernel_rfl)) k1 bel lt1) trodAll_mk0)), rfl, bel.frame _, fun h => by cases h⟩

theorem over : Rows.fnExactGrdFitsRow.holds Try.pinned (OpenSpec.ofChange Rows.fnExactGrdFitsSpec) :=
  OpenClaim.holds_of_wide 14 Try.f14 rfl rfl rfl rfl rfl rfl rfl ⟨rfl, rfl, rfl, rfl, rfl⟩ rfl rfl rfl rfl rfl (by kernel_rfl) Try.func14 (by kernel_rfl)
    (of_decide_eq_true (by kernel_rfl)) (by unfold Func.isWrapper; first | (rw [if_pos (by decide +kernel)]; kernel_rfl) | (rw [if_neg (by decide +kernel)]; exact ⟨rfl, rfl⟩))
    (fun os started H enc _ => lifted os started H enc)

end Go.Proofs.Ytdlggbeefbhjoaa.fnExactGrdFits
namespace Go.Proofs.Ytdlggbeefbhjoaa
theorem fnExactGrdFits_holds : Rows.FnExactGrdFitsSaid := fnExactGrdFits.over
#print axioms fnExactGrdFits_holds
end Go.Proofs.Ytdlggbeefbhjoaa
