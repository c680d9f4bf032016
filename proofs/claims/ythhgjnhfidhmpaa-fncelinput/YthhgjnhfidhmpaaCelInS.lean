/- CelInput: the contract of the specification's. Conditions: the lists read. -/
import Derived.Test.YthhgjnhfidhmpaaCelL14
namespace Go.Proofs.Ythhgjnhfidhmpaa
open Go.ChangeShapes Go.WideShapes Go.ChangeAt Go.RowKit Go.Joins Go.Deep
set_option linter.unusedVariables false
set_option linter.unusedSimpArgs false
set_option maxRecDepth 4000
theorem resSCelIn {W : World} {b : Nat} {y0 y1 y2 y3 y4 z : Value} (tmps : Array Value) (ht : tmps.getD 4 undef = .pointer (some ⟨b, 0, none⟩)) (h : VB W b [y0, y1, y2, y3, y4]) (h5 : tmps.getD 5 undef = z) :
    (results Try.f10 tmps).run Try.prog W = .ok (.tuple #[.agg #[y0, y1, y2, y3, y4], z]) W := by
  have hl := run_loadVar_mid (P := Try.prog) W b 0 27 [y0, y1, y2, y3, y4] _ (fun j v hj => by
    have hj' : j < 5 := by
      rcases Nat.lt_or_ge j 5 with h' | h'
      · exact h'
      · rw [List.getElem?_eq_none (by simpa using h')] at hj; cases hj
    rw [Nat.zero_add, h.1 j (by simpa using hj'), List.getD_eq_getElem?_getD, hj]
    rfl) Try.underlying27 rfl szCel
  rw [results_cell_tmp' Try.results10, ht, run_asAddr, h5]
  simp only [Result.andThen, hl]
set_option maxHeartbeats 4000000 in
theorem specCelIn_any (pc ht n : Int) (u v i : Value) (nr nm : Nat) (xs ys bs : List Int) (w : World) (hu : RdI 1 w u nr xs) (hv : RdI 1 w v nm ys) (hi : Rd w i bs) :
    Calls Try.prog 10 #[.agg #[.int .i64 pc, u, v, .int .i64 ht, i], .int .i64 n] w fun e w' => CelInPost (celB pc nr xs nm ys ht bs && inB n 0 255) pc ht xs ys bs n w e w' := by
  have RU := hid hu
  have RV := hid hv
  have RI := hid hi
  obtain ⟨_, _, a1, c1, rfl, _⟩ := hu
  obtain ⟨_, _, a2, c2, rfl, _⟩ := hv
  obtain ⟨_, _, a3, c3, rfl, _⟩ := hi
  obtain ⟨nb, hnb⟩ : ∃ nb, bs.length = nb := ⟨_, rfl⟩
  have HN := hid hnb
  rw [hnb] at RI ⊢
  clear hnb
  have B0 := hid (((Below.refl w.heap.size w).alloc (Nat.le_refl _) (.cells #[.int .i64 pc, .slice a1 nr c1, .slice a2 nm c2, .int .i64 ht, .slice a3 nb c3] 27)).alloc (by simp) (.cells #[.int .i64 0, .slice none 0 0, .slice none 0 0, .int .i64 0, .slice none 0 0] 27))
  have V1 := hid ((vb_new w [.int .i64 pc, .slice a1 nr c1, .slice a2 nm c2, .int .i64 ht, .slice a3 nb c3] 27).keep (below_alloc1 _ (.cells #[.int .i64 0, .slice none 0 0, .slice none 0 0, .int .i64 0, .slice none 0 0] 27)))
  have V2 := hid (show VB ((w.alloc (.cells #[.int .i64 pc, .slice a1 nr c1, .slice a2 nm c2, .int .i64 ht, .slice a3 nb c3] 27)).alloc (.cells #[.int .i64 0, .slice none 0 0, .slice none 0 0, .int .i64 0, .slice none 0 0] 27)) (w.heap.size + 1) [.int .i64 0, .slice none 0 0, .slice none 0 0, .int .i64 0, .slice none 0 0] from by have := vb_new (w.alloc (.cells #[.int .i64 pc, .slice a1 nr c1, .slice a2 nm c2, .int .i64 ht, .slice a3 nb c3] 27)) [.int .i64 0, .slice none 0 0, .slice none 0 0, .int .i64 0, .slice none 0 0] 27; simpa using this)
  have z2 : ((w.alloc (.cells #[.int .i64 pc, .slice a1 nr c1, .slice a2 nm c2, .int .i64 ht, .slice a3 nb c3] 27)).alloc (.cells #[.int .i64 0, .slice none 0 0, .slice none 0 0, .int .i64 0, .slice none 0 0] 27)).heap.size = w.heap.size + 2 := by simp
  have Z2 := hid z2
  clear z2
  obtain ⟨q0, q1, q2, q3, q4⟩ := vb5 V1.out
  go_enter Try.func10, Try.ntmps10
  go_wp2_with fail
  clear q0 q1 q2 q3 q4
  refine (specCelOk_any pc ht _ _ _ nr nm xs ys bs _ (RU.out.keep B0.out) (RV.out.keep B0.out) (RI.out.keep B0.out)).mono ?_
  rintro e w3 ⟨rfl, b3⟩
  have V1 := hid (V1.out.keep b3)
  have V2 := hid (V2.out.keep b3)
  have B3 := hid (B0.out.trans (b3.mono B0.out.size))
  have z3 := b3.size
  rw [Z2.out] at z3
  have Z3 := hid z3
  clear b3 z3 B0 Z2
  cases c0 : celB pc nr xs nm ys ht bs
  · have CG := hid (vbchg5 (S := fun j => j = w.heap.size + 1) (w := w3) (b := w.heap.size + 1) (.int .i64 0) (.slice none 0 0) (.slice none 0 0) (.int .i64 0) (.slice none 0 0) rfl)
    have T := hid (vbset5 (.int .i64 0) (.slice none 0 0) (.slice none 0 0) (.int .i64 0) (.slice none 0 0) V2.out)
    have PZ := hid (below_chg B3.out CG.out (by have := B3.out.size; omega) (fun j hj => by have hj : j = w.heap.size + 1 := hj; omega))
    obtain ⟨q0, q1, q2, q3, q4⟩ := vb5 V1.out
    obtain ⟨p0, p1, p2, p3, p4⟩ := vb5 V2.out
    have fr := V2.out.2.1
    go_wp2_with fail
    refine bodyPost_ret (resSCelIn _ rfl T.out rfl) rfl ?_
    unfold CelInPost
    simp only [c0, Bool.false_and, Bool.and_false, Bool.false_eq_true, if_false]
    exact ⟨_, _, _, rfl, cl_nil _ _, PZ.out⟩
  cases c1 : inB n 0 255
  · have CG := hid (vbchg5 (S := fun j => j = w.heap.size + 1) (w := w3) (b := w.heap.size + 1) (.int .i64 0) (.slice none 0 0) (.slice none 0 0) (.int .i64 0) (.slice none 0 0) rfl)
    have T := hid (vbset5 (.int .i64 0) (.slice none 0 0) (.slice none 0 0) (.int .i64 0) (.slice none 0 0) V2.out)
    have PZ := hid (below_chg B3.out CG.out (by have := B3.out.size; omega) (fun j hj => by have hj : j = w.heap.size + 1 := hj; omega))
    obtain ⟨q0, q1, q2, q3, q4⟩ := vb5 V1.out
    obtain ⟨p0, p1, p2, p3, p4⟩ := vb5 V2.out
    have fr := V2.out.2.1
    go_wp2_with (go_at_call 34; refine (l1In_any _ _ _ _).mono ?_; rintro e w4 ⟨rfl, rfl⟩; rw [c1])
    refine bodyPost_ret (resSCelIn _ rfl T.out rfl) rfl ?_
    unfold CelInPost
    simp only [c1, Bool.false_and, Bool.and_false, Bool.false_eq_true, if_false]
    exact ⟨_, _, _, rfl, cl_nil _ _, PZ.out⟩
  have HC0 := hid c0
  obtain ⟨hv0, hb6⟩ : vmB pc nr xs nm ys ht = true ∧ bs.length ≤ 6 := by simpa [celB] using c0
  simp only [vmB, Bool.and_eq_true, beq_iff_eq] at hv0
  obtain ⟨_, rfl, _, rfl, _⟩ := hv0
  obtain ⟨r0, r1, r2, r3, rfl⟩ : ∃ r0 r1 r2 r3, xs = [r0, r1, r2, r3] := list4 (by have := RU.out.1; simpa using this)
  obtain ⟨m0, m1, m2, m3, m4, m5, m6, m7, rfl⟩ : ∃ m0 m1 m2 m3 m4 m5 m6 m7, ys = [m0, m1, m2, m3, m4, m5, m6, m7] := list8 (by have := RV.out.1; simpa using this)
  have hn0 : 0 ≤ n ∧ n ≤ 255 := by simpa [inB] using c1
  have nb6 : nb ≤ 6 := by rw [HN.out] at hb6; exact hb6
  have HC1 := hid c1
  clear c0 hb6
  obtain ⟨q0, q1, q2, q3, q4⟩ := vb5 V1.out
  go_wp2_with (go_at_call 34; refine (l1In_any _ _ _ _).mono ?_; rintro e w4 ⟨rfl, rfl⟩; rw [c1])
  clear q0 q1 q2 q3 q4 c1
  refine (l14Copy_any pc ht r0 r1 r2 r3 m0 m1 m2 m3 m4 m5 m6 m7 _ _ _ bs _ (RU.out.keep B3.out) (RV.out.keep B3.out) (RI.out.keep B3.out)).mono ?_
  rintro e w5 ⟨u1, v1, i1, rfl, cl, b5⟩
  have V2 := hid (V2.out.keep b5)
  have B5 := hid (B3.out.trans (b5.mono B3.out.size))
  obtain ⟨p1, q1, rfl, _⟩ := ownI_form cl.1
  obtain ⟨p2, q2, rfl, _⟩ := ownI_form cl.2.1
  obtain ⟨p3, q3, rfl, _⟩ := own_form cl.2.2.1
  rw [HN.out] at cl ⊢
  have CL := hid cl
  have y5 := hid b5.size
  have A6 := below_alloc1 w5 (.cells #[.int .i64 pc, .slice p1 4 q1, .slice p2 8 q2, .int .i64 ht, .slice p3 nb q3] 27)
  have V6 := hid (vb_new w5 [.int .i64 pc, .slice p1 4 q1, .slice p2 8 q2, .int .i64 ht, .slice p3 nb q3] 27)
  have V2 := hid (V2.out.keep A6)
  have CL := hid (CL.out.keep A6)
  have B6 := hid (B5.out.trans (A6.mono B5.out.size))
  have z6 : (w5.alloc (.cells #[.int .i64 pc, .slice p1 4 q1, .slice p2 8 q2, .int .i64 ht, .slice p3 nb q3] 27)).heap.size = w5.heap.size + 1 := by simp
  obtain ⟨W6, hW6⟩ : ∃ W, w5.alloc (.cells #[.int .i64 pc, .slice p1 4 q1, .slice p2 8 q2, .int .i64 ht, .slice p3 nb q3] 27) = W := ⟨_, rfl⟩
  rw [hW6] at V6 V2 CL B6 z6
  have Z6 := hid z6
  clear cl b5 A6 z6
  obtain ⟨p60, p61, p62, p63, p64⟩ := vb5 V6.out
  have n26 : ¬ w.heap.size + 1 = w5.heap.size := by have := y5.out; have := Z3.out; omega
  have n62 : ¬ w5.heap.size = w.heap.size + 1 := by omega
  by_cases h6 : nb = 6
  · have e6 : ((nb : Int) == 6) = true := by simp; omega
    have CG := hid (vbchg5 (S := fun j => j = w.heap.size + 1) (w := W6) (b := w.heap.size + 1) (.int .i64 pc) (.slice p1 4 q1) (.slice p2 8 q2) (.int .i64 ht) (.slice p3 nb q3) rfl)
    have T := hid (vbset5 (.int .i64 pc) (.slice p1 4 q1) (.slice p2 8 q2) (.int .i64 ht) (.slice p3 nb q3) V2.out)
    have PZ := hid (below_chg B6.out CG.out (by have := B6.out.size; omega) (fun j hj => by have hj : j = w.heap.size + 1 := hj; omega))
    have CL := hid (CL.out.off CG.out (a := w.heap.size + 1) (b := w.heap.size + 2) (fun j hj => by have hj : j = w.heap.size + 1 := hj; omega) (.inr Z3.out))
    have hs := CG.out.size
    have HS := hid hs
    clear hs
    obtain ⟨t0, t1, t2, t3, t4⟩ := vb5 V2.out
    have fr := V2.out.2.1
    subst h6
    go_wp2_with fail
    try rw [hW6]
    refine bodyPost_ret (resSCelIn _ rfl T.out rfl) rfl ?_
    unfold CelInPost
    have hnl : ¬ bs.length < 6 := by rw [HN.out]; omega
    simp only [HC0.out, HC1.out, hnl, Bool.and_self, Bool.true_and, decide_false, if_true, if_false]
    exact ⟨_, _, _, rfl, CL.out.wide (by have := Z3.out; omega) (by have := HS.out; have := Z6.out; omega), PZ.out⟩
  · have e6 : ((nb : Int) == 6) = false := by simp; omega
    obtain ⟨ti, hti, htz, hts, htb⟩ := info8'
    have hw8 : IntKind.u8.wrap n = n := by rw [IntKind.wrap_u8]; omega
    have hw9 : n % 256 = n := by omega
    have fr6 := V6.out.2.1
    have CL2 := hid (CL.out.keep (below_alloc1 W6 (.cells #[.int .u8 n] 5)))
    have HR := hid (show (W6.alloc (.cells #[.int .u8 n] 5)).ownsRow w4.heap.size 5 1 (.slice p3 nb q3) nb (bs.map (Value.int .u8)) by have h := CL2.out.2.2.1.2; rw [HN.out] at h; exact h)
    go_wp2_with (at_builtin; go_must (refine wpList_append_lies _ (by rfl) _ _ 22 (by rfl) w4.heap.size 5 ti (.int .u8 0) 1 1 Try.underlying22 hti htz hts htb rfl (by omega) _ nb (bs.map (Value.int .u8)) (by rfl) HR.out ⟨W6.heap.size, 0, none⟩ 1 1 [.int .u8 n] (by rfl) rfl (cell_one_new _ _ _) (by intro y hy; simp at hy; subst hy; rfl) (by omega) (by unfold maxLen; omega) (by omega) (by have := y5.out; have := Z6.out; simp; omega) (W6.heap.size + 1) (by simp) ?_))
    intro gg cap2 w8 ho hg hat hlt
    have BA := below_alloc1 W6 (.cells #[.int .u8 n] 5)
    have HIB := hid (fun j (hj : (Value.slice p3 nb q3).ownBlock = some j) => CL.out.2.2.2.2.2 j (.inr (.inr hj)))
    have V6 := hid ((V6.out.keep BA).grown hg (fun e => by have := HIB.out _ e.symm; omega))
    have V2 := hid ((V2.out.keep BA).grown hg (fun e => by have := HIB.out _ e.symm; have := Z3.out; omega))
    have OU := CL2.out.1.grown hg (fun j hj => (CL2.out.2.2.2.2.1 j hj).1)
    have OV := CL2.out.2.1.grown hg (fun j hj => (CL2.out.2.2.2.2.1 j hj).2)
    have OI : Own w8 w4.heap.size (.slice (some ⟨gg, 0, none⟩) (nb + 1) cap2) (bs ++ [n]) := ⟨fun z hz => (by
      rcases List.mem_append.1 hz with hz | hz
      · exact CL2.out.2.2.1.1 z hz
      · have : z = n := by simpa using hz
        rw [this]; exact hn0), by
      rw [List.length_append, HN.out, List.map_append]
      exact ho⟩
    have hgg : ¬ gg = w5.heap.size ∧ ¬ gg = w.heap.size + 1 := by
      have h1 := (OI.blk gg rfl).1
      have := Z3.out
      refine ⟨fun e => ?_, by omega⟩
      rcases hat with h | h
      · have := HIB.out gg h; omega
      · have := Z6.out; omega
    have BU : ∀ j, (Value.slice p1 4 q1).ownBlock = some j → w4.heap.size ≤ j ∧ j < w5.heap.size := fun j hj => CL2.out.2.2.2.2.2 j (.inl hj)
    have BV : ∀ j, (Value.slice p2 8 q2).ownBlock = some j → w4.heap.size ≤ j ∧ j < w5.heap.size := fun j hj => CL2.out.2.2.2.2.2 j (.inr (.inl hj))
    have s8 : w5.heap.size + 1 ≤ w8.heap.size := by have := hg.size; have := Z6.out; simp at *; omega
    have CA := (Chg.refl (fun j => j = w5.heap.size ∨ j = w.heap.size + 1) w8).set (p := ⟨w5.heap.size, 4, none⟩) (.inl rfl) (.slice (some ⟨gg, 0, none⟩) (nb + 1) cap2)
    have CB := Chg.trans CA (vbchg5 (S := fun j => j = w5.heap.size ∨ j = w.heap.size + 1) (w := w8.setCell ⟨w5.heap.size, 4, none⟩ (.slice (some ⟨gg, 0, none⟩) (nb + 1) cap2)) (b := w.heap.size + 1) (.int .i64 pc) (.slice p1 4 q1) (.slice p2 8 q2) (.int .i64 ht) (.slice (some ⟨gg, 0, none⟩) (nb + 1) cap2) (.inr rfl))
    have T := hid (vbset5 (.int .i64 pc) (.slice p1 4 q1) (.slice p2 8 q2) (.int .i64 ht) (.slice (some ⟨gg, 0, none⟩) (nb + 1) cap2) (V2.out.off (i := 4) (v := .slice (some ⟨gg, 0, none⟩) (nb + 1) cap2) n62))
    have z3' := Z3.out
    have CLF := hid (Cl.wide (lo' := w.heap.size) (show Cl _ w4.heap.size w8.heap.size (.slice p1 4 q1) (.slice p2 8 q2) (.slice (some ⟨gg, 0, none⟩) (nb + 1) cap2) 4 8 [r0, r1, r2, r3] [m0, m1, m2, m3, m4, m5, m6, m7] (bs ++ [n]) from ⟨OU.chg CB (fun j hj hS => by have := BU j hj; omega), OV.chg CB (fun j hj hS => by have := BV j hj; omega), OwnR.chg OI CB (fun j hj hS => by have hgj : gg = j := (by simpa [Value.ownBlock] using hj); have hS' : j = w5.heap.size ∨ j = w.heap.size + 1 := hS; omega), CL2.out.2.2.2.1, fun j hj => ⟨rows_apart OI.2 OU (by decide) j hj, rows_apart OI.2 OV (by decide) j hj⟩, fun j hj => by
      rcases hj with hj | hj | hj
      · have := BU j hj; omega
      · have := BV j hj; omega
      · have := OI.blk j hj; omega⟩) (by omega) CB.size)
    have PZ := hid (below_chg (below_chg (B6.out.trans (BA.mono B6.out.size)) (Chg.of_grown (S := fun j => (Value.slice p3 nb q3).ownBlock = some j) hg (fun j hj => hj)) (by have := B6.out.size; simp; omega) (fun j hj => by have := HIB.out j hj; omega)) CB (by have := y5.out; omega) (fun j hj => by have hj : j = w5.heap.size ∨ j = w.heap.size + 1 := hj; have := y5.out; omega))
    clear ho hg hat hlt CA CB OU OV OI BU BV CL CL2 BA HR
    obtain ⟨k60, k61, k62, k63, k64⟩ := vb5 V6.out
    obtain ⟨t0, t1, t2, t3, t4⟩ := vb5 V2.out
    have fr := V2.out.2.1
    have fr6 := V6.out.2.1
    clear p60 p61 p62 p63 p64
    go_wp2_with fail
    refine bodyPost_ret (resSCelIn _ rfl T.out rfl) rfl ?_
    unfold CelInPost
    have hnl : bs.length < 6 := by rw [HN.out]; omega
    simp only [HC0.out, HC1.out, hnl, Bool.and_self, Bool.true_and, decide_true, if_true]
    exact ⟨_, _, _, rfl, CLF.out, PZ.out⟩
end Go.Proofs.Ythhgjnhfidhmpaa
