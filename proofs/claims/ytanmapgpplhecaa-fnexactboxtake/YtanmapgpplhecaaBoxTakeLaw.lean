/- BoxTake answers at every box as the specification does, field by field, writes into no argument and keeps nothing of one; its answer owns its memory, behind another call too. No conditions. -/
import Derived.Test.YtanmapgpplhecaaBoxSz2
import Derived.Test.YtanmapgpplhecaaBoxTakeS
import Derived.Test.YtanmapgpplhecaaBoxTakeC
import Derived.Test.YtanmapgpplhecaaBoxOkLaw
import Derived.Test.YtanmapgpplhecaaRegBw
import Derived.Deep.DeepCutAuto
namespace Go.Proofs.Ytanmapgpplhecaa.fnExactBoxTake
open Go.ChangeShapes Go.WideShapes Go.ChangeAt Go.RowKit Go.Joins Go.Deep
set_option linter.unusedVariables false
set_option linter.unusedSimpArgs false
set_option maxRecDepth 4000
theorem pI_small (d : Int) (yss : List (List Int)) (ms : List Int) : (pI d yss ms).length ≤ 4 ∧ ∀ i, i < (pI d yss ms).length → ((pI d yss ms).getD i []).length ≤ 8 := by
  unfold pI
  split
  · rename_i h
    simp only [pOk, Bool.and_eq_true, decide_eq_true_eq] at h
    obtain ⟨h1, h2, h3⟩ := box_of h.1
    split
    · refine ⟨by simp; omega, fun i hi => ?_⟩
      simp only [List.length_append, List.length_cons, List.length_nil] at hi
      by_cases e : i = yss.length
      · subst e
        simp only [List.getD_eq_getElem?_getD, List.getElem?_concat_length, Option.getD_some]
        exact h.2
      · rw [List.getD_eq_getElem?_getD, List.getElem?_append_left (by omega), ← List.getD_eq_getElem?_getD]
        exact h3 i (by omega)
    · exact ⟨by omega, h3⟩
  · exact ⟨by simp, fun i hi => by simp at hi⟩
theorem tI_small (d : Int) (yss : List (List Int)) : (tI d yss).length ≤ 4 ∧ ∀ i, i < (tI d yss).length → ((tI d yss).getD i []).length ≤ 8 := by
  unfold tI
  split
  · rename_i h
    obtain ⟨h1, h2, h3⟩ := box_of h
    refine ⟨by simp; omega, fun i hi => ?_⟩
    have := h3 (i + 1) (by simp at hi; omega)
    simpa [Nat.add_comm] using this
  · exact ⟨by simp, fun i hi => by simp at hi⟩
theorem tM_small (d : Int) (yss : List (List Int)) : (tM d yss).length ≤ 8 := by
  unfold tM
  split
  · rename_i h
    obtain ⟨h1, h2, h3⟩ := box_of h
    by_cases h0 : 0 < yss.length
    · exact h3 0 h0
    · have : yss = [] := List.length_eq_zero_iff.1 (by omega)
      subst this; simp
  · simp
theorem offs_small {I : List (List Int)} (h : I.length ≤ 4 ∧ ∀ i, i < I.length → (I.getD i []).length ≤ 8) : offs I I.length ≤ 100 := by
  have key : ∀ n, n ≤ I.length → offs I n ≤ 8 * n := by
    intro n
    induction n with
    | zero => intro _; simp [offs]
    | succ n ih => intro hn; have := ih (by omega); have := h.2 n (by omega); simp only [offs]; omega
  have := key I.length (Nat.le_refl _)
  omega
theorem ldB {b : Nat} {x y : Value} (w : World) (h0 : w.cell? ⟨b, 0, none⟩ = some x) (h1 : w.cell? ⟨b, 1, none⟩ = some y) : (Instr.loadAt 25 (.pointer (some ⟨b, 0, none⟩))).run Try.prog w = .ok (.agg #[x, y]) w := by
  go_simp
theorem ldBL {b : Nat} {x y : Value} (w : World) (h0 : w.cell? ⟨b, 0, none⟩ = some x) (h1 : w.cell? ⟨b, 1, none⟩ = some y) : (Instr.loadAt 51 (.pointer (some ⟨b, 0, none⟩))).run Try.prog w = .ok (.agg #[x, y]) w := by
  go_simp
set_option maxHeartbeats 16000000 in
theorem walk (d : Int) (a : Option Addr) (n cap : Nat) (w : World) (k0 : IsRowS w a n cap) :
    Calls Try.prog 11 #[.agg #[.int .i64 d, .slice a n cap]] w fun e w' => e = .returned (.bool true) ∧ Below w.heap.size w w' := by
    have m0 := k0.max
    obtain ⟨A, L, C, Z, h1, h2⟩ := k0.at
    have hLm : ∀ i, i < n → L i ≤ 9223372036854775807 := fun i hi => by have := (h1 i hi).max; omega
    have H2 : Hid (n = 0 ∨ ∃ b off, a = some ⟨b, off, none⟩ ∧ ∀ i, i < n → (w.alloc (.cells #[.int .i64 d, .slice a n cap] 51)).cell? ⟨b, off + i, none⟩ = some (.slice (A i) (L i) (C i))) := hid (by
      rcases h2 with h2 | ⟨b, off, ha, hc⟩
      · exact .inl h2
      · exact .inr ⟨b, off, ha, fun i hi => cell_keep (below_alloc1 w _) (hc i hi)⟩)
    have H1 := hid h1
    have H20 := hid h2
    have HLM := hid hLm
    have PP := hid (below_alloc1 w (.cells #[.int .i64 d, .slice a n cap] 51))
    have V2 := hid (vb_new w [.int .i64 d, .slice a n cap] 51)
    clear k0 h1 h2 hLm
    obtain ⟨q0a, q0b⟩ := vb2 V2.out
    go_enter Try.func11, Try.ntmps11
    go_wp2_with fail
    clear q0a q0b
    refine (szBox2_any d a n cap A L C _ m0 HLM.out H2.out).mono ?_
    rintro e w1 ⟨⟨r, rfl, hr⟩, b1⟩
    rcases hr with rfl | ⟨r0, hno⟩
    · have PP := hid (PP.out.trans (b1.mono PP.out.size))
      clear H2 b1 H1 H20 HLM
      go_wp2
      go_ret
      exact ⟨rfl, PP.out⟩
    obtain ⟨yss, hyl, hrd⟩ := rdS_of (cap := cap) H1.out H20.out (by omega) (fun i hi => by have := offL_at L hi; omega)
    have d1 : decide (r < 0) = false := by simp; omega
    have hlens := lens_L hrd hyl H20.out
    have HOF := hid (show yss.length + offs yss yss.length ≤ 1048576 by rw [hyl, offs_L yss L n hlens]; exact hno)
    have NL := hid hrd.lens
    have HYL := hid hyl
    have RV0 := hid hrd
    clear H2 H1 H20 HLM hrd hlens hno m0
    have y1 : w.heap.size + 1 ≤ w1.heap.size := by have := b1.size; simpa using this
    have V2 := hid (V2.out.keep b1)
    have PP := hid (PP.out.trans (b1.mono PP.out.size))
    clear b1
    rw [← hyl] at RV0 V2
    rw [← hyl]
    have HN := hid (show yss.length ≤ 1048576 by have := HOF.out; omega)
    clear hyl HYL
    obtain ⟨q0a, q0b⟩ := vb2 V2.out
    go_wp2_with fail
    clear q0a q0b
    refine (toBox_any d _ yss _ (RV0.out.keep PP.out)).mono ?_
    rintro e w2 ⟨g2, f2, rfl, _, o2, b2⟩
    have X2 := hid (o2.rd (by have := HN.out; omega) NL.out)
    have y2 := b2.size
    clear o2
    have V2 := hid (V2.out.keep b2)
    have PP := hid (PP.out.trans (b2.mono PP.out.size))
    clear b2
    go_wp2_with fail
    refine (specTake_any d _ yss _ X2.out).mono ?_
    rintro e w4 ⟨u6, m6, rfl, r6, rm6, b4⟩
    clear X2
    obtain ⟨DD, hDD⟩ : ∃ x, tD d yss = x := ⟨_, rfl⟩
    obtain ⟨I, hI⟩ : ∃ x, tI d yss = x := ⟨_, rfl⟩
    obtain ⟨BB, hBB⟩ : ∃ x, tB d yss = x := ⟨_, rfl⟩
    obtain ⟨M, hM⟩ : ∃ x, tM d yss = x := ⟨_, rfl⟩
    have HDD := hid hDD
    have HI := hid hI
    have HBB := hid hBB
    have HM := hid hM
    have HI4 := hid (show I.length ≤ 4 ∧ ∀ i, i < I.length → (I.getD i []).length ≤ 8 by rw [← hI]; exact tI_small d yss)
    have HM8 := hid (show M.length ≤ 8 by rw [← hM]; exact tM_small d yss)
    rw [hM] at rm6
    have RM6 := hid rm6
    obtain ⟨_, _, ma6, mc6, rfl, _⟩ := rm6
    rw [hI] at r6
    rw [hDD, hBB]
    have OI : Hid (offs I I.length ≤ 100) := hid (offs_small HI4.out)
    have dBB : (BB != BB) = false := by simp
    clear hDD hI hBB hM
    have R6 := hid r6
    obtain ⟨_, ua6, uc6, rfl, _⟩ := r6
    have y4 := b4.size
    have V2 := hid (V2.out.keep b4)
    have PP := hid (PP.out.trans (b4.mono PP.out.size))
    clear b4
    have P6 := hid (Below.refl w4.heap.size w4)
    have Aw4 := below_alloc1 w4 (.cells #[.int .i64 DD, .slice ua6 I.length uc6] 25)
    have V2 := hid (V2.out.keep Aw4)
    have PP := hid (PP.out.trans (Aw4.mono PP.out.size))
    have P6 := hid (P6.out.trans (Aw4.mono P6.out.size))
    have V6 := hid (vb_new w4 [.int .i64 DD, .slice ua6 I.length uc6] 25)
    have sw4 : (w4.alloc (.cells #[.int .i64 DD, .slice ua6 I.length uc6] 25)).heap.size = w4.heap.size + 1 := by simp
    obtain ⟨Ww4, hWw4⟩ : ∃ W, w4.alloc (.cells #[.int .i64 DD, .slice ua6 I.length uc6] 25) = W := ⟨_, rfl⟩
    rw [hWw4] at sw4 V2 V6 PP P6
    clear Aw4
    obtain ⟨q0a, q0b⟩ := vb2 V2.out
    go_wp2_with fail
    try rw [hWw4]
    clear hWw4
    clear q0a q0b
    refine (toBox_any d _ yss _ (RV0.out.keep PP.out)).mono ?_
    rintro e w5 ⟨g5, f5, rfl, hg5, o5, b5⟩
    have X0 := hid (o5.a hg5)
    have HB5 := hid X0.out.bd
    have y5 := b5.size
    clear o5
    have V2 := hid (V2.out.keep b5)
    have V6 := hid (V6.out.keep b5)
    have PP := hid (PP.out.trans (b5.mono PP.out.size))
    have P6 := hid (P6.out.trans (b5.mono P6.out.size))
    clear b5
    obtain ⟨lo5, hlo5⟩ : ∃ x, Ww4.heap.size = x := ⟨_, rfl⟩
    rw [hlo5] at X0 y5 sw4 hg5 HB5
    have hi5e : ∃ x, w5.heap.size = x := ⟨_, rfl⟩
    have Aw5 := below_alloc1 w5 (.cells #[.int .i64 d, .slice (some ⟨g5, 0, none⟩) yss.length yss.length] 25)
    have V2 := hid (V2.out.keep Aw5)
    have V6 := hid (V6.out.keep Aw5)
    have X0 := hid (X0.out.keep Aw5)
    have PP := hid (PP.out.trans (Aw5.mono PP.out.size))
    have P6 := hid (P6.out.trans (Aw5.mono P6.out.size))
    have V8 := hid (vb_new w5 [.int .i64 d, .slice (some ⟨g5, 0, none⟩) yss.length yss.length] 25)
    have sw5 : (w5.alloc (.cells #[.int .i64 d, .slice (some ⟨g5, 0, none⟩) yss.length yss.length] 25)).heap.size = w5.heap.size + 1 := by simp
    obtain ⟨Ww5, hWw5⟩ : ∃ W, w5.alloc (.cells #[.int .i64 d, .slice (some ⟨g5, 0, none⟩) yss.length yss.length] 25) = W := ⟨_, rfl⟩
    rw [hWw5] at sw5 V2 V6 X0 V8 PP P6
    clear Aw5
    obtain ⟨q0a, q0b⟩ := vb2 V8.out
    go_wp2_with fail
    try rw [hWw5]
    clear hWw5
    clear q0a q0b
    refine (boxTake_any d _ yss _ (X0.out.rd (by have := HN.out; omega) NL.out)).mono ?_
    rintro e w7 ⟨u7, f7, m7, rfl, g7, gm7, ap7, apu7, b7⟩
    rw [HDD.out, HBB.out]
    rw [HI.out] at g7 ap7
    rw [HM.out] at gm7
    have G0 := hid g7
    have HB7 := hid g7.bd
    obtain ⟨ua7, uc7, rfl⟩ := g7.form
    have y7 := b7.size
    clear g7
    have M0 := hid gm7
    have AP7 := hid ap7
    have APU := hid apu7
    have HM7 := hid (fun j hj => gm7.blk j hj)
    obtain ⟨ma7, mc7, rfl, _⟩ := own_form gm7
    obtain ⟨nM, hnM⟩ : ∃ x, M.length = x := ⟨_, rfl⟩
    have HNM := hid hnM
    rw [hnM] at M0 AP7 APU HM7 RM6 ⊢
    clear gm7 ap7 apu7 hnM
    have V2 := hid (V2.out.keep b7)
    have V6 := hid (V6.out.keep b7)
    have V8 := hid (V8.out.keep b7)
    have X0 := hid (X0.out.keep b7)
    have PP := hid (PP.out.trans (b7.mono PP.out.size))
    have P6 := hid (P6.out.trans (b7.mono P6.out.size))
    clear b7
    have Aw7 := below_alloc1 w7 (.cells #[.int .i64 DD, .slice ua7 I.length uc7] 25)
    have V2 := hid (V2.out.keep Aw7)
    have V6 := hid (V6.out.keep Aw7)
    have V8 := hid (V8.out.keep Aw7)
    have X0 := hid (X0.out.keep Aw7)
    have G0 := hid (G0.out.keep Aw7)
    have M0 := hid (M0.out.keep Aw7)
    have PP := hid (PP.out.trans (Aw7.mono PP.out.size))
    have P6 := hid (P6.out.trans (Aw7.mono P6.out.size))
    have V10 := hid (vb_new w7 [.int .i64 DD, .slice ua7 I.length uc7] 25)
    have sw7 : (w7.alloc (.cells #[.int .i64 DD, .slice ua7 I.length uc7] 25)).heap.size = w7.heap.size + 1 := by simp
    obtain ⟨Ww7, hWw7⟩ : ∃ W, w7.alloc (.cells #[.int .i64 DD, .slice ua7 I.length uc7] 25) = W := ⟨_, rfl⟩
    rw [hWw7] at sw7 V2 V6 V8 X0 G0 M0 V10 PP P6
    clear Aw7
    obtain ⟨q0a, q0b⟩ := vb2 V10.out
    obtain ⟨q1a, q1b⟩ := vb2 V6.out
    go_wp2_with fail
    try rw [hWw7]
    clear hWw7
    clear q0a q0b q1a q1b
    refine (eqBox_same DD _ _ I _ (G0.out.rd (by have := HI4.out.1; omega) (fun i hi => by have := HI4.out.2 i hi; omega)) (R6.out.keep P6.out)).mono ?_
    rintro e w8 ⟨rfl, b8⟩
    have V2 := hid (V2.out.keep b8)
    have V6 := hid (V6.out.keep b8)
    have V8 := hid (V8.out.keep b8)
    have V10 := hid (V10.out.keep b8)
    have X0 := hid (X0.out.keep b8)
    have G0 := hid (G0.out.keep b8)
    have M0 := hid (M0.out.keep b8)
    have PP := hid (PP.out.trans (b8.mono PP.out.size))
    have P6 := hid (P6.out.trans (b8.mono P6.out.size))
    clear b8
    go_wp2_with fail
    refine (eqBytes_same _ _ M _ (M0.out.rd (by have := HM8.out; omega)) (RM6.out.keep P6.out)).mono ?_
    rintro e w8b ⟨rfl, b8b⟩
    have V2 := hid (V2.out.keep b8b)
    have V6 := hid (V6.out.keep b8b)
    have V8 := hid (V8.out.keep b8b)
    have V10 := hid (V10.out.keep b8b)
    have X0 := hid (X0.out.keep b8b)
    have G0 := hid (G0.out.keep b8b)
    have M0 := hid (M0.out.keep b8b)
    have PP := hid (PP.out.trans (b8b.mono PP.out.size))
    have P6 := hid (P6.out.trans (b8b.mono P6.out.size))
    clear b8b
    obtain ⟨q0a, q0b⟩ := vb2 V8.out
    obtain ⟨q1a, q1b⟩ := vb2 V2.out
    go_upto_region 10 with fail
    have HAL : AllLast [(fun u _ => u = .agg #[.int .i64 d, .slice (some ⟨g5, 0, none⟩) yss.length yss.length]), (fun u _ => u = .agg #[.int .i64 d, .slice a yss.length cap]), (fun v w => ∃ u, v = .agg #[.int .i64 d, u] ∧ RdS w u yss), (fun u _ => u = .bool true), (fun u _ => u = .bool false)] := ⟨lasts_val _, lasts_val _, fun v w w' hb h => (by obtain ⟨u, h1, h2⟩ := h; exact ⟨u, h1, h2.keep hb⟩), lasts_val _, lasts_val _, trivial⟩
    refine region_bw [(fun u _ => u = .agg #[.int .i64 d, .slice (some ⟨g5, 0, none⟩) yss.length yss.length]), (fun u _ => u = .agg #[.int .i64 d, .slice a yss.length cap]), (fun v w => ∃ u, v = .agg #[.int .i64 d, u] ∧ RdS w u yss), (fun u _ => u = .bool true), (fun u _ => u = .bool false)] (by kernel_rfl) (by kernel_rfl) ⟨?_, ?_, ?_, ?_, ?_, trivial⟩ ?_
    · exact ob_un (bw_load (fun w hb => ldB w (cell_keep hb q0a) (cell_keep hb q0b)) (ok_out rfl rfl) rfl)
    · exact ob_un (bw_load (fun w hb => ldBL w (cell_keep hb q1a) (cell_keep hb q1b)) (ok_out rfl rfl) rfl)
    · exact ob_un (bw_call HAL (fun xs w => by go_simp) (fun a' w hb hat => by
              have e1 : a'.eval (.tmp 53) = .agg #[.int .i64 d, .slice a yss.length cap] := ok_in 1 rfl rfl rfl a' w hat
              have e : (#[Operand.tmp 53].map a'.eval) = #[.agg #[.int .i64 d, .slice a yss.length cap]] := by simp [e1]
              rw [e]
              refine (toBox_any d _ yss w ((RV0.out.keep PP.out).keep hb)).mono ?_
              rintro e w' ⟨g, f, rfl, _, o, b⟩
              exact ⟨_, rfl, ⟨_, rfl, o.rd (by have := HN.out; omega) NL.out⟩, b⟩))
    · exact ob_un (bw_call HAL (fun xs w => by go_simp) (fun a' w hb hat => by
              have e1 : a'.eval (.tmp 52) = .agg #[.int .i64 d, .slice (some ⟨g5, 0, none⟩) yss.length yss.length] := ok_in 0 rfl rfl rfl a' w hat
              obtain ⟨u, e2, ru⟩ : ∃ u, a'.eval (.tmp 54) = .agg #[.int .i64 d, u] ∧ RdS w u yss := ok_of 2 rfl rfl rfl hat
              have e : (#[Operand.tmp 52, Operand.tmp 54].map a'.eval) = #[.agg #[.int .i64 d, .slice (some ⟨g5, 0, none⟩) yss.length yss.length], .agg #[.int .i64 d, u]] := by simp [e1, e2]
              rw [e]
              refine (eqBox_same d _ _ yss w ((X0.out.rd (by have := HN.out; omega) NL.out).keep hb) ru).mono ?_
              rintro e w' ⟨rfl, b⟩
              exact ⟨_, rfl, rfl, b⟩))
    · exact ob_un (bw_un (fun w => by go_simp) (ok_in 3 rfl rfl rfl) rfl)
    intro u wz bz hF
    obtain ⟨-, -, -, -, f4, -⟩ := hF
    have hn : u 56 = .bool false := f4
    simp only [outTmps, List.setIfInBounds_toArray, List.set_cons_zero, List.set_cons_succ, hn]
    clear f4 HAL q0a q0b q1a q1b
    have PP0 := PP
    have V2 := hid (V2.out.keep bz)
    have V6 := hid (V6.out.keep bz)
    have V8 := hid (V8.out.keep bz)
    have V10 := hid (V10.out.keep bz)
    have X0 := hid (X0.out.keep bz)
    have G0 := hid (G0.out.keep bz)
    have M0 := hid (M0.out.keep bz)
    have PP := hid (PP.out.trans (bz.mono PP.out.size))
    have P6 := hid (P6.out.trans (bz.mono P6.out.size))
    clear bz
    obtain ⟨q0a, q0b⟩ := vb2 V8.out
    go_wp2_with fail
    clear q0a q0b
    refine (markA_any d 1 lo5 _ f5 yss _ X0.out (by have := HN.out; omega) NL.out (by omega) (by have := HOF.out; omega)).mono ?_
    rintro e w11 ⟨rfl, x0, cg⟩
    have HS := hid (show ∀ j, (∃ i, i < yss.length ∧ (f5 i).ownBlock = some j) → lo5 ≤ j ∧ j < w5.heap.size from fun j h => h.elim fun i h => HB5.out i h.1 j h.2)
    have V2 := hid (V2.out.chg cg (fun h => by have := HS.out _ h; omega))
    have V6 := hid (V6.out.chg cg (fun h => by have := HS.out _ h; omega))
    have V8 := hid (V8.out.chg cg (fun h => by have := HS.out _ h; omega))
    have V10 := hid (V10.out.chg cg (fun h => by have := HS.out _ h; omega))
    have PP := hid (below_chg PP.out cg PP.out.size (fun j h => by have := HS.out j h; omega))
    have P6 := hid (below_chg P6.out cg P6.out.size (fun j h => by have := HS.out j h; omega))
    have G0 := hid (G0.out.off cg (fun j h => by have := HS.out j h; omega))
    have M0 := hid (OwnR.chg M0.out cg (fun j hj h => by have := HS.out j h; have := (HM7.out j hj).1; omega))
    clear x0 cg HS X0
    obtain ⟨OY, hOY⟩ : ∃ O : Nat, offs yss yss.length = O := ⟨_, rfl⟩
    have HOF2 := hid (show OY ≤ 1048576 by rw [← hOY]; have := HOF.out; omega)
    rw [hOY]
    clear hOY
    have dk : decide ((1 : Int) + OY < 0) = false := by simp; omega
    obtain ⟨q0a, q0b⟩ := vb2 V10.out
    obtain ⟨q1a, q1b⟩ := vb2 V6.out
    go_wp2_with fail
    clear q0a q0b q1a q1b
    refine (eqBox_same DD _ _ I _ (G0.out.rd (by have := HI4.out.1; omega) (fun i hi => by have := HI4.out.2 i hi; omega)) (R6.out.keep P6.out)).mono ?_
    rintro e w13 ⟨rfl, b13⟩
    have V2 := hid (V2.out.keep b13)
    have V6 := hid (V6.out.keep b13)
    have V8 := hid (V8.out.keep b13)
    have V10 := hid (V10.out.keep b13)
    have G0 := hid (G0.out.keep b13)
    have M0 := hid (M0.out.keep b13)
    have PP := hid (PP.out.trans (b13.mono PP.out.size))
    have P6 := hid (P6.out.trans (b13.mono P6.out.size))
    clear b13
    go_wp2_with fail
    refine (eqBytes_same _ _ M _ (M0.out.rd (by have := HM8.out; omega)) (RM6.out.keep P6.out)).mono ?_
    rintro e w13b ⟨rfl, b13b⟩
    have V2 := hid (V2.out.keep b13b)
    have V6 := hid (V6.out.keep b13b)
    have V8 := hid (V8.out.keep b13b)
    have V10 := hid (V10.out.keep b13b)
    have G0 := hid (G0.out.keep b13b)
    have M0 := hid (M0.out.keep b13b)
    have PP := hid (PP.out.trans (b13b.mono PP.out.size))
    have P6 := hid (P6.out.trans (b13b.mono P6.out.size))
    clear b13b
    obtain ⟨q0a, q0b⟩ := vb2 V10.out
    go_wp2_with fail
    clear q0a q0b
    refine (markA_any DD 1 Ww5.heap.size _ f7 I _ G0.out (by have := HI4.out.1; omega) (fun i hi => by have := HI4.out.2 i hi; omega) (by omega) (by have := OI.out; omega)).mono ?_
    rintro e w14 ⟨rfl, g0, cg⟩
    have HS := hid (show ∀ j, (∃ i, i < I.length ∧ (f7 i).ownBlock = some j) → Ww5.heap.size ≤ j ∧ j < w7.heap.size from fun j h => h.elim fun i h => HB7.out i h.1 j h.2)
    have V2 := hid (V2.out.chg cg (fun h => by have := HS.out _ h; omega))
    have V6 := hid (V6.out.chg cg (fun h => by have := HS.out _ h; omega))
    have V8 := hid (V8.out.chg cg (fun h => by have := HS.out _ h; omega))
    have V10 := hid (V10.out.chg cg (fun h => by have := HS.out _ h; omega))
    have PP := hid (below_chg PP.out cg PP.out.size (fun j h => by have := HS.out j h; omega))
    have P6 := hid (below_chg P6.out cg P6.out.size (fun j h => by have := HS.out j h; omega))
    have G0 := hid g0
    have M0 := hid (OwnR.chg M0.out cg (fun j hj h => h.elim fun i h => AP7.out i h.1 j hj h.2))
    clear g0 cg HS
    obtain ⟨OG, hOG⟩ : ∃ O : Nat, offs I I.length = O := ⟨_, rfl⟩
    have HOG := hid hOG
    rw [hOG]
    have hog2 := OI.out
    rw [hOG] at hog2
    clear hOG
    have hnM8 : nM ≤ 8 := by have := HM8.out; have := HNM.out; omega
    go_wp2_with fail
    refine (mark_any _ M (1 + (OG : Int)) Ww5.heap.size _ M0.out (by have := HM8.out; omega) (by omega) (by omega)).mono ?_
    rw [HNM.out]
    rintro e w15 ⟨rfl, m1, gr, _⟩
    have cg : Chg (fun j => (Value.slice ma7 nM mc7).ownBlock = some j) _ w15 := Chg.of_grown gr (fun j hj => hj)
    have HS := hid (fun j (h : (Value.slice ma7 nM mc7).ownBlock = some j) => HM7.out j h)
    have V2 := hid (V2.out.chg cg (fun h => by have := HS.out _ h; omega))
    have V6 := hid (V6.out.chg cg (fun h => by have := HS.out _ h; omega))
    have V8 := hid (V8.out.chg cg (fun h => by have := HS.out _ h; omega))
    have V10 := hid (V10.out.chg cg (fun h => by have := HS.out _ h; omega))
    have PP := hid (below_chg PP.out cg PP.out.size (fun j h => by have := HS.out j h; omega))
    have P6 := hid (below_chg P6.out cg P6.out.size (fun j h => by have := HS.out j h; omega))
    have G0 := hid (G0.out.chg2 cg (fun j hj h => APU.out j h hj) (fun i hi j hj h => AP7.out i (by rw [stS_len] at hi; exact hi) j h hj))
    have M0 := hid m1
    clear m1 gr cg HS
    have dq : decide ((1 : Int) + OG < 0) = false := by simp; omega
    have dq2 : decide ((1 : Int) + OG + nM < 0) = false := by simp; omega
    have dqm : (((1 : Int) + OG + nM) != (1 + OG + nM)) = false := by simp
    obtain ⟨q0a, q0b⟩ := vb2 V10.out
    go_wp2_with fail
    clear q0a q0b
    refine (heldA_any DD 1 Ww5.heap.size _ f7 I _ G0.out (by have := HI4.out.1; omega) (fun i hi => by have := HI4.out.2 i hi; omega) (by omega) (by have := OI.out; omega)).mono ?_
    rw [HOG.out]
    rintro e w16 ⟨rfl, b16⟩
    have V2 := hid (V2.out.keep b16)
    have V6 := hid (V6.out.keep b16)
    have V8 := hid (V8.out.keep b16)
    have V10 := hid (V10.out.keep b16)
    have G0 := hid (G0.out.keep b16)
    have M0 := hid (M0.out.keep b16)
    have PP := hid (PP.out.trans (b16.mono PP.out.size))
    have P6 := hid (P6.out.trans (b16.mono P6.out.size))
    clear b16
    go_wp2_with fail
    refine (held_any _ nM (1 + (OG : Int)) _ (M0.out.rd (by rw [marks_len]; omega)) (by omega) (by omega)).mono ?_
    rintro e w16x ⟨rfl, rfl⟩
    obtain ⟨q0a, q0b⟩ := vb2 V2.out
    go_wp2_with fail
    clear q0a q0b
    refine (toBox_any d _ yss _ (RV0.out.keep PP.out)).mono ?_
    rintro e w17 ⟨g17, f17, rfl, _, o17, b17⟩
    have X2 := hid (o17.rd (by have := HN.out; omega) NL.out)
    clear o17
    have V2 := hid (V2.out.keep b17)
    have V6 := hid (V6.out.keep b17)
    have V8 := hid (V8.out.keep b17)
    have V10 := hid (V10.out.keep b17)
    have G0 := hid (G0.out.keep b17)
    have M0 := hid (M0.out.keep b17)
    have PP := hid (PP.out.trans (b17.mono PP.out.size))
    have P6 := hid (P6.out.trans (b17.mono P6.out.size))
    clear b17
    go_wp2_with fail
    refine (boxTake_any d _ yss _ X2.out).mono ?_
    rintro e w18 ⟨u18, f18, m18, rfl, g18, gm18, _, _, b18⟩
    rw [HDD.out, HBB.out]
    rw [HI.out] at g18
    rw [HM.out] at gm18
    clear X2
    have H0 := hid g18
    have HM0 := hid gm18
    obtain ⟨ua18, uc18, rfl⟩ := g18.form
    obtain ⟨ma18, mc18, rfl, _⟩ := own_form gm18
    rw [HNM.out] at HM0 ⊢
    clear g18 gm18
    have V2 := hid (V2.out.keep b18)
    have V6 := hid (V6.out.keep b18)
    have V8 := hid (V8.out.keep b18)
    have V10 := hid (V10.out.keep b18)
    have G0 := hid (G0.out.keep b18)
    have M0 := hid (M0.out.keep b18)
    have PP := hid (PP.out.trans (b18.mono PP.out.size))
    have P6 := hid (P6.out.trans (b18.mono P6.out.size))
    clear b18
    have Aw18 := below_alloc1 w18 (.cells #[.int .i64 DD, .slice ua18 I.length uc18] 25)
    have V2 := hid (V2.out.keep Aw18)
    have V6 := hid (V6.out.keep Aw18)
    have V8 := hid (V8.out.keep Aw18)
    have V10 := hid (V10.out.keep Aw18)
    have G0 := hid (G0.out.keep Aw18)
    have M0 := hid (M0.out.keep Aw18)
    have H0 := hid (H0.out.keep Aw18)
    have HM0 := hid (HM0.out.keep Aw18)
    have PP := hid (PP.out.trans (Aw18.mono PP.out.size))
    have P6 := hid (P6.out.trans (Aw18.mono P6.out.size))
    have V15 := hid (vb_new w18 [.int .i64 DD, .slice ua18 I.length uc18] 25)
    have sw18 : (w18.alloc (.cells #[.int .i64 DD, .slice ua18 I.length uc18] 25)).heap.size = w18.heap.size + 1 := by simp
    obtain ⟨Ww18, hWw18⟩ : ∃ W, w18.alloc (.cells #[.int .i64 DD, .slice ua18 I.length uc18] 25) = W := ⟨_, rfl⟩
    rw [hWw18] at sw18 V2 V6 V8 V10 G0 M0 H0 HM0 V15 PP P6
    clear Aw18
    obtain ⟨q0a, q0b⟩ := vb2 V15.out
    obtain ⟨q1a, q1b⟩ := vb2 V6.out
    go_wp2_with fail
    try rw [hWw18]
    clear hWw18
    clear q0a q0b q1a q1b
    refine (eqBox_same DD _ _ I _ (H0.out.rd (by have := HI4.out.1; omega) (fun i hi => by have := HI4.out.2 i hi; omega)) (R6.out.keep P6.out)).mono ?_
    rintro e w19 ⟨rfl, b19⟩
    have V2 := hid (V2.out.keep b19)
    have V6 := hid (V6.out.keep b19)
    have V8 := hid (V8.out.keep b19)
    have V10 := hid (V10.out.keep b19)
    have V15 := hid (V15.out.keep b19)
    have G0 := hid (G0.out.keep b19)
    have M0 := hid (M0.out.keep b19)
    have H0 := hid (H0.out.keep b19)
    have HM0 := hid (HM0.out.keep b19)
    have PP := hid (PP.out.trans (b19.mono PP.out.size))
    have P6 := hid (P6.out.trans (b19.mono P6.out.size))
    clear b19
    go_wp2_with fail
    refine (eqBytes_same _ _ M _ (HM0.out.rd (by have := HM8.out; omega)) (RM6.out.keep P6.out)).mono ?_
    rintro e w20 ⟨rfl, b20⟩
    have V2 := hid (V2.out.keep b20)
    have V6 := hid (V6.out.keep b20)
    have V8 := hid (V8.out.keep b20)
    have V10 := hid (V10.out.keep b20)
    have V15 := hid (V15.out.keep b20)
    have G0 := hid (G0.out.keep b20)
    have M0 := hid (M0.out.keep b20)
    have H0 := hid (H0.out.keep b20)
    have HM0 := hid (HM0.out.keep b20)
    have PP := hid (PP.out.trans (b20.mono PP.out.size))
    have P6 := hid (P6.out.trans (b20.mono P6.out.size))
    clear b20
    obtain ⟨q0a, q0b⟩ := vb2 V10.out
    go_wp2_with fail
    clear q0a q0b
    refine (heldA_any DD 1 Ww5.heap.size _ f7 I _ G0.out (by have := HI4.out.1; omega) (fun i hi => by have := HI4.out.2 i hi; omega) (by omega) (by have := OI.out; omega)).mono ?_
    rw [HOG.out]
    rintro e w21 ⟨rfl, b21⟩
    have V2 := hid (V2.out.keep b21)
    have V6 := hid (V6.out.keep b21)
    have V8 := hid (V8.out.keep b21)
    have V10 := hid (V10.out.keep b21)
    have V15 := hid (V15.out.keep b21)
    have G0 := hid (G0.out.keep b21)
    have M0 := hid (M0.out.keep b21)
    have H0 := hid (H0.out.keep b21)
    have HM0 := hid (HM0.out.keep b21)
    have PP := hid (PP.out.trans (b21.mono PP.out.size))
    have P6 := hid (P6.out.trans (b21.mono P6.out.size))
    clear b21
    go_wp2_with fail
    refine (held_any _ nM (1 + (OG : Int)) _ (M0.out.rd (by rw [marks_len]; omega)) (by omega) (by omega)).mono ?_
    rintro e w21x ⟨rfl, rfl⟩
    go_wp2
    go_ret
    exact ⟨rfl, PP.out⟩
theorem own : ownKnob Try.prog.godebug = none := by kernel_rfl
theorem laidOut : laidOutB Try.prog = true := by kernel_rfl
theorem cells51 : Try.prog.cellsOf 51 = 2 := by kernel_rfl
set_option maxRecDepth 100000 in
theorem lifted (os : Os) (started : os.Started) (H : Type) (enc : TypeId × Value → H) :
    ReturnsInHanded {} Try.checked os 11 .any (Rows.fnExactBoxTakeSpec.pre6 enc Try.prog Try.f11 Rows.fnExactBoxTakeRow.domain false) (Rows.fnExactBoxTakeSpec.post enc Try.prog Try.f11 false true false false) := by
  refine returnsInHanded_of_change (C := Try.checked) own started (by kernel_rfl) Try.func11
    (ChangeSpec.witness6 (enc := enc) (C := Try.checked) false ⟨#[], #[.agg #[.int .i64 0, .slice none 0 0]], []⟩ 8 (by kernel_rfl) (by kernel_rfl) (by kernel_rfl) (by kernel_rfl)) ?_
  intro W base args ds gs before hval0 hW hcnd _
  have hval : ∀ (j : Nat) t v, Try.f11.params[j]? = some t → args[j]? = some v → Value.okWide Try.prog W .any base t v := hval0
  have hW' := hW
  obtain ⟨p, q, hA0, hV, rfl, hfz, hnd⟩ := hW
  have hA : DataW.TrodAll enc Try.prog W 0 (fun _ => true) true Try.f11.params.toList args.toList ds p := hA0
  rw [Try.params11] at hA hval
  obtain ⟨v0, vs0, d0, ds0, p0, q0, hargs, rfl, rfl, h0, r0⟩ := trodAll_cons hA
  obtain ⟨rfl, rfl, rfl⟩ := trodAll_nil r0
  obtain rfl : args = #[v0] := by cases args; simp_all
  obtain ⟨rfl, rfl⟩ := trodVars_none hV
  have k0 := h0
  have lt0 : ∀ x ∈ p0, x.block < W.heap.size := by obtain ⟨m, hm⟩ := k0; exact DataW.trod_lt m _ _ _ hm
  obtain ⟨c0x0, c0x1, y0x0, y0x1, m0, rfl, rfl, rfl, h0y0, h0y1⟩ := open_agg2 Try.underlying51 (by kernel_rfl) cells51 (hval 0 51 v0 rfl rfl) h0
  obtain ⟨d0v, e0x0, rfl, w0x0⟩ := DataW.trod_int Try.underlying3 h0y0
  obtain ⟨sa0, sl0, sc0, rfl, sk0⟩ := open_rowS Try.underlying23 (by kernel_rfl) Try.underlying22 Try.underlying5 (by kernel_rfl) h0y1
  simp at e0x0
  subst e0x0
  clear hA0 hval0
  refine (walk d0v sa0 sl0 sc0 W sk0).mono fun e W' ⟨he, bel⟩ => ?_
  subst he
  exact ⟨_, rfl, _, _, _, [], _, [], hW', trodAll_mk1 (shut_bool Try.underlying4 _), (trodAll_cons_mk (Below.trod laidOut (by kernel_rfl) (of_decide_eq_true (by kernel_rfl)) k0 bel lt0) trodAll_mk0), rfl, bel.frame _, fun h => by cases h⟩

theorem over : Rows.fnExactBoxTakeRow.holds Try.pinned (OpenSpec.ofChange Rows.fnExactBoxTakeSpec) :=
  OpenClaim.holds_of_wide 11 Try.f11 rfl rfl rfl rfl rfl rfl rfl ⟨rfl, rfl, rfl, rfl, rfl⟩ rfl rfl rfl rfl rfl (by kernel_rfl) Try.func11 (by kernel_rfl)
    (of_decide_eq_true (by kernel_rfl)) (by unfold Func.isWrapper; first | (rw [if_pos (by decide +kernel)]; kernel_rfl) | (rw [if_neg (by decide +kernel)]; exact ⟨rfl, rfl⟩))
    (fun os started H enc _ => lifted os started H enc)

end Go.Proofs.Ytanmapgpplhecaa.fnExactBoxTake
namespace Go.Proofs.Ytanmapgpplhecaa
theorem fnExactBoxTake_holds : Rows.FnExactBoxTakeSaid := fnExactBoxTake.over
#print axioms fnExactBoxTake_holds
end Go.Proofs.Ytanmapgpplhecaa
