/- The draw of a book and a hello: whatever is drawn reads as two lists and three numbers. Conditions: the bytes read. -/
import Derived.Test.YtioikijheilliaaDrawBook
namespace Go.Proofs.Ytioikijheilliaa
open Go.ChangeShapes Go.WideShapes Go.ChangeAt Go.RowKit Go.Joins Go.Deep
set_option linter.unusedVariables false
set_option linter.unusedSimpArgs false
set_option maxRecDepth 4000
set_option maxHeartbeats 1000000 in
/-- the reader is opened, and nothing old is changed -/
theorem open_dv {K : Nat} (a : Option Addr) (len cap : Nat) (xs : List Int) (W w : World) (hn : xs.length = len) (hv : Rd W (.slice a len cap) xs) (hcap : len ≤ cap) (hb : Below W.heap.size W w) :
    Calls Try.prog 52 #[.slice a len cap] w fun e w' => e = .returned (.pointer (some ⟨w.heap.size, 0, none⟩)) ∧ Hid (DW W W w.heap.size W.heap.size 0 K [] 0 w') ∧ Hid (Below w.heap.size w w') := by
  have HV := hid hv
  have HB := hid hb
  have h2 := hv.2.1
  by_cases hl : len ≤ 2000
  · have hd : decide ((2000 : Int) < (len : Int)) = false := by simp; omega
    clear hv hn hb
    go_enter Try.func52, Try.ntmps52
    go_wp2
    go_ret
    exact ⟨rfl, hid (dw_open _ HV.out HB.out (by intro x hx; cases hx) (by go_simp) (by go_simp) (by go_simp)), hid (below_alloc1 _ _)⟩
  · have hd : decide ((2000 : Int) < (len : Int)) = true := by simp; omega
    subst hn
    have HT := hid (rd_take (n := 2000) hv (by omega))
    have hc1 : (2000 : Int) ≤ (cap : Int) := by omega
    have hc2 : 2000 ≤ cap := by omega
    clear hv hb
    go_enter Try.func52, Try.ntmps52
    go_wp2
    go_ret
    exact ⟨rfl, hid (dw_open _ HT.out HB.out (by intro x hx; cases hx) (by go_simp) (by go_simp) (by go_simp)), hid (below_alloc1 _ _)⟩
def HearPost (w : World) (e : Ending) (w' : World) : Prop := ∃ (u v : Value) (n m : Nat) (xs ys : List Int) (k b s : Int), e = .returned (.tuple #[.agg #[u, v], .int .i64 k, .int .i64 b, .int .i64 s]) ∧ RdI 1 w' u n xs ∧ RdI 1 w' v m ys ∧ Below w.heap.size w w'
def HhX (R B lo : Nat) (u v : Value) (n m : Nat) (xs ys : List Int) (w : World) : Prop :=
  VB w R [.slice none 0 0, .slice none 0 0] ∧ VB w B [u, v] ∧ OwnI 3 1 w lo u n xs ∧ OwnI 3 1 w lo v m ys
theorem hhx_stands {R B lo n m g : Nat} {u v : Value} {xs ys : List Int} (hg : g < lo) (hR : ¬ R = g) (hB : ¬ B = g) : Stands g (HhX R B lo u v n m xs ys) := by
  rintro w w' hb ⟨h1, h2, h3, h4⟩
  refine ⟨h1.grown hb (by simpa using hR), h2.grown hb (by simpa using hB), h3.grown hb ?_, h4.grown hb ?_⟩
  · rintro j hj he
    have := (h3.blk j he).1
    simp at hj; omega
  · rintro j hj he
    have := (h4.blk j he).1
    simp at hj; omega
theorem hhx_load1 {R B lo n m : Nat} {u v : Value} {xs ys : List Int} (w : World) (h : HhX R B lo u v n m xs ys w) : (Instr.loadAt 42 (.pointer (some ⟨B, 0, none⟩))).run Try.prog w = .ok u w := by
  obtain ⟨c0, c1⟩ := vb2 h.2.1
  clear h
  go_simp
theorem hhx_load2 {R B lo n m : Nat} {u v : Value} {xs ys : List Int} (w : World) (h : HhX R B lo u v n m xs ys w) : (Instr.loadAt 42 (.pointer (some ⟨B, 1, none⟩))).run Try.prog w = .ok v w := by
  obtain ⟨c0, c1⟩ := vb2 h.2.1
  clear h
  go_simp
theorem hhx_at {q k : Nat} {x : Int} (w : World) (h : w.cell? ⟨q, k, none⟩ = some (.int .i64 x)) : (Instr.loadAt 3 (.pointer (some ⟨q, k, none⟩))).run Try.prog w = .ok (.int .i64 x) w := by
  go_simp
theorem res_hear {W : World} {b : Nat} {x0 x1 y z t : Value} (tmps : Array Value) (ht : tmps[2]?.getD undef = .pointer (some ⟨b, 0, none⟩)) (h0 : W.cell? ⟨b, 0, none⟩ = some x0) (h1 : W.cell? ⟨b, 1, none⟩ = some x1) (h3 : tmps[3]?.getD undef = y) (h4 : tmps[4]?.getD undef = z) (h5 : tmps[5]?.getD undef = t) :
    (results Try.f34 tmps).run Try.prog W = .ok (.tuple #[.agg #[x0, x1], y, z, t]) W := by
  simp [results, Try.results34, go_sem, ht, h0, h1, h3, h4, h5]
set_option maxHeartbeats 8000000 in
theorem drawHrdHear_any (a : Option Addr) (len cap : Nat) (zs : List Int) (w : World) (hn : zs.length = len) (hv : Rd w (.slice a len cap) zs) (hcap : len ≤ cap) :
    Calls Try.prog 34 #[.slice a len cap] w fun e w' => HearPost w e w' := by
  have HV := hid hv
  have VR := hid (vb_new w [.slice none 0 0, .slice none 0 0] 44)
  have z0 : (w.alloc (.cells #[.slice none 0 0, .slice none 0 0] 44)).heap.size = w.heap.size + 1 := by simp
  have Z0 := hid z0
  clear hv z0
  go_enter Try.func34, Try.ntmps34
  go_wp2_with fail
  refine (open_dv (K := 1) a len cap zs w _ hn HV.out hcap (below_alloc1 _ _)).mono ?_
  rw [Z0.out]
  rintro e w1 ⟨rfl, D1, B1⟩
  have VR := hid (VR.out.keep (by rw [Z0.out]; exact B1.out))
  clear HV hn hcap B1
  obtain ⟨g, hg⟩ : ∃ g, w.heap.size + 1 = g := ⟨_, rfl⟩
  rw [hg] at D1 ⊢
  have HG : Hid (w.heap.size < g) := hid (by omega)
  have HGL := hid D1.out.rd_lt
  have RR := hid D1.out.1
  clear hg Z0
  go_wp2_with fail
  obtain ⟨q0, hq0, rd0⟩ := RR.out
  obtain rfl : q0 = 0 := by omega
  refine (drawBook_any w w1 g 0 rd0 (by omega)).mono ?_
  rintro e w2 ⟨u, v, rfl, n, m, xs, ys, o1, o2, n4, m5, rd, gr⟩
  obtain ⟨a1, ca1, rfl, _⟩ := ownI_form o1
  obtain ⟨a2, ca2, rfl, _⟩ := ownI_form o2
  obtain ⟨lo, hlo⟩ : ∃ lo, w1.heap.size = lo := ⟨_, rfl⟩
  rw [hlo] at o1 o2 HGL
  obtain ⟨B, hB⟩ : ∃ B, w2.heap.size = B := ⟨_, rfl⟩
  have HLB : Hid (lo ≤ B) := hid (by have := gr.size; omega)
  have D2 : Hid (DV w w g w.heap.size 200 1 [] (HhX w.heap.size B lo (.slice a1 n ca1) (.slice a2 m ca2) n m xs ys) 0 (w2.alloc (.cells #[.slice a1 n ca1, .slice a2 m ca2] 44))) := hid ⟨DW.keep ⟨by obtain ⟨q, h1, h2⟩ := rd; exact ⟨q, by omega, h2⟩, gtrans D1.out.2.1 gr, Nat.le_refl _, Nat.le_trans D1.out.2.2.2.1 gr.size, (fun x hx => by cases hx), Nat.le_refl _⟩ (below_alloc1 _ _), (VR.out.grown gr (by have := HG.out; simp; omega)).keep (below_alloc1 _ _), by rw [← hB]; exact vb_new w2 [.slice a1 n ca1, .slice a2 m ca2] 44, o1.keep (below_alloc1 _ _), o2.keep (below_alloc1 _ _)⟩
  have HX : Stands g (HhX w.heap.size B lo (.slice a1 n ca1) (.slice a2 m ca2) n m xs ys) := hhx_stands HGL.out (by have := HG.out; omega) (by have := HLB.out; have := HGL.out; omega)
  clear o1 o2 rd gr VR D1 RR rd0 hq0
  go_upto_region 3 with fail
  obtain ⟨W3, hW3⟩ : ∃ W3, w2.alloc (.cells #[.slice a1 n ca1, .slice a2 m ca2] 44) = W3 := ⟨_, rfl⟩
  rw [hW3] at D2
  try rw [hW3]
  try rw [hB]
  clear hW3 hB hlo
  refine region_plain (Fs g w.heap.size [.row 7, .is (.pointer (some ⟨g, 0, none⟩)), .rng 7, .at, .int, .int]) (DV w w g w.heap.size 200 1 [] (HhX w.heap.size B lo (.slice a1 n ca1) (.slice a2 m ca2) n m xs ys)) (by kernel_rfl) D2.out ⟨?_, ?_, ?_, ?_, ?_, ?_, trivial⟩ ?_
  · exact ob_un (dv_lift HX fun _ HLO => rt_row (E := 3) (fun f w => by go_simp) rfl ⟨oi_const 0, oi_const 0, oi_const 1, oi_const 2, oi_const 3, oi_const 4, oi_const (-1), trivial⟩ rfl)
  · exact ob_un (dv_lift HX fun _ HLO => rt_move (.pointer (some ⟨g, 0, none⟩)) rfl rfl rfl)
  · exact ob_un (dv_lift HX fun _ HLO => rt_pick (m := 7) 1 (by omega) (by simp <;> omega) (by omega) (by omega) rfl rfl rfl rfl)
  · exact ob_un (dv_lift HX fun _ HLO => rt_idx 0 2 (by omega) (by omega) rfl rfl rfl rfl rfl rfl rfl)
  · exact ob_un (dv_lift HX fun _ HLO => rt_load 3 rfl rfl rfl rfl)
  · exact ob_un (dv_lift HX fun _ HLO => rt_copy 4 rfl rfl rfl rfl)
  intro u3 w3 hI hF
  obtain ⟨f0, f1, f2, f3, f4, f5, -⟩ := hF
  obtain ⟨zk, hzk⟩ : ∃ z : Int, u3 8 = .int .i64 z := f5
  have D3 := hid (hI.re (K' := 1) (p' := 206) (by simp))
  clear f0 f1 f2 f3 f4 hI
  simp only [outTmps, List.setIfInBounds_toArray, List.set_cons_zero, List.set_cons_succ, hzk]
  go_upto_region 4 with fail
  refine region_plain (Fs g w.heap.size [.is (.pointer (some ⟨g, 0, none⟩)), .rng 4, .int, .int]) (DV w w g w.heap.size 206 1 [] (HhX w.heap.size B lo (.slice a1 n ca1) (.slice a2 m ca2) n m xs ys)) (by kernel_rfl) D3.out ⟨?_, ?_, ?_, ?_, trivial⟩ ?_
  · exact ob_un (dv_lift HX fun _ HLO => rt_move (.pointer (some ⟨g, 0, none⟩)) rfl rfl rfl)
  · exact ob_un (dv_lift HX fun _ HLO => rt_pick (m := 4) 0 (by omega) (by simp <;> omega) (by omega) (by omega) rfl rfl rfl rfl)
  · exact ob_un (dv_lift HX fun _ HLO => rt_bin bin_add (oi_const 1) (oi_rng 1 4 rfl rfl rfl) rfl)
  · exact ob_un (dv_lift HX fun _ HLO => rt_copy 2 rfl rfl rfl rfl)
  intro u4 w4 hI hF
  obtain ⟨f0, f1, f2, f3, -⟩ := hF
  obtain ⟨zb, hzb⟩ : ∃ z : Int, u4 9 = .int .i64 z := f3
  have D4 := hid (hI.re (K' := 1) (p' := 210) (by simp))
  clear f0 f1 f2 hI
  simp only [outTmps, List.setIfInBounds_toArray, List.set_cons_zero, List.set_cons_succ, hzb]
  go_upto_region 5 with fail
  refine region_plain (Fs g w.heap.size [.row 8, .is (.pointer (some ⟨g, 0, none⟩)), .rng 8, .at, .int, .int]) (DV w w g w.heap.size 210 1 [] (HhX w.heap.size B lo (.slice a1 n ca1) (.slice a2 m ca2) n m xs ys)) (by kernel_rfl) D4.out ⟨?_, ?_, ?_, ?_, ?_, ?_, trivial⟩ ?_
  · exact ob_un (dv_lift HX fun _ HLO => rt_row (E := 3) (fun f w => by go_simp) rfl ⟨oi_const 0, oi_const 1, oi_const 2, oi_const 3, oi_const 31, oi_const 60000, oi_const 60001, oi_const (-1), trivial⟩ rfl)
  · exact ob_un (dv_lift HX fun _ HLO => rt_move (.pointer (some ⟨g, 0, none⟩)) rfl rfl rfl)
  · exact ob_un (dv_lift HX fun _ HLO => rt_pick (m := 8) 1 (by omega) (by simp <;> omega) (by omega) (by omega) rfl rfl rfl rfl)
  · exact ob_un (dv_lift HX fun _ HLO => rt_idx 0 2 (by omega) (by omega) rfl rfl rfl rfl rfl rfl rfl)
  · exact ob_un (dv_lift HX fun _ HLO => rt_load 3 rfl rfl rfl rfl)
  · exact ob_un (dv_lift HX fun _ HLO => rt_copy 4 rfl rfl rfl rfl)
  intro u5 w5 hI hF
  obtain ⟨f0, f1, f2, f3, f4, f5, -⟩ := hF
  obtain ⟨zs, hzs⟩ : ∃ z : Int, u5 10 = .int .i64 z := f5
  have D5 := hid (hI.re (K' := 1) (p' := 216) (by simp))
  clear f0 f1 f2 f3 f4 hI
  simp only [outTmps, List.setIfInBounds_toArray, List.set_cons_zero, List.set_cons_succ, hzs]
  have FIN : ∀ w' : World, (HhX w.heap.size B lo (.slice a1 n ca1) (.slice a2 m ca2) n m xs ys) w' → VB ((w'.setCell ⟨w.heap.size, 0, none⟩ (.slice a1 n ca1)).setCell ⟨w.heap.size, 1, none⟩ (.slice a2 m ca2)) w.heap.size [.slice a1 n ca1, .slice a2 m ca2] ∧ RdI 1 ((w'.setCell ⟨w.heap.size, 0, none⟩ (.slice a1 n ca1)).setCell ⟨w.heap.size, 1, none⟩ (.slice a2 m ca2)) (.slice a1 n ca1) n xs ∧ RdI 1 ((w'.setCell ⟨w.heap.size, 0, none⟩ (.slice a1 n ca1)).setCell ⟨w.heap.size, 1, none⟩ (.slice a2 m ca2)) (.slice a2 m ca2) m ys := by
    rintro w' ⟨h1, h2, h3, h4⟩
    have e1 : (.slice a1 n ca1 : Value).ownBlock ≠ some w.heap.size := fun e => by have := (h3.blk _ e).1; have := HGL.out; have := HG.out; omega
    have e2 : (.slice a2 m ca2 : Value).ownBlock ≠ some w.heap.size := fun e => by have := (h4.blk _ e).1; have := HGL.out; have := HG.out; omega
    exact ⟨vbset2 _ _ h1, (ownI_setOff (ownI_setOff h3 e1) e1).rd (by omega), (ownI_setOff (ownI_setOff h4 e2) e2).rd (by omega)⟩
  obtain ⟨hvr, hvb, o1, o2⟩ := D5.out.2
  obtain ⟨c0, c1⟩ := vb2 hvb
  clear hvr hvb
  by_cases h0 : 0 ≤ zk
  · obtain ⟨k, rfl⟩ := Int.eq_ofNat_of_zero_le h0
    by_cases h1 : k < n
    · have h1' : (k : Int) < (n : Int) := by omega
      by_cases h2 : k < m
      · have h2' : (k : Int) < (m : Int) := by omega
        have H1 := hid h1
        have H2 := hid h2
        clear o1 o2 h1 h2
        go_wp2_with fail
        refine (pick_dv 2 D5.out HX (by omega) (by omega) (by omega)).mono ?_
        rintro e w6 ⟨x, rfl, lx, ux, D6⟩
        clear c0 c1
        by_cases ex : x = 0
        · subst ex
          clear lx ux
          have o1 := D6.out.2.2.2.1
          have o2 := D6.out.2.2.2.2
          obtain ⟨gu, rfl⟩ : ∃ gu, a1 = some ⟨gu, 0, none⟩ := by
            obtain ⟨_, _, e, hh⟩ := ownI_form o1
            simp at e
            rcases hh with hh | ⟨gu, hh⟩
            · have := H1.out; omega
            · exact ⟨gu, by rw [e.1]; exact hh⟩
          obtain ⟨gv, rfl⟩ : ∃ gv, a2 = some ⟨gv, 0, none⟩ := by
            obtain ⟨_, _, e, hh⟩ := ownI_form o2
            simp at e
            rcases hh with hh | ⟨gv, hh⟩
            · have := H2.out; omega
            · exact ⟨gv, by rw [e.1]; exact hh⟩
          clear o1 o2
          go_upto_region 7 with fail
          refine region_facts (Fs g w.heap.size [.is (.pointer (some ⟨B, 0, none⟩)), .is (.slice (some ⟨gu, 0, none⟩) n ca1), .is (.int .i64 (k : Int)), .is (.pointer (some ⟨gu, k, none⟩)), .int, .row 3, .is (.pointer (some ⟨g, 0, none⟩)), .rng 3, .at, .int, .int, .int]) (DV w w g w.heap.size 217 1 [] (HhX w.heap.size B lo (.slice (some ⟨gu, 0, none⟩) n ca1) (.slice (some ⟨gv, 0, none⟩) m ca2) n m xs ys)) (by kernel_rfl) (by kernel_rfl) (D6.out.drew HX) ⟨?_, ?_, ?_, ?_, ?_, ?_, ?_, ?_, ?_, ?_, ?_, ?_, trivial⟩ ?_
          · exact ob_un (rx_field (fun w => by go_simp) rfl rfl rfl)
          · exact ob_un (rx_load 0 (fun w h => hhx_load1 w h) rfl rfl rfl rfl)
          · exact ob_un (dv_lift HX fun _ HLO => rt_move (.int .i64 (k : Int)) rfl rfl rfl)
          · exact ob_un (rx_idx 1 2 (fun w _ => idx_row H1.out w) rfl rfl rfl rfl rfl rfl rfl)
          · exact ob_un (rx_loadI 3 (fun w' h => ⟨_, hhx_at w' (ownI_cell h.2.2.1 (i := k) (by have := h.2.2.1.len; have := H1.out; omega)).1⟩) rfl rfl rfl rfl)
          · exact ob_un (dv_lift HX fun _ HLO => rt_row (E := 3) (fun f w => by go_simp) rfl ⟨oi_const 0, oi_const 0, oi_const 1, trivial⟩ rfl)
          · exact ob_un (dv_lift HX fun _ HLO => rt_move (.pointer (some ⟨g, 0, none⟩)) rfl rfl rfl)
          · exact ob_un (dv_lift HX fun _ HLO => rt_pick (m := 3) 6 (by omega) (by simp <;> omega) (by omega) (by omega) rfl rfl rfl rfl)
          · exact ob_un (dv_lift HX fun _ HLO => rt_idx 5 7 (by omega) (by omega) rfl rfl rfl rfl rfl rfl rfl)
          · exact ob_un (dv_lift HX fun _ HLO => rt_load 8 rfl rfl rfl rfl)
          · exact ob_un (dv_lift HX fun _ HLO => rt_bin bin_add (oi_in 4 rfl rfl rfl) (oi_in 9 rfl rfl rfl) rfl)
          · exact ob_un (dv_lift HX fun _ HLO => rt_copy 10 rfl rfl rfl rfl)
          intro u7 w7 hI hF
          obtain ⟨f0, f1, f2, f3, f4, f5, f6, f7, f8, f9, f10, f11, -⟩ := hF
          obtain ⟨yb, hyb⟩ : ∃ z : Int, u7 9 = .int .i64 z := f11
          have D7 := hid (hI.re (K' := 1) (p' := 229) (by simp))
          clear f0 f1 f2 f3 f4 f5 f6 f7 f8 f9 f10 hI
          simp only [outTmps, List.setIfInBounds_toArray, List.set_cons_zero, List.set_cons_succ, hyb]
          go_upto_region 8 with fail
          refine region_facts (Fs g w.heap.size [.is (.pointer (some ⟨B, 1, none⟩)), .is (.slice (some ⟨gv, 0, none⟩) m ca2), .is (.int .i64 (k : Int)), .is (.pointer (some ⟨gv, k, none⟩)), .int, .row 4, .is (.pointer (some ⟨g, 0, none⟩)), .rng 4, .at, .int, .int, .int]) (DV w w g w.heap.size 229 1 [] (HhX w.heap.size B lo (.slice (some ⟨gu, 0, none⟩) n ca1) (.slice (some ⟨gv, 0, none⟩) m ca2) n m xs ys)) (by kernel_rfl) (by kernel_rfl) (D7.out.drew HX) ⟨?_, ?_, ?_, ?_, ?_, ?_, ?_, ?_, ?_, ?_, ?_, ?_, trivial⟩ ?_
          · exact ob_un (rx_field (fun w => by go_simp) rfl rfl rfl)
          · exact ob_un (rx_load 0 (fun w h => hhx_load2 w h) rfl rfl rfl rfl)
          · exact ob_un (dv_lift HX fun _ HLO => rt_move (.int .i64 (k : Int)) rfl rfl rfl)
          · exact ob_un (rx_idx 1 2 (fun w _ => idx_row H2.out w) rfl rfl rfl rfl rfl rfl rfl)
          · exact ob_un (rx_loadI 3 (fun w' h => ⟨_, hhx_at w' (ownI_cell h.2.2.2 (i := k) (by have := h.2.2.2.len; have := H2.out; omega)).1⟩) rfl rfl rfl rfl)
          · exact ob_un (dv_lift HX fun _ HLO => rt_row (E := 3) (fun f w => by go_simp) rfl ⟨oi_const 0, oi_const 1, oi_const 1, oi_const (-1), trivial⟩ rfl)
          · exact ob_un (dv_lift HX fun _ HLO => rt_move (.pointer (some ⟨g, 0, none⟩)) rfl rfl rfl)
          · exact ob_un (dv_lift HX fun _ HLO => rt_pick (m := 4) 6 (by omega) (by simp <;> omega) (by omega) (by omega) rfl rfl rfl rfl)
          · exact ob_un (dv_lift HX fun _ HLO => rt_idx 5 7 (by omega) (by omega) rfl rfl rfl rfl rfl rfl rfl)
          · exact ob_un (dv_lift HX fun _ HLO => rt_load 8 rfl rfl rfl rfl)
          · exact ob_un (dv_lift HX fun _ HLO => rt_bin bin_add (oi_in 4 rfl rfl rfl) (oi_in 9 rfl rfl rfl) rfl)
          · exact ob_un (dv_lift HX fun _ HLO => rt_copy 10 rfl rfl rfl rfl)
          intro u8 w8 hI hF
          obtain ⟨f0, f1, f2, f3, f4, f5, f6, f7, f8, f9, f10, f11, -⟩ := hF
          obtain ⟨ys', hys⟩ : ∃ z : Int, u8 10 = .int .i64 z := f11
          have D8 := hid (hI.re (K' := 1) (p' := 241) (by simp))
          clear f0 f1 f2 f3 f4 f5 f6 f7 f8 f9 f10 hI
          simp only [outTmps, List.setIfInBounds_toArray, List.set_cons_zero, List.set_cons_succ, hys]
          obtain ⟨hvr, hvb, o1, o2⟩ := D8.out.2
          obtain ⟨c0, c1⟩ := vb2 hvb
          obtain ⟨r0, r1⟩ := vb2 hvr
          have fr := hvr.2.1
          have FF := hid (FIN _ D8.out.2)
          have BW := hid (((D8.out.1.below (by have := HG.out; omega)).setCell (p := ⟨w.heap.size, 0, none⟩) (by simp) (.slice (some ⟨gu, 0, none⟩) n ca1)).setCell (p := ⟨w.heap.size, 1, none⟩) (by simp) (.slice (some ⟨gv, 0, none⟩) m ca2))
          clear hvr hvb o1 o2 FIN
          go_wp2_with fail
          obtain ⟨t0, t1⟩ := vb2 FF.out.1
          refine bodyPost_ret (v := .tuple #[.agg #[.slice (some ⟨gu, 0, none⟩) n ca1, .slice (some ⟨gv, 0, none⟩) m ca2], .int .i64 ((k : Int)), .int .i64 yb, .int .i64 ys']) (res_hear _ rfl t0 t1 rfl rfl rfl) rfl ?_
          exact ⟨_, _, n, m, xs, ys, (k : Int), yb, ys', rfl, FF.out.2.1, FF.out.2.2, BW.out⟩
        · have dx : (x == 0) = false := by simpa using ex
          obtain ⟨hvr, hvb, o1, o2⟩ := D6.out.2
          obtain ⟨c0, c1⟩ := vb2 hvb
          obtain ⟨r0, r1⟩ := vb2 hvr
          have fr := hvr.2.1
          have FF := hid (FIN _ D6.out.2)
          have BW := hid (((D6.out.1.below (by have := HG.out; omega)).setCell (p := ⟨w.heap.size, 0, none⟩) (by simp) (.slice a1 n ca1)).setCell (p := ⟨w.heap.size, 1, none⟩) (by simp) (.slice a2 m ca2))
          clear hvr hvb o1 o2 FIN
          go_wp2_with fail
          obtain ⟨t0, t1⟩ := vb2 FF.out.1
          refine bodyPost_ret (v := .tuple #[.agg #[.slice a1 n ca1, .slice a2 m ca2], .int .i64 ((k : Int)), .int .i64 zb, .int .i64 zs]) (res_hear _ rfl t0 t1 rfl rfl rfl) rfl ?_
          exact ⟨_, _, n, m, xs, ys, (k : Int), zb, zs, rfl, FF.out.2.1, FF.out.2.2, BW.out⟩
      · have h2' : ¬ (k : Int) < (m : Int) := by omega
        clear o1 o2 c0 c1
        obtain ⟨hvr, hvb, o1, o2⟩ := D5.out.2
        obtain ⟨c0, c1⟩ := vb2 hvb
        obtain ⟨r0, r1⟩ := vb2 hvr
        have fr := hvr.2.1
        have FF := hid (FIN _ D5.out.2)
        have BW := hid (((D5.out.1.below (by have := HG.out; omega)).setCell (p := ⟨w.heap.size, 0, none⟩) (by simp) (.slice a1 n ca1)).setCell (p := ⟨w.heap.size, 1, none⟩) (by simp) (.slice a2 m ca2))
        clear hvr hvb o1 o2 FIN
        go_wp2_with fail
        obtain ⟨t0, t1⟩ := vb2 FF.out.1
        refine bodyPost_ret (v := .tuple #[.agg #[.slice a1 n ca1, .slice a2 m ca2], .int .i64 ((k : Int)), .int .i64 zb, .int .i64 zs]) (res_hear _ rfl t0 t1 rfl rfl rfl) rfl ?_
        exact ⟨_, _, n, m, xs, ys, (k : Int), zb, zs, rfl, FF.out.2.1, FF.out.2.2, BW.out⟩
    · have h1' : ¬ (k : Int) < (n : Int) := by omega
      clear o1 o2 c0 c1
      obtain ⟨hvr, hvb, o1, o2⟩ := D5.out.2
      obtain ⟨c0, c1⟩ := vb2 hvb
      obtain ⟨r0, r1⟩ := vb2 hvr
      have fr := hvr.2.1
      have FF := hid (FIN _ D5.out.2)
      have BW := hid (((D5.out.1.below (by have := HG.out; omega)).setCell (p := ⟨w.heap.size, 0, none⟩) (by simp) (.slice a1 n ca1)).setCell (p := ⟨w.heap.size, 1, none⟩) (by simp) (.slice a2 m ca2))
      clear hvr hvb o1 o2 FIN
      go_wp2_with fail
      obtain ⟨t0, t1⟩ := vb2 FF.out.1
      refine bodyPost_ret (v := .tuple #[.agg #[.slice a1 n ca1, .slice a2 m ca2], .int .i64 ((k : Int)), .int .i64 zb, .int .i64 zs]) (res_hear _ rfl t0 t1 rfl rfl rfl) rfl ?_
      exact ⟨_, _, n, m, xs, ys, (k : Int), zb, zs, rfl, FF.out.2.1, FF.out.2.2, BW.out⟩
  · clear o1 o2 c0 c1
    obtain ⟨hvr, hvb, o1, o2⟩ := D5.out.2
    obtain ⟨c0, c1⟩ := vb2 hvb
    obtain ⟨r0, r1⟩ := vb2 hvr
    have fr := hvr.2.1
    have FF := hid (FIN _ D5.out.2)
    have BW := hid (((D5.out.1.below (by have := HG.out; omega)).setCell (p := ⟨w.heap.size, 0, none⟩) (by simp) (.slice a1 n ca1)).setCell (p := ⟨w.heap.size, 1, none⟩) (by simp) (.slice a2 m ca2))
    clear hvr hvb o1 o2 FIN
    go_wp2_with fail
    obtain ⟨t0, t1⟩ := vb2 FF.out.1
    refine bodyPost_ret (v := .tuple #[.agg #[.slice a1 n ca1, .slice a2 m ca2], .int .i64 (zk), .int .i64 zb, .int .i64 zs]) (res_hear _ rfl t0 t1 rfl rfl rfl) rfl ?_
    exact ⟨_, _, n, m, xs, ys, zk, zb, zs, rfl, FF.out.2.1, FF.out.2.2, BW.out⟩
end Go.Proofs.Ytioikijheilliaa
