/- The draws of halves, by kinds: whatever is drawn is a half; the reader goes on. Conditions: the reader lies as it was opened. -/
import Derived.Test.YthpojgolkpdgkaaRegTy
import Derived.Test.YthpojgolkpdgkaaAggInts
import Derived.Deep.DeepCutAuto
namespace Go.Proofs.Ythpojgolkpdgkaa
open Go.ChangeShapes Go.WideShapes Go.ChangeAt Go.RowKit Go.Joins Go.Deep
set_option linter.unusedVariables false
set_option linter.unusedSimpArgs false
set_option maxRecDepth 4000
theorem st4_OutOut : ∀ (b : Nat) (ys xs : List Int) (w : World), IB w b ys → ys.length = 4 → xs.length = 4 → (Instr.storeAt 24 (.pointer (some ⟨b, 0, none⟩)) (.agg (xs.map (Value.int .i64)).toArray)).run Try.prog w = .ok () (setL w b 0 xs) := by
  intro b ys xs w h hy hx
  obtain ⟨y0, y1, y2, y3, rfl⟩ := list_4 hy
  obtain ⟨x0, x1, x2, x3, rfl⟩ := list_4 hx
  obtain ⟨c0, c1, c2, c3⟩ := ib4 h
  have ff := h.2.1
  simp only [setL]
  clear h hy hx
  go_simp
theorem ld4_OutOut : ∀ (b : Nat) (xs : List Int) (w : World), IB w b xs → xs.length = 4 → (Instr.loadAt 24 (.pointer (some ⟨b, 0, none⟩))).run Try.prog w = .ok (.agg (xs.map (Value.int .i64)).toArray) w := by
  intro b xs w h hx
  obtain ⟨x0, x1, x2, x3, rfl⟩ := list_4 hx
  obtain ⟨c0, c1, c2, c3⟩ := ib4 h
  clear h hx
  go_simp
theorem at_row {w w3 : World} {g : Nat} (L : List Int) (t : TypeId) (i : Int) (h0 : 0 ≤ i) (h1 : i < L.length) (hg : ¬ w.heap.size = g)
    (hc : ∀ b o, ¬ b = g → w3.cell? ⟨b, o, none⟩ = (w.alloc (.cells (L.map (Value.int .i64)).toArray t)).cell? ⟨b, o, none⟩) :
    ∃ m ∈ L, w3.cell? ⟨w.heap.size, i.toNat, none⟩ = some (.int .i64 m) := by
  obtain ⟨n, rfl⟩ := Int.eq_ofNat_of_zero_le h0
  rw [Int.toNat_natCast]
  have hn : n < L.length := by omega
  exact ⟨L[n], List.getElem_mem hn, (hc _ _ hg).trans (by simp [hn])⟩
set_option maxHeartbeats 1000000 in
theorem draw_l31Boot : Draws 79 1 .int := by
  intro W w g p hr hp
  go_enter Try.func79, Try.ntmps79
  have RD1 := hid (hr.keep (below_alloc1 w (.cells #[.int .i64 1, .int .i64 1, .int .i64 2, .int .i64 3, .int .i64 60000, .int .i64 0, .int .i64 60001, .int .i64 (-1)] 3)))
  have hg : g < w.heap.size := (DW.start (K := 1) hr).rd_lt
  have n1 : ¬ w.heap.size = g := by omega
  clear hr
  go_wp2_with fail
  refine (pick_any 8 W _ g p RD1.out (by omega) (by omega) (by omega)).mono ?_
  rintro e w2 ⟨x2, rfl, l2, u2, rd, hc2, hf2, hz2, gr2⟩
  obtain ⟨m, hm, hcm⟩ := at_row [1, 1, 2, 3, 60000, 0, 60001, -1] 3 x2 l2 (by simpa using u2) n1 hc2
  have G2 := hid (gtrans (galloc (grefl w g) _) gr2)
  have RD2 := hid rd
  clear rd gr2 hc2 hf2 hz2 RD1 hm
  go_wp2
  go_ret
  exact ⟨_, rfl, ⟨m, rfl⟩, ⟨_, by omega, RD2.out⟩, G2.out⟩
theorem cf_boot (xs : Array Value) (w : World) : (callFunc 79 xs).run Try.prog w = .ok (.enter 79 xs) w := by
  go_simp
theorem res_l31Out {W : World} {b : Nat} {x0 x1 x2 x3 : Value} (tmps : Array Value) (ht : tmps[2]?.getD undef = .pointer (some ⟨b, 0, none⟩)) (h0 : W.cell? ⟨b, 0, none⟩ = some x0) (h1 : W.cell? ⟨b, 1, none⟩ = some x1) (h2 : W.cell? ⟨b, 2, none⟩ = some x2) (h3 : W.cell? ⟨b, 3, none⟩ = some x3) :
    (results Try.f51 tmps).run Try.prog W = .ok (.agg #[x0, x1, x2, x3]) W := by
  simp [results, Try.results51, go_sem, ht, h0, h1, h2, h3]
set_option maxHeartbeats 4000000 in
theorem draw_l31Out : Draws 51 60 (.agg 4) := by
  intro W w g p hr hp
  have HGL : g < w.heap.size := (DW.start (K := 1) hr).rd_lt
  have HLO : w.heap.size ≤ w.heap.size := Nat.le_refl _
  have DD := hid ((DW.start (K := 1) hr).push [0, 0, 0, 0] 24)
  clear hr
  go_enter Try.func51, Try.ntmps51
  go_wp2_with fail
  refine region_facts (Fs g w.heap.size [.is (.pointer (some ⟨g, 0, none⟩)), .rng 3, .int, .is (.pointer (some ⟨g, 0, none⟩)), .rng 4, .row 5, .is (.pointer (some ⟨g, 0, none⟩)), .rng 5, .at, .int, .is (.pointer (some ⟨g, 0, none⟩)), .rng 16, .row 5, .is (.pointer (some ⟨g, 0, none⟩)), .rng 5, .at, .int, .agg 4, .blk 4, .any]) (DW W w g w.heap.size p 1 [(w.heap.size, 4)]) (by kernel_rfl) (by kernel_rfl) DD.out.drew ⟨?_, ?_, ?_, ?_, ?_, ?_, ?_, ?_, ?_, ?_, ?_, ?_, ?_, ?_, ?_, ?_, ?_, ?_, ?_, ?_, trivial⟩ ?_
  · exact ob_un (rt_move (.pointer (some ⟨g, 0, none⟩)) rfl rfl rfl)
  · exact ob_un (rt_pick (m := 3) 0 (by omega) (by simp <;> omega) (by omega) (by omega) rfl rfl rfl rfl)
  · exact ob_un (rt_bin bin_add (oi_const 1) (oi_rng 1 3 rfl rfl rfl) rfl)
  · exact ob_un (rt_move (.pointer (some ⟨g, 0, none⟩)) rfl rfl rfl)
  · exact ob_un (rt_pick (m := 4) 3 (by omega) (by simp <;> omega) (by omega) (by omega) rfl rfl rfl rfl)
  · exact ob_un (rt_row (E := 3) (fun f w => by go_simp) rfl ⟨oi_const 0, oi_const 1, oi_const 2, oi_const 199, oi_const 200, trivial⟩ rfl)
  · exact ob_un (rt_move (.pointer (some ⟨g, 0, none⟩)) rfl rfl rfl)
  · exact ob_un (rt_pick (m := 5) 6 (by omega) (by simp <;> omega) (by omega) (by omega) rfl rfl rfl rfl)
  · exact ob_un (rt_idx 5 7 (by omega) (by omega) rfl rfl rfl rfl rfl rfl rfl)
  · exact ob_un (rt_load 8 rfl rfl rfl rfl)
  · exact ob_un (rt_move (.pointer (some ⟨g, 0, none⟩)) rfl rfl rfl)
  · exact ob_un (rt_pick (m := 16) 10 (by omega) (by simp <;> omega) (by omega) (by omega) rfl rfl rfl rfl)
  · exact ob_un (rt_row (E := 3) (fun f w => by go_simp) rfl ⟨oi_const 0, oi_const 1, oi_const 14, oi_const 15, oi_rng 11 16 rfl rfl rfl, trivial⟩ rfl)
  · exact ob_un (rt_move (.pointer (some ⟨g, 0, none⟩)) rfl rfl rfl)
  · exact ob_un (rt_pick (m := 5) 13 (by omega) (by simp <;> omega) (by omega) (by omega) rfl rfl rfl rfl)
  · exact ob_un (rt_idx 12 14 (by omega) (by omega) rfl rfl rfl rfl rfl rfl rfl)
  · exact ob_un (rt_load 15 rfl rfl rfl rfl)
  · exact ob_un (rt_build (fun f w => ⟨[f (.tmp 6), f (.tmp 8), f (.tmp 13), f (.tmp 20)], rfl, by go_simp⟩) ⟨oi_in 2 rfl rfl rfl, oi_rng 4 4 rfl rfl rfl, oi_in 9 rfl rfl rfl, oi_in 16 rfl rfl rfl, trivial⟩ rfl)
  · exact ob_un (rt_alloc (fun w => by go_simp) rfl)
  · exact ob_un (rt_store 18 17 HLO (st4_OutOut) rfl rfl rfl rfl rfl rfl rfl)
  intro u1 w1 hI hF
  obtain ⟨f0, f1, f2, f3, f4, f5, f6, f7, f8, f9, f10, f11, f12, f13, f14, f15, f16, f17, f18, f19, -⟩ := hF
  obtain ⟨b, hb, hgb⟩ : ∃ b, u1 3 = .pointer (some ⟨b, 0, none⟩) ∧ Good g w.heap.size w1 b 4 := f18
  have DD := hid ((hI.re (K' := 1) (p' := p + 20) (by simp)).add hgb)
  clear f0 f1 f2 f3 f4 f5 f6 f7 f8 f9 f10 f11 f12 f13 f14 f15 f16 f17 f19 hI hgb
  simp only [outTmps, List.setIfInBounds_toArray, List.set_cons_zero, List.set_cons_succ]
  go_wp2_with fail
  refine (pick_dw 16 DD.out (by omega) (by omega) (by omega)).mono ?_
  rintro e wp ⟨x, rfl, lx, ux, DD, -⟩
  by_cases e0 : x = 0
  · subst e0
    go_upto_region 4 with fail
    refine region_plain (Fs g w.heap.size [.is (.pointer (some ⟨g, 0, none⟩)), .int, .at, .any]) (DW W w g w.heap.size (p + 20 + 1) 1 [(b, 4), (w.heap.size, 4)]) (by kernel_rfl) DD.out ⟨?_, ?_, ?_, ?_, trivial⟩ ?_
    · exact ob_un (rt_move (.pointer (some ⟨g, 0, none⟩)) rfl rfl rfl)
    · exact ob_un (rt_draw 0 draw_l31Boot cf_boot (by omega) (by simp <;> omega) rfl rfl rfl rfl)
    · exact ob_un (rt_field (k := 4) b (by simp) (by omega) (fun w => by go_simp) rfl (by first | rfl | exact hb) rfl)
    · exact ob_un (rt_stInt 2 HLO rfl rfl rfl (oi_in 1 rfl rfl rfl) rfl)
    intro u4 w4 hI hF
    obtain ⟨f0, f1, f2, f3, -⟩ := hF
    have DD := hid (hI.re (K' := 1) (p' := p + 20 + 1 + 4) (by simp))
    clear f0 f1 f2 f3 hI
    simp only [outTmps, List.setIfInBounds_toArray, List.set_cons_zero, List.set_cons_succ]
    go_upto_region 11 with fail
    refine region_plain (Fs g w.heap.size [.agg 4, .any]) (DW W w g w.heap.size (p + 20 + 1 + 4) 1 [(b, 4), (w.heap.size, 4)]) (by kernel_rfl) DD.out ⟨?_, ?_, trivial⟩ ?_
    · exact ob_un (rt_loadOut b (by simp) ld4_OutOut rfl (by first | rfl | exact hb) rfl)
    · exact ob_un (rt_storeOut w.heap.size 0 HLO (by simp) st4_OutOut rfl rfl rfl rfl rfl rfl)
    intro u11 w11 hI hF
    obtain ⟨f0, f1, -⟩ := hF
    obtain ⟨-, hlo, xs, hx, hib⟩ := hI.2.2.2.2.1 (w.heap.size, 4) (by simp)
    obtain ⟨y0, y1, y2, y3, rfl⟩ := list_4 hx
    obtain ⟨c0, c1, c2, c3⟩ := ib4 hib
    obtain ⟨⟨q, hq, rd⟩, gr, -⟩ := hI
    clear f0 f1 hib hlo
    simp at hq
    have HQ := hid hq
    have RD := hid rd
    have GR := hid gr
    clear rd gr hq
    simp only [outTmps, List.setIfInBounds_toArray, List.set_cons_zero, List.set_cons_succ]
    go_wp2_with fail
    refine bodyPost_ret (res_l31Out _ rfl c0 c1 c2 c3) rfl ?_
    exact ⟨_, rfl, ⟨[y0, y1, y2, y3], rfl, rfl⟩, ⟨q, by have := HQ.out; omega, RD.out⟩, GR.out⟩
  have d0 : (x == 0) = false := by simpa using e0
  by_cases e1 : x = 1
  · subst e1
    go_upto_region 6 with fail
    refine region_plain (Fs g w.heap.size [.row 3, .is (.pointer (some ⟨g, 0, none⟩)), .rng 3, .at, .int, .at, .any]) (DW W w g w.heap.size (p + 20 + 1) 1 [(b, 4), (w.heap.size, 4)]) (by kernel_rfl) DD.out ⟨?_, ?_, ?_, ?_, ?_, ?_, ?_, trivial⟩ ?_
    · exact ob_un (rt_row (E := 3) (fun f w => by go_simp) rfl ⟨oi_const (-1), oi_const 60000, oi_const 60001, trivial⟩ rfl)
    · exact ob_un (rt_move (.pointer (some ⟨g, 0, none⟩)) rfl rfl rfl)
    · exact ob_un (rt_pick (m := 3) 1 (by omega) (by simp <;> omega) (by omega) (by omega) rfl rfl rfl rfl)
    · exact ob_un (rt_idx 0 2 (by omega) (by omega) rfl rfl rfl rfl rfl rfl rfl)
    · exact ob_un (rt_load 3 rfl rfl rfl rfl)
    · exact ob_un (rt_field (k := 4) b (by simp) (by omega) (fun w => by go_simp) rfl (by first | rfl | exact hb) rfl)
    · exact ob_un (rt_stInt 5 HLO rfl rfl rfl (oi_in 4 rfl rfl rfl) rfl)
    intro u6 w6 hI hF
    obtain ⟨f0, f1, f2, f3, f4, f5, f6, -⟩ := hF
    have DD := hid (hI.re (K' := 1) (p' := p + 20 + 1 + 7) (by simp))
    clear f0 f1 f2 f3 f4 f5 f6 hI
    simp only [outTmps, List.setIfInBounds_toArray, List.set_cons_zero, List.set_cons_succ]
    go_upto_region 11 with fail
    refine region_plain (Fs g w.heap.size [.agg 4, .any]) (DW W w g w.heap.size (p + 20 + 1 + 7) 1 [(b, 4), (w.heap.size, 4)]) (by kernel_rfl) DD.out ⟨?_, ?_, trivial⟩ ?_
    · exact ob_un (rt_loadOut b (by simp) ld4_OutOut rfl (by first | rfl | exact hb) rfl)
    · exact ob_un (rt_storeOut w.heap.size 0 HLO (by simp) st4_OutOut rfl rfl rfl rfl rfl rfl)
    intro u11 w11 hI hF
    obtain ⟨f0, f1, -⟩ := hF
    obtain ⟨-, hlo, xs, hx, hib⟩ := hI.2.2.2.2.1 (w.heap.size, 4) (by simp)
    obtain ⟨y0, y1, y2, y3, rfl⟩ := list_4 hx
    obtain ⟨c0, c1, c2, c3⟩ := ib4 hib
    obtain ⟨⟨q, hq, rd⟩, gr, -⟩ := hI
    clear f0 f1 hib hlo
    simp at hq
    have HQ := hid hq
    have RD := hid rd
    have GR := hid gr
    clear rd gr hq
    simp only [outTmps, List.setIfInBounds_toArray, List.set_cons_zero, List.set_cons_succ]
    go_wp2_with fail
    refine bodyPost_ret (res_l31Out _ rfl c0 c1 c2 c3) rfl ?_
    exact ⟨_, rfl, ⟨[y0, y1, y2, y3], rfl, rfl⟩, ⟨q, by have := HQ.out; omega, RD.out⟩, GR.out⟩
  have d1 : (x == 1) = false := by simpa using e1
  by_cases e2 : x = 2
  · subst e2
    go_upto_region 8 with fail
    refine region_plain (Fs g w.heap.size [.row 2, .is (.pointer (some ⟨g, 0, none⟩)), .rng 2, .at, .int, .at, .any]) (DW W w g w.heap.size (p + 20 + 1) 1 [(b, 4), (w.heap.size, 4)]) (by kernel_rfl) DD.out ⟨?_, ?_, ?_, ?_, ?_, ?_, ?_, trivial⟩ ?_
    · exact ob_un (rt_row (E := 3) (fun f w => by go_simp) rfl ⟨oi_const (-1), oi_const 201, trivial⟩ rfl)
    · exact ob_un (rt_move (.pointer (some ⟨g, 0, none⟩)) rfl rfl rfl)
    · exact ob_un (rt_pick (m := 2) 1 (by omega) (by simp <;> omega) (by omega) (by omega) rfl rfl rfl rfl)
    · exact ob_un (rt_idx 0 2 (by omega) (by omega) rfl rfl rfl rfl rfl rfl rfl)
    · exact ob_un (rt_load 3 rfl rfl rfl rfl)
    · exact ob_un (rt_field (k := 4) b (by simp) (by omega) (fun w => by go_simp) rfl (by first | rfl | exact hb) rfl)
    · exact ob_un (rt_stInt 5 HLO rfl rfl rfl (oi_in 4 rfl rfl rfl) rfl)
    intro u8 w8 hI hF
    obtain ⟨f0, f1, f2, f3, f4, f5, f6, -⟩ := hF
    have DD := hid (hI.re (K' := 1) (p' := p + 20 + 1 + 7) (by simp))
    clear f0 f1 f2 f3 f4 f5 f6 hI
    simp only [outTmps, List.setIfInBounds_toArray, List.set_cons_zero, List.set_cons_succ]
    go_upto_region 11 with fail
    refine region_plain (Fs g w.heap.size [.agg 4, .any]) (DW W w g w.heap.size (p + 20 + 1 + 7) 1 [(b, 4), (w.heap.size, 4)]) (by kernel_rfl) DD.out ⟨?_, ?_, trivial⟩ ?_
    · exact ob_un (rt_loadOut b (by simp) ld4_OutOut rfl (by first | rfl | exact hb) rfl)
    · exact ob_un (rt_storeOut w.heap.size 0 HLO (by simp) st4_OutOut rfl rfl rfl rfl rfl rfl)
    intro u11 w11 hI hF
    obtain ⟨f0, f1, -⟩ := hF
    obtain ⟨-, hlo, xs, hx, hib⟩ := hI.2.2.2.2.1 (w.heap.size, 4) (by simp)
    obtain ⟨y0, y1, y2, y3, rfl⟩ := list_4 hx
    obtain ⟨c0, c1, c2, c3⟩ := ib4 hib
    obtain ⟨⟨q, hq, rd⟩, gr, -⟩ := hI
    clear f0 f1 hib hlo
    simp at hq
    have HQ := hid hq
    have RD := hid rd
    have GR := hid gr
    clear rd gr hq
    simp only [outTmps, List.setIfInBounds_toArray, List.set_cons_zero, List.set_cons_succ]
    go_wp2_with fail
    refine bodyPost_ret (res_l31Out _ rfl c0 c1 c2 c3) rfl ?_
    exact ⟨_, rfl, ⟨[y0, y1, y2, y3], rfl, rfl⟩, ⟨q, by have := HQ.out; omega, RD.out⟩, GR.out⟩
  have d2 : (x == 2) = false := by simpa using e2
  by_cases e3 : x = 3
  · subst e3
    go_upto_region 10 with fail
    refine region_plain (Fs g w.heap.size [.row 2, .is (.pointer (some ⟨g, 0, none⟩)), .rng 2, .at, .int, .at, .any]) (DW W w g w.heap.size (p + 20 + 1) 1 [(b, 4), (w.heap.size, 4)]) (by kernel_rfl) DD.out ⟨?_, ?_, ?_, ?_, ?_, ?_, ?_, trivial⟩ ?_
    · exact ob_un (rt_row (E := 3) (fun f w => by go_simp) rfl ⟨oi_const (-1), oi_const 16, trivial⟩ rfl)
    · exact ob_un (rt_move (.pointer (some ⟨g, 0, none⟩)) rfl rfl rfl)
    · exact ob_un (rt_pick (m := 2) 1 (by omega) (by simp <;> omega) (by omega) (by omega) rfl rfl rfl rfl)
    · exact ob_un (rt_idx 0 2 (by omega) (by omega) rfl rfl rfl rfl rfl rfl rfl)
    · exact ob_un (rt_load 3 rfl rfl rfl rfl)
    · exact ob_un (rt_field (k := 4) b (by simp) (by omega) (fun w => by go_simp) rfl (by first | rfl | exact hb) rfl)
    · exact ob_un (rt_stInt 5 HLO rfl rfl rfl (oi_in 4 rfl rfl rfl) rfl)
    intro u10 w10 hI hF
    obtain ⟨f0, f1, f2, f3, f4, f5, f6, -⟩ := hF
    have DD := hid (hI.re (K' := 1) (p' := p + 20 + 1 + 7) (by simp))
    clear f0 f1 f2 f3 f4 f5 f6 hI
    simp only [outTmps, List.setIfInBounds_toArray, List.set_cons_zero, List.set_cons_succ]
    go_upto_region 11 with fail
    refine region_plain (Fs g w.heap.size [.agg 4, .any]) (DW W w g w.heap.size (p + 20 + 1 + 7) 1 [(b, 4), (w.heap.size, 4)]) (by kernel_rfl) DD.out ⟨?_, ?_, trivial⟩ ?_
    · exact ob_un (rt_loadOut b (by simp) ld4_OutOut rfl (by first | rfl | exact hb) rfl)
    · exact ob_un (rt_storeOut w.heap.size 0 HLO (by simp) st4_OutOut rfl rfl rfl rfl rfl rfl)
    intro u11 w11 hI hF
    obtain ⟨f0, f1, -⟩ := hF
    obtain ⟨-, hlo, xs, hx, hib⟩ := hI.2.2.2.2.1 (w.heap.size, 4) (by simp)
    obtain ⟨y0, y1, y2, y3, rfl⟩ := list_4 hx
    obtain ⟨c0, c1, c2, c3⟩ := ib4 hib
    obtain ⟨⟨q, hq, rd⟩, gr, -⟩ := hI
    clear f0 f1 hib hlo
    simp at hq
    have HQ := hid hq
    have RD := hid rd
    have GR := hid gr
    clear rd gr hq
    simp only [outTmps, List.setIfInBounds_toArray, List.set_cons_zero, List.set_cons_succ]
    go_wp2_with fail
    refine bodyPost_ret (res_l31Out _ rfl c0 c1 c2 c3) rfl ?_
    exact ⟨_, rfl, ⟨[y0, y1, y2, y3], rfl, rfl⟩, ⟨q, by have := HQ.out; omega, RD.out⟩, GR.out⟩
  have d3 : (x == 3) = false := by simpa using e3
  go_upto_region 11 with fail
  refine region_plain (Fs g w.heap.size [.agg 4, .any]) (DW W w g w.heap.size (p + 20 + 1) 1 [(b, 4), (w.heap.size, 4)]) (by kernel_rfl) DD.out ⟨?_, ?_, trivial⟩ ?_
  · exact ob_un (rt_loadOut b (by simp) ld4_OutOut rfl (by first | rfl | exact hb) rfl)
  · exact ob_un (rt_storeOut w.heap.size 0 HLO (by simp) st4_OutOut rfl rfl rfl rfl rfl rfl)
  intro u11 w11 hI hF
  obtain ⟨f0, f1, -⟩ := hF
  obtain ⟨-, hlo, xs, hx, hib⟩ := hI.2.2.2.2.1 (w.heap.size, 4) (by simp)
  obtain ⟨y0, y1, y2, y3, rfl⟩ := list_4 hx
  obtain ⟨c0, c1, c2, c3⟩ := ib4 hib
  obtain ⟨⟨q, hq, rd⟩, gr, -⟩ := hI
  clear f0 f1 hib hlo
  simp at hq
  have HQ := hid hq
  have RD := hid rd
  have GR := hid gr
  clear rd gr hq
  simp only [outTmps, List.setIfInBounds_toArray, List.set_cons_zero, List.set_cons_succ]
  go_wp2_with fail
  refine bodyPost_ret (res_l31Out _ rfl c0 c1 c2 c3) rfl ?_
  exact ⟨_, rfl, ⟨[y0, y1, y2, y3], rfl, rfl⟩, ⟨q, by have := HQ.out; omega, RD.out⟩, GR.out⟩
theorem cf_out (xs : Array Value) (w : World) : (callFunc 51 xs).run Try.prog w = .ok (.enter 51 xs) w := by
  go_simp
theorem res_DrawOutPeer {W : World} {b : Nat} {x0 x1 x2 x3 z : Value} (tmps : Array Value) (ht : tmps[2]?.getD undef = .pointer (some ⟨b, 0, none⟩)) (hz : tmps[3]?.getD undef = z) (h0 : W.cell? ⟨b, 0, none⟩ = some x0) (h1 : W.cell? ⟨b, 1, none⟩ = some x1) (h2 : W.cell? ⟨b, 2, none⟩ = some x2) (h3 : W.cell? ⟨b, 3, none⟩ = some x3) :
    (results Try.f22 tmps).run Try.prog W = .ok (.tuple #[.agg #[x0, x1, x2, x3], z]) W := by
  simp [results, Try.results22, go_sem, ht, h0, h1, h2, h3, hz]
set_option maxHeartbeats 2000000 in
theorem drawOutPeer_any (a : Option Addr) (len cap : Nat) (xs : List Int) (w : World) (hn : xs.length = len) (hv : Rd w (.slice a len cap) xs) (hcap : len ≤ cap) :
    Calls Try.prog 22 #[.slice a len cap] w fun e w' => ∃ y0 y1 y2 y3 z : Int, e = .returned (.tuple #[.agg #[.int .i64 y0, .int .i64 y1, .int .i64 y2, .int .i64 y3], .int .i64 z]) ∧ Below w.heap.size w w' := by
  have HV := hid hv
  have HLO : w.heap.size ≤ w.heap.size := Nat.le_refl _
  have HR : Hid (∀ x ∈ [(w.heap.size, 4)], w.heap.size ≤ x.1 ∧ x.1 < (w.alloc (.cells #[.int .i64 0, .int .i64 0, .int .i64 0, .int .i64 0] 24)).heap.size ∧ ∃ xs : List Int, xs.length = x.2 ∧ IB (w.alloc (.cells #[.int .i64 0, .int .i64 0, .int .i64 0, .int .i64 0] 24)) x.1 xs) := hid (by
    intro x hx
    rw [List.mem_singleton.1 hx]
    exact ⟨Nat.le_refl _, by simp, [0, 0, 0, 0], rfl, ib_new w [0, 0, 0, 0] 24⟩)
  clear hv
  go_enter Try.func22, Try.ntmps22
  go_wp2_with fail
  refine (open_dw (K := 60) (Rs := [(w.heap.size, 4)]) a len cap xs w _ hn HV.out hcap (below_alloc1 _ _) HR.out).mono ?_
  rintro e w1 ⟨rfl, DD⟩
  obtain ⟨g, hg⟩ : ∃ g, (w.alloc (.cells #[.int .i64 0, .int .i64 0, .int .i64 0, .int .i64 0] 24)).heap.size = g := ⟨_, rfl⟩
  rw [hg] at DD ⊢
  have HG : Hid (w.heap.size ≤ g) := hid (by rw [← hg]; simp)
  clear hg HR HV hn hcap
  go_upto_region 2 with fail
  refine region_facts (Fs g w.heap.size [.is (.pointer (some ⟨g, 0, none⟩)), .agg 4, .row 8, .is (.pointer (some ⟨g, 0, none⟩)), .rng 8, .at, .int, .any, .int]) (DW w w g w.heap.size 0 60 [(w.heap.size, 4)]) (by kernel_rfl) (by kernel_rfl) DD.out.drew ⟨?_, ?_, ?_, ?_, ?_, ?_, ?_, ?_, ?_, trivial⟩ ?_
  · exact ob_un (rt_move (.pointer (some ⟨g, 0, none⟩)) rfl rfl rfl)
  · exact ob_un (rt_draw 0 draw_l31Out cf_out (by omega) (by simp) rfl rfl rfl rfl)
  · exact ob_un (rt_row (E := 3) (fun f w => by go_simp) rfl ⟨oi_const 0, oi_const 1, oi_const 2, oi_const 3, oi_const 4, oi_const 60000, oi_const 60001, oi_const (-1), trivial⟩ rfl)
  · exact ob_un (rt_move (.pointer (some ⟨g, 0, none⟩)) rfl rfl rfl)
  · exact ob_un (rt_pick (m := 8) 3 (by omega) (by simp <;> omega) (by omega) (by omega) rfl rfl rfl rfl)
  · exact ob_un (rt_idx 2 4 (by omega) (by omega) rfl rfl rfl rfl rfl rfl rfl)
  · exact ob_un (rt_load 5 rfl rfl rfl rfl)
  · exact ob_un (rt_storeOut w.heap.size 1 HLO (by simp) st4_OutOut rfl rfl rfl rfl rfl rfl)
  · exact ob_un (rt_copy 6 rfl rfl rfl rfl)
  intro u2 w2 hI hF
  obtain ⟨f0, f1, f2, f3, f4, f5, f6, f7, f8, -⟩ := hF
  obtain ⟨-, hlo, xs, hx, hib⟩ := hI.2.2.2.2.1 (w.heap.size, 4) (by simp)
  obtain ⟨y0, y1, y2, y3, rfl⟩ := list_4 hx
  obtain ⟨c0, c1, c2, c3⟩ := ib4 hib
  have BW := hid (hI.below HG.out)
  clear hib hlo hI
  obtain ⟨z, hz⟩ : ∃ z : Int, u2 3 = .int .i64 z := f8
  clear f0 f1 f2 f3 f4 f5 f6 f7
  simp only [outTmps, List.setIfInBounds_toArray, List.set_cons_zero, List.set_cons_succ]
  go_wp2_with fail
  refine bodyPost_ret (res_DrawOutPeer _ rfl (by first | rfl | exact hz) c0 c1 c2 c3) rfl ?_
  exact ⟨⟨y0, y1, y2, y3, z, rfl⟩, BW.out⟩
theorem setL_below {B : Nat} {w : World} : ∀ {w' : World} (_ : Below B w w') (b : Nat) (xs : List Int) (i : Nat) (_ : B ≤ b), Below B w (setL w' b i xs)
  | w', h, b, [], i, hb => h
  | w', h, b, x :: xs, i, hb => setL_below (h.setCell (by simpa using hb) _) b xs (i + 1) hb
theorem res_DrawOutNext {W : World} {b : Nat} {x0 x1 x2 x3  : Value} (tmps : Array Value) (ht : tmps[2]?.getD undef = .pointer (some ⟨b, 0, none⟩))  (h0 : W.cell? ⟨b, 0, none⟩ = some x0) (h1 : W.cell? ⟨b, 1, none⟩ = some x1) (h2 : W.cell? ⟨b, 2, none⟩ = some x2) (h3 : W.cell? ⟨b, 3, none⟩ = some x3) :
    (results Try.f17 tmps).run Try.prog W = .ok (.agg #[x0, x1, x2, x3]) W := by
  simp [results, Try.results17, go_sem, ht, h0, h1, h2, h3]
set_option maxHeartbeats 2000000 in
theorem drawOutNext_any (a : Option Addr) (len cap : Nat) (xs : List Int) (w : World) (hn : xs.length = len) (hv : Rd w (.slice a len cap) xs) (hcap : len ≤ cap) :
    Calls Try.prog 17 #[.slice a len cap] w fun e w' => ∃ y0 y1 y2 y3 : Int, e = .returned (.agg #[.int .i64 y0, .int .i64 y1, .int .i64 y2, .int .i64 y3]) ∧ Below w.heap.size w w' := by
  have HV := hid hv
  have HR : Hid (∀ x ∈ [(w.heap.size, 4)], w.heap.size ≤ x.1 ∧ x.1 < (w.alloc (.cells #[.int .i64 0, .int .i64 0, .int .i64 0, .int .i64 0] 24)).heap.size ∧ ∃ xs : List Int, xs.length = x.2 ∧ IB (w.alloc (.cells #[.int .i64 0, .int .i64 0, .int .i64 0, .int .i64 0] 24)) x.1 xs) := hid (by
    intro x hx
    rw [List.mem_singleton.1 hx]
    exact ⟨Nat.le_refl _, by simp, [0, 0, 0, 0], rfl, ib_new w [0, 0, 0, 0] 24⟩)
  clear hv
  go_enter Try.func17, Try.ntmps17
  go_wp2_with fail
  refine (open_dw (K := 1) (Rs := [(w.heap.size, 4)]) a len cap xs w _ hn HV.out hcap (below_alloc1 _ _) HR.out).mono ?_
  rintro e w1 ⟨rfl, DD⟩
  obtain ⟨g, hg⟩ : ∃ g, (w.alloc (.cells #[.int .i64 0, .int .i64 0, .int .i64 0, .int .i64 0] 24)).heap.size = g := ⟨_, rfl⟩
  rw [hg] at DD ⊢
  have HG : Hid (w.heap.size ≤ g) := hid (by rw [← hg]; simp)
  clear hg HR HV hn hcap
  go_wp2_with fail
  refine (draw_dw draw_l31Out DD.out (by omega)).mono ?_
  rintro e w2 ⟨v, rfl, HS, DD, -⟩
  obtain ⟨ys, hy, rfl⟩ := HS.out
  obtain ⟨x0, x1, x2, x3, rfl⟩ := list_4 hy
  obtain ⟨-, hlo, xs, hx, hib⟩ : Good g w.heap.size w2 w.heap.size 4 := DD.out.2.2.2.2.1 (w.heap.size, 4) (by simp)
  obtain ⟨y0, y1, y2, y3, rfl⟩ := list_4 hx
  obtain ⟨c0, c1, c2, c3⟩ := ib4 hib
  have ff := hib.2.1
  have G := hid (ib4 (ibset4 x0 x1 x2 x3 hib))
  have BW := hid (setL_below (DD.out.below HG.out) w.heap.size [x0, x1, x2, x3] 0 (Nat.le_refl _))
  clear hib hlo DD HS hx
  go_wp2_with fail
  obtain ⟨g0, g1, g2, g3⟩ := G.out
  refine bodyPost_ret (res_DrawOutNext _ rfl g0 g1 g2 g3) rfl ?_
  exact ⟨x0, x1, x2, x3, rfl, BW.out⟩

end Go.Proofs.Ythpojgolkpdgkaa
