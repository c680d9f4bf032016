/- The draws of halves, by kinds: whatever is drawn is a half; the reader goes on. Conditions: the reader lies as it was opened. -/
import Derived.Test.YthpojgolkpdgkaaRegTy
import Derived.Test.YthpojgolkpdgkaaAggInts
import Derived.Deep.DeepCutAuto
namespace Go.Proofs.Ythpojgolkpdgkaa
open Go.ChangeShapes Go.WideShapes Go.ChangeAt Go.RowKit Go.Joins Go.Deep
set_option linter.unusedVariables false
set_option linter.unusedSimpArgs false
set_option maxRecDepth 4000
theorem st3_InIn : ∀ (b : Nat) (ys xs : List Int) (w : World), IB w b ys → ys.length = 3 → xs.length = 3 → (Instr.storeAt 36 (.pointer (some ⟨b, 0, none⟩)) (.agg (xs.map (Value.int .i64)).toArray)).run Try.prog w = .ok () (setL w b 0 xs) := by
  intro b ys xs w h hy hx
  obtain ⟨y0, y1, y2, rfl⟩ := list_3 hy
  obtain ⟨x0, x1, x2, rfl⟩ := list_3 hx
  obtain ⟨c0, c1, c2⟩ := ib3 h
  have ff := h.2.1
  simp only [setL]
  clear h hy hx
  go_simp
theorem ld3_InIn : ∀ (b : Nat) (xs : List Int) (w : World), IB w b xs → xs.length = 3 → (Instr.loadAt 36 (.pointer (some ⟨b, 0, none⟩))).run Try.prog w = .ok (.agg (xs.map (Value.int .i64)).toArray) w := by
  intro b xs w h hx
  obtain ⟨x0, x1, x2, rfl⟩ := list_3 hx
  obtain ⟨c0, c1, c2⟩ := ib3 h
  clear h hx
  go_simp
theorem res_l31In {W : World} {b : Nat} {x0 x1 x2 : Value} (tmps : Array Value) (ht : tmps[2]?.getD undef = .pointer (some ⟨b, 0, none⟩)) (h0 : W.cell? ⟨b, 0, none⟩ = some x0) (h1 : W.cell? ⟨b, 1, none⟩ = some x1) (h2 : W.cell? ⟨b, 2, none⟩ = some x2) :
    (results Try.f81 tmps).run Try.prog W = .ok (.agg #[x0, x1, x2]) W := by
  simp [results, Try.results81, go_sem, ht, h0, h1, h2]
set_option maxHeartbeats 4000000 in
theorem draw_l31In : Draws 81 40 (.agg 3) := by
  intro W w g p hr hp
  have HGL : g < w.heap.size := (DW.start (K := 1) hr).rd_lt
  have HLO : w.heap.size ≤ w.heap.size := Nat.le_refl _
  have DD := hid ((DW.start (K := 1) hr).push [0, 0, 0] 36)
  clear hr
  go_enter Try.func81, Try.ntmps81
  
  go_upto_region 1 with fail
  refine region_plain (Fs g w.heap.size [.is (.pointer (some ⟨g, 0, none⟩)), .rng 4, .is (.pointer (some ⟨g, 0, none⟩)), .rng 3, .is (.pointer (some ⟨g, 0, none⟩)), .rng 17, .row 5, .is (.pointer (some ⟨g, 0, none⟩)), .rng 5, .at, .int, .agg 3, .blk 3, .any]) (DW W w g w.heap.size p 1 [(w.heap.size, 3)]) (by kernel_rfl) DD.out ⟨?_, ?_, ?_, ?_, ?_, ?_, ?_, ?_, ?_, ?_, ?_, ?_, ?_, ?_, trivial⟩ ?_
  · exact ob_un (rt_move (.pointer (some ⟨g, 0, none⟩)) rfl rfl rfl)
  · exact ob_un (rt_pick (m := 4) 0 (by omega) (by simp <;> omega) (by omega) (by omega) rfl rfl rfl rfl)
  · exact ob_un (rt_move (.pointer (some ⟨g, 0, none⟩)) rfl rfl rfl)
  · exact ob_un (rt_pick (m := 3) 2 (by omega) (by simp <;> omega) (by omega) (by omega) rfl rfl rfl rfl)
  · exact ob_un (rt_move (.pointer (some ⟨g, 0, none⟩)) rfl rfl rfl)
  · exact ob_un (rt_pick (m := 17) 4 (by omega) (by simp <;> omega) (by omega) (by omega) rfl rfl rfl rfl)
  · exact ob_un (rt_row (E := 3) (fun f w => by go_simp) rfl ⟨oi_const 0, oi_const 1, oi_const 15, oi_const 16, oi_rng 5 17 rfl rfl rfl, trivial⟩ rfl)
  · exact ob_un (rt_move (.pointer (some ⟨g, 0, none⟩)) rfl rfl rfl)
  · exact ob_un (rt_pick (m := 5) 7 (by omega) (by simp <;> omega) (by omega) (by omega) rfl rfl rfl rfl)
  · exact ob_un (rt_idx 6 8 (by omega) (by omega) rfl rfl rfl rfl rfl rfl rfl)
  · exact ob_un (rt_load 9 rfl rfl rfl rfl)
  · exact ob_un (rt_build (fun f w => ⟨[f (.tmp 5), f (.tmp 7), f (.tmp 14)], rfl, by go_simp⟩) ⟨oi_rng 1 4 rfl rfl rfl, oi_rng 3 3 rfl rfl rfl, oi_in 10 rfl rfl rfl, trivial⟩ rfl)
  · exact ob_un (rt_alloc (fun w => by go_simp) rfl)
  · exact ob_un (rt_store 12 11 HLO (st3_InIn) rfl rfl rfl rfl rfl rfl rfl)
  intro u1 w1 hI hF
  obtain ⟨f0, f1, f2, f3, f4, f5, f6, f7, f8, f9, f10, f11, f12, f13, -⟩ := hF
  obtain ⟨b, hb, hgb⟩ : ∃ b, u1 3 = .pointer (some ⟨b, 0, none⟩) ∧ Good g w.heap.size w1 b 3 := f12
  have DD := hid ((hI.re (K' := 1) (p' := p + 14) (by simp)).add hgb)
  clear f0 f1 f2 f3 f4 f5 f6 f7 f8 f9 f10 f11 f13 hI hgb
  simp only [outTmps, List.setIfInBounds_toArray, List.set_cons_zero, List.set_cons_succ]
  go_wp2_with fail
  refine (pick_dw 16 DD.out (by omega) (by omega) (by omega)).mono ?_
  rintro e wp ⟨x, rfl, lx, ux, DD, -⟩
  by_cases e0 : x = 0
  · subst e0
    go_upto_region 4 with fail
    refine region_plain (Fs g w.heap.size [.row 3, .is (.pointer (some ⟨g, 0, none⟩)), .rng 3, .at, .int, .at, .any]) (DW W w g w.heap.size (p + 14 + 1) 1 [(b, 3), (w.heap.size, 3)]) (by kernel_rfl) DD.out ⟨?_, ?_, ?_, ?_, ?_, ?_, ?_, trivial⟩ ?_
    · exact ob_un (rt_row (E := 3) (fun f w => by go_simp) rfl ⟨oi_const (-1), oi_const 60000, oi_const 60001, trivial⟩ rfl)
    · exact ob_un (rt_move (.pointer (some ⟨g, 0, none⟩)) rfl rfl rfl)
    · exact ob_un (rt_pick (m := 3) 1 (by omega) (by simp <;> omega) (by omega) (by omega) rfl rfl rfl rfl)
    · exact ob_un (rt_idx 0 2 (by omega) (by omega) rfl rfl rfl rfl rfl rfl rfl)
    · exact ob_un (rt_load 3 rfl rfl rfl rfl)
    · exact ob_un (rt_field (k := 3) b (by simp) (by omega) (fun w => by go_simp) rfl (by first | rfl | exact hb) rfl)
    · exact ob_un (rt_stInt 5 HLO rfl rfl rfl (oi_in 4 rfl rfl rfl) rfl)
    intro u4 w4 hI hF
    obtain ⟨f0, f1, f2, f3, f4, f5, f6, -⟩ := hF
    have DD := hid (hI.re (K' := 1) (p' := p + 14 + 1 + 7) (by simp))
    clear f0 f1 f2 f3 f4 f5 f6 hI
    simp only [outTmps, List.setIfInBounds_toArray, List.set_cons_zero, List.set_cons_succ]
    go_upto_region 9 with fail
    refine region_plain (Fs g w.heap.size [.agg 3, .any]) (DW W w g w.heap.size (p + 14 + 1 + 7) 1 [(b, 3), (w.heap.size, 3)]) (by kernel_rfl) DD.out ⟨?_, ?_, trivial⟩ ?_
    · exact ob_un (rt_loadOut b (by simp) ld3_InIn rfl (by first | rfl | exact hb) rfl)
    · exact ob_un (rt_storeOut w.heap.size 0 HLO (by simp) st3_InIn rfl rfl rfl rfl rfl rfl)
    intro u9 w9 hI hF
    obtain ⟨f0, f1, -⟩ := hF
    obtain ⟨-, hlo, xs, hx, hib⟩ := hI.2.2.2.2.1 (w.heap.size, 3) (by simp)
    obtain ⟨y0, y1, y2, rfl⟩ := list_3 hx
    obtain ⟨c0, c1, c2⟩ := ib3 hib
    obtain ⟨⟨q, hq, rd⟩, gr, -⟩ := hI
    clear f0 f1 hib hlo
    simp at hq
    have HQ := hid hq
    have RD := hid rd
    have GR := hid gr
    clear rd gr hq
    simp only [outTmps, List.setIfInBounds_toArray, List.set_cons_zero, List.set_cons_succ]
    go_wp2_with fail
    refine bodyPost_ret (res_l31In _ rfl c0 c1 c2) rfl ?_
    exact ⟨_, rfl, ⟨[y0, y1, y2], rfl, rfl⟩, ⟨q, by have := HQ.out; omega, RD.out⟩, GR.out⟩
  have d0 : (x == 0) = false := by simpa using e0
  by_cases e1 : x = 1
  · subst e1
    go_upto_region 6 with fail
    refine region_plain (Fs g w.heap.size [.row 3, .is (.pointer (some ⟨g, 0, none⟩)), .rng 3, .at, .int, .at, .any]) (DW W w g w.heap.size (p + 14 + 1) 1 [(b, 3), (w.heap.size, 3)]) (by kernel_rfl) DD.out ⟨?_, ?_, ?_, ?_, ?_, ?_, ?_, trivial⟩ ?_
    · exact ob_un (rt_row (E := 3) (fun f w => by go_simp) rfl ⟨oi_const (-1), oi_const 200, oi_const 201, trivial⟩ rfl)
    · exact ob_un (rt_move (.pointer (some ⟨g, 0, none⟩)) rfl rfl rfl)
    · exact ob_un (rt_pick (m := 3) 1 (by omega) (by simp <;> omega) (by omega) (by omega) rfl rfl rfl rfl)
    · exact ob_un (rt_idx 0 2 (by omega) (by omega) rfl rfl rfl rfl rfl rfl rfl)
    · exact ob_un (rt_load 3 rfl rfl rfl rfl)
    · exact ob_un (rt_field (k := 3) b (by simp) (by omega) (fun w => by go_simp) rfl (by first | rfl | exact hb) rfl)
    · exact ob_un (rt_stInt 5 HLO rfl rfl rfl (oi_in 4 rfl rfl rfl) rfl)
    intro u6 w6 hI hF
    obtain ⟨f0, f1, f2, f3, f4, f5, f6, -⟩ := hF
    have DD := hid (hI.re (K' := 1) (p' := p + 14 + 1 + 7) (by simp))
    clear f0 f1 f2 f3 f4 f5 f6 hI
    simp only [outTmps, List.setIfInBounds_toArray, List.set_cons_zero, List.set_cons_succ]
    go_upto_region 9 with fail
    refine region_plain (Fs g w.heap.size [.agg 3, .any]) (DW W w g w.heap.size (p + 14 + 1 + 7) 1 [(b, 3), (w.heap.size, 3)]) (by kernel_rfl) DD.out ⟨?_, ?_, trivial⟩ ?_
    · exact ob_un (rt_loadOut b (by simp) ld3_InIn rfl (by first | rfl | exact hb) rfl)
    · exact ob_un (rt_storeOut w.heap.size 0 HLO (by simp) st3_InIn rfl rfl rfl rfl rfl rfl)
    intro u9 w9 hI hF
    obtain ⟨f0, f1, -⟩ := hF
    obtain ⟨-, hlo, xs, hx, hib⟩ := hI.2.2.2.2.1 (w.heap.size, 3) (by simp)
    obtain ⟨y0, y1, y2, rfl⟩ := list_3 hx
    obtain ⟨c0, c1, c2⟩ := ib3 hib
    obtain ⟨⟨q, hq, rd⟩, gr, -⟩ := hI
    clear f0 f1 hib hlo
    simp at hq
    have HQ := hid hq
    have RD := hid rd
    have GR := hid gr
    clear rd gr hq
    simp only [outTmps, List.setIfInBounds_toArray, List.set_cons_zero, List.set_cons_succ]
    go_wp2_with fail
    refine bodyPost_ret (res_l31In _ rfl c0 c1 c2) rfl ?_
    exact ⟨_, rfl, ⟨[y0, y1, y2], rfl, rfl⟩, ⟨q, by have := HQ.out; omega, RD.out⟩, GR.out⟩
  have d1 : (x == 1) = false := by simpa using e1
  by_cases e2 : x = 2
  · subst e2
    go_upto_region 8 with fail
    refine region_plain (Fs g w.heap.size [.row 2, .is (.pointer (some ⟨g, 0, none⟩)), .rng 2, .at, .int, .at, .any]) (DW W w g w.heap.size (p + 14 + 1) 1 [(b, 3), (w.heap.size, 3)]) (by kernel_rfl) DD.out ⟨?_, ?_, ?_, ?_, ?_, ?_, ?_, trivial⟩ ?_
    · exact ob_un (rt_row (E := 3) (fun f w => by go_simp) rfl ⟨oi_const (-1), oi_const 17, trivial⟩ rfl)
    · exact ob_un (rt_move (.pointer (some ⟨g, 0, none⟩)) rfl rfl rfl)
    · exact ob_un (rt_pick (m := 2) 1 (by omega) (by simp <;> omega) (by omega) (by omega) rfl rfl rfl rfl)
    · exact ob_un (rt_idx 0 2 (by omega) (by omega) rfl rfl rfl rfl rfl rfl rfl)
    · exact ob_un (rt_load 3 rfl rfl rfl rfl)
    · exact ob_un (rt_field (k := 3) b (by simp) (by omega) (fun w => by go_simp) rfl (by first | rfl | exact hb) rfl)
    · exact ob_un (rt_stInt 5 HLO rfl rfl rfl (oi_in 4 rfl rfl rfl) rfl)
    intro u8 w8 hI hF
    obtain ⟨f0, f1, f2, f3, f4, f5, f6, -⟩ := hF
    have DD := hid (hI.re (K' := 1) (p' := p + 14 + 1 + 7) (by simp))
    clear f0 f1 f2 f3 f4 f5 f6 hI
    simp only [outTmps, List.setIfInBounds_toArray, List.set_cons_zero, List.set_cons_succ]
    go_upto_region 9 with fail
    refine region_plain (Fs g w.heap.size [.agg 3, .any]) (DW W w g w.heap.size (p + 14 + 1 + 7) 1 [(b, 3), (w.heap.size, 3)]) (by kernel_rfl) DD.out ⟨?_, ?_, trivial⟩ ?_
    · exact ob_un (rt_loadOut b (by simp) ld3_InIn rfl (by first | rfl | exact hb) rfl)
    · exact ob_un (rt_storeOut w.heap.size 0 HLO (by simp) st3_InIn rfl rfl rfl rfl rfl rfl)
    intro u9 w9 hI hF
    obtain ⟨f0, f1, -⟩ := hF
    obtain ⟨-, hlo, xs, hx, hib⟩ := hI.2.2.2.2.1 (w.heap.size, 3) (by simp)
    obtain ⟨y0, y1, y2, rfl⟩ := list_3 hx
    obtain ⟨c0, c1, c2⟩ := ib3 hib
    obtain ⟨⟨q, hq, rd⟩, gr, -⟩ := hI
    clear f0 f1 hib hlo
    simp at hq
    have HQ := hid hq
    have RD := hid rd
    have GR := hid gr
    clear rd gr hq
    simp only [outTmps, List.setIfInBounds_toArray, List.set_cons_zero, List.set_cons_succ]
    go_wp2_with fail
    refine bodyPost_ret (res_l31In _ rfl c0 c1 c2) rfl ?_
    exact ⟨_, rfl, ⟨[y0, y1, y2], rfl, rfl⟩, ⟨q, by have := HQ.out; omega, RD.out⟩, GR.out⟩
  have d2 : (x == 2) = false := by simpa using e2
  go_upto_region 9 with fail
  refine region_plain (Fs g w.heap.size [.agg 3, .any]) (DW W w g w.heap.size (p + 14 + 1) 1 [(b, 3), (w.heap.size, 3)]) (by kernel_rfl) DD.out ⟨?_, ?_, trivial⟩ ?_
  · exact ob_un (rt_loadOut b (by simp) ld3_InIn rfl (by first | rfl | exact hb) rfl)
  · exact ob_un (rt_storeOut w.heap.size 0 HLO (by simp) st3_InIn rfl rfl rfl rfl rfl rfl)
  intro u9 w9 hI hF
  obtain ⟨f0, f1, -⟩ := hF
  obtain ⟨-, hlo, xs, hx, hib⟩ := hI.2.2.2.2.1 (w.heap.size, 3) (by simp)
  obtain ⟨y0, y1, y2, rfl⟩ := list_3 hx
  obtain ⟨c0, c1, c2⟩ := ib3 hib
  obtain ⟨⟨q, hq, rd⟩, gr, -⟩ := hI
  clear f0 f1 hib hlo
  simp at hq
  have HQ := hid hq
  have RD := hid rd
  have GR := hid gr
  clear rd gr hq
  simp only [outTmps, List.setIfInBounds_toArray, List.set_cons_zero, List.set_cons_succ]
  go_wp2_with fail
  refine bodyPost_ret (res_l31In _ rfl c0 c1 c2) rfl ?_
  exact ⟨_, rfl, ⟨[y0, y1, y2], rfl, rfl⟩, ⟨q, by have := HQ.out; omega, RD.out⟩, GR.out⟩
theorem cf_in (xs : Array Value) (w : World) : (callFunc 81 xs).run Try.prog w = .ok (.enter 81 xs) w := by
  go_simp
theorem res_l31Num {W : World} {b : Nat} {x0 x1 x2 y z u : Value} (tmps : Array Value) (ht : tmps[2]?.getD undef = .pointer (some ⟨b, 0, none⟩)) (h0 : W.cell? ⟨b, 0, none⟩ = some x0) (h1 : W.cell? ⟨b, 1, none⟩ = some x1) (h2 : W.cell? ⟨b, 2, none⟩ = some x2) (h3 : tmps[3]?.getD undef = y) (h4 : tmps[4]?.getD undef = z) (h5 : tmps[5]?.getD undef = u) :
    (results Try.f60 tmps).run Try.prog W = .ok (.tuple #[.agg #[x0, x1, x2], y, z, u]) W := by
  simp [results, Try.results60, go_sem, ht, h0, h1, h2, h3, h4, h5]
set_option maxHeartbeats 4000000 in
theorem draw_l31Num : Draws 60 300 (.tup 3 3) := by
  intro W w g p hr hp
  have HLO : w.heap.size ≤ w.heap.size := Nat.le_refl _
  have DD := hid ((DW.start (K := 40) hr).push [0, 0, 0] 36)
  clear hr
  go_enter Try.func60, Try.ntmps60
  go_upto_region 1 with fail
  refine region_plain (Fs g w.heap.size [.is (.pointer (some ⟨g, 0, none⟩)), .agg 3, .blk 3, .any]) (DW W w g w.heap.size p 40 [(w.heap.size, 3)]) (by kernel_rfl) DD.out ⟨?_, ?_, ?_, ?_, trivial⟩ ?_
  · exact ob_un (rt_move (.pointer (some ⟨g, 0, none⟩)) rfl rfl rfl)
  · exact ob_un (rt_draw 0 draw_l31In cf_in (by omega) (by simp <;> omega) rfl rfl rfl rfl)
  · exact ob_un (rt_alloc (fun w => by go_simp) rfl)
  · exact ob_un (rt_store 2 1 HLO (st3_InIn) rfl rfl rfl rfl rfl rfl rfl)
  intro u1 w1 hI hF
  obtain ⟨f0, f1, f2, f3, -⟩ := hF
  obtain ⟨b, hb, hgb⟩ : ∃ b, u1 6 = .pointer (some ⟨b, 0, none⟩) ∧ Good g w.heap.size w1 b 3 := f2
  have DD := hid ((hI.re (K' := 1) (p' := p + 160) (by simp)).add hgb)
  clear f0 f1 f3 hI hgb
  simp only [outTmps, List.setIfInBounds_toArray, List.set_cons_zero, List.set_cons_succ, hb]
  go_wp2_with fail
  refine region_facts (Fs g w.heap.size [.at, .int, .row 5, .is (.pointer (some ⟨g, 0, none⟩)), .rng 5, .at, .int, .int, .int]) (DW W w g w.heap.size (p + 160) 1 [(b, 3), (w.heap.size, 3)]) (by kernel_rfl) (by kernel_rfl) DD.out.drew ⟨?_, ?_, ?_, ?_, ?_, ?_, ?_, ?_, ?_, trivial⟩ ?_
  · exact ob_un (rt_field (k := 3) b (by simp) (by omega) (fun w => by go_simp) rfl rfl rfl)
  · exact ob_un (rt_load 0 rfl rfl rfl rfl)
  · exact ob_un (rt_row (E := 3) (fun f w => by go_simp) rfl ⟨oi_const 0, oi_const 0, oi_const 0, oi_const 1, oi_const (-1), trivial⟩ rfl)
  · exact ob_un (rt_move (.pointer (some ⟨g, 0, none⟩)) rfl rfl rfl)
  · exact ob_un (rt_pick (m := 5) 3 (by omega) (by simp <;> omega) (by omega) (by omega) rfl rfl rfl rfl)
  · exact ob_un (rt_idx 2 4 (by omega) (by omega) rfl rfl rfl rfl rfl rfl rfl)
  · exact ob_un (rt_load 5 rfl rfl rfl rfl)
  · exact ob_un (rt_bin bin_add (oi_in 1 rfl rfl rfl) (oi_in 6 rfl rfl rfl) rfl)
  · exact ob_un (rt_copy 7 rfl rfl rfl rfl)
  intro u2 w2 hI hF
  obtain ⟨f0, f1, f2, f3, f4, f5, f6, f7, f8, -⟩ := hF
  obtain ⟨z7, hz7⟩ : ∃ z : Int, u2 7 = .int .i64 z := f8
  have DD := hid (hI.re (K' := 1) (p' := p + 169) (by simp))
  clear f0 f1 f2 f3 f4 f5 f6 f7 hI
  simp only [outTmps, List.setIfInBounds_toArray, List.set_cons_zero, List.set_cons_succ, hz7]
  go_wp2_with fail
  refine region_facts (Fs g w.heap.size [.at, .int, .row 5, .is (.pointer (some ⟨g, 0, none⟩)), .rng 5, .at, .int, .int, .int]) (DW W w g w.heap.size (p + 169) 1 [(b, 3), (w.heap.size, 3)]) (by kernel_rfl) (by kernel_rfl) DD.out.drew ⟨?_, ?_, ?_, ?_, ?_, ?_, ?_, ?_, ?_, trivial⟩ ?_
  · exact ob_un (rt_field (k := 3) b (by simp) (by omega) (fun w => by go_simp) rfl rfl rfl)
  · exact ob_un (rt_load 0 rfl rfl rfl rfl)
  · exact ob_un (rt_row (E := 3) (fun f w => by go_simp) rfl ⟨oi_const 0, oi_const 0, oi_const 0, oi_const 1, oi_const (-1), trivial⟩ rfl)
  · exact ob_un (rt_move (.pointer (some ⟨g, 0, none⟩)) rfl rfl rfl)
  · exact ob_un (rt_pick (m := 5) 3 (by omega) (by simp <;> omega) (by omega) (by omega) rfl rfl rfl rfl)
  · exact ob_un (rt_idx 2 4 (by omega) (by omega) rfl rfl rfl rfl rfl rfl rfl)
  · exact ob_un (rt_load 5 rfl rfl rfl rfl)
  · exact ob_un (rt_bin bin_add (oi_in 1 rfl rfl rfl) (oi_in 6 rfl rfl rfl) rfl)
  · exact ob_un (rt_copy 7 rfl rfl rfl rfl)
  intro u3 w3 hI hF
  obtain ⟨f0, f1, f2, f3, f4, f5, f6, f7, f8, -⟩ := hF
  obtain ⟨z8, hz8⟩ : ∃ z : Int, u3 8 = .int .i64 z := f8
  have DD := hid (hI.re (K' := 1) (p' := p + 178) (by simp))
  clear f0 f1 f2 f3 f4 f5 f6 f7 hI
  simp only [outTmps, List.setIfInBounds_toArray, List.set_cons_zero, List.set_cons_succ, hz8]
  go_wp2_with fail
  refine region_facts (Fs g w.heap.size [.at, .int, .row 6, .is (.pointer (some ⟨g, 0, none⟩)), .rng 6, .at, .int, .int, .int]) (DW W w g w.heap.size (p + 178) 1 [(b, 3), (w.heap.size, 3)]) (by kernel_rfl) (by kernel_rfl) DD.out.drew ⟨?_, ?_, ?_, ?_, ?_, ?_, ?_, ?_, ?_, trivial⟩ ?_
  · exact ob_un (rt_field (k := 3) b (by simp) (by omega) (fun w => by go_simp) rfl rfl rfl)
  · exact ob_un (rt_load 0 rfl rfl rfl rfl)
  · exact ob_un (rt_row (E := 3) (fun f w => by go_simp) rfl ⟨oi_const 0, oi_const 0, oi_const 1, oi_const (-1), oi_const (-2), oi_const 3, trivial⟩ rfl)
  · exact ob_un (rt_move (.pointer (some ⟨g, 0, none⟩)) rfl rfl rfl)
  · exact ob_un (rt_pick (m := 6) 3 (by omega) (by simp <;> omega) (by omega) (by omega) rfl rfl rfl rfl)
  · exact ob_un (rt_idx 2 4 (by omega) (by omega) rfl rfl rfl rfl rfl rfl rfl)
  · exact ob_un (rt_load 5 rfl rfl rfl rfl)
  · exact ob_un (rt_bin bin_add (oi_in 1 rfl rfl rfl) (oi_in 6 rfl rfl rfl) rfl)
  · exact ob_un (rt_copy 7 rfl rfl rfl rfl)
  intro u4 w4 hI hF
  obtain ⟨f0, f1, f2, f3, f4, f5, f6, f7, f8, -⟩ := hF
  obtain ⟨z9, hz9⟩ : ∃ z : Int, u4 9 = .int .i64 z := f8
  have DD := hid (hI.re (K' := 1) (p' := p + 187) (by simp))
  clear f0 f1 f2 f3 f4 f5 f6 f7 hI
  simp only [outTmps, List.setIfInBounds_toArray, List.set_cons_zero, List.set_cons_succ, hz9]
  go_wp2_with fail
  refine (pick_dw 12 DD.out (by omega) (by omega) (by omega)).mono ?_
  rintro e wp ⟨x, rfl, lx, ux, DD, -⟩
  by_cases e0 : x = 0
  · subst e0
    go_upto_region 6 with fail
    refine region_plain (Fs g w.heap.size [.row 3, .is (.pointer (some ⟨g, 0, none⟩)), .rng 3, .at, .int, .int]) (DW W w g w.heap.size (p + 188) 1 [(b, 3), (w.heap.size, 3)]) (by kernel_rfl) DD.out ⟨?_, ?_, ?_, ?_, ?_, ?_, trivial⟩ ?_
    · exact ob_un (rt_row (E := 3) (fun f w => by go_simp) rfl ⟨oi_const (-1), oi_const 15, oi_const 16, trivial⟩ rfl)
    · exact ob_un (rt_move (.pointer (some ⟨g, 0, none⟩)) rfl rfl rfl)
    · exact ob_un (rt_pick (m := 3) 1 (by omega) (by simp <;> omega) (by omega) (by omega) rfl rfl rfl rfl)
    · exact ob_un (rt_idx 0 2 (by omega) (by omega) rfl rfl rfl rfl rfl rfl rfl)
    · exact ob_un (rt_load 3 rfl rfl rfl rfl)
    · exact ob_un (rt_copy 4 rfl rfl rfl rfl)
    intro u6 w6 hI hF
    obtain ⟨f0, f1, f2, f3, f4, f5, -⟩ := hF
    obtain ⟨z, hz⟩ : ∃ z : Int, u6 9 = .int .i64 z := f5
    have DD := hid (hI.re (K' := 1) (p' := p + 194) (by simp))
    clear f0 f1 f2 f3 f4 hI
    simp only [outTmps, List.setIfInBounds_toArray, List.set_cons_zero, List.set_cons_succ, hz]
    go_upto_region 7 with fail
    refine region_plain (Fs g w.heap.size [.agg 3, .is (.int .i64 z7), .is (.int .i64 z8), .is (.int .i64 z), .any, .is (.int .i64 z7), .is (.int .i64 z8), .is (.int .i64 z)]) (DW W w g w.heap.size (p + 194) 1 [(b, 3), (w.heap.size, 3)]) (by kernel_rfl) DD.out ⟨?_, ?_, ?_, ?_, ?_, ?_, ?_, ?_, trivial⟩ ?_
    · exact ob_un (rt_loadOut b (by simp) ld3_InIn rfl rfl rfl)
    · exact ob_un (rt_move (.int .i64 z7) rfl rfl rfl)
    · exact ob_un (rt_move (.int .i64 z8) rfl rfl rfl)
    · exact ob_un (rt_move (.int .i64 z) rfl rfl rfl)
    · exact ob_un (rt_storeOut w.heap.size 0 HLO (by simp) st3_InIn rfl rfl rfl rfl rfl rfl)
    · exact ob_un (rt_copy 1 rfl rfl rfl rfl)
    · exact ob_un (rt_copy 2 rfl rfl rfl rfl)
    · exact ob_un (rt_copy 3 rfl rfl rfl rfl)
    intro u7 w7 hI hF
    obtain ⟨f0, f1, f2, f3, f4, f5, f6, f7, -⟩ := hF
    obtain ⟨-, hlo, xs, hx, hib⟩ := hI.2.2.2.2.1 (w.heap.size, 3) (by simp)
    obtain ⟨y0, y1, y2, rfl⟩ := list_3 hx
    obtain ⟨c0, c1, c2⟩ := ib3 hib
    obtain ⟨⟨q, hq, rd⟩, gr, -⟩ := hI
    have r3 : u7 3 = .int .i64 z7 := f5
    have r4 : u7 4 = .int .i64 z8 := f6
    have r5 : u7 5 = .int .i64 z := f7
    clear f0 f1 f2 f3 f4 f5 f6 f7 hib hlo
    simp at hq
    have HQ := hid hq
    have RD := hid rd
    have GR := hid gr
    clear rd gr hq
    simp only [outTmps, List.setIfInBounds_toArray, List.set_cons_zero, List.set_cons_succ, r3, r4, r5]
    go_wp2_with fail
    refine bodyPost_ret (res_l31Num _ rfl c0 c1 c2 rfl rfl rfl) rfl ?_
    exact ⟨_, rfl, ⟨[y0, y1, y2], [z7, z8, z], rfl, rfl, rfl⟩, ⟨q, by have := HQ.out; omega, RD.out⟩, GR.out⟩
  have d0 : (x == 0) = false := by simpa using e0
  go_upto_region 7 with fail
  refine region_plain (Fs g w.heap.size [.agg 3, .is (.int .i64 z7), .is (.int .i64 z8), .is (.int .i64 z9), .any, .is (.int .i64 z7), .is (.int .i64 z8), .is (.int .i64 z9)]) (DW W w g w.heap.size (p + 188) 1 [(b, 3), (w.heap.size, 3)]) (by kernel_rfl) DD.out ⟨?_, ?_, ?_, ?_, ?_, ?_, ?_, ?_, trivial⟩ ?_
  · exact ob_un (rt_loadOut b (by simp) ld3_InIn rfl rfl rfl)
  · exact ob_un (rt_move (.int .i64 z7) rfl rfl rfl)
  · exact ob_un (rt_move (.int .i64 z8) rfl rfl rfl)
  · exact ob_un (rt_move (.int .i64 z9) rfl rfl rfl)
  · exact ob_un (rt_storeOut w.heap.size 0 HLO (by simp) st3_InIn rfl rfl rfl rfl rfl rfl)
  · exact ob_un (rt_copy 1 rfl rfl rfl rfl)
  · exact ob_un (rt_copy 2 rfl rfl rfl rfl)
  · exact ob_un (rt_copy 3 rfl rfl rfl rfl)
  intro u7 w7 hI hF
  obtain ⟨f0, f1, f2, f3, f4, f5, f6, f7, -⟩ := hF
  obtain ⟨-, hlo, xs, hx, hib⟩ := hI.2.2.2.2.1 (w.heap.size, 3) (by simp)
  obtain ⟨y0, y1, y2, rfl⟩ := list_3 hx
  obtain ⟨c0, c1, c2⟩ := ib3 hib
  obtain ⟨⟨q, hq, rd⟩, gr, -⟩ := hI
  have r3 : u7 3 = .int .i64 z7 := f5
  have r4 : u7 4 = .int .i64 z8 := f6
  have r5 : u7 5 = .int .i64 z9 := f7
  clear f0 f1 f2 f3 f4 f5 f6 f7 hib hlo
  simp at hq
  have HQ := hid hq
  have RD := hid rd
  have GR := hid gr
  clear rd gr hq
  simp only [outTmps, List.setIfInBounds_toArray, List.set_cons_zero, List.set_cons_succ, r3, r4, r5]
  go_wp2_with fail
  refine bodyPost_ret (res_l31Num _ rfl c0 c1 c2 rfl rfl rfl) rfl ?_
  exact ⟨_, rfl, ⟨[y0, y1, y2], [z7, z8, z9], rfl, rfl, rfl⟩, ⟨q, by have := HQ.out; omega, RD.out⟩, GR.out⟩
theorem res_DrawInHear {W : World} {b : Nat} {x0 x1 x2 y z u : Value} (tmps : Array Value) (ht : tmps[2]?.getD undef = .pointer (some ⟨b, 0, none⟩)) (h0 : W.cell? ⟨b, 0, none⟩ = some x0) (h1 : W.cell? ⟨b, 1, none⟩ = some x1) (h2 : W.cell? ⟨b, 2, none⟩ = some x2) (h3 : tmps[3]?.getD undef = y) (h4 : tmps[4]?.getD undef = z) (h5 : tmps[5]?.getD undef = u) :
    (results Try.f27 tmps).run Try.prog W = .ok (.tuple #[.agg #[x0, x1, x2], y, z, u]) W := by
  simp [results, Try.results27, go_sem, ht, h0, h1, h2, h3, h4, h5]
theorem drawInHear_any (a : Option Addr) (len cap : Nat) (xs : List Int) (w : World) (hn : xs.length = len) (hv : Rd w (.slice a len cap) xs) (hcap : len ≤ cap) :
    Calls Try.prog 27 #[.slice a len cap] w fun e w' => ∃ y0 y1 y2 z0 z1 z2 : Int, e = .returned (.tuple #[.agg #[.int .i64 y0, .int .i64 y1, .int .i64 y2], .int .i64 z0, .int .i64 z1, .int .i64 z2]) ∧ Below w.heap.size w w' := by
  have HV := hid hv
  have HR : Hid (∀ x ∈ [(w.heap.size, 3)], w.heap.size ≤ x.1 ∧ x.1 < (w.alloc (.cells #[.int .i64 0, .int .i64 0, .int .i64 0] 36)).heap.size ∧ ∃ xs : List Int, xs.length = x.2 ∧ IB (w.alloc (.cells #[.int .i64 0, .int .i64 0, .int .i64 0] 36)) x.1 xs) := hid (by
    intro x hx
    rw [List.mem_singleton.1 hx]
    exact ⟨Nat.le_refl _, by simp, [0, 0, 0], rfl, ib_new w [0, 0, 0] 36⟩)
  clear hv
  go_enter Try.func27, Try.ntmps27
  go_wp2_with fail
  refine (open_dw (K := 1) (Rs := [(w.heap.size, 3)]) a len cap xs w _ hn HV.out hcap (below_alloc1 _ _) HR.out).mono ?_
  rintro e w1 ⟨rfl, DD⟩
  obtain ⟨g, hg⟩ : ∃ g, (w.alloc (.cells #[.int .i64 0, .int .i64 0, .int .i64 0] 36)).heap.size = g := ⟨_, rfl⟩
  rw [hg] at DD ⊢
  have HG : Hid (w.heap.size ≤ g) := hid (by rw [← hg]; simp)
  clear hg HR HV hn hcap
  go_wp2_with fail
  refine (draw_dw draw_l31Num DD.out (by omega)).mono ?_
  rintro e w2 ⟨v, rfl, HS, DD, -⟩
  obtain ⟨ys, zs, hy, hz, rfl⟩ := HS.out
  obtain ⟨x0, x1, x2, rfl⟩ := list_3 hy
  obtain ⟨t0, t1, t2, rfl⟩ := list_3 hz
  obtain ⟨-, hlo, xs, hx, hib⟩ : Good g w.heap.size w2 w.heap.size 3 := DD.out.2.2.2.2.1 (w.heap.size, 3) (by simp)
  obtain ⟨y0, y1, y2, rfl⟩ := list_3 hx
  obtain ⟨c0, c1, c2⟩ := ib3 hib
  have ff := hib.2.1
  have G := hid (ib3 (ibset3 x0 x1 x2 hib))
  have BW := hid (setL_below (DD.out.below HG.out) w.heap.size [x0, x1, x2] 0 (Nat.le_refl _))
  clear hib hlo DD HS hx
  go_wp2_with fail
  obtain ⟨g0, g1, g2⟩ := G.out
  refine bodyPost_ret (res_DrawInHear _ rfl g0 g1 g2 rfl rfl rfl) rfl ?_
  exact ⟨x0, x1, x2, t0, t1, t2, rfl, BW.out⟩
end Go.Proofs.Ythpojgolkpdgkaa
