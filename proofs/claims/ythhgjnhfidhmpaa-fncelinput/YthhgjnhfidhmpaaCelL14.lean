/- The contract of the specification's l14Copy. Conditions: four registers, eight places of memory, the bytes read. -/
import Derived.Test.YthhgjnhfidhmpaaCelL6
namespace Go.Proofs.Ythhgjnhfidhmpaa
open Go.ChangeShapes Go.WideShapes Go.ChangeAt Go.RowKit Go.Joins Go.Deep
set_option linter.unusedVariables false
set_option linter.unusedSimpArgs false
set_option maxRecDepth 4000
theorem resL14 {W : World} {b : Nat} {y0 y1 y2 y3 y4 : Value} (tmps : Array Value) (ht : tmps.getD 2 undef = .pointer (some ⟨b, 0, none⟩)) (h : VB W b [y0, y1, y2, y3, y4]) :
    (results Try.f35 tmps).run Try.prog W = .ok (.agg #[y0, y1, y2, y3, y4]) W := by
  have hl := run_loadVar_mid (P := Try.prog) W b 0 27 [y0, y1, y2, y3, y4] _ (fun j v hj => by
    have hj' : j < 5 := by
      rcases Nat.lt_or_ge j 5 with h' | h'
      · exact h'
      · rw [List.getElem?_eq_none (by simpa using h')] at hj; cases hj
    rw [Nat.zero_add, h.1 j (by simpa using hj'), List.getD_eq_getElem?_getD, hj]
    rfl) Try.underlying27 rfl szCel
  rw [results_cell Try.results35, ht, run_asAddr]
  exact hl
set_option maxHeartbeats 4000000 in
theorem l14Copy_any (pc ht r0 r1 r2 r3 m0 m1 m2 m3 m4 m5 m6 m7 : Int) (u v i : Value) (bs : List Int) (w : World) (hu : RdI 1 w u 4 [r0, r1, r2, r3]) (hv : RdI 1 w v 8 [m0, m1, m2, m3, m4, m5, m6, m7]) (hi : Rd w i bs) :
    Calls Try.prog 35 #[.agg #[.int .i64 pc, u, v, .int .i64 ht, i]] w fun e w' => CopiedPost pc ht [r0, r1, r2, r3] [m0, m1, m2, m3, m4, m5, m6, m7] bs w e w' := by
  have RU := hid hu
  have RV := hid hv
  have RI := hid hi
  obtain ⟨_, _, a1, c1, rfl, _⟩ := hu
  obtain ⟨_, _, a2, c2, rfl, _⟩ := hv
  obtain ⟨_, _, a3, c3, rfl, _⟩ := hi
  have B0 := hid (((Below.refl w.heap.size w).alloc (Nat.le_refl _) (.cells #[.int .i64 pc, .slice a1 4 c1, .slice a2 8 c2, .int .i64 ht, .slice a3 bs.length c3] 27)).alloc (by simp) (.cells #[.int .i64 0, .slice none 0 0, .slice none 0 0, .int .i64 0, .slice none 0 0] 27))
  have V1 := hid ((vb_new w [.int .i64 pc, .slice a1 4 c1, .slice a2 8 c2, .int .i64 ht, .slice a3 bs.length c3] 27).keep (below_alloc1 _ (.cells #[.int .i64 0, .slice none 0 0, .slice none 0 0, .int .i64 0, .slice none 0 0] 27)))
  have V2 := hid (show VB ((w.alloc (.cells #[.int .i64 pc, .slice a1 4 c1, .slice a2 8 c2, .int .i64 ht, .slice a3 bs.length c3] 27)).alloc (.cells #[.int .i64 0, .slice none 0 0, .slice none 0 0, .int .i64 0, .slice none 0 0] 27)) (w.heap.size + 1) [.int .i64 0, .slice none 0 0, .slice none 0 0, .int .i64 0, .slice none 0 0] from by have := vb_new (w.alloc (.cells #[.int .i64 pc, .slice a1 4 c1, .slice a2 8 c2, .int .i64 ht, .slice a3 bs.length c3] 27)) [.int .i64 0, .slice none 0 0, .slice none 0 0, .int .i64 0, .slice none 0 0] 27; simpa using this)
  have z2 : ((w.alloc (.cells #[.int .i64 pc, .slice a1 4 c1, .slice a2 8 c2, .int .i64 ht, .slice a3 bs.length c3] 27)).alloc (.cells #[.int .i64 0, .slice none 0 0, .slice none 0 0, .int .i64 0, .slice none 0 0] 27)).heap.size = w.heap.size + 2 := by simp
  have Z2 := hid z2
  clear z2
  go_enter Try.func35, Try.ntmps35
  go_upto_region 1 with fail
  obtain ⟨W2, hW2⟩ : ∃ W, (w.alloc (.cells #[.int .i64 pc, .slice a1 4 c1, .slice a2 8 c2, .int .i64 ht, .slice a3 bs.length c3] 27)).alloc (.cells #[.int .i64 0, .slice none 0 0, .slice none 0 0, .int .i64 0, .slice none 0 0] 27) = W := ⟨_, rfl⟩
  rw [hW2] at B0 V1 V2 Z2
  try rw [hW2]
  clear hW2
  obtain ⟨k0, k1, k2, k3, k4⟩ := vb5 V1.out
  have lw : w.heap.size < w.heap.size + 1 := by omega
  have HL : AllLastC (fun j => j = w.heap.size + 1) [(fun x _ => x = .pointer (some ⟨w.heap.size, 0, none⟩)), (fun x _ => x = .agg #[.int .i64 pc, .slice a1 4 c1, .slice a2 8 c2, .int .i64 ht]), (fun x w' => ∃ u1 v1, x = .agg #[.int .i64 pc, u1, v1, .int .i64 ht] ∧ OwnI 3 1 w' (w.heap.size + 2) u1 4 [r0, r1, r2, r3] ∧ OwnI 3 1 w' (w.heap.size + 2) v1 8 [m0, m1, m2, m3, m4, m5, m6, m7] ∧ (∀ j, u1.ownBlock = some j → v1.ownBlock ≠ some j)), (fun x _ => x = .pointer (some ⟨w.heap.size, 4, none⟩)), (fun x _ => x = .slice a3 bs.length c3), (fun x w' => Own w' (w.heap.size + 2) x bs), (fun x w' => ∃ u1 v1 i1, x = .agg #[.int .i64 pc, u1, v1, .int .i64 ht, i1] ∧ (OwnI 3 1 w' (w.heap.size + 2) u1 4 [r0, r1, r2, r3] ∧ OwnI 3 1 w' (w.heap.size + 2) v1 8 [m0, m1, m2, m3, m4, m5, m6, m7] ∧ (∀ j, u1.ownBlock = some j → v1.ownBlock ≠ some j)) ∧ Own w' (w.heap.size + 2) i1 bs)] := ⟨lastc_val _, lastc_val _, fun x w1 w2 hc h => (by obtain ⟨u1, v1, e, h1, h2, h3⟩ := h; exact ⟨u1, v1, e, h1.chg hc (fun j hj hS => by have hS : j = w.heap.size + 1 := hS; have := (h1.blk j hj).1; omega), h2.chg hc (fun j hj hS => by have hS : j = w.heap.size + 1 := hS; have := (h2.blk j hj).1; omega), h3⟩), lastc_val _, lastc_val _, fun x w1 w2 hc h => OwnR.chg h hc (fun j hj hS => by have hS : j = w.heap.size + 1 := hS; have := (Own.blk h j hj).1; omega), fun x w1 w2 hc h => (by obtain ⟨u1, v1, i1, e, ⟨h1, h2, h3⟩, h4⟩ := h; exact ⟨u1, v1, i1, e, ⟨h1.chg hc (fun j hj hS => by have hS : j = w.heap.size + 1 := hS; have := (h1.blk j hj).1; omega), h2.chg hc (fun j hj hS => by have hS : j = w.heap.size + 1 := hS; have := (h2.blk j hj).1; omega), h3⟩, OwnR.chg h4 hc (fun j hj hS => by have hS : j = w.heap.size + 1 := hS; have := (Own.blk h4 j hj).1; omega)⟩), trivial⟩
  have HX : ∀ w1 w2 : World, Below w1.heap.size w1 w2 → (∃ vs : List Value, vs.length = 5 ∧ VB w1 (w.heap.size + 1) vs) → ∃ vs : List Value, vs.length = 5 ∧ VB w2 (w.heap.size + 1) vs := fun w1 w2 hb h => (by obtain ⟨vs, h1, h2⟩ := h; exact ⟨vs, h1, h2.keep hb⟩)
  have HB : AllLastB ([(fun x _ => x = .pointer (some ⟨w.heap.size, 0, none⟩)), (fun x _ => x = .agg #[.int .i64 pc, .slice a1 4 c1, .slice a2 8 c2, .int .i64 ht]), (fun x w' => ∃ u1 v1, x = .agg #[.int .i64 pc, u1, v1, .int .i64 ht] ∧ OwnI 3 1 w' (w.heap.size + 2) u1 4 [r0, r1, r2, r3] ∧ OwnI 3 1 w' (w.heap.size + 2) v1 8 [m0, m1, m2, m3, m4, m5, m6, m7] ∧ (∀ j, u1.ownBlock = some j → v1.ownBlock ≠ some j)), (fun x _ => x = .pointer (some ⟨w.heap.size, 4, none⟩)), (fun x _ => x = .slice a3 bs.length c3), (fun x w' => Own w' (w.heap.size + 2) x bs), (fun x w' => ∃ u1 v1 i1, x = .agg #[.int .i64 pc, u1, v1, .int .i64 ht, i1] ∧ (OwnI 3 1 w' (w.heap.size + 2) u1 4 [r0, r1, r2, r3] ∧ OwnI 3 1 w' (w.heap.size + 2) v1 8 [m0, m1, m2, m3, m4, m5, m6, m7] ∧ (∀ j, u1.ownBlock = some j → v1.ownBlock ≠ some j)) ∧ Own w' (w.heap.size + 2) i1 bs)] ++ [(fun _ w' => ∃ u1 v1 i1, VB w' (w.heap.size + 1) [.int .i64 pc, u1, v1, .int .i64 ht, i1] ∧ (OwnI 3 1 w' (w.heap.size + 2) u1 4 [r0, r1, r2, r3] ∧ OwnI 3 1 w' (w.heap.size + 2) v1 8 [m0, m1, m2, m3, m4, m5, m6, m7] ∧ (∀ j, u1.ownBlock = some j → v1.ownBlock ≠ some j)) ∧ Own w' (w.heap.size + 2) i1 bs)]) := ⟨lastb_val _, lastb_val _, lastb_of HL 2, lastb_val _, lastb_val _, lastb_of HL 5, lastb_of HL 6, fun x w1 w2 hb h => (by obtain ⟨u1, v1, i1, e, ⟨h1, h2, h3⟩, h4⟩ := h; exact ⟨u1, v1, i1, e.keep hb, ⟨h1.keep hb, h2.keep hb, h3⟩, h4.keep hb⟩), trivial⟩
  refine region_cg (S := (fun j => j = w.heap.size + 1)) (X := fun w' => ∃ vs : List Value, vs.length = 5 ∧ VB w' (w.heap.size + 1) vs) ([(fun x _ => x = .pointer (some ⟨w.heap.size, 0, none⟩)), (fun x _ => x = .agg #[.int .i64 pc, .slice a1 4 c1, .slice a2 8 c2, .int .i64 ht]), (fun x w' => ∃ u1 v1, x = .agg #[.int .i64 pc, u1, v1, .int .i64 ht] ∧ OwnI 3 1 w' (w.heap.size + 2) u1 4 [r0, r1, r2, r3] ∧ OwnI 3 1 w' (w.heap.size + 2) v1 8 [m0, m1, m2, m3, m4, m5, m6, m7] ∧ (∀ j, u1.ownBlock = some j → v1.ownBlock ≠ some j)), (fun x _ => x = .pointer (some ⟨w.heap.size, 4, none⟩)), (fun x _ => x = .slice a3 bs.length c3), (fun x w' => Own w' (w.heap.size + 2) x bs), (fun x w' => ∃ u1 v1 i1, x = .agg #[.int .i64 pc, u1, v1, .int .i64 ht, i1] ∧ (OwnI 3 1 w' (w.heap.size + 2) u1 4 [r0, r1, r2, r3] ∧ OwnI 3 1 w' (w.heap.size + 2) v1 8 [m0, m1, m2, m3, m4, m5, m6, m7] ∧ (∀ j, u1.ownBlock = some j → v1.ownBlock ≠ some j)) ∧ Own w' (w.heap.size + 2) i1 bs)] ++ [(fun _ w' => ∃ u1 v1 i1, VB w' (w.heap.size + 1) [.int .i64 pc, u1, v1, .int .i64 ht, i1] ∧ (OwnI 3 1 w' (w.heap.size + 2) u1 4 [r0, r1, r2, r3] ∧ OwnI 3 1 w' (w.heap.size + 2) v1 8 [m0, m1, m2, m3, m4, m5, m6, m7] ∧ (∀ j, u1.ownBlock = some j → v1.ownBlock ≠ some j)) ∧ Own w' (w.heap.size + 2) i1 bs)]) (by kernel_rfl) (by kernel_rfl) ⟨_, rfl, V2.out.drew⟩ ⟨?_, ?_, ?_, ?_, ?_, ?_, ?_, ?_, trivial⟩ ?_
  · exact ob_un (cg_fieldAddr (fun w => by go_simp) (oc_out rfl rfl) rfl)
  · exact ob_un (cg_load (fun w' hc => ldCelState w' (hc.cell (by dsimp only; omega) k0) (hc.cell (by dsimp only; omega) k1) (hc.cell (by dsimp only; omega) k2) (hc.cell (by dsimp only; omega) k3)) (oc_in 0 rfl rfl rfl) rfl)
  · exact ob_un (cg_call HB HX (fun xs w => by go_simp) (fun a' w' hc hat => by
      have e1 : a'.eval (.tmp 4) = .agg #[.int .i64 pc, .slice a1 4 c1, .slice a2 8 c2, .int .i64 ht] := oc_in 1 rfl rfl rfl a' w' hat
      have e : (#[Operand.tmp 4].map a'.eval) = #[.agg #[.int .i64 pc, .slice a1 4 c1, .slice a2 8 c2, .int .i64 ht]] := by simp [e1]
      rw [e]
      have hb := below_chg B0.out hc (by have := B0.out.size; omega) (fun j hj => by have hj : j = w.heap.size + 1 := hj; omega)
      refine (l6Copy_any pc ht _ _ _ _ w' (RU.out.keep hb) (RV.out.keep hb)).mono ?_
      rintro e w3 ⟨u1, v1, rfl, o1, o2, ap, b⟩
      exact ⟨_, rfl, ⟨u1, v1, rfl, o1.low (by have := hc.size; have := Z2.out; omega), o2.low (by have := hc.size; have := Z2.out; omega), ap⟩, b⟩))
  · exact ob_un (cg_fieldAddr (fun w => by go_simp) (oc_out rfl rfl) rfl)
  · exact ob_un (cg_load (fun w' hc => ldBytes w' (hc.cell (by dsimp only; omega) k4)) (oc_in 3 rfl rfl rfl) rfl)
  · exact ob_un (cg_call HB HX (fun xs w => by go_simp) (fun a' w' hc hat => by
      have e1 : a'.eval (.tmp 7) = .slice a3 bs.length c3 := oc_in 4 rfl rfl rfl a' w' hat
      have e : (#[Operand.tmp 7].map a'.eval) = #[.slice a3 bs.length c3] := by simp [e1]
      rw [e]
      have hb := below_chg B0.out hc (by have := B0.out.size; omega) (fun j hj => by have hj : j = w.heap.size + 1 := hj; omega)
      refine (l2Copy_any _ bs w' (RI.out.keep hb)).mono ?_
      rintro e w3 ⟨i1, rfl, o1, b⟩
      exact ⟨_, rfl, o1.low (by have := hc.size; have := Z2.out; omega), b⟩))
  · exact ob_un (cg_some fun a w' hc hat => by
      obtain ⟨u1, v1, h1, o1, o2, ap⟩ := oc_of 2 rfl rfl rfl hat
      have o3 := oc_of 5 rfl rfl rfl hat
      obtain ⟨p1, q1, rfl, _⟩ := ownI_form o1
      obtain ⟨p2, q2, rfl, _⟩ := ownI_form o2
      obtain ⟨p3, q3, h9, _⟩ := own_form o3
      refine ⟨.agg #[.int .i64 pc, .slice p1 4 q1, .slice p2 8 q2, .int .i64 ht, .slice p3 bs.length q3], ?_, ⟨_, _, _, rfl, ⟨o1, o2, ap⟩, by rw [← h9]; exact o3⟩⟩
      clear o1 o2 o3 ap hc hat
      rw [eval_tmp] at h1 h9
      simp only [execOp]
      go_simp)
  · exact ob_un (cg_skip (lastc_but _ HL) fun a w' hc hx hat => by
      obtain ⟨u1, v1, i1, h1, ⟨o1, o2, ap⟩, o3⟩ := oc_of 6 rfl rfl rfl hat
      have h0 : a.eval (.tmp 2) = .pointer (some ⟨w.heap.size + 1, 0, none⟩) := oc_out rfl rfl a w' hat
      obtain ⟨vs, hvs, hvb⟩ := hx
      obtain ⟨p1, q1, rfl, _⟩ := ownI_form o1
      obtain ⟨p2, q2, rfl, _⟩ := ownI_form o2
      obtain ⟨p3, q3, rfl, _⟩ := own_form o3
      have c := chg_setCellsL (w.heap.size + 1) [.int .i64 pc, .slice p1 4 q1, .slice p2 8 q2, .int .i64 ht, .slice p3 bs.length q3] 0 w'
      refine ⟨w'.setCells (w.heap.size + 1) 0 [.int .i64 pc, .slice p1 4 q1, .slice p2 8 q2, .int .i64 ht, .slice p3 bs.length q3], ?_, c, ⟨_, rfl, vb_store hvb (by rw [hvs]; rfl)⟩, ⟨_, _, _, vb_store hvb (by rw [hvs]; rfl), ⟨o1.chg c (fun j hj hS => by have hS : j = w.heap.size + 1 := hS; have := (o1.blk j hj).1; omega), o2.chg c (fun j hj hS => by have hS : j = w.heap.size + 1 := hS; have := (o2.blk j hj).1; omega), ap⟩, OwnR.chg o3 c (fun j hj hS => by have hS : j = w.heap.size + 1 := hS; have := (Own.blk o3 j hj).1; omega)⟩⟩
      simp only [execOp, h0, h1]
      simp only [Sem.run_bind, run_storeAt_mid w' (w.heap.size + 1) 0 27 #[.int .i64 pc, .slice p1 4 q1, .slice p2 8 q2, .int .i64 ht, .slice p3 bs.length q3] (there_of hvb hvs) szCel (by simp [Value.oneCell'])]
      rfl)
  intro uu wz hc hx hF
  obtain ⟨-, -, -, -, -, -, -, f8, -⟩ := hF
  obtain ⟨u1, v1, i1, f1, ⟨o1, o2, ap⟩, o3⟩ : ∃ u1 v1 i1, VB wz (w.heap.size + 1) [.int .i64 pc, u1, v1, .int .i64 ht, i1] ∧ (OwnI 3 1 wz (w.heap.size + 2) u1 4 [r0, r1, r2, r3] ∧ OwnI 3 1 wz (w.heap.size + 2) v1 8 [m0, m1, m2, m3, m4, m5, m6, m7] ∧ (∀ j, u1.ownBlock = some j → v1.ownBlock ≠ some j)) ∧ Own wz (w.heap.size + 2) i1 bs := f8
  have PZ := hid (below_chg B0.out hc (by have := B0.out.size; omega) (fun j hj => by have hj : j = w.heap.size + 1 := hj; omega))
  have F := hid f1
  have CL := hid (show Cl wz w.heap.size wz.heap.size u1 v1 i1 4 8 [r0, r1, r2, r3] [m0, m1, m2, m3, m4, m5, m6, m7] bs from ⟨o1.low (by omega), o2.low (by omega), o3.low (by omega), ap, fun j hj => ⟨rows_apart o3.2 o1 (by decide) j hj, rows_apart o3.2 o2 (by decide) j hj⟩, fun j hj => by
    rcases hj with hj | hj | hj
    · have := o1.blk j hj; omega
    · have := o2.blk j hj; omega
    · have := Own.blk o3 j hj; omega⟩)
  clear hc hx f1 o1 o2 ap o3 HL HX HB k0 k1 k2 k3 k4 V1 V2 B0 RU RV RI
  simp only [outTmps, List.setIfInBounds_toArray, List.set_cons_zero, List.set_cons_succ]
  go_wp2_with fail
  refine bodyPost_ret (resL14 _ rfl F.out) rfl ?_
  exact ⟨u1, v1, i1, rfl, CL.out, PZ.out⟩
end Go.Proofs.Ythhgjnhfidhmpaa
