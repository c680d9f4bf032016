/- vmOpen: the contract of the program's. Conditions: four registers, eight places of memory. -/
import Derived.Test.YtbpomeegpkdekaaVmBase
import Derived.Test.YtbpomeegpkdekaaRegCg
import Derived.Test.YtbpomeegpkdekaaVbStore
import Derived.Laws.Cover3
import Derived.Deep.DeepCutAuto
namespace Go.Proofs.Ytbpomeegpkdekaa
open Go.ChangeShapes Go.WideShapes Go.ChangeAt Go.RowKit Go.Joins Go.Deep
set_option linter.unusedVariables false
set_option linter.unusedSimpArgs false
set_option maxRecDepth 4000
theorem szBody : (Try.prog.info? 75).map (·.size) = some 20 := by kernel_rfl
theorem results_cell {fn : Func} {p : Tmp} {ty : TypeId} (h : fn.results = #[.cell p ty]) (tmps : Array Value) (P : Program) (w : World) :
    (results fn tmps).run P w = ((asAddr (tmps.getD p undef)).run P w).andThen fun a w₁ => (loadVar ty a).run P w₁ := by
  simp only [results, h]
  simp [Sem.run_bind, Result.andThen]
theorem run_asAddr {P : Program} (a : Addr) (w : World) : (asAddr (.pointer (some a))).run P w = .ok a w := rfl
theorem resOpen {W : World} {b : Nat} {y0 y1 y2 y3 y4 y5 y6 y7 y8 y9 ya yb yc yd ye yf yg yh yi yj : Value} (tmps : Array Value) (ht : tmps.getD 2 undef = .pointer (some ⟨b, 0, none⟩)) (h : VB W b [y0, y1, y2, y3, y4, y5, y6, y7, y8, y9, ya, yb, yc, yd, ye, yf, yg, yh, yi, yj]) :
    (results Try.f49 tmps).run Try.prog W = .ok (.agg #[y0, y1, y2, y3, y4, y5, y6, y7, y8, y9, ya, yb, yc, yd, ye, yf, yg, yh, yi, yj]) W := by
  have hl := run_loadVar_mid (P := Try.prog) W b 0 75 [y0, y1, y2, y3, y4, y5, y6, y7, y8, y9, ya, yb, yc, yd, ye, yf, yg, yh, yi, yj] _ (fun j v hj => by
    have hj' : j < 20 := by
      rcases Nat.lt_or_ge j 20 with h' | h'
      · exact h'
      · rw [List.getElem?_eq_none (by simpa using h')] at hj; cases hj
    rw [Nat.zero_add, h.1 j (by simpa using hj'), List.getD_eq_getElem?_getD, hj]
    rfl) Try.underlying75 rfl szBody
  rw [results_cell Try.results49, ht, run_asAddr]
  exact hl
set_option maxHeartbeats 400000 in
theorem vmOpen_any (pc ht r0 r1 r2 r3 m0 m1 m2 m3 m4 m5 m6 m7 : Int) (u v : Value) (w : World) (hu : RdI 1 w u 4 [r0, r1, r2, r3]) (hv : RdI 1 w v 8 [m0, m1, m2, m3, m4, m5, m6, m7]) :
    Calls Try.prog 49 #[.agg #[.int .i64 pc, u, v, .int .i64 ht]] w fun e w' => e = .returned (.agg #[.int .i64 pc, .int .i64 r0, .int .i64 r1, .int .i64 r2, .int .i64 r3, .int .i64 m0, .int .i64 m1, .int .i64 m2, .int .i64 m3, .int .i64 m4, .int .i64 m5, .int .i64 m6, .int .i64 m7, .int .i64 ht, .int .i64 0, .int .i64 0, .slice none 0 0, .int .i64 0, .int .i64 0, .int .i64 0]) ∧ Below w.heap.size w w' := by
  obtain ⟨_, _, a1, c1, rfl, h3⟩ := hu
  obtain ⟨_, _, a2, c2, rfl, k3⟩ := hv
  rcases h3 with h3 | ⟨b, off, rfl, hc⟩
  · omega
  rcases k3 with k3 | ⟨b', off', rfl, hc'⟩
  · omega
  have B0 := hid (((Below.refl w.heap.size w).alloc (Nat.le_refl _) (.cells #[.int .i64 pc, .slice (some ⟨b, off, none⟩) 4 c1, .slice (some ⟨b', off', none⟩) 8 c2, .int .i64 ht] 25)).alloc (by simp) (.cells #[.int .i64 0, .int .i64 0, .int .i64 0, .int .i64 0, .int .i64 0, .int .i64 0, .int .i64 0, .int .i64 0, .int .i64 0, .int .i64 0, .int .i64 0, .int .i64 0, .int .i64 0, .int .i64 0, .int .i64 0, .int .i64 0, .slice none 0 0, .int .i64 0, .int .i64 0, .int .i64 0] 75))
  have x0 := cell_keep B0.out (hc 0 (by simp))
  have x1 := cell_keep B0.out (hc 1 (by simp))
  have x2 := cell_keep B0.out (hc 2 (by simp))
  have x3 := cell_keep B0.out (hc 3 (by simp))
  have y0 := cell_keep B0.out (hc' 0 (by simp))
  have y1 := cell_keep B0.out (hc' 1 (by simp))
  have y2 := cell_keep B0.out (hc' 2 (by simp))
  have y3 := cell_keep B0.out (hc' 3 (by simp))
  have y4 := cell_keep B0.out (hc' 4 (by simp))
  have y5 := cell_keep B0.out (hc' 5 (by simp))
  have y6 := cell_keep B0.out (hc' 6 (by simp))
  have y7 := cell_keep B0.out (hc' 7 (by simp))
  simp only [List.getD_cons_zero, List.getD_cons_succ, Nat.add_zero] at x0 x1 x2 x3 y0 y1 y2 y3 y4 y5 y6 y7
  have b0 := hc 0 (by simp)
  have b0' := hc' 0 (by simp)
  rw [Nat.add_zero] at b0 b0'
  clear hc hc'
  have ha1 : ∀ w, (Instr.arrayAt 72 (.slice (some ⟨b, off, none⟩) 4 c1)).run Try.prog w = .ok (.pointer (some ⟨b, off, none⟩)) w := fun w => run_arrayAt w 72 _ 4 _ 4 c1 Try.underlying72 (by omega)
  have ha2 : ∀ w, (Instr.arrayAt 73 (.slice (some ⟨b', off', none⟩) 8 c2)).run Try.prog w = .ok (.pointer (some ⟨b', off', none⟩)) w := fun w => run_arrayAt w 73 _ 8 _ 8 c2 Try.underlying73 (by omega)
  obtain ⟨W1, hW1⟩ : ∃ W, w.alloc (.cells #[.int .i64 pc, .slice (some ⟨b, off, none⟩) 4 c1, .slice (some ⟨b', off', none⟩) 8 c2, .int .i64 ht] 25) = W := ⟨_, rfl⟩
  have s1 : W1.heap.size = w.heap.size + 1 := by rw [← hW1]; simp
  have V1 := hid (show VB (W1.alloc (.cells #[.int .i64 0, .int .i64 0, .int .i64 0, .int .i64 0, .int .i64 0, .int .i64 0, .int .i64 0, .int .i64 0, .int .i64 0, .int .i64 0, .int .i64 0, .int .i64 0, .int .i64 0, .int .i64 0, .int .i64 0, .int .i64 0, .slice none 0 0, .int .i64 0, .int .i64 0, .int .i64 0] 75)) w.heap.size [.int .i64 pc, .slice (some ⟨b, off, none⟩) 4 c1, .slice (some ⟨b', off', none⟩) 8 c2, .int .i64 ht] from by rw [← hW1]; exact (vb_new w [.int .i64 pc, .slice (some ⟨b, off, none⟩) 4 c1, .slice (some ⟨b', off', none⟩) 8 c2, .int .i64 ht] 25).keep (below_alloc1 _ _))
  have V2 := hid (show VB (W1.alloc (.cells #[.int .i64 0, .int .i64 0, .int .i64 0, .int .i64 0, .int .i64 0, .int .i64 0, .int .i64 0, .int .i64 0, .int .i64 0, .int .i64 0, .int .i64 0, .int .i64 0, .int .i64 0, .int .i64 0, .int .i64 0, .int .i64 0, .slice none 0 0, .int .i64 0, .int .i64 0, .int .i64 0] 75)) (w.heap.size + 1) [.int .i64 0, .int .i64 0, .int .i64 0, .int .i64 0, .int .i64 0, .int .i64 0, .int .i64 0, .int .i64 0, .int .i64 0, .int .i64 0, .int .i64 0, .int .i64 0, .int .i64 0, .int .i64 0, .int .i64 0, .int .i64 0, .slice none 0 0, .int .i64 0, .int .i64 0, .int .i64 0] from by rw [← s1]; exact vb_new W1 [.int .i64 0, .int .i64 0, .int .i64 0, .int .i64 0, .int .i64 0, .int .i64 0, .int .i64 0, .int .i64 0, .int .i64 0, .int .i64 0, .int .i64 0, .int .i64 0, .int .i64 0, .int .i64 0, .int .i64 0, .int .i64 0, .slice none 0 0, .int .i64 0, .int .i64 0, .int .i64 0] 75)
  have lb : b < w.heap.size := World.block_lt_of_cell? w ⟨b, off, none⟩ b0
  have lb' : b' < w.heap.size := World.block_lt_of_cell? w ⟨b', off', none⟩ b0'
  rw [hW1] at B0 x0 x1 x2 x3 y0 y1 y2 y3 y4 y5 y6 y7
  go_enter Try.func49, Try.ntmps49
  go_upto_region 1 with fail
  try rw [hW1]
  obtain ⟨W2, hW2⟩ : ∃ W, W1.alloc (.cells #[.int .i64 0, .int .i64 0, .int .i64 0, .int .i64 0, .int .i64 0, .int .i64 0, .int .i64 0, .int .i64 0, .int .i64 0, .int .i64 0, .int .i64 0, .int .i64 0, .int .i64 0, .int .i64 0, .int .i64 0, .int .i64 0, .slice none 0 0, .int .i64 0, .int .i64 0, .int .i64 0] 75) = W := ⟨_, rfl⟩
  rw [hW2] at B0 V1 V2 x0 x1 x2 x3 y0 y1 y2 y3 y4 y5 y6 y7
  try rw [hW2]
  clear hW1 hW2 s1
  obtain ⟨k0, k1, k2, k3⟩ := vb4 V1.out
  have HL : AllLastC (fun j => j = w.heap.size + 1) [(fun u _ => u = .pointer (some ⟨w.heap.size, 0, none⟩)), (fun u _ => u = .int .i64 pc), (fun u _ => u = .pointer (some ⟨w.heap.size, 1, none⟩)), (fun u _ => u = .slice (some ⟨b, off, none⟩) 4 c1), (fun u _ => u = .pointer (some ⟨b, off, none⟩)), (fun u _ => u = .agg #[.int .i64 r0, .int .i64 r1, .int .i64 r2, .int .i64 r3]), (fun u _ => u = .pointer (some ⟨w.heap.size, 2, none⟩)), (fun u _ => u = .slice (some ⟨b', off', none⟩) 8 c2), (fun u _ => u = .pointer (some ⟨b', off', none⟩)), (fun u _ => u = .agg #[.int .i64 m0, .int .i64 m1, .int .i64 m2, .int .i64 m3, .int .i64 m4, .int .i64 m5, .int .i64 m6, .int .i64 m7]), (fun u _ => u = .pointer (some ⟨w.heap.size, 3, none⟩)), (fun u _ => u = .int .i64 ht), (fun u _ => u = .agg #[.int .i64 pc, .int .i64 r0, .int .i64 r1, .int .i64 r2, .int .i64 r3, .int .i64 m0, .int .i64 m1, .int .i64 m2, .int .i64 m3, .int .i64 m4, .int .i64 m5, .int .i64 m6, .int .i64 m7, .int .i64 ht, .int .i64 0, .int .i64 0, .slice none 0 0, .int .i64 0, .int .i64 0, .int .i64 0])] := ⟨lastc_val _, lastc_val _, lastc_val _, lastc_val _, lastc_val _, lastc_val _, lastc_val _, lastc_val _, lastc_val _, lastc_val _, lastc_val _, lastc_val _, lastc_val _, trivial⟩
  refine region_cg (S := (fun j => j = w.heap.size + 1)) (X := fun w' => ∃ vs : List Value, vs.length = 20 ∧ VB w' (w.heap.size + 1) vs) ([(fun u _ => u = .pointer (some ⟨w.heap.size, 0, none⟩)), (fun u _ => u = .int .i64 pc), (fun u _ => u = .pointer (some ⟨w.heap.size, 1, none⟩)), (fun u _ => u = .slice (some ⟨b, off, none⟩) 4 c1), (fun u _ => u = .pointer (some ⟨b, off, none⟩)), (fun u _ => u = .agg #[.int .i64 r0, .int .i64 r1, .int .i64 r2, .int .i64 r3]), (fun u _ => u = .pointer (some ⟨w.heap.size, 2, none⟩)), (fun u _ => u = .slice (some ⟨b', off', none⟩) 8 c2), (fun u _ => u = .pointer (some ⟨b', off', none⟩)), (fun u _ => u = .agg #[.int .i64 m0, .int .i64 m1, .int .i64 m2, .int .i64 m3, .int .i64 m4, .int .i64 m5, .int .i64 m6, .int .i64 m7]), (fun u _ => u = .pointer (some ⟨w.heap.size, 3, none⟩)), (fun u _ => u = .int .i64 ht), (fun u _ => u = .agg #[.int .i64 pc, .int .i64 r0, .int .i64 r1, .int .i64 r2, .int .i64 r3, .int .i64 m0, .int .i64 m1, .int .i64 m2, .int .i64 m3, .int .i64 m4, .int .i64 m5, .int .i64 m6, .int .i64 m7, .int .i64 ht, .int .i64 0, .int .i64 0, .slice none 0 0, .int .i64 0, .int .i64 0, .int .i64 0])] ++ [fun _ w' => VB w' (w.heap.size + 1) [.int .i64 pc, .int .i64 r0, .int .i64 r1, .int .i64 r2, .int .i64 r3, .int .i64 m0, .int .i64 m1, .int .i64 m2, .int .i64 m3, .int .i64 m4, .int .i64 m5, .int .i64 m6, .int .i64 m7, .int .i64 ht, .int .i64 0, .int .i64 0, .slice none 0 0, .int .i64 0, .int .i64 0, .int .i64 0]]) (by kernel_rfl) (by kernel_rfl) ⟨_, rfl, V2.out.drew⟩ ⟨?_, ?_, ?_, ?_, ?_, ?_, ?_, ?_, ?_, ?_, ?_, ?_, ?_, ?_, trivial⟩ ?_
  · exact ob_un (cg_fieldAddr (fun w => by go_simp) (oc_out rfl rfl) rfl)
  · exact ob_un (cg_load (fun w hc => by have q := hc.cell (by dsimp only; omega) k0; go_simp) (oc_in 0 rfl rfl rfl) rfl)
  · exact ob_un (cg_fieldAddr (fun w => by go_simp) (oc_out rfl rfl) rfl)
  · exact ob_un (cg_load (fun w hc => by have q := hc.cell (by dsimp only; omega) k1; go_simp) (oc_in 2 rfl rfl rfl) rfl)
  · exact ob_un (cg_some fun a w hc hat => by
      have h1 := oc_in 3 rfl rfl rfl a w hat
      refine ⟨_, ?_, rfl⟩
      simp only [execOp, h1]
      simp only [Sem.run_bind, ha1 w]
      rfl)
  · exact ob_un (cg_load (fun w hc => by have q0 := hc.cell (by dsimp only; omega) x0; have q1 := hc.cell (by dsimp only; omega) x1; have q2 := hc.cell (by dsimp only; omega) x2; have q3 := hc.cell (by dsimp only; omega) x3; go_simp) (oc_in 4 rfl rfl rfl) rfl)
  · exact ob_un (cg_fieldAddr (fun w => by go_simp) (oc_out rfl rfl) rfl)
  · exact ob_un (cg_load (fun w hc => by have q := hc.cell (by dsimp only; omega) k2; go_simp) (oc_in 6 rfl rfl rfl) rfl)
  · exact ob_un (cg_some fun a w hc hat => by
      have h1 := oc_in 7 rfl rfl rfl a w hat
      refine ⟨_, ?_, rfl⟩
      simp only [execOp, h1]
      simp only [Sem.run_bind, ha2 w]
      rfl)
  · exact ob_un (cg_load (fun w hc => by have q0 := hc.cell (by dsimp only; omega) y0; have q1 := hc.cell (by dsimp only; omega) y1; have q2 := hc.cell (by dsimp only; omega) y2; have q3 := hc.cell (by dsimp only; omega) y3; have q4 := hc.cell (by dsimp only; omega) y4; have q5 := hc.cell (by dsimp only; omega) y5; have q6 := hc.cell (by dsimp only; omega) y6; have q7 := hc.cell (by dsimp only; omega) y7; go_simp) (oc_in 8 rfl rfl rfl) rfl)
  · exact ob_un (cg_fieldAddr (fun w => by go_simp) (oc_out rfl rfl) rfl)
  · exact ob_un (cg_load (fun w hc => by have q := hc.cell (by dsimp only; omega) k3; go_simp) (oc_in 10 rfl rfl rfl) rfl)
  · exact ob_un (cg_some fun a w hc hat => by
      have h1 := oc_in 1 rfl rfl rfl a w hat
      have h2 := oc_in 5 rfl rfl rfl a w hat
      have h3 := oc_in 9 rfl rfl rfl a w hat
      have h4 := oc_in 11 rfl rfl rfl a w hat
      refine ⟨_, ?_, rfl⟩
      rw [eval_tmp] at h1 h2 h3 h4
      simp only [execOp]
      go_simp)
  · exact ob_un (cg_skip (lastc_but _ HL) fun a wr hc hx hat => by
      have h1 := oc_in 12 rfl rfl rfl a wr hat
      obtain ⟨vs, hvs, hvb⟩ := hx
      have h0 : a.eval (.tmp 2) = .pointer (some ⟨w.heap.size + 1, 0, none⟩) := oc_out rfl rfl a wr hat
      refine ⟨wr.setCells (w.heap.size + 1) 0 [.int .i64 pc, .int .i64 r0, .int .i64 r1, .int .i64 r2, .int .i64 r3, .int .i64 m0, .int .i64 m1, .int .i64 m2, .int .i64 m3, .int .i64 m4, .int .i64 m5, .int .i64 m6, .int .i64 m7, .int .i64 ht, .int .i64 0, .int .i64 0, .slice none 0 0, .int .i64 0, .int .i64 0, .int .i64 0], ?_, chg_setCellsL _ _ _ _, ⟨_, rfl, vb_store hvb (by rw [hvs]; rfl)⟩, vb_store hvb (by rw [hvs]; rfl)⟩
      simp only [execOp, h0, h1]
      simp only [Sem.run_bind, run_storeAt_mid wr (w.heap.size + 1) 0 75 #[.int .i64 pc, .int .i64 r0, .int .i64 r1, .int .i64 r2, .int .i64 r3, .int .i64 m0, .int .i64 m1, .int .i64 m2, .int .i64 m3, .int .i64 m4, .int .i64 m5, .int .i64 m6, .int .i64 m7, .int .i64 ht, .int .i64 0, .int .i64 0, .slice none 0 0, .int .i64 0, .int .i64 0, .int .i64 0] (there_of hvb hvs) szBody (by simp [Value.oneCell'])]
      rfl)
  intro u wz hc hx hF
  obtain ⟨-, -, -, -, -, -, -, -, -, -, -, -, -, f13, -⟩ := hF
  have f13 : VB wz (w.heap.size + 1) [.int .i64 pc, .int .i64 r0, .int .i64 r1, .int .i64 r2, .int .i64 r3, .int .i64 m0, .int .i64 m1, .int .i64 m2, .int .i64 m3, .int .i64 m4, .int .i64 m5, .int .i64 m6, .int .i64 m7, .int .i64 ht, .int .i64 0, .int .i64 0, .slice none 0 0, .int .i64 0, .int .i64 0, .int .i64 0] := f13
  have PZ := hid (below_chg B0.out hc (by have := B0.out.size; omega) (fun j hj => by have hj : j = w.heap.size + 1 := hj; omega))
  have F13 := hid f13
  clear hc hx f13 HL V1 V2 B0 k0 k1 k2 k3 x0 x1 x2 x3 y0 y1 y2 y3 y4 y5 y6 y7 ha1 ha2 b0 b0' lb lb'
  simp only [outTmps, List.setIfInBounds_toArray, List.set_cons_zero, List.set_cons_succ]
  go_wp2_with fail
  refine bodyPost_ret (resOpen _ rfl F13.out) rfl ?_
  exact ⟨rfl, PZ.out⟩
end Go.Proofs.Ytbpomeegpkdekaa
