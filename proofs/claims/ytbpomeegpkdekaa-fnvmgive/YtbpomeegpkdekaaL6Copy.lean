/- The specification's l6Copy. Conditions: four registers, eight places of memory. -/
import Derived.Test.YtbpomeegpkdekaaVmOpenC
import Derived.Test.YtbpomeegpkdekaaNoughts
import Derived.Test.YtbpomeegpkdekaaOpenI
import Derived.Deep.AppendLies
import Derived.Maps.AppendAt
namespace Go.Proofs.Ytbpomeegpkdekaa
open Go.ChangeShapes Go.WideShapes Go.ChangeAt Go.RowKit Go.Joins Go.Deep
set_option linter.unusedVariables false
set_option linter.unusedSimpArgs false
set_option maxRecDepth 4000
theorem infoInt : (Try.prog.info? 3).map (fun i => (i.zero, i.size, i.bytes)) = some (some (.int .i64 0), 1, 8) := by kernel_rfl
theorem infoInt' : ∃ i, Try.prog.info? 3 = some i ∧ i.zero = some (.int .i64 0) ∧ i.size = 1 ∧ i.bytes = 8 := by
  obtain ⟨i, hi, hzz⟩ := Option.map_eq_some_iff.1 infoInt
  simp only [Prod.mk.injEq] at hzz
  exact ⟨i, hi, hzz.1, hzz.2.1, hzz.2.2⟩
theorem szVm : (Try.prog.info? 25).map (·.size) = some 4 := by kernel_rfl
theorem resL6 {W : World} {b : Nat} {y0 y1 y2 y3 : Value} (tmps : Array Value) (ht : tmps.getD 2 undef = .pointer (some ⟨b, 0, none⟩)) (h : VB W b [y0, y1, y2, y3]) :
    (results Try.f54 tmps).run Try.prog W = .ok (.agg #[y0, y1, y2, y3]) W := by
  have hl := run_loadVar_mid (P := Try.prog) W b 0 25 [y0, y1, y2, y3] _ (fun j v hj => by
    have hj' : j < 4 := by
      rcases Nat.lt_or_ge j 4 with h' | h'
      · exact h'
      · rw [List.getElem?_eq_none (by simpa using h')] at hj; cases hj
    rw [Nat.zero_add, h.1 j (by simpa using hj'), List.getD_eq_getElem?_getD, hj]
    rfl) Try.underlying25 rfl szVm
  rw [results_cell Try.results54, ht, run_asAddr]
  exact hl
theorem rdI_cells {w : World} {b off n c : Nat} {xs : List Int} (h : ∀ i, i < xs.length → w.cell? ⟨b, off + i, none⟩ = some (.int .i64 (xs.getD i 0))) : ∀ j u, (xs.map (Value.int .i64))[j]? = some u → w.cell? ((⟨b, off, none⟩ : Addr).add j) = some u := by
  intro j u hj
  rw [Addr.add_lit]
  rw [List.getElem?_map] at hj
  by_cases hl : j < xs.length
  · rw [h j hl, List.getD_eq_getElem?_getD]
    rw [List.getElem?_eq_getElem hl] at hj ⊢
    simpa using hj
  · rw [List.getElem?_eq_none (by omega)] at hj
    cases hj
def L6Post (pc ht : Int) (xs ys : List Int) (w : World) (e : Ending) (w' : World) : Prop :=
  ∃ u1 v1, e = .returned (.agg #[.int .i64 pc, u1, v1, .int .i64 ht]) ∧ OwnI 3 1 w' w.heap.size u1 4 xs ∧ OwnI 3 1 w' w.heap.size v1 8 ys ∧ (∀ j, u1.ownBlock = some j → v1.ownBlock ≠ some j) ∧ Below w.heap.size w w'
set_option maxHeartbeats 4000000 in
theorem l6Copy_any (pc ht : Int) (xs ys : List Int) (u v : Value) (w : World) (hu : RdI 1 w u 4 xs) (hv : RdI 1 w v 8 ys) :
    Calls Try.prog 54 #[.agg #[.int .i64 pc, u, v, .int .i64 ht]] w fun e w' => L6Post pc ht xs ys w e w' := by
  obtain ⟨ti, hti, htz, hts, htb⟩ := infoInt'
  obtain ⟨lx, _, a1, c1, rfl, h3⟩ := hu
  obtain ⟨ly, _, a2, c2, rfl, k3⟩ := hv
  rcases h3 with h3 | ⟨b, off, rfl, hc⟩
  · omega
  rcases k3 with k3 | ⟨b', off', rfl, hc'⟩
  · omega
  have X0 := hid hc
  have Y0 := hid hc'
  have LX := hid lx
  have LY := hid ly
  have hb := World.block_lt_of_cell? w ⟨b, off + 0, none⟩ (hc 0 (by omega))
  have hb' := World.block_lt_of_cell? w ⟨b', off' + 0, none⟩ (hc' 0 (by omega))
  clear hc hc'
  have B0 := hid (((Below.refl w.heap.size w).alloc (Nat.le_refl _) (.cells #[.int .i64 pc, .slice (some ⟨b, off, none⟩) 4 c1, .slice (some ⟨b', off', none⟩) 8 c2, .int .i64 ht] 25)).alloc (by simp) (.cells #[.int .i64 0, .slice none 0 0, .slice none 0 0, .int .i64 0] 25))
  have V1 := hid ((vb_new w [.int .i64 pc, .slice (some ⟨b, off, none⟩) 4 c1, .slice (some ⟨b', off', none⟩) 8 c2, .int .i64 ht] 25).keep (below_alloc1 _ (.cells #[.int .i64 0, .slice none 0 0, .slice none 0 0, .int .i64 0] 25)))
  have V2 := hid (show VB ((w.alloc (.cells #[.int .i64 pc, .slice (some ⟨b, off, none⟩) 4 c1, .slice (some ⟨b', off', none⟩) 8 c2, .int .i64 ht] 25)).alloc (.cells #[.int .i64 0, .slice none 0 0, .slice none 0 0, .int .i64 0] 25)) (w.heap.size + 1) [.int .i64 0, .slice none 0 0, .slice none 0 0, .int .i64 0] from by have := vb_new (w.alloc (.cells #[.int .i64 pc, .slice (some ⟨b, off, none⟩) 4 c1, .slice (some ⟨b', off', none⟩) 8 c2, .int .i64 ht] 25)) [.int .i64 0, .slice none 0 0, .slice none 0 0, .int .i64 0] 25; simpa using this)
  obtain ⟨W2, hW2⟩ : ∃ W, (w.alloc (.cells #[.int .i64 pc, .slice (some ⟨b, off, none⟩) 4 c1, .slice (some ⟨b', off', none⟩) 8 c2, .int .i64 ht] 25)).alloc (.cells #[.int .i64 0, .slice none 0 0, .slice none 0 0, .int .i64 0] 25) = W := ⟨_, rfl⟩
  have z2 : W2.heap.size = w.heap.size + 2 := by rw [← hW2]; simp
  have Z2 := hid z2
  rw [hW2] at B0 V1 V2
  clear z2
  have A3 := below_alloc1 W2 (.cells #[] 3)
  have V1 := hid (V1.out.keep A3)
  have V2 := hid (V2.out.keep A3)
  have BA := hid (B0.out.trans (A3.mono B0.out.size))
  obtain ⟨q0, q1, q2, q3⟩ := vb4 V1.out
  have fr1 := V1.out.2.1
  clear A3
  go_enter Try.func54, Try.ntmps54
  go_wp2_with (at_builtin; go_must (refine wpList_append_lies _ (by rfl) _ _ 23 (by rfl) W2.heap.size 3 ti (.int .i64 0) 1 8 Try.underlying23 hti htz hts htb rfl (by omega) _ 0 [] (by rfl) (ownI_none W2) ⟨b, off, none⟩ 4 c1 (xs.map (Value.int .i64)) (by rfl) (by rw [List.length_map]; exact LX.out) (rdI_cells (n := 4) (c := c1) (fun i hi => cell_keep BA.out (X0.out i hi))) (by intro y hy; simp at hy; obtain ⟨z, _, rfl⟩ := hy; rfl) (by omega) (by unfold maxLen; omega) (by omega) (by simp) (W2.heap.size + 1) (by simp) ?_))
  intro g1 k1 w3 ho hg hat hlt
  have V1 := hid (V1.out.grown hg (by have := Z2.out; simp [Value.ownBlock]; omega))
  have V2 := hid (V2.out.grown hg (by have := Z2.out; simp [Value.ownBlock]; omega))
  have CH := Chg.of_grown (S := fun j => j = W2.heap.size) hg (fun j hj => by simpa [Value.ownBlock] using hj.symm)
  have B3 := hid (below_chg BA.out CH BA.out.size (fun j hj => by have hj : j = W2.heap.size := hj; have := Z2.out; omega))
  have O1 : Hid (OwnI 3 1 w3 W2.heap.size (.slice (some ⟨g1, 0, none⟩) 4 k1) 4 xs) := hid (by unfold OwnI; simpa using ho)
  have G1 := hid (O1.out.blk g1 rfl)
  clear ho hat hlt hg CH q0 q1 q2 q3 fr1 hW2
  obtain ⟨q0, q1, q2, q3⟩ := vb4 V1.out
  have fr1 := V1.out.2.1
  have z2' := Z2.out
  have CS := (Chg.refl (fun j => j = w.heap.size) w3).set (p := ⟨w.heap.size, 1, none⟩) rfl (.slice (some ⟨g1, 0, none⟩) 4 k1)
  have V1 := hid (show VB (w3.setCell ⟨w.heap.size, 1, none⟩ (.slice (some ⟨g1, 0, none⟩) 4 k1)) w.heap.size [.int .i64 pc, .slice (some ⟨g1, 0, none⟩) 4 k1, .slice (some ⟨b', off', none⟩) 8 c2, .int .i64 ht] from by have := V1.out.set (i := 1) (by simp) (.slice (some ⟨g1, 0, none⟩) 4 k1); simpa using this)
  have V2 := hid (V2.out.off (i := 1) (v := .slice (some ⟨g1, 0, none⟩) 4 k1) (b := w.heap.size + 1) (c := w.heap.size) (by omega))
  have O1 := hid (O1.out.chg CS (fun j hj hS => by have hS : j = w.heap.size := hS; have := (O1.out.blk j hj).1; omega))
  have B4 := hid (below_chg B3.out CS B3.out.size (fun j hj => by have hj : j = w.heap.size := hj; omega))
  have s3 : W2.heap.size + 1 ≤ w3.heap.size := by have := G1.out; omega
  have s4 := CS.size
  obtain ⟨W4, hW4⟩ : ∃ W, w3.setCell ⟨w.heap.size, 1, none⟩ (.slice (some ⟨g1, 0, none⟩) 4 k1) = W := ⟨_, rfl⟩
  rw [hW4] at V1 V2 O1 B4 s4
  have A5 := below_alloc1 W4 (.cells #[] 3)
  have V1 := hid (V1.out.keep A5)
  have V2 := hid (V2.out.keep A5)
  have O1 := hid (O1.out.keep A5)
  have B5 := hid (B4.out.trans (A5.mono B4.out.size))
  clear A5 CS
  obtain ⟨e0, e1, e2, e3⟩ := vb4 V1.out
  go_wp2_with (at_builtin; go_must (refine wpList_append_lies _ (by rfl) _ _ 23 (by rfl) W4.heap.size 3 ti (.int .i64 0) 1 8 Try.underlying23 hti htz hts htb rfl (by omega) _ 0 [] (by rfl) (ownI_none W4) ⟨b', off', none⟩ 8 c2 (ys.map (Value.int .i64)) (by rfl) (by rw [List.length_map]; exact LY.out) (rdI_cells (n := 8) (c := c2) (fun i hi => cell_keep B5.out (Y0.out i hi))) (by intro y hy; simp at hy; obtain ⟨z, _, rfl⟩ := hy; rfl) (by omega) (by unfold maxLen; omega) (by omega) (by simp) (W4.heap.size + 1) (by simp) ?_))
  intro g2 k2 w6 ho hg hat hlt
  have V1 := hid (V1.out.grown hg (by simp [Value.ownBlock]; omega))
  have V2 := hid (V2.out.grown hg (by simp [Value.ownBlock]; omega))
  have CH := Chg.of_grown (S := fun j => j = W4.heap.size) hg (fun j hj => by simpa [Value.ownBlock] using hj.symm)
  have B6 := hid (below_chg B5.out CH B5.out.size (fun j hj => by have hj : j = W4.heap.size := hj; omega))
  have O1 := hid (O1.out.chg CH (fun j hj hS => by have hS : j = W4.heap.size := hS; have h2 := (show g1 = j from by simpa [Value.ownBlock] using hj); have := G1.out; omega))
  have O2 : Hid (OwnI 3 1 w6 W4.heap.size (.slice (some ⟨g2, 0, none⟩) 8 k2) 8 ys) := hid (by unfold OwnI; simpa using ho)
  have G2 := hid (O2.out.blk g2 rfl)
  clear ho hat hlt hg CH q0 q1 q2 q3 fr1 e0 e1 e2 e3 hW4
  obtain ⟨q0, q1, q2, q3⟩ := vb4 V1.out
  obtain ⟨t0, t1, t2, t3⟩ := vb4 V2.out
  have fr1 := V1.out.2.1
  have fr2 := V2.out.2.1
  have n12 : ¬ w.heap.size + 1 = w.heap.size := by omega
  have n21 : ¬ w.heap.size = w.heap.size + 1 := by omega
  have CS := (Chg.refl (fun j => j = w.heap.size ∨ j = w.heap.size + 1) w6).set (p := ⟨w.heap.size, 2, none⟩) (.inl rfl) (.slice (some ⟨g2, 0, none⟩) 8 k2)
  have CT := Chg.trans CS (vbchg4 (S := fun j => j = w.heap.size ∨ j = w.heap.size + 1) (w := w6.setCell ⟨w.heap.size, 2, none⟩ (.slice (some ⟨g2, 0, none⟩) 8 k2)) (b := w.heap.size + 1) (.int .i64 pc) (.slice (some ⟨g1, 0, none⟩) 4 k1) (.slice (some ⟨g2, 0, none⟩) 8 k2) (.int .i64 ht) (.inr rfl))
  have T := hid (vbset4 (.int .i64 pc) (.slice (some ⟨g1, 0, none⟩) 4 k1) (.slice (some ⟨g2, 0, none⟩) 8 k2) (.int .i64 ht) (V2.out.off (i := 2) (v := .slice (some ⟨g2, 0, none⟩) 8 k2) (b := w.heap.size + 1) (c := w.heap.size) (by omega)))
  have PZ := hid (below_chg B6.out CT B6.out.size (fun j hj => by have hj : j = w.heap.size ∨ j = w.heap.size + 1 := hj; omega))
  have F1 := hid (O1.out.chg CT (fun j hj hS => by have hS : j = w.heap.size ∨ j = w.heap.size + 1 := hS; have := (O1.out.blk j hj).1; omega))
  have F2 := hid (O2.out.chg CT (fun j hj hS => by have hS : j = w.heap.size ∨ j = w.heap.size + 1 := hS; have := (O2.out.blk j hj).1; omega))
  have ap : ∀ j, (Value.slice (some ⟨g1, 0, none⟩) 4 k1).ownBlock = some j → (Value.slice (some ⟨g2, 0, none⟩) 8 k2).ownBlock ≠ some j := fun j hj hj2 => by
    have h1 : g1 = j := by simpa [Value.ownBlock] using hj
    have h2 : g2 = j := by simpa [Value.ownBlock] using hj2
    have := G1.out
    have := G2.out
    omega
  have AP := hid ap
  clear CS CT ap
  go_wp2_with fail
  refine bodyPost_ret (resL6 _ rfl T.out) rfl ?_
  exact ⟨_, _, rfl, F1.out.low (by omega), F2.out.low (by omega), AP.out, PZ.out⟩
end Go.Proofs.Ytbpomeegpkdekaa
