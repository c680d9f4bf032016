/- CelNew: the contracts of the program's and of the specification's. No conditions. -/
import Derived.Test.YthhgjnhfidhmpaaCelBase
import Derived.Test.YthhgjnhfidhmpaaVmNew
namespace Go.Proofs.Ythhgjnhfidhmpaa
open Go.ChangeShapes Go.WideShapes Go.ChangeAt Go.RowKit Go.Joins Go.Deep
set_option linter.unusedVariables false
set_option linter.unusedSimpArgs false
set_option maxRecDepth 4000

theorem own_nilB (w : World) (B : Nat) : Own w B (.slice none 0 0) [] := ⟨by simp, by simp, .inl ⟨rfl, rfl⟩⟩
theorem res_celNew_any {W : World} {b : Nat} {x0 x1 x2 x3 x4 : Value} (tmps : Array Value) (ht : tmps[0]?.getD undef = .pointer (some ⟨b, 0, none⟩)) (h0 : W.cell? ⟨b, 0, none⟩ = some x0) (h1 : W.cell? ⟨b, 1, none⟩ = some x1) (h2 : W.cell? ⟨b, 2, none⟩ = some x2) (h3 : W.cell? ⟨b, 3, none⟩ = some x3) (h4 : W.cell? ⟨b, 4, none⟩ = some x4) :
    (results Try.f14 tmps).run Try.prog W = .ok (.agg #[x0, x1, x2, x3, x4]) W := by
  simp [results, Try.results14, go_sem, ht, h0, h1, h2, h3, h4]
set_option maxHeartbeats 2000000 in
theorem celNew_any (w : World) :
    Calls Try.prog 14 #[] w fun e w' => ∃ u v, e = .returned (.agg #[.int .i64 0, u, v, .int .i64 0, .slice none 0 0]) ∧ Cl w' w.heap.size w'.heap.size u v (.slice none 0 0) 4 8 [0, 0, 0, 0] [0, 0, 0, 0, 0, 0, 0, 0] [] ∧ Below w.heap.size w w' := by
  have VR := hid (vb_new w [.int .i64 0, .slice none 0 0, .slice none 0 0, .int .i64 0, .slice none 0 0] 27)
  have B0 := hid (below_alloc1 w (.cells #[.int .i64 0, .slice none 0 0, .slice none 0 0, .int .i64 0, .slice none 0 0] 27))
  have z0 : (w.alloc (.cells #[.int .i64 0, .slice none 0 0, .slice none 0 0, .int .i64 0, .slice none 0 0] 27)).heap.size = w.heap.size + 1 := by simp
  have Z0 := hid z0
  clear z0
  go_enter Try.func14, Try.ntmps14
  go_wp2_with fail
  refine (vmNew_any _).mono ?_
  rintro e w1 ⟨u, v, rfl, p1, t1, ap, b1⟩
  obtain ⟨a1, c1, rfl, _⟩ := ownI_form p1
  obtain ⟨a2, c2, rfl, _⟩ := ownI_form t1
  have VR := hid (VR.out.keep b1)
  have P1 := hid p1
  have T1 := hid t1
  have AP := hid ap
  have B1 := hid (B0.out.trans (b1.mono B0.out.size))
  clear p1 t1 ap b1
  obtain ⟨r0, r1, r2, r3, r4⟩ := vb5 VR.out
  have fr := VR.out.2.1
  have CG := hid (vbchg5 (S := fun j => j = w.heap.size) (w := w1) (b := w.heap.size) (.int .i64 0) (.slice a1 4 c1) (.slice a2 8 c2) (.int .i64 0) (.slice none 0 0) rfl)
  go_wp2_with fail
  obtain ⟨t0, t1, t2, t3, t4⟩ := vb5 (vbset5 (.int .i64 0) (.slice a1 4 c1) (.slice a2 8 c2) (.int .i64 0) (.slice none 0 0) VR.out)
  refine bodyPost_ret (v := .agg #[.int .i64 0, .slice a1 4 c1, .slice a2 8 c2, .int .i64 0, .slice none 0 0]) (res_celNew_any _ rfl t0 t1 t2 t3 t4) rfl ?_
  have Q1 := (P1.out.chg CG.out (fun j hj he => by have he : j = w.heap.size := he; have := (P1.out.blk j hj).1; rw [Z0.out] at this; omega)).low (B' := w.heap.size) (by rw [Z0.out]; omega)
  have Q2 := (T1.out.chg CG.out (fun j hj he => by have he : j = w.heap.size := he; have := (T1.out.blk j hj).1; rw [Z0.out] at this; omega)).low (B' := w.heap.size) (by rw [Z0.out]; omega)
  refine ⟨_, _, rfl, ⟨Q1, Q2, own_nilB _ _, AP.out, by simp [Value.ownBlock], fun j hj => ?_⟩, below_chg B1.out CG.out (by have := B1.out.size; omega) (fun j hj => by have hj : j = w.heap.size := hj; omega)⟩
  rcases hj with hj | hj | hj
  · exact Q1.blk j hj
  · exact Q2.blk j hj
  · simp [Value.ownBlock] at hj
theorem res_specCelNew_any {W : World} {b : Nat} {x0 x1 x2 x3 x4 : Value} (tmps : Array Value) (ht : tmps[0]?.getD undef = .pointer (some ⟨b, 0, none⟩)) (h0 : W.cell? ⟨b, 0, none⟩ = some x0) (h1 : W.cell? ⟨b, 1, none⟩ = some x1) (h2 : W.cell? ⟨b, 2, none⟩ = some x2) (h3 : W.cell? ⟨b, 3, none⟩ = some x3) (h4 : W.cell? ⟨b, 4, none⟩ = some x4) :
    (results Try.f17 tmps).run Try.prog W = .ok (.agg #[x0, x1, x2, x3, x4]) W := by
  simp [results, Try.results17, go_sem, ht, h0, h1, h2, h3, h4]
set_option maxHeartbeats 2000000 in
theorem specCelNew_any (w : World) :
    Calls Try.prog 17 #[] w fun e w' => ∃ u v, e = .returned (.agg #[.int .i64 0, u, v, .int .i64 0, .slice none 0 0]) ∧ Cl w' w.heap.size w'.heap.size u v (.slice none 0 0) 4 8 [0, 0, 0, 0] [0, 0, 0, 0, 0, 0, 0, 0] [] ∧ Below w.heap.size w w' := by
  have VR := hid (vb_new w [.int .i64 0, .slice none 0 0, .slice none 0 0, .int .i64 0, .slice none 0 0] 27)
  have B0 := hid (below_alloc1 w (.cells #[.int .i64 0, .slice none 0 0, .slice none 0 0, .int .i64 0, .slice none 0 0] 27))
  have z0 : (w.alloc (.cells #[.int .i64 0, .slice none 0 0, .slice none 0 0, .int .i64 0, .slice none 0 0] 27)).heap.size = w.heap.size + 1 := by simp
  have Z0 := hid z0
  clear z0
  go_enter Try.func17, Try.ntmps17
  go_wp2_with fail
  refine (specVmNew_any _).mono ?_
  rintro e w1 ⟨u, v, rfl, p1, t1, ap, b1⟩
  obtain ⟨a1, c1, rfl, _⟩ := ownI_form p1
  obtain ⟨a2, c2, rfl, _⟩ := ownI_form t1
  have VR := hid (VR.out.keep b1)
  have P1 := hid p1
  have T1 := hid t1
  have AP := hid ap
  have B1 := hid (B0.out.trans (b1.mono B0.out.size))
  clear p1 t1 ap b1
  obtain ⟨r0, r1, r2, r3, r4⟩ := vb5 VR.out
  have fr := VR.out.2.1
  have CG := hid (vbchg5 (S := fun j => j = w.heap.size) (w := w1) (b := w.heap.size) (.int .i64 0) (.slice a1 4 c1) (.slice a2 8 c2) (.int .i64 0) (.slice none 0 0) rfl)
  go_wp2_with fail
  obtain ⟨t0, t1, t2, t3, t4⟩ := vb5 (vbset5 (.int .i64 0) (.slice a1 4 c1) (.slice a2 8 c2) (.int .i64 0) (.slice none 0 0) VR.out)
  refine bodyPost_ret (v := .agg #[.int .i64 0, .slice a1 4 c1, .slice a2 8 c2, .int .i64 0, .slice none 0 0]) (res_specCelNew_any _ rfl t0 t1 t2 t3 t4) rfl ?_
  have Q1 := (P1.out.chg CG.out (fun j hj he => by have he : j = w.heap.size := he; have := (P1.out.blk j hj).1; rw [Z0.out] at this; omega)).low (B' := w.heap.size) (by rw [Z0.out]; omega)
  have Q2 := (T1.out.chg CG.out (fun j hj he => by have he : j = w.heap.size := he; have := (T1.out.blk j hj).1; rw [Z0.out] at this; omega)).low (B' := w.heap.size) (by rw [Z0.out]; omega)
  refine ⟨_, _, rfl, ⟨Q1, Q2, own_nilB _ _, AP.out, by simp [Value.ownBlock], fun j hj => ?_⟩, below_chg B1.out CG.out (by have := B1.out.size; omega) (fun j hj => by have hj : j = w.heap.size := hj; omega)⟩
  rcases hj with hj | hj | hj
  · exact Q1.blk j hj
  · exact Q2.blk j hj
  · simp [Value.ownBlock] at hj
end Go.Proofs.Ythhgjnhfidhmpaa
