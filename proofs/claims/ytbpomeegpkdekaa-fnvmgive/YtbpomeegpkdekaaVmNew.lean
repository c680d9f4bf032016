/- A machine at its beginning: the contracts of the program and of the specification. No conditions. -/
import Derived.Test.YtbpomeegpkdekaaVmState
namespace Go.Proofs.Ytbpomeegpkdekaa
open Go.ChangeShapes Go.WideShapes Go.ChangeAt Go.RowKit Go.Joins Go.Deep
set_option linter.unusedVariables false
set_option maxRecDepth 4000

theorem resVmNew {W : World} {b : Nat} {x0 x1 x2 x3 : Value} (tmps : Array Value) (ht : tmps[0]?.getD undef = .pointer (some ⟨b, 0, none⟩)) (h0 : W.cell? ⟨b, 0, none⟩ = some x0) (h1 : W.cell? ⟨b, 1, none⟩ = some x1) (h2 : W.cell? ⟨b, 2, none⟩ = some x2) (h3 : W.cell? ⟨b, 3, none⟩ = some x3) :
    (results Try.f20 tmps).run Try.prog W = .ok (.agg #[x0, x1, x2, x3]) W := by
  simp [results, Try.results20, go_sem, ht, h0, h1, h2, h3]

theorem resSpecVmNew {W : World} {b : Nat} {x0 x1 x2 x3 : Value} (tmps : Array Value) (ht : tmps[0]?.getD undef = .pointer (some ⟨b, 0, none⟩)) (h0 : W.cell? ⟨b, 0, none⟩ = some x0) (h1 : W.cell? ⟨b, 1, none⟩ = some x1) (h2 : W.cell? ⟨b, 2, none⟩ = some x2) (h3 : W.cell? ⟨b, 3, none⟩ = some x3) :
    (results Try.f25 tmps).run Try.prog W = .ok (.agg #[x0, x1, x2, x3]) W := by
  simp [results, Try.results25, go_sem, ht, h0, h1, h2, h3]

set_option maxHeartbeats 2000000 in
theorem vmNew_any (w : World) :
    Calls Try.prog 20 #[] w fun e w' => ∃ u v, e = .returned (.agg #[.int .i64 0, u, v, .int .i64 0]) ∧ OwnI 3 1 w' w.heap.size u 4 [0, 0, 0, 0] ∧ OwnI 3 1 w' w.heap.size v 8 [0, 0, 0, 0, 0, 0, 0, 0] ∧ (∀ j, u.ownBlock = some j → v.ownBlock ≠ some j) ∧ Below w.heap.size w w' := by
  have KS := hid (show (w.alloc (.cells #[.int .i64 0, .slice none 0 0, .slice none 0 0, .int .i64 0] 25)).cell? ⟨w.heap.size, 0, none⟩ = some (.int .i64 0) ∧ (w.alloc (.cells #[.int .i64 0, .slice none 0 0, .slice none 0 0, .int .i64 0] 25)).cell? ⟨w.heap.size, 1, none⟩ = some (.slice none 0 0) ∧ (w.alloc (.cells #[.int .i64 0, .slice none 0 0, .slice none 0 0, .int .i64 0] 25)).cell? ⟨w.heap.size, 2, none⟩ = some (.slice none 0 0) ∧ (w.alloc (.cells #[.int .i64 0, .slice none 0 0, .slice none 0 0, .int .i64 0] 25)).cell? ⟨w.heap.size, 3, none⟩ = some (.int .i64 0) from ⟨by go_simp, by go_simp, by go_simp, by go_simp⟩)
  have KF := hid (show ∀ i, (w.alloc (.cells #[.int .i64 0, .slice none 0 0, .slice none 0 0, .int .i64 0] 25)).frozen? ⟨w.heap.size, i, none⟩ = false from fun i => by go_simp)
  have z0 : (w.alloc (.cells #[.int .i64 0, .slice none 0 0, .slice none 0 0, .int .i64 0] 25)).heap.size = w.heap.size + 1 := by simp
  have BB := hid (below_alloc1 w (.cells #[.int .i64 0, .slice none 0 0, .slice none 0 0, .int .i64 0] 25))
  go_enter Try.func20, Try.ntmps20
  go_wp2_with fail
  refine (state_any 0 0 0 0 0 0 0 0 0 0 0 0 0 0 0 0 0 0 0 none 0 0 _).mono ?_
  rintro e w1 ⟨u, v, rfl, o1, o2, ap, b1⟩
  obtain ⟨ua, uc, rfl, _⟩ := ownI_form o1
  obtain ⟨va, vc, rfl, _⟩ := ownI_form o2
  have z1 := b1.size
  rw [z0] at z1
  obtain ⟨s0, s1, s2, s3⟩ := KS.out
  have s0 := cell_keep b1 s0
  have s1 := cell_keep b1 s1
  have s2 := cell_keep b1 s2
  have s3 := cell_keep b1 s3
  have f0 := (b1.frozen (p := ⟨w.heap.size, 0, none⟩) (by first | (rw [z0]; dsimp only; omega) | exact y1)).trans (KF.out 0)
  have f1 := (b1.frozen (p := ⟨w.heap.size, 1, none⟩) (by first | (rw [z0]; dsimp only; omega) | exact y1)).trans (KF.out 1)
  have f2 := (b1.frozen (p := ⟨w.heap.size, 2, none⟩) (by first | (rw [z0]; dsimp only; omega) | exact y1)).trans (KF.out 2)
  have f3 := (b1.frozen (p := ⟨w.heap.size, 3, none⟩) (by first | (rw [z0]; dsimp only; omega) | exact y1)).trans (KF.out 3)
  have O1 := hid o1
  have O2 := hid o2
  have AP := hid ap
  have BL := hid (BB.out.trans (b1.mono BB.out.size))
  clear o1 o2 ap b1
  obtain ⟨t0, t1, t2, t3⟩ := four_set (.int .i64 0) (.slice ua 4 uc) (.slice va 8 vc) (.int .i64 0) s0 s1 s2 s3
  have CG := hid ((((((Chg.refl (fun j => j = w.heap.size) w1).set (p := ⟨w.heap.size, 0, none⟩) rfl (.int .i64 0)).set (p := ⟨w.heap.size, 1, none⟩) rfl (.slice ua 4 uc)).set (p := ⟨w.heap.size, 2, none⟩) rfl (.slice va 8 vc)).set (p := ⟨w.heap.size, 3, none⟩) rfl (.int .i64 0)))
  go_wp2_with fail
  refine bodyPost_ret (v := .agg #[.int .i64 0, .slice ua 4 uc, .slice va 8 vc, .int .i64 0]) (resVmNew _ rfl t0 t1 t2 t3) rfl ?_
  refine ⟨_, _, rfl, (O1.out.chg CG.out ?_).low (by omega), (O2.out.chg CG.out ?_).low (by omega), AP.out, below_chg BL.out CG.out (by have := BL.out.size; omega) (fun j hj => by have hj : j = w.heap.size := hj; omega)⟩
  · intro j hj he
    have he : j = w.heap.size := he
    have := (O1.out.blk j hj).1
    rw [z0] at this
    omega
  · intro j hj he
    have he : j = w.heap.size := he
    have := (O2.out.blk j hj).1
    rw [z0] at this
    omega

set_option maxHeartbeats 2000000 in
theorem specVmNew_any (w : World) :
    Calls Try.prog 25 #[] w fun e w' => ∃ u v, e = .returned (.agg #[.int .i64 0, u, v, .int .i64 0]) ∧ OwnI 3 1 w' w.heap.size u 4 [0, 0, 0, 0] ∧ OwnI 3 1 w' w.heap.size v 8 [0, 0, 0, 0, 0, 0, 0, 0] ∧ (∀ j, u.ownBlock = some j → v.ownBlock ≠ some j) ∧ Below w.heap.size w w' := by
  have KS := hid (show (w.alloc (.cells #[.int .i64 0, .slice none 0 0, .slice none 0 0, .int .i64 0] 25)).cell? ⟨w.heap.size, 0, none⟩ = some (.int .i64 0) ∧ (w.alloc (.cells #[.int .i64 0, .slice none 0 0, .slice none 0 0, .int .i64 0] 25)).cell? ⟨w.heap.size, 1, none⟩ = some (.slice none 0 0) ∧ (w.alloc (.cells #[.int .i64 0, .slice none 0 0, .slice none 0 0, .int .i64 0] 25)).cell? ⟨w.heap.size, 2, none⟩ = some (.slice none 0 0) ∧ (w.alloc (.cells #[.int .i64 0, .slice none 0 0, .slice none 0 0, .int .i64 0] 25)).cell? ⟨w.heap.size, 3, none⟩ = some (.int .i64 0) from ⟨by go_simp, by go_simp, by go_simp, by go_simp⟩)
  have KF := hid (show ∀ i, (w.alloc (.cells #[.int .i64 0, .slice none 0 0, .slice none 0 0, .int .i64 0] 25)).frozen? ⟨w.heap.size, i, none⟩ = false from fun i => by go_simp)
  have z0 : (w.alloc (.cells #[.int .i64 0, .slice none 0 0, .slice none 0 0, .int .i64 0] 25)).heap.size = w.heap.size + 1 := by simp
  have BB := hid (below_alloc1 w (.cells #[.int .i64 0, .slice none 0 0, .slice none 0 0, .int .i64 0] 25))
  go_enter Try.func25, Try.ntmps25
  go_wp2_with fail
  refine (noughts_any 4 _ (by omega)).mono ?_
  rintro e w1 ⟨u, rfl, o1, b1⟩
  obtain ⟨ua, uc, rfl, _⟩ := ownI_form o1
  have z1 := b1.size
  rw [z0] at z1
  have y1 : w.heap.size < w1.heap.size := by omega
  obtain ⟨s0, s1, s2, s3⟩ := KS.out
  have s0 := cell_keep b1 s0
  have s1 := cell_keep b1 s1
  have s2 := cell_keep b1 s2
  have s3 := cell_keep b1 s3
  have f0 := (b1.frozen (p := ⟨w.heap.size, 0, none⟩) (by first | (rw [z0]; dsimp only; omega) | exact y1)).trans (KF.out 0)
  have f1 := (b1.frozen (p := ⟨w.heap.size, 1, none⟩) (by first | (rw [z0]; dsimp only; omega) | exact y1)).trans (KF.out 1)
  have f2 := (b1.frozen (p := ⟨w.heap.size, 2, none⟩) (by first | (rw [z0]; dsimp only; omega) | exact y1)).trans (KF.out 2)
  have f3 := (b1.frozen (p := ⟨w.heap.size, 3, none⟩) (by first | (rw [z0]; dsimp only; omega) | exact y1)).trans (KF.out 3)
  have O1 := hid o1
  have BL := hid (BB.out.trans (b1.mono BB.out.size))
  clear o1 b1
  go_wp2_with fail
  refine (noughts_any 8 _ (by omega)).mono ?_
  rintro e w2 ⟨v, rfl, o2, b2⟩
  obtain ⟨va, vc, rfl, _⟩ := ownI_form o2
  have z2 := b2.size
  have s0 := cell_keep b2 s0
  have s1 := cell_keep b2 s1
  have s2 := cell_keep b2 s2
  have s3 := cell_keep b2 s3
  have f0 := (b2.frozen (p := ⟨w.heap.size, 0, none⟩) (by first | (rw [z0]; dsimp only; omega) | exact y1)).trans f0
  have f1 := (b2.frozen (p := ⟨w.heap.size, 1, none⟩) (by first | (rw [z0]; dsimp only; omega) | exact y1)).trans f1
  have f2 := (b2.frozen (p := ⟨w.heap.size, 2, none⟩) (by first | (rw [z0]; dsimp only; omega) | exact y1)).trans f2
  have f3 := (b2.frozen (p := ⟨w.heap.size, 3, none⟩) (by first | (rw [z0]; dsimp only; omega) | exact y1)).trans f3
  have AP := hid (own_apart O1.out o2 (Nat.le_refl _))
  have O1 := hid (O1.out.keep b2)
  have O2 := hid o2
  have BL := hid (BL.out.trans (b2.mono BL.out.size))
  clear o2 b2
  obtain ⟨t0, t1, t2, t3⟩ := four_set (.int .i64 0) (.slice ua 4 uc) (.slice va 8 vc) (.int .i64 0) s0 s1 s2 s3
  have CG := hid ((((((Chg.refl (fun j => j = w.heap.size) w2).set (p := ⟨w.heap.size, 0, none⟩) rfl (.int .i64 0)).set (p := ⟨w.heap.size, 1, none⟩) rfl (.slice ua 4 uc)).set (p := ⟨w.heap.size, 2, none⟩) rfl (.slice va 8 vc)).set (p := ⟨w.heap.size, 3, none⟩) rfl (.int .i64 0)))
  go_wp2_with fail
  refine bodyPost_ret (v := .agg #[.int .i64 0, .slice ua 4 uc, .slice va 8 vc, .int .i64 0]) (resSpecVmNew _ rfl t0 t1 t2 t3) rfl ?_
  refine ⟨_, _, rfl, (O1.out.chg CG.out ?_).low (by omega), (O2.out.chg CG.out ?_).low (by omega), AP.out, below_chg BL.out CG.out (by have := BL.out.size; omega) (fun j hj => by have hj : j = w.heap.size := hj; omega)⟩
  · intro j hj he
    have he : j = w.heap.size := he
    have := (O1.out.blk j hj).1
    rw [z0] at this
    omega
  · intro j hj he
    have he : j = w.heap.size := he
    have := (O2.out.blk j hj).1
    omega
end Go.Proofs.Ytbpomeegpkdekaa
