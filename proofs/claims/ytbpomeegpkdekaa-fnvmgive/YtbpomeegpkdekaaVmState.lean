/- A machine's state laid into new lists: the contract of vmBody's state. No conditions. -/
import Derived.Test.YtbpomeegpkdekaaVmBase
import Derived.Deep.RegionWith
namespace Go.Proofs.Ytbpomeegpkdekaa
open Go.ChangeShapes Go.WideShapes Go.ChangeAt Go.RowKit Go.Joins Go.Deep
set_option linter.unusedVariables false
set_option maxRecDepth 4000

theorem rdI_lit4 {w : World} {b off : Nat} {a0 a1 a2 a3 : Int} (h0 : w.cell? ⟨b, off, none⟩ = some (.int .i64 a0)) (h1 : w.cell? ⟨b, off + 1, none⟩ = some (.int .i64 a1)) (h2 : w.cell? ⟨b, off + 2, none⟩ = some (.int .i64 a2)) (h3 : w.cell? ⟨b, off + 3, none⟩ = some (.int .i64 a3)) :
    RdI 1 w (.slice (some ⟨b, off, none⟩) 4 4) 4 [a0, a1, a2, a3] := by
  refine ⟨rfl, by omega, _, _, rfl, .inr ⟨b, off, rfl, fun i hi => ?_⟩⟩
  simp only [List.length_cons, List.length_nil] at hi
  match i, hi with
  | 0, _ => exact h0
  | 1, _ => exact h1
  | 2, _ => exact h2
  | 3, _ => exact h3
theorem rdI_lit8 {w : World} {b off : Nat} {a0 a1 a2 a3 a4 a5 a6 a7 : Int} (h0 : w.cell? ⟨b, off, none⟩ = some (.int .i64 a0)) (h1 : w.cell? ⟨b, off + 1, none⟩ = some (.int .i64 a1)) (h2 : w.cell? ⟨b, off + 2, none⟩ = some (.int .i64 a2)) (h3 : w.cell? ⟨b, off + 3, none⟩ = some (.int .i64 a3))
    (h4 : w.cell? ⟨b, off + 4, none⟩ = some (.int .i64 a4)) (h5 : w.cell? ⟨b, off + 5, none⟩ = some (.int .i64 a5)) (h6 : w.cell? ⟨b, off + 6, none⟩ = some (.int .i64 a6)) (h7 : w.cell? ⟨b, off + 7, none⟩ = some (.int .i64 a7)) :
    RdI 1 w (.slice (some ⟨b, off, none⟩) 8 8) 8 [a0, a1, a2, a3, a4, a5, a6, a7] := by
  refine ⟨rfl, by omega, _, _, rfl, .inr ⟨b, off, rfl, fun i hi => ?_⟩⟩
  simp only [List.length_cons, List.length_nil] at hi
  match i, hi with
  | 0, _ => exact h0
  | 1, _ => exact h1
  | 2, _ => exact h2
  | 3, _ => exact h3
  | 4, _ => exact h4
  | 5, _ => exact h5
  | 6, _ => exact h6
  | 7, _ => exact h7
theorem own_apart {e : TypeId} {k n k' n' B C : Nat} {w w' : World} {u v : Value} {xs ys : List Int} (h : OwnI e k w B u n xs) (h' : OwnI e k' w' C v n' ys) (hc : w.heap.size ≤ C) : ∀ j, u.ownBlock = some j → v.ownBlock ≠ some j := by
  intro j hj hj'
  have := (h.blk j hj).2
  have := (h'.blk j hj').1
  omega

/-- what is read of a result's cell, a machine's state -/
theorem results_cell4 {W : World} {b : Nat} {x0 x1 x2 x3 : Value} (tmps : Array Value) (ht : tmps[2]?.getD undef = .pointer (some ⟨b, 0, none⟩)) (h0 : W.cell? ⟨b, 0, none⟩ = some x0) (h1 : W.cell? ⟨b, 1, none⟩ = some x1) (h2 : W.cell? ⟨b, 2, none⟩ = some x2) (h3 : W.cell? ⟨b, 3, none⟩ = some x3) :
    (results Try.f53 tmps).run Try.prog W = .ok (.agg #[x0, x1, x2, x3]) W := by
  simp [results, Try.results53, go_sem, ht, h0, h1, h2, h3]
set_option maxHeartbeats 4000000 in
theorem state_any (pc r0 r1 r2 r3 m0 m1 m2 m3 m4 m5 m6 m7 ht k y t g f : Int) (ba : Option Addr) (bl bc : Nat) (w : World) :
    Calls Try.prog 53 #[.agg #[.int .i64 pc, .int .i64 r0, .int .i64 r1, .int .i64 r2, .int .i64 r3, .int .i64 m0, .int .i64 m1, .int .i64 m2, .int .i64 m3, .int .i64 m4, .int .i64 m5, .int .i64 m6, .int .i64 m7, .int .i64 ht, .int .i64 k, .int .i64 y, .slice ba bl bc, .int .i64 t, .int .i64 g, .int .i64 f]] w fun e w' => ∃ u v, e = .returned (.agg #[.int .i64 pc, u, v, .int .i64 ht]) ∧ OwnI 3 1 w' w.heap.size u 4 [r0, r1, r2, r3] ∧ OwnI 3 1 w' w.heap.size v 8 [m0, m1, m2, m3, m4, m5, m6, m7] ∧ (∀ j, u.ownBlock = some j → v.ownBlock ≠ some j) ∧ Below w.heap.size w w' := by
  have RR := hid (show RdI 1 ((w.alloc (.cells #[.int .i64 pc, .int .i64 r0, .int .i64 r1, .int .i64 r2, .int .i64 r3, .int .i64 m0, .int .i64 m1, .int .i64 m2, .int .i64 m3, .int .i64 m4, .int .i64 m5, .int .i64 m6, .int .i64 m7, .int .i64 ht, .int .i64 k, .int .i64 y, .slice ba bl bc, .int .i64 t, .int .i64 g, .int .i64 f] 75)).alloc (.cells #[.int .i64 0, .slice none 0 0, .slice none 0 0, .int .i64 0] 25)).drew (.slice (some ⟨w.heap.size, 1, none⟩) 4 4) 4 [r0, r1, r2, r3] from rdI_lit4 (by go_simp) (by go_simp) (by go_simp) (by go_simp))
  have RM := hid (show RdI 1 ((w.alloc (.cells #[.int .i64 pc, .int .i64 r0, .int .i64 r1, .int .i64 r2, .int .i64 r3, .int .i64 m0, .int .i64 m1, .int .i64 m2, .int .i64 m3, .int .i64 m4, .int .i64 m5, .int .i64 m6, .int .i64 m7, .int .i64 ht, .int .i64 k, .int .i64 y, .slice ba bl bc, .int .i64 t, .int .i64 g, .int .i64 f] 75)).alloc (.cells #[.int .i64 0, .slice none 0 0, .slice none 0 0, .int .i64 0] 25)).drew (.slice (some ⟨w.heap.size, 5, none⟩) 8 8) 8 [m0, m1, m2, m3, m4, m5, m6, m7] from rdI_lit8 (by go_simp) (by go_simp) (by go_simp) (by go_simp) (by go_simp) (by go_simp) (by go_simp) (by go_simp))
  have BB := hid ((((Below.refl w.heap.size w).alloc (Nat.le_refl _) (.cells #[.int .i64 pc, .int .i64 r0, .int .i64 r1, .int .i64 r2, .int .i64 r3, .int .i64 m0, .int .i64 m1, .int .i64 m2, .int .i64 m3, .int .i64 m4, .int .i64 m5, .int .i64 m6, .int .i64 m7, .int .i64 ht, .int .i64 k, .int .i64 y, .slice ba bl bc, .int .i64 t, .int .i64 g, .int .i64 f] 75)).alloc (by simp) (.cells #[.int .i64 0, .slice none 0 0, .slice none 0 0, .int .i64 0] 25)).drew)
  have KQ := hid (show ((w.alloc (.cells #[.int .i64 pc, .int .i64 r0, .int .i64 r1, .int .i64 r2, .int .i64 r3, .int .i64 m0, .int .i64 m1, .int .i64 m2, .int .i64 m3, .int .i64 m4, .int .i64 m5, .int .i64 m6, .int .i64 m7, .int .i64 ht, .int .i64 k, .int .i64 y, .slice ba bl bc, .int .i64 t, .int .i64 g, .int .i64 f] 75)).alloc (.cells #[.int .i64 0, .slice none 0 0, .slice none 0 0, .int .i64 0] 25)).drew.cell? ⟨w.heap.size, 0, none⟩ = some (.int .i64 pc) ∧ ((w.alloc (.cells #[.int .i64 pc, .int .i64 r0, .int .i64 r1, .int .i64 r2, .int .i64 r3, .int .i64 m0, .int .i64 m1, .int .i64 m2, .int .i64 m3, .int .i64 m4, .int .i64 m5, .int .i64 m6, .int .i64 m7, .int .i64 ht, .int .i64 k, .int .i64 y, .slice ba bl bc, .int .i64 t, .int .i64 g, .int .i64 f] 75)).alloc (.cells #[.int .i64 0, .slice none 0 0, .slice none 0 0, .int .i64 0] 25)).drew.cell? ⟨w.heap.size, 13, none⟩ = some (.int .i64 ht) from ⟨by go_simp, by go_simp⟩)
  have KS := hid (show ((w.alloc (.cells #[.int .i64 pc, .int .i64 r0, .int .i64 r1, .int .i64 r2, .int .i64 r3, .int .i64 m0, .int .i64 m1, .int .i64 m2, .int .i64 m3, .int .i64 m4, .int .i64 m5, .int .i64 m6, .int .i64 m7, .int .i64 ht, .int .i64 k, .int .i64 y, .slice ba bl bc, .int .i64 t, .int .i64 g, .int .i64 f] 75)).alloc (.cells #[.int .i64 0, .slice none 0 0, .slice none 0 0, .int .i64 0] 25)).drew.cell? ⟨w.heap.size + 1, 0, none⟩ = some (.int .i64 0) ∧ ((w.alloc (.cells #[.int .i64 pc, .int .i64 r0, .int .i64 r1, .int .i64 r2, .int .i64 r3, .int .i64 m0, .int .i64 m1, .int .i64 m2, .int .i64 m3, .int .i64 m4, .int .i64 m5, .int .i64 m6, .int .i64 m7, .int .i64 ht, .int .i64 k, .int .i64 y, .slice ba bl bc, .int .i64 t, .int .i64 g, .int .i64 f] 75)).alloc (.cells #[.int .i64 0, .slice none 0 0, .slice none 0 0, .int .i64 0] 25)).drew.cell? ⟨w.heap.size + 1, 1, none⟩ = some (.slice none 0 0) ∧ ((w.alloc (.cells #[.int .i64 pc, .int .i64 r0, .int .i64 r1, .int .i64 r2, .int .i64 r3, .int .i64 m0, .int .i64 m1, .int .i64 m2, .int .i64 m3, .int .i64 m4, .int .i64 m5, .int .i64 m6, .int .i64 m7, .int .i64 ht, .int .i64 k, .int .i64 y, .slice ba bl bc, .int .i64 t, .int .i64 g, .int .i64 f] 75)).alloc (.cells #[.int .i64 0, .slice none 0 0, .slice none 0 0, .int .i64 0] 25)).drew.cell? ⟨w.heap.size + 1, 2, none⟩ = some (.slice none 0 0) ∧ ((w.alloc (.cells #[.int .i64 pc, .int .i64 r0, .int .i64 r1, .int .i64 r2, .int .i64 r3, .int .i64 m0, .int .i64 m1, .int .i64 m2, .int .i64 m3, .int .i64 m4, .int .i64 m5, .int .i64 m6, .int .i64 m7, .int .i64 ht, .int .i64 k, .int .i64 y, .slice ba bl bc, .int .i64 t, .int .i64 g, .int .i64 f] 75)).alloc (.cells #[.int .i64 0, .slice none 0 0, .slice none 0 0, .int .i64 0] 25)).drew.cell? ⟨w.heap.size + 1, 3, none⟩ = some (.int .i64 0) from ⟨by go_simp, by go_simp, by go_simp, by go_simp⟩)
  have KF := hid (show ∀ i, ((w.alloc (.cells #[.int .i64 pc, .int .i64 r0, .int .i64 r1, .int .i64 r2, .int .i64 r3, .int .i64 m0, .int .i64 m1, .int .i64 m2, .int .i64 m3, .int .i64 m4, .int .i64 m5, .int .i64 m6, .int .i64 m7, .int .i64 ht, .int .i64 k, .int .i64 y, .slice ba bl bc, .int .i64 t, .int .i64 g, .int .i64 f] 75)).alloc (.cells #[.int .i64 0, .slice none 0 0, .slice none 0 0, .int .i64 0] 25)).drew.frozen? ⟨w.heap.size + 1, i, none⟩ = false from fun i => by go_simp)
  have z0 : ((w.alloc (.cells #[.int .i64 pc, .int .i64 r0, .int .i64 r1, .int .i64 r2, .int .i64 r3, .int .i64 m0, .int .i64 m1, .int .i64 m2, .int .i64 m3, .int .i64 m4, .int .i64 m5, .int .i64 m6, .int .i64 m7, .int .i64 ht, .int .i64 k, .int .i64 y, .slice ba bl bc, .int .i64 t, .int .i64 g, .int .i64 f] 75)).alloc (.cells #[.int .i64 0, .slice none 0 0, .slice none 0 0, .int .i64 0] 25)).drew.heap.size = w.heap.size + 2 := by simp
  go_enter Try.func53, Try.ntmps53
  go_wp2_with fail
  go_region_with ((first
    | (go_at_call 104; refine (cloneI_any 4 w.heap.size 1 4 [r0, r1, r2, r3] _ (by omega) RR.out).mono ?_; rintro e w1 ⟨u, rfl, o1, b1⟩; obtain ⟨ua, uc, rfl, _⟩ := ownI_form o1; obtain ⟨q0, q13⟩ := KQ.out; obtain ⟨s0, s1, s2, s3⟩ := KS.out; have q0 := cell_keep b1 q0; have q13 := cell_keep b1 q13; have s0 := cell_keep b1 s0; have s1 := cell_keep b1 s1; have s2 := cell_keep b1 s2; have s3 := cell_keep b1 s3; have y1 : w.heap.size + 1 < w1.heap.size := Nat.lt_of_lt_of_le (by rw [z0]; omega) b1.size; have f0 := (b1.frozen (p := ⟨w.heap.size + 1, 0, none⟩) (by rw [z0]; dsimp only; omega)).trans (KF.out 0); have f1 := (b1.frozen (p := ⟨w.heap.size + 1, 1, none⟩) (by rw [z0]; dsimp only; omega)).trans (KF.out 1); have f2 := (b1.frozen (p := ⟨w.heap.size + 1, 2, none⟩) (by rw [z0]; dsimp only; omega)).trans (KF.out 2); have f3 := (b1.frozen (p := ⟨w.heap.size + 1, 3, none⟩) (by rw [z0]; dsimp only; omega)).trans (KF.out 3); have RM1 := hid (RM.out.keep b1); have O1 := hid o1; have B1 := hid (BB.out.trans (b1.mono BB.out.size)))
    | (go_at_call 104; refine (cloneI_any 8 w.heap.size 5 8 [m0, m1, m2, m3, m4, m5, m6, m7] _ (by omega) RM1.out).mono ?_; rintro e w2 ⟨v, rfl, o2, b2⟩; obtain ⟨va, vc, rfl, _⟩ := ownI_form o2; have q0 := cell_keep b2 q0; have q13 := cell_keep b2 q13; have s0 := cell_keep b2 s0; have s1 := cell_keep b2 s1; have s2 := cell_keep b2 s2; have s3 := cell_keep b2 s3; have f0 := (b2.frozen (p := ⟨w.heap.size + 1, 0, none⟩) y1).trans f0; have f1 := (b2.frozen (p := ⟨w.heap.size + 1, 1, none⟩) y1).trans f1; have f2 := (b2.frozen (p := ⟨w.heap.size + 1, 2, none⟩) y1).trans f2; have f3 := (b2.frozen (p := ⟨w.heap.size + 1, 3, none⟩) y1).trans f3; have O2 := hid o2; have O1' := hid (O1.out.keep b2); have B2 := hid (B1.out.trans (b2.mono B1.out.size)); have AP := hid (own_apart O1.out o2 (Nat.le_refl _)))))
  all_goals
    obtain ⟨t0, t1, t2, t3⟩ := four_set (.int .i64 pc) (.slice ua 4 uc) (.slice va 8 vc) (.int .i64 ht) s0 s1 s2 s3
    have CG := hid ((((((Chg.refl (fun j => j = w.heap.size + 1) w2).set (p := ⟨w.heap.size + 1, 0, none⟩) rfl (.int .i64 pc)).set (p := ⟨w.heap.size + 1, 1, none⟩) rfl (.slice ua 4 uc)).set (p := ⟨w.heap.size + 1, 2, none⟩) rfl (.slice va 8 vc)).set (p := ⟨w.heap.size + 1, 3, none⟩) rfl (.int .i64 ht)))
    go_wp2_with fail
    refine bodyPost_ret (v := .agg #[.int .i64 pc, .slice ua 4 uc, .slice va 8 vc, .int .i64 ht]) (results_cell4 _ rfl t0 t1 t2 t3) rfl ?_
    refine ⟨_, _, rfl, (O1'.out.chg CG.out ?_).low (by rw [z0]; omega), (O2.out.chg CG.out ?_).low (by omega), AP.out, below_chg B2.out CG.out (by have := B2.out.size; omega) (fun j hj => by have hj : j = w.heap.size + 1 := hj; omega)⟩
    · intro j hj he
      have he : j = w.heap.size + 1 := he
      have := (O1'.out.blk j hj).1
      rw [z0] at this
      omega
    · intro j hj he
      have he : j = w.heap.size + 1 := he
      have := (O2.out.blk j hj).1
      omega
end Go.Proofs.Ytbpomeegpkdekaa
