/- The laws' toVmState (the same machine in lists of its own) and szVmState. Conditions: the lists read as ints. -/
import Derived.Test.YtbpomeegpkdekaaSzI
import Derived.Test.YtbpomeegpkdekaaVmBase
namespace Go.Proofs.Ytbpomeegpkdekaa
open Go.ChangeShapes Go.WideShapes Go.ChangeAt Go.RowKit Go.Joins Go.Deep
set_option linter.unusedVariables false
set_option maxRecDepth 4000
theorem own_apart' {e : TypeId} {k n k' n' B C : Nat} {w w' : World} {u v : Value} {xs ys : List Int} (h : OwnI e k w B u n xs) (h' : OwnI e k' w' C v n' ys) (hc : w.heap.size ≤ C) : ∀ j, u.ownBlock = some j → v.ownBlock ≠ some j := by
  intro j hj hj'
  have := (h.blk j hj).2
  have := (h'.blk j hj').1
  omega
theorem resToVm {W : World} {b : Nat} {x0 x1 x2 x3 : Value} (tmps : Array Value) (ht : tmps[2]?.getD undef = .pointer (some ⟨b, 0, none⟩)) (h0 : W.cell? ⟨b, 0, none⟩ = some x0) (h1 : W.cell? ⟨b, 1, none⟩ = some x1) (h2 : W.cell? ⟨b, 2, none⟩ = some x2) (h3 : W.cell? ⟨b, 3, none⟩ = some x3) :
    (results Try.f35 tmps).run Try.prog W = .ok (.agg #[x0, x1, x2, x3]) W := by
  simp [results, Try.results35, go_sem, ht, h0, h1, h2, h3]

set_option maxHeartbeats 4000000 in
theorem toVm_any (pc ht : Int) (r m : Value) (nr nm : Nat) (xs ys : List Int) (w : World) (hr : RdI 1 w r nr xs) (hm : RdI 1 w m nm ys) :
    Calls Try.prog 35 #[.agg #[.int .i64 pc, r, m, .int .i64 ht]] w fun e w' => ∃ u v, e = .returned (.agg #[.int .i64 pc, u, v, .int .i64 ht]) ∧ OwnI 3 1 w' w.heap.size u nr xs ∧ OwnI 3 1 w' w.heap.size v nm ys ∧ (∀ j, u.ownBlock = some j → v.ownBlock ≠ some j) ∧ Below w.heap.size w w' := by
  have RR0 := hid hr
  have RM0 := hid hm
  obtain ⟨_, _, a1, c1, rfl, _⟩ := hr
  obtain ⟨_, _, a2, c2, rfl, _⟩ := hm
  have BB := hid ((((Below.refl w.heap.size w).alloc (Nat.le_refl _) (.cells #[.int .i64 pc, .slice a1 nr c1, .slice a2 nm c2, .int .i64 ht] 53)).alloc (by simp) (.cells #[.int .i64 0, .slice none 0 0, .slice none 0 0, .int .i64 0] 25)).alloc (by simp; omega) (.cells #[.int .i64 pc, .slice none 0 0, .slice none 0 0, .int .i64 0] 25))
  have z0 : (((w.alloc (.cells #[.int .i64 pc, .slice a1 nr c1, .slice a2 nm c2, .int .i64 ht] 53)).alloc (.cells #[.int .i64 0, .slice none 0 0, .slice none 0 0, .int .i64 0] 25)).alloc (.cells #[.int .i64 pc, .slice none 0 0, .slice none 0 0, .int .i64 0] 25)).heap.size = w.heap.size + 3 := by simp
  have q2 : (((w.alloc (.cells #[.int .i64 pc, .slice a1 nr c1, .slice a2 nm c2, .int .i64 ht] 53)).alloc (.cells #[.int .i64 0, .slice none 0 0, .slice none 0 0, .int .i64 0] 25)).alloc (.cells #[.int .i64 pc, .slice none 0 0, .slice none 0 0, .int .i64 0] 25)).cell? ⟨w.heap.size, 2, none⟩ = some (.slice a2 nm c2) := by go_simp
  have q3 : (((w.alloc (.cells #[.int .i64 pc, .slice a1 nr c1, .slice a2 nm c2, .int .i64 ht] 53)).alloc (.cells #[.int .i64 0, .slice none 0 0, .slice none 0 0, .int .i64 0] 25)).alloc (.cells #[.int .i64 pc, .slice none 0 0, .slice none 0 0, .int .i64 0] 25)).cell? ⟨w.heap.size, 3, none⟩ = some (.int .i64 ht) := by go_simp
  have s0 : (((w.alloc (.cells #[.int .i64 pc, .slice a1 nr c1, .slice a2 nm c2, .int .i64 ht] 53)).alloc (.cells #[.int .i64 0, .slice none 0 0, .slice none 0 0, .int .i64 0] 25)).alloc (.cells #[.int .i64 pc, .slice none 0 0, .slice none 0 0, .int .i64 0] 25)).cell? ⟨w.heap.size + 1, 0, none⟩ = some (.int .i64 0) := by go_simp
  have s1 : (((w.alloc (.cells #[.int .i64 pc, .slice a1 nr c1, .slice a2 nm c2, .int .i64 ht] 53)).alloc (.cells #[.int .i64 0, .slice none 0 0, .slice none 0 0, .int .i64 0] 25)).alloc (.cells #[.int .i64 pc, .slice none 0 0, .slice none 0 0, .int .i64 0] 25)).cell? ⟨w.heap.size + 1, 1, none⟩ = some (.slice none 0 0) := by go_simp
  have s2 : (((w.alloc (.cells #[.int .i64 pc, .slice a1 nr c1, .slice a2 nm c2, .int .i64 ht] 53)).alloc (.cells #[.int .i64 0, .slice none 0 0, .slice none 0 0, .int .i64 0] 25)).alloc (.cells #[.int .i64 pc, .slice none 0 0, .slice none 0 0, .int .i64 0] 25)).cell? ⟨w.heap.size + 1, 2, none⟩ = some (.slice none 0 0) := by go_simp
  have s3 : (((w.alloc (.cells #[.int .i64 pc, .slice a1 nr c1, .slice a2 nm c2, .int .i64 ht] 53)).alloc (.cells #[.int .i64 0, .slice none 0 0, .slice none 0 0, .int .i64 0] 25)).alloc (.cells #[.int .i64 pc, .slice none 0 0, .slice none 0 0, .int .i64 0] 25)).cell? ⟨w.heap.size + 1, 3, none⟩ = some (.int .i64 0) := by go_simp
  have o0 : (((w.alloc (.cells #[.int .i64 pc, .slice a1 nr c1, .slice a2 nm c2, .int .i64 ht] 53)).alloc (.cells #[.int .i64 0, .slice none 0 0, .slice none 0 0, .int .i64 0] 25)).alloc (.cells #[.int .i64 pc, .slice none 0 0, .slice none 0 0, .int .i64 0] 25)).cell? ⟨w.heap.size + 1 + 1, 0, none⟩ = some (.int .i64 pc) := by go_simp
  have o1 : (((w.alloc (.cells #[.int .i64 pc, .slice a1 nr c1, .slice a2 nm c2, .int .i64 ht] 53)).alloc (.cells #[.int .i64 0, .slice none 0 0, .slice none 0 0, .int .i64 0] 25)).alloc (.cells #[.int .i64 pc, .slice none 0 0, .slice none 0 0, .int .i64 0] 25)).cell? ⟨w.heap.size + 1 + 1, 1, none⟩ = some (.slice none 0 0) := by go_simp
  have o2 : (((w.alloc (.cells #[.int .i64 pc, .slice a1 nr c1, .slice a2 nm c2, .int .i64 ht] 53)).alloc (.cells #[.int .i64 0, .slice none 0 0, .slice none 0 0, .int .i64 0] 25)).alloc (.cells #[.int .i64 pc, .slice none 0 0, .slice none 0 0, .int .i64 0] 25)).cell? ⟨w.heap.size + 1 + 1, 2, none⟩ = some (.slice none 0 0) := by go_simp
  have o3 : (((w.alloc (.cells #[.int .i64 pc, .slice a1 nr c1, .slice a2 nm c2, .int .i64 ht] 53)).alloc (.cells #[.int .i64 0, .slice none 0 0, .slice none 0 0, .int .i64 0] 25)).alloc (.cells #[.int .i64 pc, .slice none 0 0, .slice none 0 0, .int .i64 0] 25)).cell? ⟨w.heap.size + 1 + 1, 3, none⟩ = some (.int .i64 0) := by go_simp
  have f0 : (((w.alloc (.cells #[.int .i64 pc, .slice a1 nr c1, .slice a2 nm c2, .int .i64 ht] 53)).alloc (.cells #[.int .i64 0, .slice none 0 0, .slice none 0 0, .int .i64 0] 25)).alloc (.cells #[.int .i64 pc, .slice none 0 0, .slice none 0 0, .int .i64 0] 25)).frozen? ⟨w.heap.size + 1, 0, none⟩ = false := by go_simp
  have f1 : (((w.alloc (.cells #[.int .i64 pc, .slice a1 nr c1, .slice a2 nm c2, .int .i64 ht] 53)).alloc (.cells #[.int .i64 0, .slice none 0 0, .slice none 0 0, .int .i64 0] 25)).alloc (.cells #[.int .i64 pc, .slice none 0 0, .slice none 0 0, .int .i64 0] 25)).frozen? ⟨w.heap.size + 1, 1, none⟩ = false := by go_simp
  have f2 : (((w.alloc (.cells #[.int .i64 pc, .slice a1 nr c1, .slice a2 nm c2, .int .i64 ht] 53)).alloc (.cells #[.int .i64 0, .slice none 0 0, .slice none 0 0, .int .i64 0] 25)).alloc (.cells #[.int .i64 pc, .slice none 0 0, .slice none 0 0, .int .i64 0] 25)).frozen? ⟨w.heap.size + 1, 2, none⟩ = false := by go_simp
  have f3 : (((w.alloc (.cells #[.int .i64 pc, .slice a1 nr c1, .slice a2 nm c2, .int .i64 ht] 53)).alloc (.cells #[.int .i64 0, .slice none 0 0, .slice none 0 0, .int .i64 0] 25)).alloc (.cells #[.int .i64 pc, .slice none 0 0, .slice none 0 0, .int .i64 0] 25)).frozen? ⟨w.heap.size + 1, 3, none⟩ = false := by go_simp
  have g1 : (((w.alloc (.cells #[.int .i64 pc, .slice a1 nr c1, .slice a2 nm c2, .int .i64 ht] 53)).alloc (.cells #[.int .i64 0, .slice none 0 0, .slice none 0 0, .int .i64 0] 25)).alloc (.cells #[.int .i64 pc, .slice none 0 0, .slice none 0 0, .int .i64 0] 25)).frozen? ⟨w.heap.size + 1 + 1, 1, none⟩ = false := by go_simp
  have g2 : (((w.alloc (.cells #[.int .i64 pc, .slice a1 nr c1, .slice a2 nm c2, .int .i64 ht] 53)).alloc (.cells #[.int .i64 0, .slice none 0 0, .slice none 0 0, .int .i64 0] 25)).alloc (.cells #[.int .i64 pc, .slice none 0 0, .slice none 0 0, .int .i64 0] 25)).frozen? ⟨w.heap.size + 1 + 1, 2, none⟩ = false := by go_simp
  have g3 : (((w.alloc (.cells #[.int .i64 pc, .slice a1 nr c1, .slice a2 nm c2, .int .i64 ht] 53)).alloc (.cells #[.int .i64 0, .slice none 0 0, .slice none 0 0, .int .i64 0] 25)).alloc (.cells #[.int .i64 pc, .slice none 0 0, .slice none 0 0, .int .i64 0] 25)).frozen? ⟨w.heap.size + 1 + 1, 3, none⟩ = false := by go_simp
  go_enter Try.func35, Try.ntmps35
  go_wp2_with fail
  refine (toInts_any _ nr xs _ (RR0.out.keep BB.out)).mono ?_
  rintro e w1 ⟨u, rfl, p1, b1⟩
  obtain ⟨ua, uc, rfl, _⟩ := ownI_form p1
  have z1 := b1.size
  rw [z0] at z1
  have q2 := cell_keep b1 q2
  have q3 := cell_keep b1 q3
  have s0 := cell_keep b1 s0
  have s1 := cell_keep b1 s1
  have s2 := cell_keep b1 s2
  have s3 := cell_keep b1 s3
  have o0 := cell_keep b1 o0
  have o1 := cell_keep b1 o1
  have o2 := cell_keep b1 o2
  have o3 := cell_keep b1 o3
  have f0 := (b1.frozen (p := ⟨w.heap.size + 1, 0, none⟩) (by rw [z0]; dsimp only; omega)).trans f0
  have f1 := (b1.frozen (p := ⟨w.heap.size + 1, 1, none⟩) (by rw [z0]; dsimp only; omega)).trans f1
  have f2 := (b1.frozen (p := ⟨w.heap.size + 1, 2, none⟩) (by rw [z0]; dsimp only; omega)).trans f2
  have f3 := (b1.frozen (p := ⟨w.heap.size + 1, 3, none⟩) (by rw [z0]; dsimp only; omega)).trans f3
  have g1 := (b1.frozen (p := ⟨w.heap.size + 1 + 1, 1, none⟩) (by rw [z0]; dsimp only; omega)).trans g1
  have g2 := (b1.frozen (p := ⟨w.heap.size + 1 + 1, 2, none⟩) (by rw [z0]; dsimp only; omega)).trans g2
  have g3 := (b1.frozen (p := ⟨w.heap.size + 1 + 1, 3, none⟩) (by rw [z0]; dsimp only; omega)).trans g3
  have P1 := hid p1
  have B1 := hid (BB.out.trans (b1.mono BB.out.size))
  clear p1 b1
  have C1 := hid ((Chg.refl (fun j => j = w.heap.size + 1 + 1) w1).set (p := ⟨w.heap.size + 1 + 1, 1, none⟩) rfl (.slice ua nr uc))
  have q2' := (World.cell?_setCell_other w1 ⟨w.heap.size + 1 + 1, 1, none⟩ ⟨w.heap.size, 2, none⟩ (.slice ua nr uc) (by simp; try omega)).trans q2
  have q3' := (World.cell?_setCell_other w1 ⟨w.heap.size + 1 + 1, 1, none⟩ ⟨w.heap.size, 3, none⟩ (.slice ua nr uc) (by simp; try omega)).trans q3
  have s0' := (World.cell?_setCell_other w1 ⟨w.heap.size + 1 + 1, 1, none⟩ ⟨w.heap.size + 1, 0, none⟩ (.slice ua nr uc) (by simp; try omega)).trans s0
  have s1' := (World.cell?_setCell_other w1 ⟨w.heap.size + 1 + 1, 1, none⟩ ⟨w.heap.size + 1, 1, none⟩ (.slice ua nr uc) (by simp; try omega)).trans s1
  have s2' := (World.cell?_setCell_other w1 ⟨w.heap.size + 1 + 1, 1, none⟩ ⟨w.heap.size + 1, 2, none⟩ (.slice ua nr uc) (by simp; try omega)).trans s2
  have s3' := (World.cell?_setCell_other w1 ⟨w.heap.size + 1 + 1, 1, none⟩ ⟨w.heap.size + 1, 3, none⟩ (.slice ua nr uc) (by simp; try omega)).trans s3
  have o0' := (World.cell?_setCell_other w1 ⟨w.heap.size + 1 + 1, 1, none⟩ ⟨w.heap.size + 1 + 1, 0, none⟩ (.slice ua nr uc) (by simp; try omega)).trans o0
  have o2' := (World.cell?_setCell_other w1 ⟨w.heap.size + 1 + 1, 1, none⟩ ⟨w.heap.size + 1 + 1, 2, none⟩ (.slice ua nr uc) (by simp; try omega)).trans o2
  have o3' := (World.cell?_setCell_other w1 ⟨w.heap.size + 1 + 1, 1, none⟩ ⟨w.heap.size + 1 + 1, 3, none⟩ (.slice ua nr uc) (by simp; try omega)).trans o3
  have o1' := World.cell?_setCell_same w1 ⟨w.heap.size + 1 + 1, 1, none⟩ (.slice ua nr uc) o1
  have f0' : (w1.setCell ⟨w.heap.size + 1 + 1, 1, none⟩ (.slice ua nr uc)).frozen? ⟨w.heap.size + 1, 0, none⟩ = false := by rw [World.frozen?_setCell]; exact f0
  have f1' : (w1.setCell ⟨w.heap.size + 1 + 1, 1, none⟩ (.slice ua nr uc)).frozen? ⟨w.heap.size + 1, 1, none⟩ = false := by rw [World.frozen?_setCell]; exact f1
  have f2' : (w1.setCell ⟨w.heap.size + 1 + 1, 1, none⟩ (.slice ua nr uc)).frozen? ⟨w.heap.size + 1, 2, none⟩ = false := by rw [World.frozen?_setCell]; exact f2
  have f3' : (w1.setCell ⟨w.heap.size + 1 + 1, 1, none⟩ (.slice ua nr uc)).frozen? ⟨w.heap.size + 1, 3, none⟩ = false := by rw [World.frozen?_setCell]; exact f3
  have g1' : (w1.setCell ⟨w.heap.size + 1 + 1, 1, none⟩ (.slice ua nr uc)).frozen? ⟨w.heap.size + 1 + 1, 1, none⟩ = false := by rw [World.frozen?_setCell]; exact g1
  have g2' : (w1.setCell ⟨w.heap.size + 1 + 1, 1, none⟩ (.slice ua nr uc)).frozen? ⟨w.heap.size + 1 + 1, 2, none⟩ = false := by rw [World.frozen?_setCell]; exact g2
  have g3' : (w1.setCell ⟨w.heap.size + 1 + 1, 1, none⟩ (.slice ua nr uc)).frozen? ⟨w.heap.size + 1 + 1, 3, none⟩ = false := by rw [World.frozen?_setCell]; exact g3
  have zz : (w1.setCell ⟨w.heap.size + 1 + 1, 1, none⟩ (.slice ua nr uc)).heap.size = w1.heap.size := by simp [World.setCell]
  have P1 := hid (P1.out.chg C1.out (fun j hj he => by have he : j = w.heap.size + 1 + 1 := he; have := (P1.out.blk j hj).1; rw [z0] at this; omega))
  have B1 := hid (below_chg B1.out C1.out (by have := B1.out.size; omega) (fun j hj => by have hj : j = w.heap.size + 1 + 1 := hj; omega))
  go_wp2_with fail
  refine (toInts_any _ nm ys _ (RM0.out.keep B1.out)).mono ?_
  rintro e w2 ⟨v, rfl, p2, b2⟩
  obtain ⟨va, vc, rfl, _⟩ := ownI_form p2
  have z2 := b2.size
  rw [zz] at z2
  have q2 := cell_keep b2 q2'
  have q3 := cell_keep b2 q3'
  have s0 := cell_keep b2 s0'
  have s1 := cell_keep b2 s1'
  have s2 := cell_keep b2 s2'
  have s3 := cell_keep b2 s3'
  have o0 := cell_keep b2 o0'
  have o1 := cell_keep b2 o1'
  have o2 := cell_keep b2 o2'
  have o3 := cell_keep b2 o3'
  have f0 := (b2.frozen (p := ⟨w.heap.size + 1, 0, none⟩) (by rw [zz]; dsimp only; omega)).trans f0'
  have f1 := (b2.frozen (p := ⟨w.heap.size + 1, 1, none⟩) (by rw [zz]; dsimp only; omega)).trans f1'
  have f2 := (b2.frozen (p := ⟨w.heap.size + 1, 2, none⟩) (by rw [zz]; dsimp only; omega)).trans f2'
  have f3 := (b2.frozen (p := ⟨w.heap.size + 1, 3, none⟩) (by rw [zz]; dsimp only; omega)).trans f3'
  have g2 := (b2.frozen (p := ⟨w.heap.size + 1 + 1, 2, none⟩) (by rw [zz]; dsimp only; omega)).trans g2'
  have g3 := (b2.frozen (p := ⟨w.heap.size + 1 + 1, 3, none⟩) (by rw [zz]; dsimp only; omega)).trans g3'
  clear q2' q3' s0' s1' s2' s3' o0' o1' o2' o3' f0' f1' f2' f3' g1' g2' g3'
  have AP := hid (own_apart' P1.out p2 (Nat.le_refl _))
  have P1 := hid (P1.out.keep b2)
  have P2 := hid p2
  have B2 := hid (B1.out.trans (b2.mono B1.out.size))
  clear p2 b2
  have r0 := (World.cell?_setCell_other (w2.setCell ⟨w.heap.size + 1 + 1, 2, none⟩ (.slice va nm vc)) ⟨w.heap.size + 1 + 1, 3, none⟩ ⟨w.heap.size + 1, 0, none⟩ (.int .i64 ht) (by simp)).trans ((World.cell?_setCell_other w2 ⟨w.heap.size + 1 + 1, 2, none⟩ ⟨w.heap.size + 1, 0, none⟩ (.slice va nm vc) (by simp)).trans s0)
  have r1 := (World.cell?_setCell_other (w2.setCell ⟨w.heap.size + 1 + 1, 2, none⟩ (.slice va nm vc)) ⟨w.heap.size + 1 + 1, 3, none⟩ ⟨w.heap.size + 1, 1, none⟩ (.int .i64 ht) (by simp)).trans ((World.cell?_setCell_other w2 ⟨w.heap.size + 1 + 1, 2, none⟩ ⟨w.heap.size + 1, 1, none⟩ (.slice va nm vc) (by simp)).trans s1)
  have r2 := (World.cell?_setCell_other (w2.setCell ⟨w.heap.size + 1 + 1, 2, none⟩ (.slice va nm vc)) ⟨w.heap.size + 1 + 1, 3, none⟩ ⟨w.heap.size + 1, 2, none⟩ (.int .i64 ht) (by simp)).trans ((World.cell?_setCell_other w2 ⟨w.heap.size + 1 + 1, 2, none⟩ ⟨w.heap.size + 1, 2, none⟩ (.slice va nm vc) (by simp)).trans s2)
  have r3 := (World.cell?_setCell_other (w2.setCell ⟨w.heap.size + 1 + 1, 2, none⟩ (.slice va nm vc)) ⟨w.heap.size + 1 + 1, 3, none⟩ ⟨w.heap.size + 1, 3, none⟩ (.int .i64 ht) (by simp)).trans ((World.cell?_setCell_other w2 ⟨w.heap.size + 1 + 1, 2, none⟩ ⟨w.heap.size + 1, 3, none⟩ (.slice va nm vc) (by simp)).trans s3)
  have HT := hid (four_set (.int .i64 pc) (.slice ua nr uc) (.slice va nm vc) (.int .i64 ht) r0 r1 r2 r3)
  have CG := hid ((((((((Chg.refl (fun j => j = w.heap.size + 1 ∨ j = w.heap.size + 1 + 1) w2).set (p := ⟨w.heap.size + 1 + 1, 2, none⟩) (.inr rfl) (.slice va nm vc)).set (p := ⟨w.heap.size + 1 + 1, 3, none⟩) (.inr rfl) (.int .i64 ht)).set (p := ⟨w.heap.size + 1, 0, none⟩) (.inl rfl) (.int .i64 pc)).set (p := ⟨w.heap.size + 1, 1, none⟩) (.inl rfl) (.slice ua nr uc)).set (p := ⟨w.heap.size + 1, 2, none⟩) (.inl rfl) (.slice va nm vc)).set (p := ⟨w.heap.size + 1, 3, none⟩) (.inl rfl) (.int .i64 ht)))
  have e0 : ((w2.setCell ⟨w.heap.size + 1 + 1, 2, none⟩ (.slice va nm vc)).setCell ⟨w.heap.size + 1 + 1, 3, none⟩ (.int .i64 ht)).cell? ⟨w.heap.size + 1 + 1, 0, none⟩ = some (.int .i64 pc) := (World.cell?_setCell_other _ _ _ _ (by simp)).trans ((World.cell?_setCell_other _ _ _ _ (by simp)).trans o0)
  have e1 : ((w2.setCell ⟨w.heap.size + 1 + 1, 2, none⟩ (.slice va nm vc)).setCell ⟨w.heap.size + 1 + 1, 3, none⟩ (.int .i64 ht)).cell? ⟨w.heap.size + 1 + 1, 1, none⟩ = some (.slice ua nr uc) := (World.cell?_setCell_other _ _ _ _ (by simp)).trans ((World.cell?_setCell_other _ _ _ _ (by simp)).trans o1)
  have e2 : ((w2.setCell ⟨w.heap.size + 1 + 1, 2, none⟩ (.slice va nm vc)).setCell ⟨w.heap.size + 1 + 1, 3, none⟩ (.int .i64 ht)).cell? ⟨w.heap.size + 1 + 1, 2, none⟩ = some (.slice va nm vc) := (World.cell?_setCell_other _ _ _ _ (by simp)).trans (World.cell?_setCell_same _ _ _ o2)
  have e3 : ((w2.setCell ⟨w.heap.size + 1 + 1, 2, none⟩ (.slice va nm vc)).setCell ⟨w.heap.size + 1 + 1, 3, none⟩ (.int .i64 ht)).cell? ⟨w.heap.size + 1 + 1, 3, none⟩ = some (.int .i64 ht) := World.cell?_setCell_same _ _ _ ((World.cell?_setCell_other _ _ _ _ (by simp)).trans o3)
  go_wp2_with fail
  obtain ⟨t0, t1, t2, t3⟩ := HT.out
  refine bodyPost_ret (v := .agg #[.int .i64 pc, .slice ua nr uc, .slice va nm vc, .int .i64 ht]) (resToVm _ rfl t0 t1 t2 t3) rfl ?_
  refine ⟨_, _, rfl, (P1.out.chg CG.out ?_).low (by omega), (P2.out.chg CG.out ?_).low (by omega), AP.out, below_chg B2.out CG.out (by have := B2.out.size; omega) (fun j hj => by have hj : j = w.heap.size + 1 ∨ j = w.heap.size + 1 + 1 := hj; omega)⟩
  · intro j hj he
    have he : j = w.heap.size + 1 ∨ j = w.heap.size + 1 + 1 := he
    have := (P1.out.blk j hj).1
    rw [z0] at this
    omega
  · intro j hj he
    have he : j = w.heap.size + 1 ∨ j = w.heap.size + 1 + 1 := he
    have := (P2.out.blk j hj).1
    rw [zz] at this
    omega

set_option maxHeartbeats 1000000 in
theorem szVm_any (pc ht : Int) (a1 a2 : Option Addr) (nr nm c1 c2 : Nat) (left : Int) (w : World) (h1 : nr ≤ 9223372036854775807) (h2 : nm ≤ 9223372036854775807) (l0 : 0 ≤ left) (l1 : left ≤ 9223372036854775807) :
    Calls Try.prog 34 #[.agg #[.int .i64 pc, .slice a1 nr c1, .slice a2 nm c2, .int .i64 ht], .int .i64 left] w fun e w' => e = .returned (.int .i64 (if left - nr < 0 then -1 else if left - nr - nm < 0 then -1 else left - nr - nm)) ∧ Below w.heap.size w w' := by
  by_cases h : left - (nr : Int) < 0
  · rw [if_pos h]
    go_enter Try.func34, Try.ntmps34
    go_wp2_with fail
    refine (szInts_any _ nr _ _ _ h1 l0 l1).mono ?_
    rw [if_pos h]
    rintro e w1 ⟨rfl, rfl⟩
    go_wp2
    go_ret
    exact ⟨rfl, below_alloc1 _ _⟩
  · rw [if_neg h]
    have d : decide (left - (nr : Int) < 0) = false := by simpa using h
    have H := hid h
    by_cases h' : left - (nr : Int) - (nm : Int) < 0
    · rw [if_pos h']
      have H' := hid h'
      go_enter Try.func34, Try.ntmps34
      go_wp2_with fail
      refine (szInts_any _ nr _ _ _ h1 l0 l1).mono ?_
      rw [if_neg (by have := H.out; omega)]
      rintro e w1 ⟨rfl, rfl⟩
      go_wp2_with fail
      refine (szInts_any _ nm _ _ _ h2 (by omega) (by omega)).mono ?_
      rw [if_pos (by have := H'.out; omega)]
      rintro e w1 ⟨rfl, rfl⟩
      go_wp2
      go_ret
      exact ⟨rfl, below_alloc1 _ _⟩
    · rw [if_neg h']
      have H' := hid h'
      have d' : decide (left - (nr : Int) - (nm : Int) < 0) = false := by simpa using h'
      go_enter Try.func34, Try.ntmps34
      go_wp2_with fail
      refine (szInts_any _ nr _ _ _ h1 l0 l1).mono ?_
      rw [if_neg (by have := H.out; omega)]
      rintro e w1 ⟨rfl, rfl⟩
      go_wp2_with fail
      refine (szInts_any _ nm _ _ _ h2 (by omega) (by omega)).mono ?_
      rw [if_neg (by have := H'.out; omega)]
      rintro e w1 ⟨rfl, rfl⟩
      go_wp2
      go_ret
      exact ⟨rfl, below_alloc1 _ _⟩
end Go.Proofs.Ytbpomeegpkdekaa
