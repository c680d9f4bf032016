/- The contracts of the draws of two labels. Conditions: the reader lies as it was opened and has picked fewer than 998000 times; what is drawn over reads as bytes. -/
import Derived.Test.YtjblhjnicoggaaaDrawLbl
import Derived.Deep.RegionWith
import Derived.Deep.RegionHeld3
namespace Go.Proofs.Ytjblhjnicoggaaa
open Go.ChangeShapes Go.WideShapes Go.ChangeAt Go.RowKit Go.Joins Go.Deep
set_option linter.unusedVariables false

theorem Rdr.drew {W w : World} {g p : Nat} (h : Rdr W w g p) : Rdr W w.drew g p := h.keep ((Below.refl _ _).drew)
theorem gdrew {a b : World} {g : Nat} (h : a.grownBy b (some g)) : a.grownBy b.drew (some g) := ⟨h.os, h.tape, h.output, h.size, h.block⟩

set_option maxHeartbeats 4000000 in
theorem near_any (W w : World) (g p : Nat) (l m : Int) (hr : Rdr W w g p) (hp : p < 998000) (hl : -1 ≤ l ∧ l ≤ 4) :
    Calls Try.prog 34 #[.pointer (some ⟨g, 0, none⟩), .agg #[.int .i64 l, .int .i64 m]] w fun e w' => ∃ l' m' : Int, e = .returned (.agg #[.int .i64 l', .int .i64 m']) ∧ (∃ q, q ≤ p + 10 ∧ Rdr W w' g q) ∧ w.grownBy w' (some g) := by
  have RD := hid hr
  have hg : g < w.heap.size := by
    obtain ⟨v, xs, _, _, _, h, _⟩ := hr
    exact World.block_lt_of_cell? w ⟨g, 0, none⟩ h
  clear hr
  have n0 : ¬ w.heap.size = g := by omega
  have n1 : ¬ w.heap.size + 1 = g := by omega
  have RD := hid (RD.out.keep (below_alloc2 w (.cells #[.int .i64 l, .int .i64 m] 24) (.cells #[.int .i64 0, .int .i64 0] 24)))
  go_enter Try.func34, Try.ntmps34
  go_wp2_with fail
  refine (pick_any 5 W _ g (p) RD.out (by omega) (by omega) (by omega)).mono ?_
  rintro e w1 ⟨x1, rfl, l1, u1, rd, hc1, hf1, hz1, gr1⟩
  have RD1 := hid rd
  have GR1 := hid gr1
  clear rd gr1
  try simp at hz1
  skip
  have a0 : w1.cell? ⟨w.heap.size, 0, none⟩ = some (.int .i64 l) := by rw [hc1 _ _ n0]; go_simp
  have a1 : w1.cell? ⟨w.heap.size, 1, none⟩ = some (.int .i64 m) := by rw [hc1 _ _ n0]; go_simp
  have b0 : w1.frozen? ⟨w.heap.size, 0, none⟩ = false := by rw [hf1 _ _ n0]; go_simp
  have b1 : w1.frozen? ⟨w.heap.size, 1, none⟩ = false := by rw [hf1 _ _ n0]; go_simp
  have q0 : w1.cell? ⟨w.heap.size + 1, 0, none⟩ = some (.int .i64 0) := by rw [hc1 _ _ n1]; go_simp
  have q1 : w1.cell? ⟨w.heap.size + 1, 1, none⟩ = some (.int .i64 0) := by rw [hc1 _ _ n1]; go_simp
  have f0 : w1.frozen? ⟨w.heap.size + 1, 0, none⟩ = false := by rw [hf1 _ _ n1]; go_simp
  have f1 : w1.frozen? ⟨w.heap.size + 1, 1, none⟩ = false := by rw [hf1 _ _ n1]; go_simp
  have GA := hid (gtrans (galloc (galloc (grefl w g) _) _) GR1.out)
  clear hc1 hf1
  by_cases e0 : x1 = 0
  · subst e0
    go_wp2
    refine bodyPost_ret (v := .agg #[.int .i64 l, .int .i64 m]) (by simp [results, Try.results34, go_sem, q0, q1]) rfl ?_
    exact ⟨l, m, rfl, ⟨_, by omega, (RD1.out.set (by dsimp only; omega) _).set (by dsimp only; omega) _⟩, gset (gset GA.out (by dsimp only; omega) _) (by dsimp only; omega) _⟩
  have d0 : (x1 == 0) = false := beq_eq_false_iff_ne.2 e0
  by_cases e1 : x1 = 1
  · subst e1
    go_wp2
    refine bodyPost_ret (v := .agg #[.int .i64 (l + 1), .int .i64 m]) (by simp [results, Try.results34, go_sem, q0, q1]) rfl ?_
    exact ⟨_, m, rfl, ⟨_, by omega, ((RD1.out.set (by dsimp only; omega) _).set (by dsimp only; omega) _).set (by dsimp only; omega) _⟩, gset (gset (gset GA.out (by dsimp only; omega) _) (by dsimp only; omega) _) (by dsimp only; omega) _⟩
  have d1 : (x1 == 1) = false := beq_eq_false_iff_ne.2 e1
  by_cases e2 : x1 = 2
  · subst e2
    go_wp2_with fail
    go_region_with ((go_at_call 41; refine (pick_any 16 W _ g (p + 1) ?_ (by omega) (by omega) (by omega)).mono ?_; exact RD1.out.drew; rintro e w2 ⟨x2, rfl, l2, u2, rd, hc2, hf2, hz2, gr2⟩))
    all_goals
      have RD2 := hid rd
      have GR2 := hid gr2
      simp at hz2
      clear rd gr2
      have q0' : w2.cell? ⟨w.heap.size + 1, 0, none⟩ = some (.int .i64 0) := by rw [hc2 _ _ n1]; go_simp
      have q1' : w2.cell? ⟨w.heap.size + 1, 1, none⟩ = some (.int .i64 0) := by rw [hc2 _ _ n1]; go_simp
      have a0' : w2.cell? ⟨w.heap.size, 0, none⟩ = some (.int .i64 l) := by rw [hc2 _ _ n0]; go_simp
      have a1' : w2.cell? ⟨w.heap.size, 1, none⟩ = some (.int .i64 m) := by rw [hc2 _ _ n0]; go_simp
      go_wp2
      refine bodyPost_ret (v := .agg #[.int .i64 l, .int .i64 (bits .or .i64 m x2)]) (by simp [results, Try.results34, go_sem, q0', q1']) rfl ?_
      exact ⟨l, _, rfl, ⟨_, by omega, ((RD2.out.set (by dsimp only; omega) _).set (by dsimp only; omega) _).set (by dsimp only; omega) _⟩, gset (gset (gset (gtrans (gdrew GA.out) GR2.out) (by dsimp only; omega) _) (by dsimp only; omega) _) (by dsimp only; omega) _⟩
  have d2 : (x1 == 2) = false := beq_eq_false_iff_ne.2 e2
  go_wp2_with fail
  refine (label_any W _ g (p + 1) RD1.out (by omega)).mono ?_
  rintro e w2 ⟨l2, m2, rfl, _, _, ⟨q, hq, rd⟩, gr⟩
  have RD2 := hid rd
  have GR2 := hid gr
  have q0' := gr.cell q0 (by simpa using n1)
  have q1' := gr.cell q1 (by simpa using n1)
  have f0' : w2.frozen? ⟨w.heap.size + 1, 0, none⟩ = false := (World.frozen?_of_block (w := w1) (w' := w2) (a := ⟨w.heap.size + 1, 0, none⟩) (gr.block _ (by dsimp only; omega) (by simpa using n1))).trans f0
  have f1' : w2.frozen? ⟨w.heap.size + 1, 1, none⟩ = false := (World.frozen?_of_block (w := w1) (w' := w2) (a := ⟨w.heap.size + 1, 1, none⟩) (gr.block _ (by dsimp only; omega) (by simpa using n1))).trans f1
  clear rd gr
  go_wp2
  refine bodyPost_ret (v := .agg #[.int .i64 l2, .int .i64 m2]) (by simp [results, Try.results34, go_sem, q0', q1']) rfl ?_
  exact ⟨l2, m2, rfl, ⟨q, by omega, (RD2.out.set (by dsimp only; omega) _).set (by dsimp only; omega) _⟩, gset (gset (gtrans GA.out GR2.out) (by dsimp only; omega) _) (by dsimp only; omega) _⟩
end Go.Proofs.Ytjblhjnicoggaaa
