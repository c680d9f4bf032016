/- The contracts of the draws of labels. Conditions: the reader lies as it was opened and has picked fewer than 999000 times. -/
import Derived.Test.YtjblhjnicoggaaaDraw
import Derived.Test.YtjblhjnicoggaaaLblBase
namespace Go.Proofs.Ytjblhjnicoggaaa
open Go.ChangeShapes Go.WideShapes Go.ChangeAt Go.RowKit Go.Joins Go.Deep
set_option linter.unusedVariables false

theorem six_cell (P : Nat → Prop) (i : Int) (h0 : 0 ≤ i) (h1 : i < 6) (c : P 0 ∧ P 1 ∧ P 2 ∧ P 3 ∧ P 4 ∧ P 5) : P i.toNat := by
  obtain ⟨n, rfl⟩ := Int.eq_ofNat_of_zero_le h0
  rw [Int.toNat_natCast]
  match n, (show n < 6 by omega) with
  | 0, _ => exact c.1
  | 1, _ => exact c.2.1
  | 2, _ => exact c.2.2.1
  | 3, _ => exact c.2.2.2.1
  | 4, _ => exact c.2.2.2.2.1
  | 5, _ => exact c.2.2.2.2.2

theorem Rdr.set {W w : World} {g p : Nat} (h : Rdr W w g p) {q : Addr} (hq : g < q.block) (v : Value) : Rdr W (w.setCell q v) g p := by
  obtain ⟨u, xs, h1, h2, h3, h4, h5, h6⟩ := h
  have hne : ∀ o, q ≠ ⟨g, o, none⟩ := fun o e => by subst e; simp at hq
  refine ⟨u, xs, h1, h2.setCell (by omega) _, h3, ?_, ?_, ?_⟩
  · rw [World.cell?_setCell_other _ _ _ _ (hne 0)]; exact h4
  · rw [World.cell?_setCell_other _ _ _ _ (hne 1)]; exact h5
  · simpa using h6
theorem two_cell (P : Nat → Prop) (i : Int) (h0 : 0 ≤ i) (h1 : i < 2) (c : P 0 ∧ P 1) : P i.toNat := by
  obtain ⟨n, rfl⟩ := Int.eq_ofNat_of_zero_le h0
  rw [Int.toNat_natCast]
  match n, (show n < 2 by omega) with
  | 0, _ => exact c.1
  | 1, _ => exact c.2
theorem three_cell (P : Nat → Prop) (i : Int) (h0 : 0 ≤ i) (h1 : i < 3) (c : P 0 ∧ P 1 ∧ P 2) : P i.toNat := by
  obtain ⟨n, rfl⟩ := Int.eq_ofNat_of_zero_le h0
  rw [Int.toNat_natCast]
  match n, (show n < 3 by omega) with
  | 0, _ => exact c.1
  | 1, _ => exact c.2.1
  | 2, _ => exact c.2.2

set_option maxHeartbeats 4000000 in
theorem label_any (W w : World) (g p : Nat) (hr : Rdr W w g p) (hp : p < 999000) :
    Calls Try.prog 33 #[.pointer (some ⟨g, 0, none⟩)] w fun e w' => ∃ l m : Int, e = .returned (.agg #[.int .i64 l, .int .i64 m]) ∧ (-1 ≤ l ∧ l ≤ 4) ∧ (-1 ≤ m ∧ m ≤ 1099511627776) ∧ (∃ q, q ≤ p + 5 ∧ Rdr W w' g q) ∧ w.grownBy w' (some g) := by
  have RD := hid hr
  have hg : g < w.heap.size := by
    obtain ⟨v, xs, _, _, _, h, _⟩ := hr
    exact World.block_lt_of_cell? w ⟨g, 0, none⟩ h
  clear hr
  have n0 : ¬ w.heap.size = g := by omega
  have n1 : ¬ w.heap.size + 1 = g := by omega
  have n2 : ¬ w.heap.size + 1 + 1 = g := by omega
  have n3 : ¬ w.heap.size + 1 + 1 + 1 = g := by omega
  go_enter Try.func33, Try.ntmps33
  have RD := hid (RD.out.keep (below_alloc1 w (.cells #[.int .i64 0, .int .i64 0] 24)))
  go_wp2_with fail
  refine (pick_any 4 W _ g (p) RD.out (by omega) (by omega) (by omega)).mono ?_
  rintro e w1 ⟨x1, rfl, l1, u1, rd, hc1, hf1, hz1, gr1⟩
  have RD1 := hid rd
  have GR1 := hid gr1
  clear rd gr1
  try simp at hz1
  skip
  go_wp2_with fail
  refine (pick_any 16 W _ g (p + 1) RD1.out (by omega) (by omega) (by omega)).mono ?_
  rintro e w2 ⟨x2, rfl, l2, u2, rd, hc2, hf2, hz2, gr2⟩
  have RD2 := hid rd
  have GR2 := hid gr2
  clear rd gr2
  try simp at hz2
  try rw [hz1] at hz2
  have RD2 := hid (RD2.out.keep (below_alloc1 w2 (.cells #[.int .i64 0, .int .i64 1, .int .i64 3, .int .i64 5, .int .i64 15, .int .i64 x2] 3)))
  go_wp2_with fail
  refine (pick_any 6 W _ g (p + 1 + 1) RD2.out (by omega) (by omega) (by omega)).mono ?_
  rintro e w3 ⟨x3, rfl, l3, u3, rd, hc3, hf3, hz3, gr3⟩
  have RD3 := hid rd
  have GR3 := hid gr3
  clear rd gr3
  try simp at hz3
  try rw [hz2] at hz3
  obtain ⟨m, hm, m0, m1⟩ : ∃ m : Int, w3.cell? ⟨w.heap.size + 1, x3.toNat, none⟩ = some (.int .i64 m) ∧ 0 ≤ m ∧ m ≤ 15 := by
    refine six_cell (fun i => ∃ m : Int, w3.cell? ⟨w.heap.size + 1, i, none⟩ = some (.int .i64 m) ∧ 0 ≤ m ∧ m ≤ 15) x3 l3 u3 ⟨⟨0, ?_, by omega, by omega⟩, ⟨1, ?_, by omega, by omega⟩, ⟨3, ?_, by omega, by omega⟩, ⟨5, ?_, by omega, by omega⟩, ⟨15, ?_, by omega, by omega⟩, ⟨x2, ?_, by omega, by omega⟩⟩
    all_goals
      rw [hc3 _ _ n1]
      go_simp
  have q0 : w3.cell? ⟨w.heap.size, 0, none⟩ = some (.int .i64 0) := by rw [hc3 _ _ n0]; go_simp
  have q1 : w3.cell? ⟨w.heap.size, 1, none⟩ = some (.int .i64 0) := by rw [hc3 _ _ n0]; go_simp
  have f0 : w3.frozen? ⟨w.heap.size, 0, none⟩ = false := by rw [hf3 _ _ n0]; go_simp
  have f1 : w3.frozen? ⟨w.heap.size, 1, none⟩ = false := by rw [hf3 _ _ n0]; go_simp
  clear hc1 hc2 hc3 hf1 hf2 hf3
  have RD3 := hid (RD3.out.keep (below_alloc1 w3 (.cells #[.int .i64 x1, .int .i64 m] 24)))
  go_wp2_with fail
  refine (pick_any 16 W _ g (p + 1 + 1 + 1) RD3.out (by omega) (by omega) (by omega)).mono ?_
  rintro e w4 ⟨x4, rfl, l4, u4, rd, hc4, hf4, hz4, gr4⟩
  have RD4 := hid rd
  have GR4 := hid gr4
  clear rd gr4
  try simp at hz4
  try rw [hz3] at hz4
  have GA := hid (gtrans (galloc (gtrans (gtrans (galloc (grefl w g) _) GR1.out) GR2.out) _) GR3.out)
  have GB := hid (gtrans (galloc GA.out (.cells #[.int .i64 x1, .int .i64 m] 24)) GR4.out)
  have q0 : w4.cell? ⟨w.heap.size, 0, none⟩ = some (.int .i64 0) := by rw [hc4 _ _ n0]; go_simp
  have q1 : w4.cell? ⟨w.heap.size, 1, none⟩ = some (.int .i64 0) := by rw [hc4 _ _ n0]; go_simp
  have f0 : w4.frozen? ⟨w.heap.size, 0, none⟩ = false := by rw [hf4 _ _ n0]; go_simp
  have f1 : w4.frozen? ⟨w.heap.size, 1, none⟩ = false := by rw [hf4 _ _ n0]; go_simp
  have r0 : w4.cell? ⟨w.heap.size + 1 + 1, 0, none⟩ = some (.int .i64 x1) := by rw [hc4 _ _ n2]; go_simp
  have r1 : w4.cell? ⟨w.heap.size + 1 + 1, 1, none⟩ = some (.int .i64 m) := by rw [hc4 _ _ n2]; go_simp
  have s0 : w4.frozen? ⟨w.heap.size + 1 + 1, 0, none⟩ = false := by rw [hf4 _ _ n2]; go_simp
  have s1 : w4.frozen? ⟨w.heap.size + 1 + 1, 1, none⟩ = false := by rw [hf4 _ _ n2]; go_simp
  clear hc4 hf4 hm
  by_cases e0 : x4 = 0
  · subst e0
    have RD4 := hid (RD4.out.keep (below_alloc1 w4 (.cells #[.int .i64 (-1), .int .i64 4] 3)))
    go_wp2_with fail
    refine (pick_any 2 W _ g (p + 1 + 1 + 1 + 1) RD4.out (by omega) (by omega) (by omega)).mono ?_
    rintro e w5 ⟨x5, rfl, l5, u5, rd, hc5, hf5, hz5, gr5⟩
    have RD5 := hid rd
    have GR5 := hid gr5
    clear rd gr5
    try simp at hz5
    try rw [hz4] at hz5
    obtain ⟨m2, hm2, m20, m21⟩ : ∃ m2 : Int, w5.cell? ⟨w.heap.size + 1 + 1 + 1, x5.toNat, none⟩ = some (.int .i64 m2) ∧ -1 ≤ m2 ∧ m2 ≤ 4 := by
      refine two_cell (fun i => ∃ m2 : Int, w5.cell? ⟨w.heap.size + 1 + 1 + 1, i, none⟩ = some (.int .i64 m2) ∧ -1 ≤ m2 ∧ m2 ≤ 4) x5 l5 u5 ⟨⟨-1, ?_, by omega, by omega⟩, ⟨4, ?_, by omega, by omega⟩⟩
      all_goals
        rw [hc5 _ _ n3]
        go_simp
    have q0 : w5.cell? ⟨w.heap.size, 0, none⟩ = some (.int .i64 0) := by rw [hc5 _ _ n0]; go_simp
    have q1 : w5.cell? ⟨w.heap.size, 1, none⟩ = some (.int .i64 0) := by rw [hc5 _ _ n0]; go_simp
    have f0 : w5.frozen? ⟨w.heap.size, 0, none⟩ = false := by rw [hf5 _ _ n0]; go_simp
    have f1 : w5.frozen? ⟨w.heap.size, 1, none⟩ = false := by rw [hf5 _ _ n0]; go_simp
    have r0 : w5.cell? ⟨w.heap.size + 1 + 1, 0, none⟩ = some (.int .i64 x1) := by rw [hc5 _ _ n2]; go_simp
    have r1 : w5.cell? ⟨w.heap.size + 1 + 1, 1, none⟩ = some (.int .i64 m) := by rw [hc5 _ _ n2]; go_simp
    have s0 : w5.frozen? ⟨w.heap.size + 1 + 1, 0, none⟩ = false := by rw [hf5 _ _ n2]; go_simp
    clear hc5 hf5
    go_wp2
    refine bodyPost_ret (v := .agg #[.int .i64 m2, .int .i64 m]) (by simp [results, Try.results33, go_sem, q0, q1]) rfl ?_
    refine ⟨m2, m, rfl, by omega, by omega, ⟨_, Nat.le_refl _, ?_⟩, ?_⟩
    · exact ((RD5.out.set (by dsimp only; omega) _).set (by dsimp only; omega) _).set (by dsimp only; omega) _
    · exact gset (gset (gset (gtrans (galloc GB.out _) GR5.out) (by dsimp only; omega) _) (by dsimp only; omega) _) (by dsimp only; omega) _
  · have d0 : (x4 == 0) = false := beq_eq_false_iff_ne.2 e0
    by_cases e1 : x4 = 1
    · subst e1
      have RD4 := hid (RD4.out.keep (below_alloc1 w4 (.cells #[.int .i64 (-1), .int .i64 16, .int .i64 1099511627776] 3)))
      go_wp2_with fail
      refine (pick_any 3 W _ g (p + 1 + 1 + 1 + 1) RD4.out (by omega) (by omega) (by omega)).mono ?_
      rintro e w5 ⟨x5, rfl, l5, u5, rd, hc5, hf5, hz5, gr5⟩
      have RD5 := hid rd
      have GR5 := hid gr5
      clear rd gr5
      try simp at hz5
      try rw [hz4] at hz5
      obtain ⟨m2, hm2, m20, m21⟩ : ∃ m2 : Int, w5.cell? ⟨w.heap.size + 1 + 1 + 1, x5.toNat, none⟩ = some (.int .i64 m2) ∧ -1 ≤ m2 ∧ m2 ≤ 1099511627776 := by
        refine three_cell (fun i => ∃ m2 : Int, w5.cell? ⟨w.heap.size + 1 + 1 + 1, i, none⟩ = some (.int .i64 m2) ∧ -1 ≤ m2 ∧ m2 ≤ 1099511627776) x5 l5 u5 ⟨⟨-1, ?_, by omega, by omega⟩, ⟨16, ?_, by omega, by omega⟩, ⟨1099511627776, ?_, by omega, by omega⟩⟩
        all_goals
          rw [hc5 _ _ n3]
          go_simp
      have q0 : w5.cell? ⟨w.heap.size, 0, none⟩ = some (.int .i64 0) := by rw [hc5 _ _ n0]; go_simp
      have q1 : w5.cell? ⟨w.heap.size, 1, none⟩ = some (.int .i64 0) := by rw [hc5 _ _ n0]; go_simp
      have f0 : w5.frozen? ⟨w.heap.size, 0, none⟩ = false := by rw [hf5 _ _ n0]; go_simp
      have f1 : w5.frozen? ⟨w.heap.size, 1, none⟩ = false := by rw [hf5 _ _ n0]; go_simp
      have r0 : w5.cell? ⟨w.heap.size + 1 + 1, 0, none⟩ = some (.int .i64 x1) := by rw [hc5 _ _ n2]; go_simp
      have r1 : w5.cell? ⟨w.heap.size + 1 + 1, 1, none⟩ = some (.int .i64 m) := by rw [hc5 _ _ n2]; go_simp
      have s1 : w5.frozen? ⟨w.heap.size + 1 + 1, 1, none⟩ = false := by rw [hf5 _ _ n2]; go_simp
      clear hc5 hf5
      go_wp2
      refine bodyPost_ret (v := .agg #[.int .i64 x1, .int .i64 m2]) (by simp [results, Try.results33, go_sem, q0, q1]) rfl ?_
      refine ⟨x1, m2, rfl, by omega, by omega, ⟨_, Nat.le_refl _, ?_⟩, ?_⟩
      · exact ((RD5.out.set (by dsimp only; omega) _).set (by dsimp only; omega) _).set (by dsimp only; omega) _
      · exact gset (gset (gset (gtrans (galloc GB.out _) GR5.out) (by dsimp only; omega) _) (by dsimp only; omega) _) (by dsimp only; omega) _
    · have d1 : (x4 == 1) = false := beq_eq_false_iff_ne.2 e1
      go_wp2
      refine bodyPost_ret (v := .agg #[.int .i64 x1, .int .i64 m]) (by simp [results, Try.results33, go_sem, q0, q1]) rfl ?_
      refine ⟨x1, m, rfl, by omega, by omega, ⟨_, Nat.le_succ _, ?_⟩, ?_⟩
      · exact (RD4.out.set (by dsimp only; omega) _).set (by dsimp only; omega) _
      · exact gset (gset GB.out (by dsimp only; omega) _) (by dsimp only; omega) _
end Go.Proofs.Ytjblhjnicoggaaa
