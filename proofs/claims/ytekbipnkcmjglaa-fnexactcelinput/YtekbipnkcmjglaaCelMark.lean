/- Cells: the laws' markCelCell and heldCelCell. Conditions: three rows of one's own in three blocks; the lists read. -/
import Derived.Test.YtekbipnkcmjglaaCelBase
namespace Go.Proofs.Ytekbipnkcmjglaa
open Go.ChangeShapes Go.WideShapes Go.ChangeAt Go.RowKit Go.Joins Go.Deep
set_option linter.unusedVariables false
set_option linter.unusedSimpArgs false
set_option maxRecDepth 4000

theorem own_grown' {w w' : World} {B : Nat} {v : Value} {xs : List Int} {row : Option Nat} (h : Own w B v xs) (hg : w.grownBy w' row) (hr : ∀ j, row = some j → v.ownBlock ≠ some j) : Own w' B v xs :=
  h.chg (S := fun j => row = some j) (Chg.of_grown hg (fun j hj => hj)) (fun j hj he => hr j he hj)
set_option maxHeartbeats 2000000 in
theorem markCell_any (pc ht k : Int) (u v i : Value) (nr nm lo hi : Nat) (xs ys bs : List Int) (w : World) (h : Cl w lo hi u v i nr nm xs ys bs) (n1 : nr ≤ 2000000) (n2 : nm ≤ 2000000) (n3 : bs.length ≤ 2000000) (k0 : 0 ≤ k) (k1 : k ≤ 1000000000) :
    Calls Try.prog 19 #[.agg #[.int .i64 pc, u, v, .int .i64 ht, i], .int .i64 k] w fun e w' => e = .returned (.int .i64 (k + nr + nm + bs.length)) ∧ Cl w' lo hi u v i nr nm (marksI k nr) (marksI (k + nr) nm) (marks (k + nr + nm) bs.length) ∧ Chg (fun j => u.ownBlock = some j ∨ v.ownBlock = some j ∨ i.ownBlock = some j) w w' := by
  have HC := hid h
  have H := hid (h.keep (below_alloc1 w (.cells #[.int .i64 pc, u, v, .int .i64 ht, i] 27)))
  have KB := hid (fun j hj => (h.2.2.1.blk j hj).2)
  have KU := hid (fun j hj => (h.1.blk j hj).2)
  have KV := hid (fun j hj => (h.2.1.blk j hj).2)
  obtain ⟨a1, c1, rfl, _⟩ := ownI_form h.1
  obtain ⟨a2, c2, rfl, _⟩ := ownI_form h.2.1
  obtain ⟨a3, c3, rfl, _⟩ := own_form h.2.2.1
  obtain ⟨nb, hnb⟩ : ∃ nb, bs.length = nb := ⟨_, rfl⟩
  rw [hnb] at HC H KB n3 ⊢
  have HN := hid hnb
  clear hnb h
  have VA := hid (vb_new w [.int .i64 pc, .slice a1 nr c1, .slice a2 nm c2, .int .i64 ht, .slice a3 nb c3] 27)
  have C := hid (Chg.of_below (S := fun j => (Value.slice a1 nr c1).ownBlock = some j ∨ (Value.slice a2 nm c2).ownBlock = some j ∨ (Value.slice a3 nb c3).ownBlock = some j) (below_alloc1 w (.cells #[.int .i64 pc, .slice a1 nr c1, .slice a2 nm c2, .int .i64 ht, .slice a3 nb c3] 27)))
  go_enter Try.func19, Try.ntmps19
  go_wp2_with fail
  refine (markVm_any pc ht k _ _ nr nm xs ys lo _ H.out.1 H.out.2.1 H.out.2.2.2.1 n1 n2 k0 k1).mono ?_
  rintro e w1 ⟨rfl, o1, o2, cg⟩
  obtain ⟨_, _, _, _, q4⟩ := vb5 (VA.out.chg cg (fun hj => by rcases hj with hj | hj; (have := KU.out _ hj; omega); (have := KV.out _ hj; omega)))
  have O1 := hid o1
  have O2 := hid o2
  have I1 := hid (H.out.2.2.1.chg cg (fun j hj he => by rcases he with he | he; exact (H.out.2.2.2.2.1 j hj).1 he; exact (H.out.2.2.2.2.1 j hj).2 he))
  have C1 := hid (C.out.trans (cg.mono (fun j hj => by rcases hj with hj | hj; exact .inl hj; exact .inr (.inl hj))))
  clear o1 o2 cg C
  go_wp2_with fail
  refine (mark_any _ bs (k + nr + nm) lo _ I1.out (by rw [HN.out]; exact n3) (by omega) (by omega)).mono ?_
  rw [HN.out]
  rintro e w2 ⟨rfl, o3, g3, z3⟩
  have D := H.out.2.2.2
  have R1 := hid (O1.out.grown g3 (fun j hj hj' => (D.2.1 j hj).1 hj'))
  have R2 := hid (O2.out.grown g3 (fun j hj hj' => (D.2.1 j hj).2 hj'))
  have R3 := hid o3
  have C2 := hid (C1.out.trans (Chg.of_grown g3 (fun j hj => .inr (.inr hj))))
  have DD := hid D
  clear o3 g3 z3 D
  go_wp2
  go_ret
  exact ⟨rfl, ⟨R1.out, R2.out, R3.out, DD.out⟩, C2.out⟩
set_option maxHeartbeats 2000000 in
theorem heldCell_any (pc ht k : Int) (u v i : Value) (nr nm nb : Nat) (w : World) (hu : RdI 1 w u nr (marksI k nr)) (hv : RdI 1 w v nm (marksI (k + nr) nm)) (hi : Rd w i (marks (k + nr + nm) nb)) (k0 : 0 ≤ k) (k1 : k ≤ 1000000000) :
    Calls Try.prog 20 #[.agg #[.int .i64 pc, u, v, .int .i64 ht, i], .int .i64 k] w fun e w' => e = .returned (.int .i64 (k + nr + nm + nb)) ∧ Below w.heap.size w w' := by
  have B0 := hid (below_alloc1 w (.cells #[.int .i64 pc, u, v, .int .i64 ht, i] 27))
  have R := hid (hu.keep B0.out)
  have M := hid (hv.keep B0.out)
  have I := hid (hi.keep B0.out)
  obtain ⟨_, n1, a1, c1, rfl, _⟩ := hu
  obtain ⟨_, n2, a2, c2, rfl, _⟩ := hv
  obtain ⟨_, n3, a3, c3, rfl, _⟩ := hi
  simp only [marks_len] at B0 R M I n3 ⊢
  have VA := hid (vb_new w [.int .i64 pc, .slice a1 nr c1, .slice a2 nm c2, .int .i64 ht, .slice a3 nb c3] 27)
  have d1 : decide (k + (nr : Int) + (nm : Int) < 0) = false := by simp; omega
  have d2 : decide (k + (nr : Int) + (nm : Int) + (nb : Int) < 0) = false := by simp; omega
  go_enter Try.func20, Try.ntmps20
  go_wp2_with fail
  refine (heldVm_any pc ht k _ _ nr nm _ R.out M.out k0 k1).mono ?_
  rintro e w1 ⟨rfl, b1⟩
  obtain ⟨_, _, _, _, q4⟩ := vb5 (VA.out.keep b1)
  have I1 := hid (I.out.keep b1)
  have B1 := hid (B0.out.trans (b1.mono B0.out.size))
  clear b1
  go_wp2_with fail
  refine (held_any _ nb (k + nr + nm) _ I1.out (by omega) (by omega)).mono ?_
  rintro e w2 ⟨rfl, rfl⟩
  go_wp2
  go_ret
  exact ⟨rfl, B1.out⟩
end Go.Proofs.Ytekbipnkcmjglaa
