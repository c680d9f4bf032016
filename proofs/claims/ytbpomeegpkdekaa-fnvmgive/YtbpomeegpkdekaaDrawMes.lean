/- What draws a message: some bytes, in memory of its own. -/
import Derived.Test.YtbpomeegpkdekaaDrawBy
namespace Go.Proofs.Ytbpomeegpkdekaa
open Go.ChangeShapes Go.WideShapes Go.ChangeAt Go.RowKit Go.Joins Go.Deep
set_option linter.unusedVariables false
set_option maxRecDepth 4000
set_option maxHeartbeats 4000000 in
theorem drawMessage_any (W w : World) (g p : Nat) (hr : Rdr W w g p) (hp : p < 990000) :
    Calls Try.prog 71 #[.pointer (some ⟨g, 0, none⟩)] w fun e w' => ∃ u xs, e = .returned u ∧ xs.length ≤ 9 ∧ Own w' w.heap.size u xs ∧ (∃ q, q ≤ p + 19 ∧ Rdr W w' g q) ∧ w.grownBy w' (some g) := by
  obtain ⟨ti, hti, htz, hts, htb⟩ := info8'
  have RD := hid hr
  have hg : g < w.heap.size := by
    obtain ⟨v, xs, _, _, _, h, _⟩ := hr
    exact World.block_lt_of_cell? w ⟨g, 0, none⟩ h
  have hWg : W.heap.size ≤ g := by obtain ⟨v, xs, _, _, h, _⟩ := hr; exact h
  clear hr
  go_enter Try.func71, Try.ntmps71
  have RD1 := hid ((RD.out.keep (below_alloc1 w (.cells #[] 5))).keep (below_alloc1 _ (.cells #[.int .i64 0, .int .i64 1, .int .i64 2, .int .i64 3, .int .i64 4, .int .i64 8, .int .i64 8, .int .i64 9] 3)))
  go_wp2_with fail
  refine (pick_any 8 W _ g p RD1.out (by omega) (by omega) (by omega)).mono ?_
  rintro e w1 ⟨x1, rfl, l1, u1, rd, hc1, hf1, hz1, gr1⟩
  obtain ⟨m, hm, hcm⟩ := at_pick (w := w.alloc (.cells #[] 5)) [0, 1, 2, 3, 4, 8, 8, 9] 3 x1 l1 (by simpa using u1) (by simp; omega) hc1
  simp at hcm
  have hb : 0 ≤ m ∧ m ≤ 9 := by simp at hm; omega
  have O1 := hid ((((own_none w).keep (below_alloc1 _ (.cells #[.int .i64 0, .int .i64 1, .int .i64 2, .int .i64 3, .int .i64 4, .int .i64 8, .int .i64 8, .int .i64 9] 3)))).grown gr1 (fun k hk => by simp at hk; omega))
  have G1 := hid (gtrans (galloc (galloc (grefl w g) _) _) gr1)
  have RD1 := hid rd
  have z1 : w.heap.size < w1.heap.size := by simp at hz1; omega
  obtain ⟨n, rfl⟩ := Int.eq_ofNat_of_zero_le hb.1
  clear rd gr1 hc1 hf1 hz1 hm RD
  go_wp2_with fail
  go_loopw [3, 4] (fun u i wr => ∃ j : Nat, j ≤ n ∧ i = .int .i64 ((n : Int) - j) ∧ (∃ xs, xs.length = j ∧ Own wr w.heap.size u xs) ∧ Rdr W wr g (p + 1 + 2 * j) ∧ w.grownBy wr (some g) ∧ w.heap.size < wr.heap.size) (fun _ i _ => (intOf i).toNat)
  case atStart => exact ⟨0, by omega, by simp, ⟨[], rfl, O1.out⟩, RD1.out, G1.out, z1⟩
  case round =>
    obtain ⟨j, hj, rfl, ⟨xs, hxs, hou⟩, hrd, hgr, hzr⟩ := hrel
    have HO := hid hou
    have HRD := hid hrd
    have HG := hid hgr
    clear hou hrd hgr O1 RD1 G1 hcm
    by_cases hlt : j < n
    · have hd : ((n : Int) - j > 0) := by omega
      go_wp2_with fail
      refine (pick_any 256 W _ g _ HRD.out (by omega) (by omega) (by omega)).mono ?_
      rintro e w2 ⟨x2, rfl, l2, u2, rd, hc2, hf2, hz2, gr2⟩
      have RD2 := hid (rd.keep (below_alloc1 w2 (.cells #[.int .i64 0, .int .i64 1, .int .i64 7, .int .i64 255, .int .i64 x2] 3)))
      have G2 := hid (gtrans HG.out gr2)
      have O2 := hid (HO.out.grown gr2 (fun k hk => by simp at hk; omega))
      have z2 : w.heap.size < w2.heap.size := by omega
      clear rd gr2 hc2 hf2 HG HO HRD hz2
      go_wp2_with fail
      refine (pick_any 5 W _ g _ RD2.out (by omega) (by omega) (by omega)).mono ?_
      rintro e w3 ⟨x3, rfl, l3, u3, rd, hc3, hf3, hz3, gr3⟩
      obtain ⟨Z, hZ, hcZ⟩ := at_pick [0, 1, 7, 255, x2] 3 x3 l3 (by simpa using u3) (by omega) hc3
      have zz : 0 ≤ Z ∧ Z ≤ 255 := by simp at hZ; omega
      have RD3 := hid rd
      have G3 := hid (gtrans (galloc G2.out _) gr3)
      have O3 := hid ((O2.out.keep (below_alloc1 w2 _)).grown gr3 (fun k hk => by simp at hk; omega))
      have z3 : w.heap.size < w3.heap.size := by simp at hz3; omega
      obtain ⟨a, cap, hu, _⟩ := own_form O3.out
      subst hu
      have HR := own_ints O3.out
      rw [hxs] at HR ⊢
      have HR := hid HR
      clear rd gr3 hc3 hf3 G2 O2 RD2 hz3 hZ
      go_wp2_with (at_builtin; go_must (refine wpList_append_lies _ (by rfl) _ _ 22 (by rfl) w.heap.size 5 ti (.int .u8 0) 1 1 Try.underlying22 hti htz hts htb rfl (by omega) _ j (xs.map (Value.int .u8)) (by rfl) (HR.out.alloc _) ⟨w3.heap.size, 0, none⟩ 1 1 [.int .u8 Z] (by rfl) rfl (cell_one_new _ _ _) (by intro y hy; simp at hy; subst hy; rfl) (by omega) (by unfold maxLen; omega) (by omega) (by simp; omega) (w3.heap.size + 1) (by simp) ?_))
      intro gg cap2 w4 ho2 hg2 hat hlt2
      have hown : ∀ k, (Value.slice a j cap).ownBlock = some k → w.heap.size ≤ k := fun k hk => (HR.out.lt k hk).1
      have G4 := hid (gown (galloc G3.out (.cells #[.int .u8 Z] 5)) hg2 (fun k hk => hown k hk))
      have RD4 := hid ((RD3.out.keep (below_alloc1 w3 (.cells #[.int .u8 Z] 5))).grown hg2 (fun k hk => by have := hown k hk; omega))
      have z4 : w.heap.size < w4.heap.size := by have := hg2.size; simp at this; omega
      have O4 := hid (own_more O3.out hxs zz.1 zz.2 ho2)
      clear ho2 hg2 hat hlt2 G3 RD3
      go_wp2
      go_roundw
      case rel => exact ⟨j + 1, by omega, by go_num, ⟨xs ++ [Z], by simp [hxs], O4.out⟩, RD4.out, G4.out, z4⟩
      case measure => simp [intOf]; omega
    · obtain rfl : j = n := by omega
      go_wp2
      go_ret
      exact ⟨_, xs, rfl, by omega, HO.out, ⟨_, by omega, HRD.out⟩, HG.out⟩

end Go.Proofs.Ytbpomeegpkdekaa
