/- What draws bytes: within bounds, in memory of its own. -/
import Derived.Test.YtbpomeegpkdekaaDraw
import Derived.Test.YtbpomeegpkdekaaByteOwn
namespace Go.Proofs.Ytbpomeegpkdekaa
open Go.ChangeShapes Go.WideShapes Go.ChangeAt Go.RowKit Go.Joins Go.Deep
set_option linter.unusedVariables false
set_option maxRecDepth 4000

theorem pick_cell (w : World) (L : List Int) (t : TypeId) (i : Int) (h0 : 0 ≤ i) (h1 : i < L.length) :
    ∃ m ∈ L, (w.alloc (.cells (L.map (Value.int .i64)).toArray t)).cell? ⟨w.heap.size, i.toNat, none⟩ = some (.int .i64 m) := by
  obtain ⟨n, rfl⟩ := Int.eq_ofNat_of_zero_le h0
  rw [Int.toNat_natCast]
  have hn : n < L.length := by omega
  exact ⟨L[n], List.getElem_mem hn, by simp [hn]⟩
theorem gown {a b c : World} {g : Nat} {row : Option Nat} (h : a.grownBy b (some g)) (k : b.grownBy c row) (hr : ∀ j, row = some j → a.heap.size ≤ j) : a.grownBy c (some g) :=
  ⟨k.os.trans h.os, k.tape.trans h.tape, k.output.trans h.output, Nat.le_trans h.size k.size, fun i hi hne => (k.block i (Nat.lt_of_lt_of_le hi h.size) (fun e => by have := hr i e.symm; omega)).trans (h.block i hi hne)⟩
theorem Rdr.grown {W w w' : World} {g p : Nat} {row : Option Nat} (h : Rdr W w g p) (hg : w.grownBy w' row) (hr : ∀ j, row = some j → W.heap.size ≤ j ∧ ¬ g = j) : Rdr W w' g p := by
  obtain ⟨v, xs, h1, h2, h3, h4, h5, h6⟩ := h
  have hlt : g < w.heap.size := World.block_lt_of_cell? w ⟨g, 0, none⟩ h4
  have hne : some g ≠ row := fun e => (hr g e.symm).2 rfl
  refine ⟨v, xs, h1, h2.grown hg h2.size (fun k hk => (hr k hk).1), h3, hg.cell h4 hne, hg.cell h5 hne, ?_⟩
  rw [World.frozen?_of_block (hg.block g hlt hne)]; exact h6

set_option maxHeartbeats 4000000 in
theorem drawBytes_any (n : Nat) (W w : World) (g p : Nat) (hr : Rdr W w g p) (hn : n ≤ 1000) (hp : p < 990000) :
    Calls Try.prog 70 #[.pointer (some ⟨g, 0, none⟩), .int .i64 (n : Int)] w fun e w' => ∃ u xs, e = .returned u ∧ xs.length = n ∧ Own w' w.heap.size u xs ∧ Rdr W w' g (p + n) ∧ w.grownBy w' (some g) := by
  obtain ⟨ti, hti, htz, hts, htb⟩ := info8'
  have RD := hid hr
  have hg : g < w.heap.size := by
    obtain ⟨v, xs, _, _, _, h, _⟩ := hr
    exact World.block_lt_of_cell? w ⟨g, 0, none⟩ h
  have hWg : W.heap.size ≤ g := by obtain ⟨v, xs, _, _, h, _⟩ := hr; exact h
  clear hr
  go_enter Try.func70, Try.ntmps70
  go_wp2_with fail
  go_loopw [1, 5] (fun i u wr => ∃ j : Nat, j ≤ n ∧ i = .int .i64 ((n : Int) - j) ∧ (∃ xs, xs.length = j ∧ Own wr w.heap.size u xs) ∧ Rdr W wr g (p + j) ∧ w.grownBy wr (some g) ∧ w.heap.size < wr.heap.size) (fun i _ _ => (intOf i).toNat)
  case atStart => exact ⟨0, by omega, by simp, ⟨[], rfl, own_none w⟩, RD.out.keep (below_alloc1 _ _), galloc (grefl w g) _, by simp⟩
  case round =>
    obtain ⟨j, hj, rfl, ⟨xs, hxs, hou⟩, hrd, hgr, hzr⟩ := hrel
    have HO := hid hou
    have HRD := hid hrd
    have HG := hid hgr
    clear hou hrd hgr
    by_cases hlt : j < n
    · have hd : ((n : Int) - j > 0) := by omega
      go_wp2_with fail
      refine (pick_any 256 W _ g (p + j) HRD.out (by omega) (by omega) (by omega)).mono ?_
      rintro e w2 ⟨Z, rfl, z0, z1, rd, hc2, hf2, hz2, gr2⟩
      have z1 : Z ≤ 255 := by omega
      have RD2 := hid rd
      have G2 := hid (gtrans HG.out gr2)
      have O2 := hid (HO.out.grown gr2 (fun k hk => by simp at hk; omega))
      have z2 : w.heap.size < w2.heap.size := by omega
      obtain ⟨a, cap, hu, _⟩ := own_form O2.out
      subst hu
      have HR := own_ints O2.out
      rw [hxs] at HR ⊢
      have HR := hid HR
      clear rd gr2 hc2 hf2 HG HO HRD hz2
      go_wp2_with (at_builtin; go_must (refine wpList_append_lies _ (by rfl) _ _ 22 (by rfl) w.heap.size 5 ti (.int .u8 0) 1 1 Try.underlying22 hti htz hts htb rfl (by omega) _ j (xs.map (Value.int .u8)) (by rfl) (HR.out.alloc _) ⟨w2.heap.size, 0, none⟩ 1 1 [.int .u8 Z] (by rfl) rfl (cell_one_new _ _ _) (by intro y hy; simp at hy; subst hy; rfl) (by omega) (by unfold maxLen; omega) (by omega) (by simp; omega) (w2.heap.size + 1) (by simp) ?_))
      intro gg cap2 w3 ho2 hg2 hat hlt2
      have hown : ∀ k, (Value.slice a j cap).ownBlock = some k → w.heap.size ≤ k := fun k hk => (HR.out.lt k hk).1
      have G3 := hid (gown (galloc G2.out (.cells #[.int .u8 Z] 5)) hg2 (fun k hk => hown k hk))
      have RD3 := hid ((RD2.out.keep (below_alloc1 w2 (.cells #[.int .u8 Z] 5))).grown hg2 (fun k hk => by have := hown k hk; omega))
      have z3 : w.heap.size < w3.heap.size := by have := hg2.size; simp at this; omega
      have O3 := hid (own_more O2.out hxs z0 z1 ho2)
      clear ho2 hg2 hat hlt2 G2 RD2
      go_wp2
      go_roundw
      case rel => exact ⟨j + 1, by omega, by go_num, ⟨xs ++ [Z], by simp [hxs], O3.out⟩, RD3.out, G3.out, z3⟩
      case measure => simp [intOf]; omega
    · obtain rfl : j = n := by omega
      go_wp2
      go_ret
      exact ⟨_, xs, rfl, hxs, HO.out, HRD.out, HG.out⟩

/-- ahead of a draw's number: the pick, its row and what it has there -/
theorem at_pick {w w3 : World} {g : Nat} (L : List Int) (t : TypeId) (i : Int) (h0 : 0 ≤ i) (h1 : i < L.length) (hg : ¬ w.heap.size = g)
    (hc : ∀ b o, ¬ b = g → w3.cell? ⟨b, o, none⟩ = (w.alloc (.cells (L.map (Value.int .i64)).toArray t)).cell? ⟨b, o, none⟩) :
    ∃ m ∈ L, w3.cell? ⟨w.heap.size, i.toNat, none⟩ = some (.int .i64 m) := by
  obtain ⟨m, hm, h⟩ := pick_cell w L t i h0 h1
  exact ⟨m, hm, (hc _ _ hg).trans h⟩

theorem below_grown' {a b : World} {n g : Nat} (h : a.grownBy b (some g)) (hg : n ≤ g) (hn : n ≤ a.heap.size) : Below n a b :=
  (Below.refl n a).grown h hn (fun k hk => by simp at hk; omega)
end Go.Proofs.Ytbpomeegpkdekaa
