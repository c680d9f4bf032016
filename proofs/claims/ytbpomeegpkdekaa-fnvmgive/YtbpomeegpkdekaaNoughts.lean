/- Noughts laid by appending: the contract of the specification's l6Noughts. Condition: at most a thousand. -/
import Derived.Test.YtbpomeegpkdekaaIntS
import Derived.Test.YtbpomeegpkdekaaChg
import Derived.Test.YtbpomeegpkdekaaInBase
import Derived.Deep.AppendLies
import Derived.Maps.AppendAt
import Derived.Deep.RegionLaw
import Derived.Deep.DeepMust
import Derived.Laws.IdiomStrings
import Derived.Lib.LazyBuf
namespace Go.Proofs.Ytbpomeegpkdekaa
open Go.ChangeShapes Go.WideShapes Go.ChangeAt Go.RowKit Go.Joins Go.Deep
set_option linter.unusedVariables false
set_option maxRecDepth 4000

theorem news_rdI {w : World} {b off : Nat} {ys : List Int} (h : ∀ i, i < ys.length → w.cell? ⟨b, off + i, none⟩ = some (.int .i64 (ys.getD i 0))) : ∀ j u, (ys.map (Value.int .i64))[j]? = some u → w.cell? ((⟨b, off, none⟩ : Addr).add j) = some u := by
  intro j u hu
  have hj : j < ys.length := by
    have := (List.getElem?_eq_some_iff.1 hu).1
    simpa using this
  have ea : (⟨b, off, none⟩ : Addr).add j = ⟨b, off + j, none⟩ := by
    unfold Addr.add
    split
    · rename_i e; subst e; rfl
    · rfl
  rw [ea, h j hj]
  simp only [List.getElem?_map, List.getElem?_eq_getElem hj, Option.map_some, Option.some.injEq] at hu
  rw [← hu]; simp [hj]

theorem ownI_more {e : TypeId} {B j cap g : Nat} {w : World} {xs : List Int} {Z : Int} (h : w.ownsRow B e 1 (.slice (some ⟨g, 0, none⟩) (j + 1) cap) (j + 1) (xs.map (Value.int .i64) ++ [.int .i64 Z])) :
    OwnI e 1 w B (.slice (some ⟨g, 0, none⟩) (j + 1) cap) (j + 1) (xs ++ [Z]) := by
  unfold OwnI; rw [List.map_append]; exact h

set_option maxHeartbeats 4000000 in
theorem noughts_any (n : Nat) (w : World) (hn : n ≤ 1000) :
    Calls Try.prog 75 #[.int .i64 (n : Int)] w fun e w' => ∃ u, e = .returned u ∧ OwnI 3 1 w' w.heap.size u n (List.replicate n 0) ∧ Below w.heap.size w w' := by
  obtain ⟨ti, hti, htz, hts, htb⟩ := infoI'
  go_enter Try.func75, Try.ntmps75
  go_wp2_with fail
  go_loopw [0, 3] (fun i u wr => ∃ j : Nat, j ≤ n ∧ i = .int .i64 ((n : Int) - j) ∧ OwnI 3 1 wr w.heap.size u j (List.replicate j 0) ∧ Below w.heap.size w wr) (fun i _ _ => (intOf i).toNat)
  case atStart => exact ⟨0, by omega, by simp, ownI_none (k := 1) w, below_alloc1 _ _⟩
  case round =>
    obtain ⟨j, hj, rfl, ho, hB⟩ := hrel
    have HO := hid ho
    have HB := hid hB
    by_cases hlt : j < n
    · have hd : ((n : Int) - j > 0) := by omega
      obtain ⟨a, cap, hu, _⟩ := ownI_form ho
      subst hu
      have hs := hB.size
      clear ho hB
      go_wp2_with (at_builtin; go_must (refine wpList_append_lies _ (by rfl) _ _ 23 (by rfl) w.heap.size 3 ti (.int .i64 0) 1 8 Try.underlying23 hti htz hts htb rfl (by omega) _ j ((List.replicate j (0 : Int)).map (Value.int .i64)) (by rfl) (HO.out.alloc _) ⟨wr.heap.size, 0, none⟩ 1 1 [.int .i64 0] (by rfl) rfl (cell_one_new _ _ _) (by intro y hy; simp at hy; subst hy; rfl) (by omega) (by unfold maxLen; omega) (by omega) (by simp; omega) (wr.heap.size + 1) (by simp) ?_))
      intro gg cap2 w3 ho2 hg2 hat hlt2
      have hown : ∀ k, (Value.slice a j cap).ownBlock = some k → w.heap.size ≤ k := fun k hk => (HO.out.lt k hk).1
      have B3 := hid ((HB.out.alloc HB.out.size (.cells #[.int .i64 0] 3)).grown hg2 (by simp; omega) hown)
      have O3 : Hid (OwnI 3 1 w3 w.heap.size (.slice (some ⟨gg, 0, none⟩) (j + 1) cap2) (j + 1) (List.replicate (j + 1) 0)) := hid (by unfold OwnI; rw [List.map_replicate, List.replicate_succ']; simpa using ho2)
      clear ho2 hg2 hat hlt2
      go_wp2
      go_roundw
      case rel => exact ⟨j + 1, by omega, by go_num, O3.out, B3.out⟩
      case measure => simp [intOf]; omega
    · obtain rfl : j = n := by omega
      clear ho hB
      go_wp2
      go_ret
      exact ⟨_, rfl, HO.out, HB.out⟩

end Go.Proofs.Ytbpomeegpkdekaa
