/- With a rule more at its end a guard lets through, as before, what it let through: for whatever is drawn. No conditions. -/
import Derived.Test.YtlkmooefebenlaaDrawGRule
import Derived.Deep.AppendLies
import Derived.Deep.RegionLaw
namespace Go.Proofs.Ytlkmooefebenlaa
open Go.ChangeShapes Go.WideShapes Go.ChangeAt Go.RowKit Go.Joins Go.Deep
set_option linter.unusedVariables false
set_option linter.unusedSimpArgs false
set_option maxRecDepth 4000

theorem getD_left (xs ys : List Int) (j : Nat) (h : j < xs.length) : (xs ++ ys).getD j 0 = xs.getD j 0 := by
  simp [List.getD_eq_getElem?_getD, List.getElem?_append_left h]
theorem fit_left (xs ys ms : List Int) (n i : Nat) (hx : xs.length = n * 7) (hi : i < n) : fitAt (xs ++ ys) ms i = fitAt xs ms i := by
  unfold fitAt
  rw [getD_left _ _ _ (by omega), getD_left _ _ _ (by omega), getD_left _ _ _ (by omega), getD_left _ _ _ (by omega), getD_left _ _ _ (by omega)]
theorem thr_left (xs ys ms : List Int) (n i : Nat) (hx : xs.length = n * 7) (hi : i < n) : thrAt (xs ++ ys) ms i = thrAt xs ms i := by
  unfold thrAt
  rw [getD_left _ _ _ (by omega), getD_left _ _ _ (by omega)]
theorem more_do (n i : Nat) (xs ys ms : List Int) (hx : xs.length = n * 7) (hg : grdB (n + 1) (xs ++ ys) = true) (h : doR n xs ms = some i) : doR (n + 1) (xs ++ ys) ms = some i ∧ doL (n + 1) (xs ++ ys) ms = doL n xs ms := by
  have h1 := h
  unfold doR at h1
  split at h1
  · rename_i hc
    rw [Bool.and_eq_true] at hc
    obtain ⟨hi, hj⟩ := List.find?_range_eq_some.1 h1
    have hin : i < n := by
      have := List.mem_of_find?_eq_some h1
      simpa using this
    have e : doR (n + 1) (xs ++ ys) ms = some i := by
      unfold doR
      rw [hg, hc.2]
      simp only [Bool.and_self, if_true]
      refine find_range (fun k hk => ?_) ?_ (by omega)
      · rw [fit_left xs ys ms n k hx (by omega)]
        have := hj.2 k hk
        simpa using this
      · rw [fit_left xs ys ms n i hx hin]; exact hi
    refine ⟨e, ?_⟩
    rw [doL_some e, doL_some h, thr_left xs ys ms n i hx hin]
  · simp at h1
theorem newsI_rd {w : World} {b off : Nat} {xs : List Int} (h : ∀ i, i < xs.length → w.cell? ⟨b, off + i, none⟩ = some (.int .i64 (xs.getD i 0))) : ∀ j u, (xs.map (Value.int .i64))[j]? = some u → w.cell? ((⟨b, off, none⟩ : Addr).add j) = some u := by
  intro j u hu
  have hj : j < xs.length := by
    have := (List.getElem?_eq_some_iff.1 hu).1
    simpa using this
  have ea : (⟨b, off, none⟩ : Addr).add j = ⟨b, off + j, none⟩ := by
    unfold Addr.add
    split
    · rename_i e; subst e; rfl
    · rfl
  rw [ea, h j hj]
  simp only [List.getElem?_map, List.getElem?_eq_getElem hj, Option.map_some, Option.some.injEq] at hu
  rw [← hu]; simp [hj]
theorem add_block (b off j : Nat) : ((⟨b, off, none⟩ : Addr).add j).block = b := by
  unfold Addr.add
  split <;> rfl
theorem own_step {w : World} {B n cap g : Nat} {e : TypeId} {ys : List Value} (h : w.ownsRow B e 7 (.slice (some ⟨g, 0, none⟩) (0 + n) cap) (0 + n) ([] ++ ys)) : w.ownsRow B e 7 (.slice (some ⟨g, 0, none⟩) n cap) n ys := by
  rw [Nat.zero_add] at h
  exact h
end Go.Proofs.Ytlkmooefebenlaa
