/- Bytes in memory of one's own: what is appended, what is new. Conditions: those that each lemma names. -/
import Derived.Test.YtbpomeegpkdekaaBytesMark
import Derived.Test.YtbpomeegpkdekaaInBase
import Derived.Deep.AppendLies
import Derived.Maps.AppendAt
import Derived.Deep.RegionLaw
import Derived.Test.YtbpomeegpkdekaaBytesMark2
import Derived.Deep.DeepMust
import Derived.Laws.IdiomStrings
import Derived.Lib.LazyBuf
namespace Go.Proofs.Ytbpomeegpkdekaa
open Go.ChangeShapes Go.WideShapes Go.ChangeAt Go.RowKit Go.Joins Go.Deep
set_option linter.unusedVariables false

set_option maxRecDepth 4000
theorem info8' : ∃ i, Try.prog.info? 5 = some i ∧ i.zero = some (.int .u8 0) ∧ i.size = 1 ∧ i.bytes = 1 := by
  obtain ⟨i, hi, hzz⟩ := Option.map_eq_some_iff.1 info8
  simp only [Prod.mk.injEq] at hzz
  exact ⟨i, hi, hzz.1, hzz.2.1, hzz.2.2⟩

theorem own_ints {w : World} {B : Nat} {v : Value} {xs : List Int} (h : Own w B v xs) : w.ownsRow B 5 1 v xs.length (xs.map (Value.int .u8)) := h.2
theorem own_drew {w : World} {base size n : Nat} {e : TypeId} {v : Value} {xs : List Value} (h : w.ownsRow base e size v n xs) : w.drew.ownsRow base e size v n xs := h
theorem cell_new1d (w : World) (x : Value) (t : TypeId) : ∀ (j : Nat) (u : Value), [x][j]? = some u → (w.alloc (.cells #[x] t)).drew.cell? ((⟨w.heap.size, 0, none⟩ : Addr).add j) = some u := fun j u h => cell_one_new w x t j u h
theorem own_more {w w' : World} {B n cap g : Nat} {v : Value} {xs : List Int} {Z : Int} (ho : Own w' B v xs) (hn : xs.length = n) (z0 : 0 ≤ Z) (z1 : Z ≤ 255) (h : w.ownsRow B 5 1 (.slice (some ⟨g, 0, none⟩) (n + 1) cap) (n + 1) (xs.map (Value.int .u8) ++ [.int .u8 Z])) :
    Own w B (.slice (some ⟨g, 0, none⟩) (n + 1) cap) (xs ++ [Z]) := by
  refine ⟨fun x hx => ?_, ?_⟩
  · rcases List.mem_append.1 hx with hx | hx
    · exact ho.1 x hx
    · simp at hx; subst hx; exact ⟨z0, z1⟩
  · have e : (xs ++ [Z]).length = n + 1 := by simp [hn]
    rw [e, List.map_append]; exact h
theorem own_nil {B : Nat} (w : World) : Own w B (.slice none 0 0) [] := ⟨by simp, by simp, .inl ⟨rfl, rfl⟩⟩
theorem own_none (w : World) : Own (w.alloc (.cells #[] 5)) w.heap.size (.slice (some ⟨w.heap.size, 0, none⟩) 0 0) [] :=
  ⟨by simp, by simpa using World.ownsRow_made _ _ _ (Nat.le_refl _) (by unfold maxLen; omega) (by simp)⟩

end Go.Proofs.Ytbpomeegpkdekaa
