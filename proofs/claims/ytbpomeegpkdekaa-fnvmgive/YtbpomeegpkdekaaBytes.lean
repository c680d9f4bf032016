/- What a slice of bytes reads as, a row of bytes of one's own, and how both last; the contracts of the laws' helpers on bytes. -/
import Derived.Test.YtbpomeegpkdekaaRows
import Derived.Test.YtbpomeegpkdekaaAid
import Derived.Deep.OwnRows
import Derived.Deep.QuietTactic
import Derived.BigQuiet
namespace Go.Proofs.Ytbpomeegpkdekaa
open Go.ChangeShapes Go.WideShapes Go.ChangeAt Go.RowKit Go.Joins Go.Deep
set_option linter.unusedVariables false

/-- the slice value reads as these bytes -/
def Rd (w : World) (v : Value) (xs : List Int) : Prop :=
  (∀ x ∈ xs, 0 ≤ x ∧ x ≤ 255) ∧ xs.length ≤ 2000000 ∧ ∃ a cap, v = .slice a xs.length cap ∧ (xs = [] ∨ ∃ b off, a = some ⟨b, off, none⟩ ∧ ∀ i, i < xs.length → w.cell? ⟨b, off + i, none⟩ = some (.int .u8 (xs.getD i 0)))

theorem Rd.keep {w w' : World} {v : Value} {xs : List Int} (h : Rd w v xs) (hb : Below w.heap.size w w') : Rd w' v xs := by
  obtain ⟨h1, h2, a, cap, hv, h3⟩ := h
  refine ⟨h1, h2, a, cap, hv, ?_⟩
  rcases h3 with h3 | ⟨b, off, ha, hc⟩
  · exact .inl h3
  · exact .inr ⟨b, off, ha, fun i hi => cell_keep hb (hc i hi)⟩

/-- a row of bytes of one's own, in a block from B on -/
def Own (w : World) (B : Nat) (v : Value) (xs : List Int) : Prop := (∀ x ∈ xs, 0 ≤ x ∧ x ≤ 255) ∧ w.ownsRow B 5 1 v xs.length (xs.map (Value.int .u8))

theorem Own.rd {w : World} {B : Nat} {v : Value} {xs : List Int} (h : Own w B v xs) (hn : xs.length ≤ 2000000) : Rd w v xs := by
  obtain ⟨h1, h2, h3⟩ := h
  rcases h3 with ⟨hv, h0⟩ | ⟨g, cap, cur, hv, hg, hh, hnc, hm, hsz, hcur⟩
  · have : xs = [] := List.length_eq_zero_iff.1 h0
    subst this
    exact ⟨h1, by simp, none, 0, hv, .inl rfl⟩
  · refine ⟨h1, hn, some ⟨g, 0, none⟩, cap, hv, .inr ⟨g, 0, rfl, fun i hi => ?_⟩⟩
    have e : cur[i]? = some (.int .u8 (xs.getD i 0)) := by
      have h4 : (cur.toList.take (xs.length * 1))[i]? = (xs.map (Value.int .u8))[i]? := by rw [hcur]
      rw [List.getElem?_take_of_lt (by omega)] at h4
      simp only [Array.getElem?_toList] at h4
      rw [h4]; simp [hi]
    simp only [Nat.zero_add]
    simp [World.cell?, hh, e]

/-- what the frame of a law tells of a slice of integers that came in -/
def IsRow (k : IntKind) (w : World) (a : Option Addr) (len cap : Nat) (zs : List Int) : Prop :=
  (a = none ∧ len = 0 ∧ cap = 0 ∧ zs = []) ∨
  ∃ x, a = some x ∧ len ≤ cap ∧ cap ≤ maxLen ∧ zs.length = cap ∧ (∀ i, i < zs.length → w.cell? (x.add i) = some (.int k (zs.getD i 0))) ∧ ∀ n ∈ zs, (Lit.int k n).wf = true
theorem IsRow.rd {w : World} {a : Option Addr} {len cap : Nat} {zs : List Int} (h : IsRow .u8 w a len cap zs) (hl : len ≤ 1048576) : ∃ xs, xs.length = len ∧ Rd w (.slice a len cap) xs := by
  rcases h with ⟨rfl, rfl, rfl, rfl⟩ | ⟨x, rfl, h1, h2, h3, h4, h5⟩
  · exact ⟨[], rfl, by simp, by simp, none, 0, rfl, .inl rfl⟩
  · refine ⟨zs.take len, by simp; omega, fun y hy => bounds_u8 (h5 y (List.mem_of_mem_take hy)), by simp; omega, some x, cap, ?_, ?_⟩
    · have : (zs.take len).length = len := by simp; omega
      rw [this]
    · by_cases h0 : len = 0
      · subst h0; exact .inl (by simp)
      · obtain ⟨b, off, spot⟩ := x
        have hc := h4 0 (by omega)
        have hspot : spot = none := by simpa [Addr.add] using World.cell?_spot hc
        subst hspot
        refine .inr ⟨b, off, rfl, fun i hi => ?_⟩
        simp only [List.length_take] at hi
        have ea : (⟨b, off, none⟩ : Addr).add i = ⟨b, off + i, none⟩ := by
          unfold Addr.add
          split
          · rename_i e; subst e; rfl
          · rfl
        rw [← ea, h4 i (by omega), getD_take_lt _ _ _ _ (by omega)]

end Go.Proofs.Ytbpomeegpkdekaa
