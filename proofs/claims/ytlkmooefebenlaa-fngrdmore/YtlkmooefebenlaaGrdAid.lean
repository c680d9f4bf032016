/- What the laws of guards lean on: rows of one rule, of one byte; what a guard lets through differs from what came in one place at most. -/
import Derived.Test.YtlkmooefebenlaaDrawGuard
import Derived.Test.YtlkmooefebenlaaGrdDoSpec
import Derived.Test.YtlkmooefebenlaaGrdFitsC
namespace Go.Proofs.Ytlkmooefebenlaa
open Go.ChangeShapes Go.WideShapes Go.ChangeAt Go.RowKit Go.Joins Go.Deep
set_option linter.unusedVariables false
set_option linter.unusedSimpArgs false
set_option maxRecDepth 4000

theorem own_capG {w : World} {B : Nat} {v : Value} {zs : List Int} (h : Own w B v zs) : ∃ a cap, v = .slice a zs.length cap ∧ zs.length ≤ cap := by
  obtain ⟨h1, h2, h3⟩ := h
  rcases h3 with ⟨hv, h0⟩ | ⟨g, cap, cur, hv, hg, hh, hnc, hm, hsz, hcur⟩
  · exact ⟨none, 0, by rw [hv, h0], by omega⟩
  · exact ⟨_, cap, hv, by omega⟩
theorem cap_ofG {w : World} {a : Option Addr} {len cap : Nat} {zs : List Int} (h : IsRow .u8 w a len cap zs) : len ≤ cap := by
  rcases h with ⟨_, rfl, rfl, _⟩ | ⟨_, _, h1, _⟩
  · exact Nat.le_refl _
  · exact h1
theorem rd_atG {w : World} {a : Option Addr} {n cap i : Nat} {xs : List Int} (h : Rd w (.slice a n cap) xs) (hi : i < xs.length) : ∃ b off, a = some ⟨b, off, none⟩ ∧ w.cell? ⟨b, off + i, none⟩ = some (.int .u8 (xs.getD i 0)) ∧ 0 ≤ xs.getD i 0 ∧ xs.getD i 0 ≤ 255 := by
  obtain ⟨h1, h2, a', cap', hv, h3⟩ := h
  simp only [Value.slice.injEq] at hv
  obtain ⟨rfl, _, rfl⟩ := hv
  rcases h3 with rfl | ⟨b, off, ha, hc⟩
  · simp at hi
  · have eg : xs.getD i 0 = xs[i] := by simp [List.getD_eq_getElem?_getD, List.getElem?_eq_getElem hi]
    have hx := h1 (xs.getD i 0) (by rw [eg]; exact List.getElem_mem hi)
    exact ⟨b, off, ha, hc i hi, hx.1, hx.2⟩
theorem rd_oneG (w : World) (x : Int) (x0 : 0 ≤ x) (x1 : x ≤ 255) : Rd (w.alloc (.cells #[.int .u8 x] 5)) (.slice (some ⟨w.heap.size, 0, none⟩) 1 1) [x] := by
  refine ⟨by simp; omega, by simp, _, _, rfl, .inr ⟨w.heap.size, 0, rfl, fun i hi => ?_⟩⟩
  simp only [List.length_cons, List.length_nil] at hi
  obtain rfl : i = 0 := by omega
  simp
theorem rdI_one (w : World) (y0 y1 y2 y3 y4 y5 y6 : Int) : RdI 7 (w.alloc (.cells #[.int .i64 y0, .int .i64 y1, .int .i64 y2, .int .i64 y3, .int .i64 y4, .int .i64 y5, .int .i64 y6] 46)) (.slice (some ⟨w.heap.size, 0, none⟩) 1 1) 1 [y0, y1, y2, y3, y4, y5, y6] := by
  have h := ib_new w [y0, y1, y2, y3, y4, y5, y6] 46
  exact ⟨rfl, by omega, _, _, rfl, .inr ⟨w.heap.size, 0, rfl, fun i hi => by rw [Nat.zero_add]; exact h.1 i hi⟩⟩
theorem rdI_zero (w : World) (a : Option Addr) (cap : Nat) : RdI 7 w (.slice a 0 cap) 0 [] := ⟨rfl, by omega, _, _, rfl, .inl rfl⟩
theorem doL_lenG (n : Nat) (xs ms : List Int) : (doL n xs ms).length ≤ ms.length := by
  unfold doL
  split
  · exact thr_len _ _ _
  · simp
/-- one place at most, and there it is 0 -/
theorem doL_diff (n : Nat) (xs ms : List Int) : ∃ Z : Nat, ∀ k, k < (doL n xs ms).length → (¬ k = Z → (doL n xs ms).getD k 0 = ms.getD k 0) ∧ (k = Z → (doL n xs ms).getD k 0 = 0 ∨ (doL n xs ms).getD k 0 = ms.getD k 0) := by
  unfold doL
  split
  · rename_i i h
    refine ⟨(xs.getD (i * 7 + 5) 0).toNat, fun k hk => ?_⟩
    unfold thrAt thr at hk ⊢
    generalize xs.getD (i * 7 + 5) 0 = z at hk ⊢
    generalize xs.getD (i * 7 + 6) 0 = c at hk ⊢
    have hk1 : k < c.toNat := by simp at hk; omega
    have hk2 : k < ms.length := by simp [zer_len] at hk; omega
    rw [getD_take_lt _ _ _ _ hk1]
    unfold zer
    split
    · constructor
      · intro hne
        simp [List.getElem?_set, Ne.symm hne]
      · rintro rfl
        left
        simp [hk2]
    · exact ⟨fun _ => rfl, fun _ => .inr rfl⟩
  · exact ⟨0, fun k hk => by simp at hk⟩
end Go.Proofs.Ytlkmooefebenlaa
