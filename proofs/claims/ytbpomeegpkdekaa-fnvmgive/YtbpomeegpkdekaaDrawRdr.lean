/- The draws' reader: how it lasts, and pick's contract with what it says kept out of sight. Conditions: those of pick. -/
import Derived.Test.YtbpomeegpkdekaaDraw
import Derived.Test.YtbpomeegpkdekaaIBk
import Derived.Test.YtbpomeegpkdekaaRegs
namespace Go.Proofs.Ytbpomeegpkdekaa
open Go.ChangeShapes Go.WideShapes Go.ChangeAt Go.RowKit Go.Joins Go.Deep
set_option linter.unusedVariables false

theorem rdr_setB {W w : World} {g p : Nat} (h : Rdr W w g p) {q : Addr} (hq : g < q.block) (v : Value) : Rdr W (w.setCell q v) g p := by
  obtain ⟨u, xs, h1, h2, h3, h4, h5, h6⟩ := h
  have hne : ∀ o, q ≠ ⟨g, o, none⟩ := fun o e => by subst e; simp at hq
  refine ⟨u, xs, h1, h2.setCell (by omega) _, h3, ?_, ?_, ?_⟩
  · rw [World.cell?_setCell_other _ _ _ _ (hne 0)]; exact h4
  · rw [World.cell?_setCell_other _ _ _ _ (hne 1)]; exact h5
  · simpa using h6
theorem rdr_drew {W w : World} {g p : Nat} (h : Rdr W w g p) : Rdr W w.drew g p := h.keep ((Below.refl _ _).drew)
theorem row_at (L : List Int) (i : Nat) : ∃ m : Int, ∀ h, (L.map (Value.int .i64))[i]'h = .int .i64 m := ⟨L.getD i 0, fun h => by simp at h; simp [h]⟩
/-- pick's contract with what it says kept out of the walk's sight -/
theorem pick_h (n : Int) (W w : World) (g p : Nat) (hr : Rdr W w g p) (hp : p < 1000000) (n1 : 1 ≤ n) (n2 : n ≤ 1000000) :
    Calls Try.prog 48 #[.pointer (some ⟨g, 0, none⟩), .int .i64 n] w fun e w' => ∃ x : Int, e = .returned (.int .i64 x) ∧ 0 ≤ x ∧ x < n ∧ Hid (Rdr W w' g (p + 1)) ∧ Hid (∀ b o, ¬ b = g → w'.cell? ⟨b, o, none⟩ = w.cell? ⟨b, o, none⟩) ∧ Hid (w'.heap.size = w.heap.size) ∧ Hid (w.grownBy w' (some g)) := by
  refine (pick_any n W w g p hr hp n1 n2).mono ?_
  rintro e w' ⟨x, h1, h2, h3, h4, h5, h6, h7, h8⟩
  exact ⟨x, h1, h2, h3, h4, h5, h7, h8⟩
theorem gdrew {a b : World} {g : Nat} (h : a.grownBy b (some g)) : a.grownBy b.drew (some g) := ⟨h.os, h.tape, h.output, h.size, h.block⟩
end Go.Proofs.Ytbpomeegpkdekaa
