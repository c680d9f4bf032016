/- A block of ints: how it lasts, how a cell of it is written, how it is opened. Of no program in particular; no conditions beyond those that each lemma names. -/
import Derived.Test.YtbpomeegpkdekaaAid
namespace Go.Proofs.Ytbpomeegpkdekaa
open Go.ChangeShapes Go.WideShapes Go.ChangeAt Go.RowKit Go.Joins Go.Deep
set_option linter.unusedVariables false

/-- the block b begins with these ints, and none of its cells is frozen -/
def IB (w : World) (b : Nat) (xs : List Int) : Prop := (∀ i, i < xs.length → w.cell? ⟨b, i, none⟩ = some (.int .i64 (xs.getD i 0))) ∧ (∀ o, w.frozen? ⟨b, o, none⟩ = false) ∧ b < w.heap.size
theorem IB.keep {w w' : World} {b : Nat} {xs : List Int} (h : IB w b xs) (hb : Below w.heap.size w w') : IB w' b xs :=
  ⟨fun i hi => cell_keep hb (h.1 i hi), fun o => (hb.frozen (p := ⟨b, o, none⟩) h.2.2).trans (h.2.1 o), Nat.lt_of_lt_of_le h.2.2 hb.size⟩
theorem IB.grown {w w' : World} {b : Nat} {xs : List Int} {row : Option Nat} (h : IB w b xs) (hg : w.grownBy w' row) (hn : some b ≠ row) : IB w' b xs :=
  ⟨fun i hi => hg.cell (h.1 i hi) hn, fun o => (World.frozen?_of_block (hg.block b h.2.2 hn)).trans (h.2.1 o), Nat.lt_of_lt_of_le h.2.2 hg.size⟩
theorem IB.set {w : World} {b i : Nat} {xs : List Int} (h : IB w b xs) (hi : i < xs.length) (y : Int) : IB (w.setCell ⟨b, i, none⟩ (.int .i64 y)) b (xs.set i y) := by
  refine ⟨fun j hj => ?_, fun o => by simpa using h.2.1 o, by simpa [World.setCell] using h.2.2⟩
  have hj' : j < xs.length := by simpa using hj
  by_cases e : i = j
  · subst e
    rw [World.cell?_setCell_same _ _ _ (h.1 i hi)]; simp [hi]
  · have hne : (⟨b, i, none⟩ : Addr) ≠ ⟨b, j, none⟩ := fun x => e (Addr.mk.inj x).2.1
    rw [World.cell?_setCell_other _ _ _ _ hne, h.1 j hj']
    simp [e]
theorem IB.off {w : World} {b c i : Nat} {xs : List Int} {v : Value} (h : IB w b xs) (hn : ¬ c = b) : IB (w.setCell ⟨c, i, none⟩ v) b xs :=
  ⟨fun j hj => by rw [World.cell?_setCell_other _ _ _ _ (fun x => hn (by simpa using congrArg Addr.block x))]; exact h.1 j hj, fun o => by simpa using h.2.1 o, by simpa [World.setCell] using h.2.2⟩
theorem ib_new (w : World) (xs : List Int) (t : TypeId) : IB (w.alloc (.cells (xs.map (Value.int .i64)).toArray t)) w.heap.size xs := by
  refine ⟨fun i hi => ?_, fun o => by simp, by simp⟩
  simp [hi]
theorem IB.drew {w : World} {b : Nat} {xs : List Int} (h : IB w b xs) : IB w.drew b xs := h.keep ((Below.refl _ _).drew)
theorem ib2 {w : World} {b : Nat} {y0 y1 : Int} (h : IB w b [y0, y1]) : w.cell? ⟨b, 0, none⟩ = some (.int .i64 y0) ∧ w.cell? ⟨b, 1, none⟩ = some (.int .i64 y1) :=
  ⟨h.1 0 (by simp), h.1 1 (by simp)⟩
theorem ibset2 {w : World} {b : Nat} {y0 y1 : Int} (v0 v1 : Int) (h : IB w b [y0, y1]) : IB ((w.setCell ⟨b, 0, none⟩ (.int .i64 v0)).setCell ⟨b, 1, none⟩ (.int .i64 v1)) b [v0, v1] := by
  have H := h.set (i := 0) (by simp) v0
  have H := H.set (i := 1) (by simp) v1
  simpa using H
theorem ib3 {w : World} {b : Nat} {y0 y1 y2 : Int} (h : IB w b [y0, y1, y2]) : w.cell? ⟨b, 0, none⟩ = some (.int .i64 y0) ∧ w.cell? ⟨b, 1, none⟩ = some (.int .i64 y1) ∧ w.cell? ⟨b, 2, none⟩ = some (.int .i64 y2) :=
  ⟨h.1 0 (by simp), h.1 1 (by simp), h.1 2 (by simp)⟩
theorem ibset3 {w : World} {b : Nat} {y0 y1 y2 : Int} (v0 v1 v2 : Int) (h : IB w b [y0, y1, y2]) : IB (((w.setCell ⟨b, 0, none⟩ (.int .i64 v0)).setCell ⟨b, 1, none⟩ (.int .i64 v1)).setCell ⟨b, 2, none⟩ (.int .i64 v2)) b [v0, v1, v2] := by
  have H := h.set (i := 0) (by simp) v0
  have H := H.set (i := 1) (by simp) v1
  have H := H.set (i := 2) (by simp) v2
  simpa using H
theorem ib4 {w : World} {b : Nat} {y0 y1 y2 y3 : Int} (h : IB w b [y0, y1, y2, y3]) : w.cell? ⟨b, 0, none⟩ = some (.int .i64 y0) ∧ w.cell? ⟨b, 1, none⟩ = some (.int .i64 y1) ∧ w.cell? ⟨b, 2, none⟩ = some (.int .i64 y2) ∧ w.cell? ⟨b, 3, none⟩ = some (.int .i64 y3) :=
  ⟨h.1 0 (by simp), h.1 1 (by simp), h.1 2 (by simp), h.1 3 (by simp)⟩
theorem ibset4 {w : World} {b : Nat} {y0 y1 y2 y3 : Int} (v0 v1 v2 v3 : Int) (h : IB w b [y0, y1, y2, y3]) : IB ((((w.setCell ⟨b, 0, none⟩ (.int .i64 v0)).setCell ⟨b, 1, none⟩ (.int .i64 v1)).setCell ⟨b, 2, none⟩ (.int .i64 v2)).setCell ⟨b, 3, none⟩ (.int .i64 v3)) b [v0, v1, v2, v3] := by
  have H := h.set (i := 0) (by simp) v0
  have H := H.set (i := 1) (by simp) v1
  have H := H.set (i := 2) (by simp) v2
  have H := H.set (i := 3) (by simp) v3
  simpa using H
end Go.Proofs.Ytbpomeegpkdekaa
