/- A block of values: how it lasts, how a cell of it is written, how it is opened. Of no program in particular; no conditions beyond those that each lemma names. -/
import Derived.Test.YtbpomeegpkdekaaChg
namespace Go.Proofs.Ytbpomeegpkdekaa
open Go.ChangeShapes Go.WideShapes Go.ChangeAt Go.RowKit Go.Joins Go.Deep
set_option linter.unusedVariables false

/-- the block b begins with these values, and none of its cells is frozen -/
def VB (w : World) (b : Nat) (vs : List Value) : Prop := (∀ i, i < vs.length → w.cell? ⟨b, i, none⟩ = some (vs.getD i undef)) ∧ (∀ o, w.frozen? ⟨b, o, none⟩ = false) ∧ b < w.heap.size
theorem VB.keep {w w' : World} {b : Nat} {vs : List Value} (h : VB w b vs) (hb : Below w.heap.size w w') : VB w' b vs :=
  ⟨fun i hi => cell_keep hb (h.1 i hi), fun o => (hb.frozen (p := ⟨b, o, none⟩) h.2.2).trans (h.2.1 o), Nat.lt_of_lt_of_le h.2.2 hb.size⟩
theorem VB.chg {S : Nat → Prop} {w w' : World} {b : Nat} {vs : List Value} (h : VB w b vs) (hg : Chg S w w') (hn : ¬ S b) : VB w' b vs :=
  ⟨fun i hi => hg.cell hn (h.1 i hi), fun o => (World.frozen?_of_block (hg.block b h.2.2 hn)).trans (h.2.1 o), Nat.lt_of_lt_of_le h.2.2 hg.size⟩
theorem VB.grown {w w' : World} {b : Nat} {vs : List Value} {row : Option Nat} (h : VB w b vs) (hg : w.grownBy w' row) (hn : some b ≠ row) : VB w' b vs :=
  ⟨fun i hi => hg.cell (h.1 i hi) hn, fun o => (World.frozen?_of_block (hg.block b h.2.2 hn)).trans (h.2.1 o), Nat.lt_of_lt_of_le h.2.2 hg.size⟩
theorem VB.drew {w : World} {b : Nat} {vs : List Value} (h : VB w b vs) : VB w.drew b vs := h.keep ((Below.refl _ _).drew)
theorem VB.set {w : World} {b i : Nat} {vs : List Value} (h : VB w b vs) (hi : i < vs.length) (y : Value) : VB (w.setCell ⟨b, i, none⟩ y) b (vs.set i y) := by
  refine ⟨fun j hj => ?_, fun o => by simpa using h.2.1 o, by simpa [World.setCell] using h.2.2⟩
  have hj' : j < vs.length := by simpa using hj
  by_cases e : i = j
  · subst e
    rw [World.cell?_setCell_same _ _ _ (h.1 i hi)]; simp [hi]
  · have hne : (⟨b, i, none⟩ : Addr) ≠ ⟨b, j, none⟩ := fun x => e (Addr.mk.inj x).2.1
    rw [World.cell?_setCell_other _ _ _ _ hne, h.1 j hj']
    simp [e]
theorem VB.off {w : World} {b c i : Nat} {vs : List Value} {v : Value} (h : VB w b vs) (hn : ¬ c = b) : VB (w.setCell ⟨c, i, none⟩ v) b vs :=
  ⟨fun j hj => by rw [World.cell?_setCell_other _ _ _ _ (fun x => hn (by simpa using congrArg Addr.block x))]; exact h.1 j hj, fun o => by simpa using h.2.1 o, by simpa [World.setCell] using h.2.2⟩
theorem vb_new (w : World) (vs : List Value) (t : TypeId) : VB (w.alloc (.cells vs.toArray t)) w.heap.size vs := by
  refine ⟨fun i hi => ?_, fun o => by simp, by simp⟩
  simp [hi]
theorem vb1 {w : World} {b : Nat} {y0 : Value} (h : VB w b [y0]) : w.cell? ⟨b, 0, none⟩ = some y0 :=
  h.1 0 (by simp)
theorem vbset1 {w : World} {b : Nat} {y0 : Value} (v0 : Value) (h : VB w b [y0]) : VB (w.setCell ⟨b, 0, none⟩ v0) b [v0] := by
  have H := h.set (i := 0) (by simp) v0
  simpa using H
theorem vbchg1 {S : Nat → Prop} {w : World} {b : Nat} (v0 : Value) (hs : S b) : Chg S w (w.setCell ⟨b, 0, none⟩ v0) := by
  have H := Chg.refl S w
  have H := H.set (p := ⟨b, 0, none⟩) hs v0
  exact H
theorem vb2 {w : World} {b : Nat} {y0 y1 : Value} (h : VB w b [y0, y1]) : w.cell? ⟨b, 0, none⟩ = some y0 ∧ w.cell? ⟨b, 1, none⟩ = some y1 :=
  ⟨h.1 0 (by simp), h.1 1 (by simp)⟩
theorem vbset2 {w : World} {b : Nat} {y0 y1 : Value} (v0 v1 : Value) (h : VB w b [y0, y1]) : VB ((w.setCell ⟨b, 0, none⟩ v0).setCell ⟨b, 1, none⟩ v1) b [v0, v1] := by
  have H := h.set (i := 0) (by simp) v0
  have H := H.set (i := 1) (by simp) v1
  simpa using H
theorem vbchg2 {S : Nat → Prop} {w : World} {b : Nat} (v0 v1 : Value) (hs : S b) : Chg S w ((w.setCell ⟨b, 0, none⟩ v0).setCell ⟨b, 1, none⟩ v1) := by
  have H := Chg.refl S w
  have H := H.set (p := ⟨b, 0, none⟩) hs v0
  have H := H.set (p := ⟨b, 1, none⟩) hs v1
  exact H
theorem vb3 {w : World} {b : Nat} {y0 y1 y2 : Value} (h : VB w b [y0, y1, y2]) : w.cell? ⟨b, 0, none⟩ = some y0 ∧ w.cell? ⟨b, 1, none⟩ = some y1 ∧ w.cell? ⟨b, 2, none⟩ = some y2 :=
  ⟨h.1 0 (by simp), h.1 1 (by simp), h.1 2 (by simp)⟩
theorem vbset3 {w : World} {b : Nat} {y0 y1 y2 : Value} (v0 v1 v2 : Value) (h : VB w b [y0, y1, y2]) : VB (((w.setCell ⟨b, 0, none⟩ v0).setCell ⟨b, 1, none⟩ v1).setCell ⟨b, 2, none⟩ v2) b [v0, v1, v2] := by
  have H := h.set (i := 0) (by simp) v0
  have H := H.set (i := 1) (by simp) v1
  have H := H.set (i := 2) (by simp) v2
  simpa using H
theorem vbchg3 {S : Nat → Prop} {w : World} {b : Nat} (v0 v1 v2 : Value) (hs : S b) : Chg S w (((w.setCell ⟨b, 0, none⟩ v0).setCell ⟨b, 1, none⟩ v1).setCell ⟨b, 2, none⟩ v2) := by
  have H := Chg.refl S w
  have H := H.set (p := ⟨b, 0, none⟩) hs v0
  have H := H.set (p := ⟨b, 1, none⟩) hs v1
  have H := H.set (p := ⟨b, 2, none⟩) hs v2
  exact H
theorem vb4 {w : World} {b : Nat} {y0 y1 y2 y3 : Value} (h : VB w b [y0, y1, y2, y3]) : w.cell? ⟨b, 0, none⟩ = some y0 ∧ w.cell? ⟨b, 1, none⟩ = some y1 ∧ w.cell? ⟨b, 2, none⟩ = some y2 ∧ w.cell? ⟨b, 3, none⟩ = some y3 :=
  ⟨h.1 0 (by simp), h.1 1 (by simp), h.1 2 (by simp), h.1 3 (by simp)⟩
theorem vbset4 {w : World} {b : Nat} {y0 y1 y2 y3 : Value} (v0 v1 v2 v3 : Value) (h : VB w b [y0, y1, y2, y3]) : VB ((((w.setCell ⟨b, 0, none⟩ v0).setCell ⟨b, 1, none⟩ v1).setCell ⟨b, 2, none⟩ v2).setCell ⟨b, 3, none⟩ v3) b [v0, v1, v2, v3] := by
  have H := h.set (i := 0) (by simp) v0
  have H := H.set (i := 1) (by simp) v1
  have H := H.set (i := 2) (by simp) v2
  have H := H.set (i := 3) (by simp) v3
  simpa using H
theorem vbchg4 {S : Nat → Prop} {w : World} {b : Nat} (v0 v1 v2 v3 : Value) (hs : S b) : Chg S w ((((w.setCell ⟨b, 0, none⟩ v0).setCell ⟨b, 1, none⟩ v1).setCell ⟨b, 2, none⟩ v2).setCell ⟨b, 3, none⟩ v3) := by
  have H := Chg.refl S w
  have H := H.set (p := ⟨b, 0, none⟩) hs v0
  have H := H.set (p := ⟨b, 1, none⟩) hs v1
  have H := H.set (p := ⟨b, 2, none⟩) hs v2
  have H := H.set (p := ⟨b, 3, none⟩) hs v3
  exact H
theorem vb5 {w : World} {b : Nat} {y0 y1 y2 y3 y4 : Value} (h : VB w b [y0, y1, y2, y3, y4]) : w.cell? ⟨b, 0, none⟩ = some y0 ∧ w.cell? ⟨b, 1, none⟩ = some y1 ∧ w.cell? ⟨b, 2, none⟩ = some y2 ∧ w.cell? ⟨b, 3, none⟩ = some y3 ∧ w.cell? ⟨b, 4, none⟩ = some y4 :=
  ⟨h.1 0 (by simp), h.1 1 (by simp), h.1 2 (by simp), h.1 3 (by simp), h.1 4 (by simp)⟩
theorem vbset5 {w : World} {b : Nat} {y0 y1 y2 y3 y4 : Value} (v0 v1 v2 v3 v4 : Value) (h : VB w b [y0, y1, y2, y3, y4]) : VB (((((w.setCell ⟨b, 0, none⟩ v0).setCell ⟨b, 1, none⟩ v1).setCell ⟨b, 2, none⟩ v2).setCell ⟨b, 3, none⟩ v3).setCell ⟨b, 4, none⟩ v4) b [v0, v1, v2, v3, v4] := by
  have H := h.set (i := 0) (by simp) v0
  have H := H.set (i := 1) (by simp) v1
  have H := H.set (i := 2) (by simp) v2
  have H := H.set (i := 3) (by simp) v3
  have H := H.set (i := 4) (by simp) v4
  simpa using H
theorem vbchg5 {S : Nat → Prop} {w : World} {b : Nat} (v0 v1 v2 v3 v4 : Value) (hs : S b) : Chg S w (((((w.setCell ⟨b, 0, none⟩ v0).setCell ⟨b, 1, none⟩ v1).setCell ⟨b, 2, none⟩ v2).setCell ⟨b, 3, none⟩ v3).setCell ⟨b, 4, none⟩ v4) := by
  have H := Chg.refl S w
  have H := H.set (p := ⟨b, 0, none⟩) hs v0
  have H := H.set (p := ⟨b, 1, none⟩) hs v1
  have H := H.set (p := ⟨b, 2, none⟩) hs v2
  have H := H.set (p := ⟨b, 3, none⟩) hs v3
  have H := H.set (p := ⟨b, 4, none⟩) hs v4
  exact H
end Go.Proofs.Ytbpomeegpkdekaa
