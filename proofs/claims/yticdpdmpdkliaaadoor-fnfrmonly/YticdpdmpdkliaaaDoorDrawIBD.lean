/- A block of ints: how it lasts and how a cell of it is written. Of no program in particular; no conditions beyond those that each lemma names. -/
import Derived.Test.YticdpdmpdkliaaaDoorDrawRaw
namespace Go.Proofs.YticdpdmpdkliaaaDoor
open Go.ChangeShapes Go.WideShapes Go.ChangeAt Go.RowKit Go.Joins Go.Deep
set_option linter.unusedVariables false

/-- the block b begins with these ints, and none of its cells is frozen -/
def IB (w : World) (b : Nat) (xs : List Int) : Prop := (∀ i, i < xs.length → w.cell? ⟨b, i, none⟩ = some (.int .i64 (xs.getD i 0))) ∧ (∀ o, w.frozen? ⟨b, o, none⟩ = false) ∧ b < w.heap.size
theorem IB.keep {w w' : World} {b : Nat} {xs : List Int} (h : IB w b xs) (hb : Below w.heap.size w w') : IB w' b xs :=
  ⟨fun i hi => cell_keep hb (h.1 i hi), fun o => (hb.frozen (p := ⟨b, o, none⟩) h.2.2).trans (h.2.1 o), Nat.lt_of_lt_of_le h.2.2 hb.size⟩
theorem IB.grown {w w' : World} {b : Nat} {xs : List Int} {row : Option Nat} (h : IB w b xs) (hg : w.grownBy w' row) (hn : some b ≠ row) : IB w' b xs :=
  ⟨fun i hi => hg.cell (h.1 i hi) hn, fun o => (World.frozen?_of_block (hg.block b h.2.2 hn)).trans (h.2.1 o), Nat.lt_of_lt_of_le h.2.2 hg.size⟩
theorem IB.set {w : World} {b i : Nat} {xs : List Int} (h : IB w b xs) (hi : i < xs.length) (y : Int) : IB (w.setCell ⟨b, i, none⟩ (.int .i64 y)) b (xs.set i y) := by
  refine ⟨fun j hj => ?_, fun o => by simpa using h.2.1 o, by simpa [World.setCell] using h.2.2⟩
  have hj' : j < xs.length := by simpa using hj
  by_cases e : i = j
  · subst e
    rw [World.cell?_setCell_same _ _ _ (h.1 i hi)]; simp [hi]
  · have hne : (⟨b, i, none⟩ : Addr) ≠ ⟨b, j, none⟩ := fun x => e (Addr.mk.inj x).2.1
    rw [World.cell?_setCell_other _ _ _ _ hne, h.1 j hj']
    simp [e]
theorem IB.off {w : World} {b c i : Nat} {xs : List Int} {v : Value} (h : IB w b xs) (hn : ¬ c = b) : IB (w.setCell ⟨c, i, none⟩ v) b xs :=
  ⟨fun j hj => by rw [World.cell?_setCell_other _ _ _ _ (fun x => hn (by simpa using congrArg Addr.block x))]; exact h.1 j hj, fun o => by simpa using h.2.1 o, by simpa [World.setCell] using h.2.2⟩
theorem ib_new (w : World) (xs : List Int) (t : TypeId) : IB (w.alloc (.cells (xs.map (Value.int .i64)).toArray t)) w.heap.size xs := by
  refine ⟨fun i hi => ?_, fun o => by simp, by simp⟩
  simp [hi]
theorem rdr_setB {W w : World} {g p : Nat} (h : Rdr W w g p) {q : Addr} (hq : g < q.block) (v : Value) : Rdr W (w.setCell q v) g p := by
  obtain ⟨u, xs, h1, h2, h3, h4, h5, h6⟩ := h
  have hne : ∀ o, q ≠ ⟨g, o, none⟩ := fun o e => by subst e; simp at hq
  refine ⟨u, xs, h1, h2.setCell (by omega) _, h3, ?_, ?_, ?_⟩
  · rw [World.cell?_setCell_other _ _ _ _ (hne 0)]; exact h4
  · rw [World.cell?_setCell_other _ _ _ _ (hne 1)]; exact h5
  · simpa using h6
theorem rdr_drew {W w : World} {g p : Nat} (h : Rdr W w g p) : Rdr W w.drew g p := h.keep ((Below.refl _ _).drew)
theorem IB.drew {w : World} {b : Nat} {xs : List Int} (h : IB w b xs) : IB w.drew b xs := h.keep ((Below.refl _ _).drew)
theorem row_at (L : List Int) (i : Nat) : ∃ m : Int, ∀ h, (L.map (Value.int .i64))[i]'h = .int .i64 m := ⟨L.getD i 0, fun h => by simp at h; simp [h]⟩
/-- pick's contract with what it says kept out of the walk's sight -/
theorem pick_h (n : Int) (W w : World) (g p : Nat) (hr : Rdr W w g p) (hp : p < 1000000) (n1 : 1 ≤ n) (n2 : n ≤ 1000000) :
    Calls Tryd.prog 39 #[.pointer (some ⟨g, 0, none⟩), .int .i64 n] w fun e w' => ∃ x : Int, e = .returned (.int .i64 x) ∧ 0 ≤ x ∧ x < n ∧ Hid (Rdr W w' g (p + 1)) ∧ Hid (∀ b o, ¬ b = g → w'.cell? ⟨b, o, none⟩ = w.cell? ⟨b, o, none⟩) ∧ Hid (w'.heap.size = w.heap.size) ∧ Hid (w.grownBy w' (some g)) := by
  refine (pick_any n W w g p hr hp n1 n2).mono ?_
  rintro e w' ⟨x, h1, h2, h3, h4, h5, h6, h7, h8⟩
  exact ⟨x, h1, h2, h3, h4, h5, h7, h8⟩
theorem gdrew {a b : World} {g : Nat} (h : a.grownBy b (some g)) : a.grownBy b.drew (some g) := ⟨h.os, h.tape, h.output, h.size, h.block⟩
end Go.Proofs.YticdpdmpdkliaaaDoor
