/- Small lemmas on worlds and endings that the contracts lean on; of no program in particular. No conditions. -/
import Derived.WalkKit
import Derived.ProofKit
import Derived.OpenShut
import Derived.ShutString
import Derived.ChangeOld
import Derived.Below
import Derived.Lib.SmallJoins
import Derived.Handy
namespace Go.Proofs.Ytbpomeegpkdekaa
open Go.ChangeShapes Go.WideShapes Go.ChangeAt Go.RowKit Go.Joins
set_option linter.unusedVariables false

theorem hid {p : Prop} (h : p) : Hid p := h
theorem ret_int {k : IntKind} {a b : Int} (h : a = b) : Ending.returned (.int k a) = .returned (.int k b) := by rw [h]
theorem ret_bool {a b : Bool} (h : a = b) : Ending.returned (.bool a) = .returned (.bool b) := by rw [h]

theorem bcell {W w1 : World} (hb : Below W.heap.size W w1) : (∀ b o, b < W.heap.size → w1.cell? ⟨b, o, none⟩ = W.cell? ⟨b, o, none⟩) ∧ (∀ b o, b < W.heap.size → w1.frozen? ⟨b, o, none⟩ = W.frozen? ⟨b, o, none⟩) :=
  ⟨fun b o h => hb.cell (p := ⟨b, o, none⟩) h, fun b o h => hb.frozen (p := ⟨b, o, none⟩) h⟩

/-- a cell that is there is there behind whatever writes nothing old -/
theorem cell_keep {W w' : World} {a : Addr} {x : Value} (hb : Below W.heap.size W w') (h : W.cell? a = some x) : w'.cell? a = some x := by
  refine (hb.cell ?_).trans h
  rcases Nat.lt_or_ge a.block W.heap.size with h' | h'
  · exact h'
  · simp [World.cell?, Array.getElem?_eq_none h'] at h
theorem keep2 {W0 W w' : World} {a b : Addr} {x y : Value} (hS : W.cell? a = some x ∧ W.cell? b = some y ∧ Below W0.heap.size W0 W) (hb : Below W.heap.size W w') :
    w'.cell? a = some x ∧ w'.cell? b = some y ∧ Below W0.heap.size W0 w' :=
  ⟨cell_keep hb hS.1, cell_keep hb hS.2.1, hS.2.2.trans (hb.mono hS.2.2.size)⟩
theorem keep4 {n : Nat} {W0 W w' : World} {a b c d : Addr} {x y z t : Value} (hS : W.cell? a = some x ∧ W.cell? b = some y ∧ W.cell? c = some z ∧ W.cell? d = some t ∧ n < W.heap.size ∧ Below W0.heap.size W0 W) (hb : Below W.heap.size W w') :
    w'.cell? a = some x ∧ w'.cell? b = some y ∧ w'.cell? c = some z ∧ w'.cell? d = some t ∧ n < w'.heap.size ∧ Below W0.heap.size W0 w' :=
  ⟨cell_keep hb hS.1, cell_keep hb hS.2.1, cell_keep hb hS.2.2.1, cell_keep hb hS.2.2.2.1, Nat.lt_of_lt_of_le hS.2.2.2.2.1 hb.size, hS.2.2.2.2.2.trans (hb.mono hS.2.2.2.2.2.size)⟩
theorem cell_setCell_off {W : World} {a p : Addr} {v : Value} {n : Nat} (ha : a.block ≤ n) (hp : n < p.block) : (W.setCell p v).cell? a = W.cell? a :=
  World.cell?_setCell_other _ _ _ _ (by intro h; subst h; omega)
theorem keep4s {n : Nat} {W0 W : World} {a b c d p q : Addr} {x y z t u v : Value} (hS : W.cell? a = some x ∧ W.cell? b = some y ∧ W.cell? c = some z ∧ W.cell? d = some t ∧ n < W.heap.size ∧ Below W0.heap.size W0 W)
    (ha : a.block ≤ n) (hb : b.block ≤ n) (hc : c.block ≤ n) (hd : d.block ≤ n) (h0 : W0.heap.size ≤ n + 1) (hp : n < p.block) (hq : n < q.block) :
    ((W.setCell p u).setCell q v).cell? a = some x ∧ ((W.setCell p u).setCell q v).cell? b = some y ∧ ((W.setCell p u).setCell q v).cell? c = some z ∧ ((W.setCell p u).setCell q v).cell? d = some t ∧ n < ((W.setCell p u).setCell q v).heap.size ∧ Below W0.heap.size W0 ((W.setCell p u).setCell q v) := by
  rw [cell_setCell_off ha hq, cell_setCell_off ha hp, cell_setCell_off hb hq, cell_setCell_off hb hp, cell_setCell_off hc hq, cell_setCell_off hc hp, cell_setCell_off hd hq, cell_setCell_off hd hp]
  exact ⟨hS.1, hS.2.1, hS.2.2.1, hS.2.2.2.1, by simpa [World.setCell] using hS.2.2.2.2.1, (hS.2.2.2.2.2.setCell (by omega) _).setCell (by omega) _⟩
/-- two cells of a fresh block, stored one behind the other -/
theorem bcell3 {W w1 : World} (hb : Below W.heap.size W w1) : (∀ b o, b < W.heap.size → w1.cell? ⟨b, o, none⟩ = W.cell? ⟨b, o, none⟩) ∧ (∀ b o, b < W.heap.size → w1.frozen? ⟨b, o, none⟩ = W.frozen? ⟨b, o, none⟩) ∧ (∀ b, b < W.heap.size → b < w1.heap.size) :=
  ⟨fun b o h => hb.cell (p := ⟨b, o, none⟩) h, fun b o h => hb.frozen (p := ⟨b, o, none⟩) h, fun b h => Nat.lt_of_lt_of_le h hb.size⟩
end Go.Proofs.Ytbpomeegpkdekaa
