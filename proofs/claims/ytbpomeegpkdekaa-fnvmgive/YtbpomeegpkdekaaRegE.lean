/- A region of a draw where more is said of some operations' values than their kinds. Conditions: those that each lemma names. -/
import Derived.Test.YtbpomeegpkdekaaRegX
namespace Go.Proofs.Ytbpomeegpkdekaa
open Go.ChangeShapes Go.WideShapes Go.ChangeAt Go.RowKit Go.Joins Go.Deep
set_option linter.unusedVariables false
set_option linter.unusedSimpArgs false
set_option maxRecDepth 4000
/-- facts of kinds, and one thing more of each operation -/
def FE (g lo : Nat) (tys : List Ty) (E : Nat → Value → World → Prop) (j : Nat) (v : Value) (w : World) : Prop := Fs g lo tys j v w ∧ E j v w
def EStands (g : Nat) (E : Nat → Value → World → Prop) : Prop := ∀ j v w w', w.grownBy w' (some g) → E j v w → E j v w'
section
variable {ops : Array Oper} {a0 : Act} {W w0 : World} {g lo p K : Nat} {Rs : List (Nat × Nat)} {tys : List Ty} {X : World → Prop} {E : Nat → Value → World → Prop}
theorem fe_at {o : Oper} {a : Act} {w : World} (hat : At ops a0 (FE g lo tys E) o a w) : At ops a0 (Fs g lo tys) o a w := ⟨fun j hj => (hat.1 j hj).1, hat.2⟩
theorem fe_in {o : Oper} {a : Act} {w : World} {s j : Nat} (hat : At ops a0 (FE g lo tys E) o a w) (hw : waits o j = true) (hs : (ops[j]?).bind (·.dst) = some s) : E j (a.tmps[s]?.getD undef) w := (at_in hat hw hs).2
theorem fe_lift {i : Nat} {o : Oper} (hX : Stands g X) (hE : EStands g E) (hi : ∀ v w, E i v w) (h : ∀ w0 : World, lo ≤ w0.heap.size → ObW Try.prog ops a0 (Fs g lo tys) (DW W w0 g lo p K Rs) i o) :
    ObW Try.prog ops a0 (FE g lo tys E) (DV W w0 g lo p K Rs X) i o := by
  intro n a w hn hI hat
  refine Oper.wp_to ?_ (h w (Nat.le_trans hI.1.2.2.1 hI.1.2.2.2.1) n a w hn hI.1.rebase (fe_at hat))
  rintro a' w' ⟨v, rfl, hv, hD, hF⟩
  exact ⟨v, rfl, ⟨hv, hi _ _⟩, ⟨hI.1.onto hD, hX w w' hD.2.1 hI.2⟩, fun j u hj hu => ⟨hF j u hj hu.1, hE j u w w' hD.2.1 hu.2⟩⟩
end
end Go.Proofs.Ytbpomeegpkdekaa
