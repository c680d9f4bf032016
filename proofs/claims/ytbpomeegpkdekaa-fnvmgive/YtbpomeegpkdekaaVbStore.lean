/- A struct is stored whole into a block of its size. Conditions: those that each lemma names. -/
import Derived.Test.YtbpomeegpkdekaaChg
import Derived.Test.YtbpomeegpkdekaaVBk
import Derived.Deep.MidRow
namespace Go.Proofs.Ytbpomeegpkdekaa
theorem chg_setCellsL (b : Nat) : ∀ (vs : List Value) (o : Nat) (w : World), Chg (fun j => j = b) w (w.setCells b o vs)
  | [], _, w => Chg.refl _ w
  | v :: r, o, w => Chg.trans ((Chg.refl (fun j => j = b) w).set (p := ⟨b, o, none⟩) rfl v) (chg_setCellsL b r (o + 1) _)
theorem vb_store {w : World} {b : Nat} {vs vs' : List Value} (h : VB w b vs) (hl : vs'.length = vs.length) : VB (w.setCells b 0 vs') b vs' := by
  have hc := chg_setCellsL b vs' 0 w
  refine ⟨fun i hi => ?_, fun o => ?_, Nat.lt_of_lt_of_le h.2.2 hc.size⟩
  · have := World.cell?_setCells_in b vs' 0 w (fun j hj => by rw [Nat.zero_add, h.1 j (by omega)]; rfl) i hi
    rw [Nat.zero_add] at this
    rw [this, List.getD_eq_getElem?_getD, List.getElem?_eq_getElem hi]
    rfl
  · rw [World.frozen?_setCells]
    exact h.2.1 o
theorem there_of {w : World} {b n : Nat} {vs : List Value} (h : VB w b vs) (hn : vs.length = n) : w.there b 0 n := by
  intro j hj
  rw [Nat.zero_add, h.1 j (by omega)]
  exact ⟨rfl, h.2.1 j⟩
end Go.Proofs.Ytbpomeegpkdekaa
