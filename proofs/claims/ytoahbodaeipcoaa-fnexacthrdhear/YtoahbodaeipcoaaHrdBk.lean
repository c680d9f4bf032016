/- Two rows of one's own in blocks of a stretch, as ONE fact: how they last, how they are read. Of no program in particular; no conditions beyond those that each lemma names. -/
import Derived.Test.YtoahbodaeipcoaaVBk
namespace Go.Proofs.Ytoahbodaeipcoaa
open Go.ChangeShapes Go.WideShapes Go.ChangeAt Go.RowKit Go.Joins Go.Deep
set_option linter.unusedVariables false

/-- the two rows lie in blocks from lo on, below hi, apart from each other -/
def Bk (e : TypeId) (w : World) (lo hi : Nat) (u v : Value) (n m : Nat) (xs ys : List Int) : Prop :=
  OwnI e 1 w lo u n xs ∧ OwnI e 1 w lo v m ys ∧ (∀ j, u.ownBlock = some j → v.ownBlock ≠ some j) ∧ (∀ j, (u.ownBlock = some j ∨ v.ownBlock = some j) → lo ≤ j ∧ j < hi)
theorem bk_mk {e : TypeId} {w : World} {lo n m : Nat} {u v : Value} {xs ys : List Int} (h1 : OwnI e 1 w lo u n xs) (h2 : OwnI e 1 w lo v m ys) (h3 : ∀ j, u.ownBlock = some j → v.ownBlock ≠ some j) : Bk e w lo w.heap.size u v n m xs ys :=
  ⟨h1, h2, h3, fun j hj => by rcases hj with hj | hj; exact h1.blk j hj; exact h2.blk j hj⟩
theorem Bk.keep {e : TypeId} {w w' : World} {lo hi n m : Nat} {u v : Value} {xs ys : List Int} (h : Bk e w lo hi u v n m xs ys) (hb : Below w.heap.size w w') : Bk e w' lo hi u v n m xs ys :=
  ⟨h.1.keep hb, h.2.1.keep hb, h.2.2.1, h.2.2.2⟩
theorem Bk.off {e : TypeId} {w w' : World} {lo hi a b n m : Nat} {u v : Value} {xs ys : List Int} {S : Nat → Prop} (h : Bk e w lo hi u v n m xs ys) (hg : Chg S w w') (hs : ∀ j, S j → a ≤ j ∧ j < b) (hd : hi ≤ a ∨ b ≤ lo) : Bk e w' lo hi u v n m xs ys :=
  ⟨h.1.chg hg (fun j hj hS => by have := h.2.2.2 j (.inl hj); have := hs j hS; omega), h.2.1.chg hg (fun j hj hS => by have := h.2.2.2 j (.inr hj); have := hs j hS; omega), h.2.2.1, h.2.2.2⟩
theorem VB.offR {w w' : World} {c a b : Nat} {vs : List Value} {S : Nat → Prop} (h : VB w c vs) (hg : Chg S w w') (hs : ∀ j, S j → a ≤ j ∧ j < b) (hd : c < a ∨ b ≤ c) : VB w' c vs :=
  h.chg hg (fun hS => by have := hs c hS; omega)
theorem below_off {w w' W : World} {n a b : Nat} {S : Nat → Prop} (h : Below n W w) (hg : Chg S w w') (hs : ∀ j, S j → a ≤ j ∧ j < b) (h1 : n ≤ a) (h2 : n ≤ w.heap.size) : Below n W w' :=
  below_chg h hg h2 (fun j hj => by have := hs j hj; omega)
theorem Bk.rd1 {e : TypeId} {w : World} {lo hi n m : Nat} {u v : Value} {xs ys : List Int} (h : Bk e w lo hi u v n m xs ys) (hn : n ≤ 2000000) : RdI 1 w u n xs := h.1.rd hn
theorem Bk.rd2 {e : TypeId} {w : World} {lo hi n m : Nat} {u v : Value} {xs ys : List Int} (h : Bk e w lo hi u v n m xs ys) (hn : m ≤ 2000000) : RdI 1 w v m ys := h.2.1.rd hn
/-- the rows marked: other numbers, the same places -/
theorem Bk.remark {e : TypeId} {w w' : World} {lo hi n m : Nat} {u v : Value} {xs ys xs' ys' : List Int} (h : Bk e w lo hi u v n m xs ys) (h1 : OwnI e 1 w' lo u n xs') (h2 : OwnI e 1 w' lo v m ys') : Bk e w' lo hi u v n m xs' ys' := ⟨h1, h2, h.2.2.1, h.2.2.2⟩
end Go.Proofs.Ytoahbodaeipcoaa
