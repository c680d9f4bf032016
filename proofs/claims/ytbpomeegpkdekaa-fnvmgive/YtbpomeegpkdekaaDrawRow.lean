/- Draws with rows of one's own: the world of a draw when another row has been written, a cell of another block. Conditions: those that each lemma names. -/
import Derived.Test.YtbpomeegpkdekaaRegX
import Derived.Test.YtbpomeegpkdekaaChg
namespace Go.Proofs.Ytbpomeegpkdekaa
open Go.ChangeShapes Go.WideShapes Go.ChangeAt Go.RowKit Go.Joins Go.Deep
set_option linter.unusedVariables false
set_option linter.unusedSimpArgs false
set_option maxRecDepth 4000
theorem DW.keep {W w0 w w' : World} {g lo p K n : Nat} {Rs : List (Nat × Nat)} (h : DW W w0 g lo p K Rs n w) (hb : Below w.heap.size w w') : DW W w0 g lo p K Rs n w' := by
  obtain ⟨⟨q, h1, h2⟩, h3, h4, h5, h6, h7⟩ := h
  have hg : w.grownBy w' (some g) := ⟨hb.os, hb.tape, hb.output, hb.size, fun k hk _ => hb.block k hk⟩
  exact ⟨⟨q, h1, h2.keep hb⟩, gtrans h3 hg, h4, Nat.le_trans h5 hb.size, fun x hx => ext_grown hg _ _ (h6 x hx), h7⟩
/-- another row has been written -/
theorem DW.row {W w0 w w' : World} {g lo p K n c : Nat} (h : DW W w0 g lo p K [] n w) (hg : w.grownBy w' (some c)) (h1 : ¬ c = g) (h2 : lo ≤ c) (h0 : w0.heap.size ≤ c) : DW W w0 g lo p K [] n w' := by
  have hlt := h.rd_lt
  obtain ⟨⟨q, e1, v, xs, e2, e3, e4, e5, e6, e7⟩, h3, h4, h5, h6, h7⟩ := h
  have hne : some g ≠ some c := fun e => h1 (by simpa using e.symm)
  refine ⟨⟨q, e1, v, xs, e2, e3.grown hg (by omega) (fun k hk => by simp at hk; omega), e4, hg.cell e5 hne, hg.cell e6 hne, (World.frozen?_of_block (hg.block g hlt hne)).trans e7⟩, ⟨hg.os.trans h3.os, hg.tape.trans h3.tape, hg.output.trans h3.output, Nat.le_trans h3.size hg.size, fun k hk hn => (hg.block k (by omega) (by simp; omega)).trans (h3.block k hk hn)⟩, h4, Nat.le_trans h5 hg.size, fun x hx => (by cases hx), h7⟩
theorem DW.setV {W w0 w : World} {g lo p K n b i : Nat} (h : DW W w0 g lo p K [] n w) (v : Value) (hg : ¬ b = g) (hl : lo ≤ b) (hc : w0.heap.size ≤ b) : DW W w0 g lo p K [] n (w.setCell ⟨b, i, none⟩ v) := by
  obtain ⟨⟨q, h1, h2⟩, h3, h4, h5, h6, h7⟩ := h
  exact ⟨⟨q, h1, rdr_setN h2 hg (by omega) _⟩, gset h3 hc _, h4, by simpa [World.setCell] using h5, fun x hx => (by cases hx), h7⟩
theorem ownI_setOff {e : TypeId} {k n B c i : Nat} {w : World} {u x : Value} {xs : List Int} (h : OwnI e k w B u n xs) (hc : u.ownBlock ≠ some c) : OwnI e k (w.setCell ⟨c, i, none⟩ x) B u n xs :=
  ownsRow_setCell_other h (a := ⟨c, i, none⟩) hc x
theorem idx_row {q n c k : Nat} (hk : k < n) (w : World) : (Instr.indexAt 23 (.slice (some ⟨q, 0, none⟩) n c) (.int .i64 (k : Int))).run Try.prog w = .ok (.pointer (some ⟨q, k, none⟩)) w := by
  have h0 : (0 : Int) ≤ (k : Int) := by omega
  have h1 : (k : Int) < (n : Int) := by omega
  go_simp
end Go.Proofs.Ytbpomeegpkdekaa
