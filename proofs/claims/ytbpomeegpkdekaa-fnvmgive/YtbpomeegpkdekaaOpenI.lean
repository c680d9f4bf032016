/- What came in as a slice of ints, or of structs of ints, written out. Conditions: the fields are one cell each. -/
import Derived.Test.YtbpomeegpkdekaaIntRow
import Derived.Test.YtbpomeegpkdekaaAggInts
import Derived.Deep.SlicePairs
namespace Go.Proofs.Ytbpomeegpkdekaa
open Go.ChangeShapes Go.WideShapes Go.ChangeAt Go.RowKit Go.Joins Go.Deep
set_option linter.unusedVariables false

theorem rowI_of {k : Nat} {w : World} {x : Addr} {len cap : Nat} (hl : len ≤ cap) (hm : cap ≤ maxLen) (h : ∀ q, q < cap * k → ∃ z : Int, w.cell? (x.add q) = some (.int .i64 z)) : ∃ zs, IsRowI k w (some x) len cap zs := by
  obtain ⟨f, hf⟩ := choose_lt (α := Int) (p := fun q z => w.cell? (x.add q) = some (.int .i64 z)) h
  refine ⟨(List.range (cap * k)).map f, .inr ⟨x, rfl, hl, hm, by simp, fun i hi => ?_⟩⟩
  simp only [List.length_map, List.length_range] at hi
  rw [hf i hi]; simp [hi]

section
variable {P : Program} {w : World} {base : Nat} {H : Type} {enc : TypeId × Value → H} {held : Bool}
theorem open_intsI {t e : TypeId} {fuel : Nat} {c : Value} {x : DataW H × List MemPlace} (ht : P.underlying t = some (.slice e)) (he : P.underlying e = some (.int .i64)) (hc : P.cellsOf e = 1)
    (h : DataW.trod enc P w base (fun _ => true) held fuel t [c] = some x) : ∃ a len cap zs, c = .slice a len cap ∧ IsRowI 1 w a len cap zs := by
  rcases open_slice1 ht hc h with ⟨hcs, _⟩ | ⟨a, len, cap, m, n, V, D, Pl, hcs, _, hl, hm, hmm, _, hV⟩
  · simp only [List.cons.injEq, and_true] at hcs
    exact ⟨none, 0, 0, [], hcs, .inl ⟨rfl, rfl, rfl, rfl⟩⟩
  · simp only [List.cons.injEq, and_true] at hcs
    simp only [if_true] at hmm
    obtain ⟨zs, hz⟩ := rowI_of (k := 1) (w := w) (x := a) hl hm (fun q hq => by
      obtain ⟨h1, h2⟩ := hV q (by omega)
      obtain ⟨z, e1, _⟩ := DataW.trod_int he h2
      simp only [List.cons.injEq, and_true] at e1
      exact ⟨z, by rw [h1, e1]⟩)
    exact ⟨some a, len, cap, zs, hcs, hz⟩

theorem open_rowI {t e T : TypeId} {fs : Array Field} {fuel : Nat} {c : Value} {x : DataW H × List MemPlace} (ht : P.underlying t = some (.slice e)) (hs : P.underlying e = some (.struct fs)) (hone : oneCellFields P fs = true)
    (hT : P.underlying T = some (.int .i64)) (hall : fs.toList.all (fun f => f.type == T) = true) (hC : P.cellsOf e = fs.size) (hp : 0 < fs.size)
    (h : DataW.trod enc P w base (fun _ => true) held fuel t [c] = some x) : ∃ a len cap zs, c = .slice a len cap ∧ IsRowI fs.size w a len cap zs := by
  have hty : ∀ (i : Nat) (f : Field), fs[i]? = some f → P.underlying f.type = some (.int .i64) := by
    intro i f hf'
    have hm : f ∈ fs.toList := by
      rw [Array.mem_toList_iff]
      exact Array.mem_of_getElem? hf'
    have := List.all_eq_true.1 hall f hm
    rw [beq_iff_eq.1 this]; exact hT
  rcases open_slice ht h with ⟨hcs, _⟩ | ⟨a, len, cap, m, n, D, Pl, hcs, _, hl, hm, hmm, _, hx⟩
  · simp only [List.cons.injEq, and_true] at hcs
    exact ⟨none, 0, 0, [], hcs, .inl ⟨rfl, rfl, rfl, rfl⟩⟩
  · simp only [List.cons.injEq, and_true] at hcs
    simp only [if_true] at hmm
    have key : ∀ i, i < cap → ∀ j, j < fs.size → ∃ z : Int, w.cell? (a.add (i * fs.size + j)) = some (.int .i64 z) := by
      intro i hi j hj
      obtain ⟨cs', h1, h2⟩ := hx i (by omega)
      rw [hC] at h1
      obtain ⟨_, hlen, hcell⟩ := World.cells?_some h1
      obtain ⟨xs, n', _, _, _, hxl, hfi⟩ := DataW.trod_struct hs h2
      have hfs : fs[j]? = some fs[j] := Array.getElem?_eq_getElem hj
      obtain ⟨ho, hk⟩ := hone_of hone j _ hfs
      have hxj : xs[j]? = some (xs[j]'(by omega)) := List.getElem?_eq_getElem (by omega)
      have h3 := hfi j _ hfs
      rw [ho, hk, hxj] at h3
      obtain ⟨z, e, _, _⟩ := DataW.trod_int (hty j _ hfs) h3
      have h4 := congrArg (fun l : List Value => l[0]?) e
      simp only [List.getElem?_cons_zero] at h4
      rw [List.getElem?_take_of_lt (by omega), List.getElem?_drop] at h4
      simp only [Nat.add_zero] at h4
      have h5 := hcell j (by omega)
      rw [add_add] at h5
      exact ⟨z, by rw [h5]; exact h4⟩
    obtain ⟨zs, hz⟩ := rowI_of (k := fs.size) (w := w) (x := a) hl hm (fun q hq => by
      have hd := Nat.div_add_mod q fs.size
      have h1 : q / fs.size < cap := Nat.div_lt_of_lt_mul (by rw [Nat.mul_comm]; exact hq)
      obtain ⟨z, hz⟩ := key (q / fs.size) h1 (q % fs.size) (Nat.mod_lt _ hp)
      rw [Nat.mul_comm, hd] at hz
      exact ⟨z, hz⟩)
    exact ⟨some a, len, cap, zs, hcs, hz⟩
end
end Go.Proofs.Ytbpomeegpkdekaa
