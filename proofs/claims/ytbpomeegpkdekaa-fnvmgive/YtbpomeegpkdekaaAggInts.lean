/- A struct by value whose fields are all ints: its value, written out. Conditions: the fields are one cell each. -/
import Derived.Test.YtbpomeegpkdekaaAid
namespace Go.Proofs.Ytbpomeegpkdekaa
open Go.ChangeShapes Go.WideShapes Go.ChangeAt Go.RowKit Go.Joins Go.Deep
set_option linter.unusedVariables false

theorem open_aggI {P : Program} {w : World} {r : Reach} {b0 base : Nat} {H : Type} {enc : TypeId × Value → H} {spare : Nat → Bool} {held : Bool} {t : TypeId} {fs : Array Field} {v : Value} {d : DataW H} {p : List MemPlace}
    (hs : P.underlying t = some (.struct fs)) (hone : oneCellFields P fs = true) {T : TypeId} (hT : P.underlying T = some (.int .i64)) (hall : fs.toList.all (fun f => f.type == T) = true) (hC : P.cellsOf t = fs.size)
    (hv : Value.okWide P w r b0 t v) (h : DataW.Trod enc P w base spare held t v d p) :
    ∃ qs : List Int, qs.length = fs.size ∧ v = .agg (qs.map (Value.int .i64)).toArray ∧ ∀ a ∈ qs, (Lit.int .i64 a).wf = true := by
  obtain ⟨cs, rfl, hsz⟩ := okWide_struct hs hv
  obtain ⟨fuel, hf⟩ := h
  obtain ⟨xs, n, _, _, hl, hlen, hfi⟩ := DataW.trod_struct hs hf
  have hsz' : cs.size = fs.size := hsz.trans hC
  have hty : ∀ (i : Nat) (f : Field), fs[i]? = some f → P.underlying f.type = some (.int .i64) := by
    intro i f hf'
    have hm : f ∈ fs.toList := by
      rw [Array.mem_toList_iff]
      exact Array.mem_of_getElem? hf'
    have := List.all_eq_true.1 hall f hm
    rw [beq_iff_eq.1 this]; exact hT
  have key : ∀ i (hi : i < cs.size), ∃ a : Int, cs[i] = .int .i64 a ∧ (Lit.int .i64 a).wf = true := by
    intro i hi
    have hfs : fs[i]? = some fs[i] := Array.getElem?_eq_getElem (by omega)
    obtain ⟨ho, hk⟩ := hone_of hone i _ hfs
    have hx : xs[i]? = some (xs[i]'(by omega)) := List.getElem?_eq_getElem (by omega)
    have h1 := hfi i _ hfs
    rw [ho, hk, hx] at h1
    obtain ⟨a, e, _, hw⟩ := DataW.trod_int (hty i _ hfs) h1
    refine ⟨a, ?_, hw⟩
    have hc : (Value.agg cs).cells.toList = cs.toList := rfl
    rw [hc] at e
    have h2 := congrArg (fun l : List Value => l[0]?) e
    simp only [List.getElem?_cons_zero] at h2
    rw [List.getElem?_take_of_lt (by omega), List.getElem?_drop] at h2
    simp only [Nat.add_zero, Array.getElem?_toList] at h2
    rw [Array.getElem?_eq_getElem hi] at h2
    exact Option.some.inj h2
  refine ⟨cs.toList.map intOf, by simp [hsz'], ?_, ?_⟩
  · congr 1
    apply Array.ext
    · simp
    · intro i h1 h2
      obtain ⟨a, e, _⟩ := key i h1
      simp [e, intOf]
  · intro a ha
    simp only [List.mem_map, Array.mem_toList_iff] at ha
    obtain ⟨x, hx, rfl⟩ := ha
    obtain ⟨i, hi, rfl⟩ := Array.mem_iff_getElem.1 hx
    obtain ⟨a, e, hw⟩ := key i hi
    rw [e]; exact hw
theorem list_3 {qs : List Int} (h : qs.length = 3) : ∃ a b c, qs = [a, b, c] := by
  match qs, h with
  | [a, b, c], _ => exact ⟨a, b, c, rfl⟩
theorem list_4 {qs : List Int} (h : qs.length = 4) : ∃ a b c d, qs = [a, b, c, d] := by
  match qs, h with
  | [a, b, c, d], _ => exact ⟨a, b, c, d, rfl⟩
theorem list_7 {qs : List Int} (h : qs.length = 7) : ∃ a b c d e f g, qs = [a, b, c, d, e, f, g] := by
  match qs, h with
  | [a, b, c, d, e, f, g], _ => exact ⟨a, b, c, d, e, f, g, rfl⟩
theorem list_8 {qs : List Int} (h : qs.length = 8) : ∃ a b c d e f g i, qs = [a, b, c, d, e, f, g, i] := by
  match qs, h with
  | [a, b, c, d, e, f, g, i], _ => exact ⟨a, b, c, d, e, f, g, i, rfl⟩
end Go.Proofs.Ytbpomeegpkdekaa
