/- A struct of a machine and a slice of bytes, by value, opened. Conditions: on the fields' types. -/
import Derived.Test.YtekbipnkcmjglaaOpenI
import Derived.Test.YtekbipnkcmjglaaBytes
namespace Go.Proofs.Ytekbipnkcmjglaa
open Go.ChangeShapes Go.WideShapes Go.ChangeAt Go.RowKit Go.Joins Go.Deep
set_option linter.unusedVariables false

theorem array5 {xs : Array Value} (h : xs.size = 5) : ∃ a b c d e, xs = #[a, b, c, d, e] := by
  obtain ⟨l⟩ := xs
  match l, h with
  | [a, b, c, d, e], _ => exact ⟨a, b, c, d, e, rfl⟩
theorem open_cel {P : Program} {w : World} {r : Reach} {b0 base : Nat} {H : Type} {enc : TypeId × Value → H} {held : Bool} {t e eb : TypeId} {f0 f1 g0 g1 g2 g3 : Field} {v : Value} {d : DataW H} {p : List MemPlace}
    (hs : P.underlying t = some (.struct #[f0, f1])) (hs0 : P.underlying f0.type = some (.struct #[g0, g1, g2, g3])) (hC : P.cellsOf t = 5) (hC0 : P.cellsOf f0.type = 4) (ho0 : f0.offset = 0) (ho1 : f1.offset = 4) (hC1 : P.cellsOf f1.type = 1) (hone : oneCellFields P #[g0, g1, g2, g3] = true)
    (hi0 : P.underlying g0.type = some (.int .i64)) (hi3 : P.underlying g3.type = some (.int .i64)) (h1 : P.underlying g1.type = some (.slice e)) (h2 : P.underlying g2.type = some (.slice e)) (he : P.underlying e = some (.int .i64)) (hce : P.cellsOf e = 1)
    (hb : P.underlying f1.type = some (.slice eb)) (heb : P.underlying eb = some (.int .u8)) (hceb : P.cellsOf eb = 1)
    (hv : Value.okWide P w r b0 t v) (h : DataW.Trod enc P w base (fun _ => true) held t v d p) :
    ∃ (pc : Int) (a1 : Option Addr) (nr c1 : Nat) (z1 : List Int) (a2 : Option Addr) (nm c2 : Nat) (z2 : List Int) (ht : Int) (a3 : Option Addr) (nb c3 : Nat) (z3 : List Int),
      v = .agg #[.int .i64 pc, .slice a1 nr c1, .slice a2 nm c2, .int .i64 ht, .slice a3 nb c3] ∧ IsRowI 1 w a1 nr c1 z1 ∧ IsRowI 1 w a2 nm c2 z2 ∧ IsRow .u8 w a3 nb c3 z3 := by
  obtain ⟨cs, rfl, hsz⟩ := okWide_struct hs hv
  obtain ⟨x0, x1, x2, x3, x4, rfl⟩ := array5 (hsz.trans hC)
  obtain ⟨fuel, hf⟩ := h
  obtain ⟨xs, n, _, _, _, hlen, hfi⟩ := DataW.trod_struct hs hf
  have hl2 : xs.length = 2 := hlen
  have k0 := hfi 0 f0 rfl
  have k1 := hfi 1 f1 rfl
  rw [ho0, hC0] at k0
  rw [ho1, hC1] at k1
  obtain ⟨y0, y1, rfl⟩ : ∃ a b, xs = [a, b] := by
    match xs, hl2 with
    | [a, b], _ => exact ⟨a, b, rfl⟩
  have k0' : DataW.trod enc P w base (fun _ => true) held n f0.type [x0, x1, x2, x3] = some y0 := by simpa [Value.cells] using k0
  have k1' : DataW.trod enc P w base (fun _ => true) held n f1.type [x4] = some y1 := by simpa [Value.cells] using k1
  obtain ⟨q0, q1, q2, q3, n', _, _, j0, j1, j2, j3⟩ := trod_struct4 hs0 k0'
  obtain ⟨o0, c0⟩ := hone_of hone 0 g0 rfl
  obtain ⟨o1, c1⟩ := hone_of hone 1 g1 rfl
  obtain ⟨o2, c2⟩ := hone_of hone 2 g2 rfl
  obtain ⟨o3, c3⟩ := hone_of hone 3 g3 rfl
  rw [o0, c0] at j0
  rw [o1, c1] at j1
  rw [o2, c2] at j2
  rw [o3, c3] at j3
  obtain ⟨pc, e0, _, _⟩ := DataW.trod_int hi0 (cs := [x0]) (by simpa using j0)
  obtain ⟨ht, e3, _, _⟩ := DataW.trod_int hi3 (cs := [x3]) (by simpa using j3)
  obtain ⟨a1, nr, d1, z1, rfl, r1⟩ := open_intsI h1 he hce (c := x1) (by simpa using j1)
  obtain ⟨a2, nm, d2, z2, rfl, r2⟩ := open_intsI h2 he hce (c := x2) (by simpa using j2)
  simp at e0 e3
  subst e0 e3
  rcases open_ints hb heb hceb k1' with ⟨hcs, _⟩ | ⟨x, l, c, zs, hcs, _, hl, hm, hz, _, hcell, hwz⟩
  · simp at hcs
    subst hcs
    exact ⟨pc, a1, nr, d1, z1, a2, nm, d2, z2, ht, none, 0, 0, [], rfl, r1, r2, .inl ⟨rfl, rfl, rfl, rfl⟩⟩
  · simp at hcs
    subst hcs
    exact ⟨pc, a1, nr, d1, z1, a2, nm, d2, z2, ht, some x, l, c, zs, rfl, r1, r2, .inr ⟨_, rfl, hl, hm, by simpa using hz, hcell, hwz⟩⟩
end Go.Proofs.Ytekbipnkcmjglaa
