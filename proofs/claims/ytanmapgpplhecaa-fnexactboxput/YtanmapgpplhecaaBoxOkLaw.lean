/- BoxOk answers at every box as the specification does, writes into no argument and keeps nothing of one. No conditions. -/
import Derived.Test.YtanmapgpplhecaaBoxOk
namespace Go.Proofs.Ytanmapgpplhecaa
open Go.ChangeShapes Go.WideShapes Go.ChangeAt Go.RowKit Go.Joins Go.Deep
set_option linter.unusedVariables false
theorem RdS.lens {w : World} {v : Value} {yss : List (List Int)} (h : RdS w v yss) : ∀ i, i < yss.length → (yss.getD i []).length ≤ 2000000 := by
  intro i hi
  obtain ⟨_, a, cap, hv, h3⟩ := h
  rcases h3 with rfl | ⟨b, off, ha, hc⟩
  · simp at hi
  · obtain ⟨u, _, hr⟩ := hc i hi
    exact hr.2.1
theorem open_rowS {P : Program} {w : World} {base : Nat} {H : Type} {enc : TypeId × Value → H} {held : Bool} {t e b : TypeId} {fuel : Nat} {c : Value} {x : DataW H × List MemPlace} (ht : P.underlying t = some (.slice e)) (hc : P.cellsOf e = 1) (he : P.underlying e = some (.slice b)) (hb : P.underlying b = some (.int .u8)) (hcb : P.cellsOf b = 1)
    (h : DataW.trod enc P w base (fun _ => true) held fuel t [c] = some x) : ∃ a len cap, c = .slice a len cap ∧ IsRowS w a len cap := by
  rcases open_slice1 ht hc h with ⟨hcs, _⟩ | ⟨a, len, cap, m, n, V, D, Pl, hcs, _, hl, hm, hmm, _, hV⟩
  · simp only [List.cons.injEq, and_true] at hcs
    exact ⟨none, 0, 0, hcs, .inl ⟨rfl, rfl, rfl⟩⟩
  · simp only [List.cons.injEq, and_true] at hcs
    simp only [if_true] at hmm
    refine ⟨some a, len, cap, hcs, .inr ⟨a, rfl, hl, hm, fun i hi => ?_⟩⟩
    obtain ⟨h1, h2⟩ := hV i (by omega)
    rcases open_ints he hb hcb h2 with ⟨hcs', _⟩ | ⟨x', l, c', zs, hcs', _, hl', hm', hz, _, hcell, hwz⟩
    · simp only [List.cons.injEq, and_true] at hcs'
      exact ⟨none, 0, 0, [], by rw [h1, hcs'], .inl ⟨rfl, rfl, rfl, rfl⟩⟩
    · simp only [List.cons.injEq, and_true] at hcs'
      exact ⟨some x', l, c', zs, by rw [h1, hcs'], .inr ⟨_, rfl, hl', hm', by simpa using hz, hcell, hwz⟩⟩
end Go.Proofs.Ytanmapgpplhecaa
namespace Go.Proofs.Ytanmapgpplhecaa.fnExactBoxOk
open Go.ChangeShapes Go.WideShapes Go.ChangeAt Go.RowKit Go.Joins Go.Deep
set_option linter.unusedVariables false
set_option maxRecDepth 4000
set_option maxHeartbeats 4000000 in
theorem walk (d : Int) (a : Option Addr) (n cap : Nat) (w : World) (k0 : IsRowS w a n cap) :
    Calls Try.prog 9 #[.agg #[.int .i64 d, .slice a n cap]] w fun e w' => e = .returned (.bool true) ∧ Below w.heap.size w w' := by
  have m0 := k0.max
  obtain ⟨A, L, C, Z, h1, h2⟩ := k0.at
  have hLm : ∀ i, i < n → L i ≤ 9223372036854775807 := fun i hi => by have := (h1 i hi).max; omega
  have H2 : Hid (n = 0 ∨ ∃ b off, a = some ⟨b, off, none⟩ ∧ ∀ i, i < n → (w.alloc (.cells #[.int .i64 d, .slice a n cap] 51)).cell? ⟨b, off + i, none⟩ = some (.slice (A i) (L i) (C i))) := hid (by
    rcases h2 with h2 | ⟨b, off, ha, hc⟩
    · exact .inl h2
    · exact .inr ⟨b, off, ha, fun i hi => cell_keep (below_alloc1 w _) (hc i hi)⟩)
  have H1 := hid h1
  have H20 := hid h2
  have HLM := hid hLm
  have B := hid (below_alloc1 w (.cells #[.int .i64 d, .slice a n cap] 51))
  have q0 : (w.alloc (.cells #[.int .i64 d, .slice a n cap] 51)).cell? ⟨w.heap.size, 0, none⟩ = some (.int .i64 d) := by go_simp
  have q1 : (w.alloc (.cells #[.int .i64 d, .slice a n cap] 51)).cell? ⟨w.heap.size, 1, none⟩ = some (.slice a n cap) := by go_simp
  clear k0 h1 h2 hLm
  go_enter Try.func9, Try.ntmps9
  go_wp2_with fail
  refine (szBox_any d a n cap A L C _ m0 HLM.out H2.out).mono ?_
  rintro e w1 ⟨⟨r, rfl, hr⟩, b1⟩
  rcases hr with rfl | ⟨r0, hn, hall⟩
  · have B := hid (B.out.trans (b1.mono B.out.size))
    clear H2 b1 H1 H20 HLM
    go_wp2
    go_ret
    exact ⟨rfl, B.out⟩
  · obtain ⟨yss, hyl, hrd⟩ := rdS_of (cap := cap) H1.out H20.out hn hall
    have d1 : decide (r < 0) = false := by simp; omega
    subst hyl
    have NL := hid hrd.lens
    have RV := hid (hrd.keep B.out)
    clear H2 H1 H20 HLM hall hrd
    have q0 := cell_keep b1 q0
    have q1 := cell_keep b1 q1
    have RV := hid (RV.out.keep b1)
    have B := hid (B.out.trans (b1.mono B.out.size))
    clear b1
    go_wp2_with fail
    refine (toBox_any d _ yss _ RV.out).mono ?_
    rintro e w2 ⟨g2, f2, rfl, _, o2, b2⟩
    have P2 := hid (o2.rd (by omega) NL.out)
    clear o2
    have q0 := cell_keep b2 q0
    have q1 := cell_keep b2 q1
    have RV := hid (RV.out.keep b2)
    have B := hid (B.out.trans (b2.mono B.out.size))
    clear b2
    go_wp2_with fail
    refine (specBoxOk_any d _ yss _ P2.out).mono ?_
    rintro e w3 ⟨rfl, b3⟩
    clear P2
    have q0 := cell_keep b3 q0
    have q1 := cell_keep b3 q1
    have RV := hid (RV.out.keep b3)
    have B := hid (B.out.trans (b3.mono B.out.size))
    clear b3
    go_wp2_with fail
    refine (toBox_any d _ yss _ RV.out).mono ?_
    rintro e w4 ⟨g4, f4, rfl, _, o4, b4⟩
    have q0 := cell_keep b4 q0
    have q1 := cell_keep b4 q1
    have RV := hid (RV.out.keep b4)
    have B := hid (B.out.trans (b4.mono B.out.size))
    clear b4
    have A4 := hid (below_alloc1 w4 (.cells #[.int .i64 d, .slice (some ⟨g4, 0, none⟩) yss.length yss.length] 25))
    have x0 : (w4.alloc (.cells #[.int .i64 d, .slice (some ⟨g4, 0, none⟩) yss.length yss.length] 25)).cell? ⟨w4.heap.size, 0, none⟩ = some (.int .i64 d) := by go_simp
    have x1 : (w4.alloc (.cells #[.int .i64 d, .slice (some ⟨g4, 0, none⟩) yss.length yss.length] 25)).cell? ⟨w4.heap.size, 1, none⟩ = some (.slice (some ⟨g4, 0, none⟩) yss.length yss.length) := by go_simp
    have q0 := cell_keep A4.out q0
    have q1 := cell_keep A4.out q1
    have RV := hid (RV.out.keep A4.out)
    have X := hid ((o4.keep A4.out).rd (by omega) NL.out)
    have B := hid (B.out.trans (A4.out.mono B.out.size))
    clear o4
    go_wp2_with fail
    refine (boxOk_any d _ yss _ X.out).mono ?_
    rintro e w5 ⟨rfl, b5⟩
    have X := hid (X.out.keep b5)
    have x0 := cell_keep b5 x0
    have x1 := cell_keep b5 x1
    have q0 := cell_keep b5 q0
    have q1 := cell_keep b5 q1
    have RV := hid (RV.out.keep b5)
    have B := hid (B.out.trans (b5.mono B.out.size))
    clear b5
    have RV := hid (RV.out.keep (Below.refl _ w5).drew)
    have X := hid (X.out.keep (Below.refl _ w5).drew)
    have Bd := hid B.out.drew
    go_wp2_with fail
    go_region_with ((first
      | (go_at_call 41; refine (toBox_any d _ yss _ RV.out).mono ?_; rintro e w6 ⟨g6, f6, rfl, _, o6, b6⟩; have P6 := hid (o6.rd (by omega) NL.out); have Y := hid (X.out.keep b6); have x0 := cell_keep b6 (show w5.drew.cell? ⟨w4.heap.size, 0, none⟩ = _ from x0); have x1 := cell_keep b6 (show w5.drew.cell? ⟨w4.heap.size, 1, none⟩ = _ from x1); have B6 := hid (Bd.out.trans (b6.mono Bd.out.size)))
      | (go_at_call 37; refine (eqBox_same d _ _ yss _ Y.out P6.out).mono ?_; rintro e w7 ⟨rfl, b7⟩; have B7 := hid (B6.out.trans (b7.mono B6.out.size)))))
    all_goals (go_wp2; go_ret; exact ⟨rfl, B7.out⟩)
end Go.Proofs.Ytanmapgpplhecaa.fnExactBoxOk
