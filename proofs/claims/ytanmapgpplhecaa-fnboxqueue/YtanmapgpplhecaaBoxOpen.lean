/- A box opened into a ring: the contract of boxOpen. Conditions: the items read as lists of bytes, there are at most Depth of them, and Depth lies in 1..4. -/
import Derived.Test.YtanmapgpplhecaaRing
import Derived.Test.YtanmapgpplhecaaByteStrG
namespace Go.Proofs.Ytanmapgpplhecaa
open Go.ChangeShapes Go.WideShapes Go.ChangeAt Go.RowKit Go.Joins Go.Deep
set_option linter.unusedVariables false
set_option maxRecDepth 4000

theorem Own.chg {w w' : World} {B : Nat} {v : Value} {xs : List Int} {S : Nat → Prop} (h : Own w B v xs) (hc : Chg S w w') (hs : ∀ j, B ≤ j → ¬ S j) : Own w' B v xs := by
  obtain ⟨h1, h2, h3⟩ := h
  refine ⟨h1, h2, ?_⟩
  rcases h3 with h3 | ⟨q, cap', cur, hv, hq, hh, r⟩
  · exact .inl h3
  · refine .inr ⟨q, cap', cur, hv, hq, ?_, r⟩
    have hlt : q < w.heap.size := by
      rcases Nat.lt_or_ge q w.heap.size with h' | h'
      · exact h'
      · rw [Array.getElem?_eq_none h'] at hh; cases hh
    rw [hc.block q hlt (hs q hq)]; exact hh

theorem resBoxOpen {W : World} {b : Nat} {x0 x1 x2 x3 x4 x5 x6 : Value} (tmps : Array Value) (ht : tmps[2]?.getD undef = .pointer (some ⟨b, 0, none⟩)) (h0 : W.cell? ⟨b, 0, none⟩ = some x0) (h1 : W.cell? ⟨b, 1, none⟩ = some x1) (h2 : W.cell? ⟨b, 2, none⟩ = some x2) (h3 : W.cell? ⟨b, 3, none⟩ = some x3) (h4 : W.cell? ⟨b, 4, none⟩ = some x4) (h5 : W.cell? ⟨b, 5, none⟩ = some x5) (h6 : W.cell? ⟨b, 6, none⟩ = some x6) :
    (results Try.f56 tmps).run Try.prog W = .ok (.agg #[x0, x1, x2, x3, x4, x5, x6]) W := by
  simp [results, Try.results56, go_sem, ht, h0, h1, h2, h3, h4, h5, h6]

theorem seven_set {w : World} {b : Nat} {x0 x1 x2 x3 x4 x5 x6 : Value} (v0 v1 v2 v3 v4 v5 v6 : Value) (h0 : w.cell? ⟨b, 0, none⟩ = some x0) (h1 : w.cell? ⟨b, 1, none⟩ = some x1) (h2 : w.cell? ⟨b, 2, none⟩ = some x2) (h3 : w.cell? ⟨b, 3, none⟩ = some x3) (h4 : w.cell? ⟨b, 4, none⟩ = some x4) (h5 : w.cell? ⟨b, 5, none⟩ = some x5) (h6 : w.cell? ⟨b, 6, none⟩ = some x6) :
    (((((((w.setCell ⟨b, 0, none⟩ v0).setCell ⟨b, 1, none⟩ v1).setCell ⟨b, 2, none⟩ v2).setCell ⟨b, 3, none⟩ v3).setCell ⟨b, 4, none⟩ v4).setCell ⟨b, 5, none⟩ v5).setCell ⟨b, 6, none⟩ v6).cell? ⟨b, 0, none⟩ = some v0 ∧ (((((((w.setCell ⟨b, 0, none⟩ v0).setCell ⟨b, 1, none⟩ v1).setCell ⟨b, 2, none⟩ v2).setCell ⟨b, 3, none⟩ v3).setCell ⟨b, 4, none⟩ v4).setCell ⟨b, 5, none⟩ v5).setCell ⟨b, 6, none⟩ v6).cell? ⟨b, 1, none⟩ = some v1 ∧ (((((((w.setCell ⟨b, 0, none⟩ v0).setCell ⟨b, 1, none⟩ v1).setCell ⟨b, 2, none⟩ v2).setCell ⟨b, 3, none⟩ v3).setCell ⟨b, 4, none⟩ v4).setCell ⟨b, 5, none⟩ v5).setCell ⟨b, 6, none⟩ v6).cell? ⟨b, 2, none⟩ = some v2 ∧ (((((((w.setCell ⟨b, 0, none⟩ v0).setCell ⟨b, 1, none⟩ v1).setCell ⟨b, 2, none⟩ v2).setCell ⟨b, 3, none⟩ v3).setCell ⟨b, 4, none⟩ v4).setCell ⟨b, 5, none⟩ v5).setCell ⟨b, 6, none⟩ v6).cell? ⟨b, 3, none⟩ = some v3 ∧ (((((((w.setCell ⟨b, 0, none⟩ v0).setCell ⟨b, 1, none⟩ v1).setCell ⟨b, 2, none⟩ v2).setCell ⟨b, 3, none⟩ v3).setCell ⟨b, 4, none⟩ v4).setCell ⟨b, 5, none⟩ v5).setCell ⟨b, 6, none⟩ v6).cell? ⟨b, 4, none⟩ = some v4 ∧ (((((((w.setCell ⟨b, 0, none⟩ v0).setCell ⟨b, 1, none⟩ v1).setCell ⟨b, 2, none⟩ v2).setCell ⟨b, 3, none⟩ v3).setCell ⟨b, 4, none⟩ v4).setCell ⟨b, 5, none⟩ v5).setCell ⟨b, 6, none⟩ v6).cell? ⟨b, 5, none⟩ = some v5 ∧ (((((((w.setCell ⟨b, 0, none⟩ v0).setCell ⟨b, 1, none⟩ v1).setCell ⟨b, 2, none⟩ v2).setCell ⟨b, 3, none⟩ v3).setCell ⟨b, 4, none⟩ v4).setCell ⟨b, 5, none⟩ v5).setCell ⟨b, 6, none⟩ v6).cell? ⟨b, 6, none⟩ = some v6 := by
  have e0 : w.cell? ⟨b, 0, none⟩ = some x0 := by exact h0
  have e1 : (w.setCell ⟨b, 0, none⟩ v0).cell? ⟨b, 1, none⟩ = some x1 := by rw [World.cell?_setCell_other _ _ _ _ (by simp)]; exact h1
  have e2 : ((w.setCell ⟨b, 0, none⟩ v0).setCell ⟨b, 1, none⟩ v1).cell? ⟨b, 2, none⟩ = some x2 := by rw [World.cell?_setCell_other _ _ _ _ (by simp), World.cell?_setCell_other _ _ _ _ (by simp)]; exact h2
  have e3 : (((w.setCell ⟨b, 0, none⟩ v0).setCell ⟨b, 1, none⟩ v1).setCell ⟨b, 2, none⟩ v2).cell? ⟨b, 3, none⟩ = some x3 := by rw [World.cell?_setCell_other _ _ _ _ (by simp), World.cell?_setCell_other _ _ _ _ (by simp), World.cell?_setCell_other _ _ _ _ (by simp)]; exact h3
  have e4 : ((((w.setCell ⟨b, 0, none⟩ v0).setCell ⟨b, 1, none⟩ v1).setCell ⟨b, 2, none⟩ v2).setCell ⟨b, 3, none⟩ v3).cell? ⟨b, 4, none⟩ = some x4 := by rw [World.cell?_setCell_other _ _ _ _ (by simp), World.cell?_setCell_other _ _ _ _ (by simp), World.cell?_setCell_other _ _ _ _ (by simp), World.cell?_setCell_other _ _ _ _ (by simp)]; exact h4
  have e5 : (((((w.setCell ⟨b, 0, none⟩ v0).setCell ⟨b, 1, none⟩ v1).setCell ⟨b, 2, none⟩ v2).setCell ⟨b, 3, none⟩ v3).setCell ⟨b, 4, none⟩ v4).cell? ⟨b, 5, none⟩ = some x5 := by rw [World.cell?_setCell_other _ _ _ _ (by simp), World.cell?_setCell_other _ _ _ _ (by simp), World.cell?_setCell_other _ _ _ _ (by simp), World.cell?_setCell_other _ _ _ _ (by simp), World.cell?_setCell_other _ _ _ _ (by simp)]; exact h5
  have e6 : ((((((w.setCell ⟨b, 0, none⟩ v0).setCell ⟨b, 1, none⟩ v1).setCell ⟨b, 2, none⟩ v2).setCell ⟨b, 3, none⟩ v3).setCell ⟨b, 4, none⟩ v4).setCell ⟨b, 5, none⟩ v5).cell? ⟨b, 6, none⟩ = some x6 := by rw [World.cell?_setCell_other _ _ _ _ (by simp), World.cell?_setCell_other _ _ _ _ (by simp), World.cell?_setCell_other _ _ _ _ (by simp), World.cell?_setCell_other _ _ _ _ (by simp), World.cell?_setCell_other _ _ _ _ (by simp), World.cell?_setCell_other _ _ _ _ (by simp)]; exact h6
  refine ⟨?_, ?_, ?_, ?_, ?_, ?_, ?_⟩
  · rw [World.cell?_setCell_other _ _ _ _ (by simp), World.cell?_setCell_other _ _ _ _ (by simp), World.cell?_setCell_other _ _ _ _ (by simp), World.cell?_setCell_other _ _ _ _ (by simp), World.cell?_setCell_other _ _ _ _ (by simp), World.cell?_setCell_other _ _ _ _ (by simp)]; exact World.cell?_setCell_same _ _ _ e0
  · rw [World.cell?_setCell_other _ _ _ _ (by simp), World.cell?_setCell_other _ _ _ _ (by simp), World.cell?_setCell_other _ _ _ _ (by simp), World.cell?_setCell_other _ _ _ _ (by simp), World.cell?_setCell_other _ _ _ _ (by simp)]; exact World.cell?_setCell_same _ _ _ e1
  · rw [World.cell?_setCell_other _ _ _ _ (by simp), World.cell?_setCell_other _ _ _ _ (by simp), World.cell?_setCell_other _ _ _ _ (by simp), World.cell?_setCell_other _ _ _ _ (by simp)]; exact World.cell?_setCell_same _ _ _ e2
  · rw [World.cell?_setCell_other _ _ _ _ (by simp), World.cell?_setCell_other _ _ _ _ (by simp), World.cell?_setCell_other _ _ _ _ (by simp)]; exact World.cell?_setCell_same _ _ _ e3
  · rw [World.cell?_setCell_other _ _ _ _ (by simp), World.cell?_setCell_other _ _ _ _ (by simp)]; exact World.cell?_setCell_same _ _ _ e4
  · rw [World.cell?_setCell_other _ _ _ _ (by simp)]; exact World.cell?_setCell_same _ _ _ e5
  · exact World.cell?_setCell_same _ _ _ e6

set_option maxHeartbeats 4000000 in
theorem boxOpen_any (d : Nat) (v : Value) (yss : List (List Int)) (w : World) (hv : RdS w v yss) (hd : d ≤ 4) (hn : yss.length ≤ d) :
    Calls Try.prog 56 #[.agg #[.int .i64 (d : Int), v]] w fun e w' => ∃ h : Nat → Value, e = .returned (.agg #[h 0, h 1, h 2, h 3, .int .i64 (d : Int), .int .i64 0, .int .i64 (yss.length : Int)]) ∧ (∀ i, i < 4 → ∃ p l c, h i = .slice p l c) ∧ (∀ i, i < yss.length → Own w' w.heap.size (h i) (yss.getD i [])) ∧ Apart yss.length h ∧ Below w.heap.size w w' := by
  have RV := hid hv
  obtain ⟨_, a, cap, rfl, h3⟩ := hv
  have KR := hid (show Ring (((w.alloc (.cells #[.int .i64 (d : Int), .slice a yss.length cap] 25)).alloc (.cells #[.slice none 0 0, .slice none 0 0, .slice none 0 0, .slice none 0 0, .int .i64 0, .int .i64 0, .int .i64 0] 72)).alloc (.cells #[.slice none 0 0, .slice none 0 0, .slice none 0 0, .slice none 0 0, .int .i64 (d : Int), .int .i64 0, .int .i64 0] 72)) (w.heap.size + 1 + 1) (fun _ => .slice none 0 0) d 0 0 from ⟨fun i hi => by
    have hi' : i = 0 ∨ i = 1 ∨ i = 2 ∨ i = 3 := by omega
    rcases hi' with rfl | rfl | rfl | rfl <;> go_simp, by go_simp, by go_simp, by go_simp, fun i => by go_simp⟩)
  have s0 : (((w.alloc (.cells #[.int .i64 (d : Int), .slice a yss.length cap] 25)).alloc (.cells #[.slice none 0 0, .slice none 0 0, .slice none 0 0, .slice none 0 0, .int .i64 0, .int .i64 0, .int .i64 0] 72)).alloc (.cells #[.slice none 0 0, .slice none 0 0, .slice none 0 0, .slice none 0 0, .int .i64 (d : Int), .int .i64 0, .int .i64 0] 72)).cell? ⟨w.heap.size + 1, 0, none⟩ = some (.slice none 0 0) := by go_simp
  have f0 : (((w.alloc (.cells #[.int .i64 (d : Int), .slice a yss.length cap] 25)).alloc (.cells #[.slice none 0 0, .slice none 0 0, .slice none 0 0, .slice none 0 0, .int .i64 0, .int .i64 0, .int .i64 0] 72)).alloc (.cells #[.slice none 0 0, .slice none 0 0, .slice none 0 0, .slice none 0 0, .int .i64 (d : Int), .int .i64 0, .int .i64 0] 72)).frozen? ⟨w.heap.size + 1, 0, none⟩ = false := by go_simp
  have s1 : (((w.alloc (.cells #[.int .i64 (d : Int), .slice a yss.length cap] 25)).alloc (.cells #[.slice none 0 0, .slice none 0 0, .slice none 0 0, .slice none 0 0, .int .i64 0, .int .i64 0, .int .i64 0] 72)).alloc (.cells #[.slice none 0 0, .slice none 0 0, .slice none 0 0, .slice none 0 0, .int .i64 (d : Int), .int .i64 0, .int .i64 0] 72)).cell? ⟨w.heap.size + 1, 1, none⟩ = some (.slice none 0 0) := by go_simp
  have f1 : (((w.alloc (.cells #[.int .i64 (d : Int), .slice a yss.length cap] 25)).alloc (.cells #[.slice none 0 0, .slice none 0 0, .slice none 0 0, .slice none 0 0, .int .i64 0, .int .i64 0, .int .i64 0] 72)).alloc (.cells #[.slice none 0 0, .slice none 0 0, .slice none 0 0, .slice none 0 0, .int .i64 (d : Int), .int .i64 0, .int .i64 0] 72)).frozen? ⟨w.heap.size + 1, 1, none⟩ = false := by go_simp
  have s2 : (((w.alloc (.cells #[.int .i64 (d : Int), .slice a yss.length cap] 25)).alloc (.cells #[.slice none 0 0, .slice none 0 0, .slice none 0 0, .slice none 0 0, .int .i64 0, .int .i64 0, .int .i64 0] 72)).alloc (.cells #[.slice none 0 0, .slice none 0 0, .slice none 0 0, .slice none 0 0, .int .i64 (d : Int), .int .i64 0, .int .i64 0] 72)).cell? ⟨w.heap.size + 1, 2, none⟩ = some (.slice none 0 0) := by go_simp
  have f2 : (((w.alloc (.cells #[.int .i64 (d : Int), .slice a yss.length cap] 25)).alloc (.cells #[.slice none 0 0, .slice none 0 0, .slice none 0 0, .slice none 0 0, .int .i64 0, .int .i64 0, .int .i64 0] 72)).alloc (.cells #[.slice none 0 0, .slice none 0 0, .slice none 0 0, .slice none 0 0, .int .i64 (d : Int), .int .i64 0, .int .i64 0] 72)).frozen? ⟨w.heap.size + 1, 2, none⟩ = false := by go_simp
  have s3 : (((w.alloc (.cells #[.int .i64 (d : Int), .slice a yss.length cap] 25)).alloc (.cells #[.slice none 0 0, .slice none 0 0, .slice none 0 0, .slice none 0 0, .int .i64 0, .int .i64 0, .int .i64 0] 72)).alloc (.cells #[.slice none 0 0, .slice none 0 0, .slice none 0 0, .slice none 0 0, .int .i64 (d : Int), .int .i64 0, .int .i64 0] 72)).cell? ⟨w.heap.size + 1, 3, none⟩ = some (.slice none 0 0) := by go_simp
  have f3 : (((w.alloc (.cells #[.int .i64 (d : Int), .slice a yss.length cap] 25)).alloc (.cells #[.slice none 0 0, .slice none 0 0, .slice none 0 0, .slice none 0 0, .int .i64 0, .int .i64 0, .int .i64 0] 72)).alloc (.cells #[.slice none 0 0, .slice none 0 0, .slice none 0 0, .slice none 0 0, .int .i64 (d : Int), .int .i64 0, .int .i64 0] 72)).frozen? ⟨w.heap.size + 1, 3, none⟩ = false := by go_simp
  have s4 : (((w.alloc (.cells #[.int .i64 (d : Int), .slice a yss.length cap] 25)).alloc (.cells #[.slice none 0 0, .slice none 0 0, .slice none 0 0, .slice none 0 0, .int .i64 0, .int .i64 0, .int .i64 0] 72)).alloc (.cells #[.slice none 0 0, .slice none 0 0, .slice none 0 0, .slice none 0 0, .int .i64 (d : Int), .int .i64 0, .int .i64 0] 72)).cell? ⟨w.heap.size + 1, 4, none⟩ = some (.int .i64 0) := by go_simp
  have f4 : (((w.alloc (.cells #[.int .i64 (d : Int), .slice a yss.length cap] 25)).alloc (.cells #[.slice none 0 0, .slice none 0 0, .slice none 0 0, .slice none 0 0, .int .i64 0, .int .i64 0, .int .i64 0] 72)).alloc (.cells #[.slice none 0 0, .slice none 0 0, .slice none 0 0, .slice none 0 0, .int .i64 (d : Int), .int .i64 0, .int .i64 0] 72)).frozen? ⟨w.heap.size + 1, 4, none⟩ = false := by go_simp
  have s5 : (((w.alloc (.cells #[.int .i64 (d : Int), .slice a yss.length cap] 25)).alloc (.cells #[.slice none 0 0, .slice none 0 0, .slice none 0 0, .slice none 0 0, .int .i64 0, .int .i64 0, .int .i64 0] 72)).alloc (.cells #[.slice none 0 0, .slice none 0 0, .slice none 0 0, .slice none 0 0, .int .i64 (d : Int), .int .i64 0, .int .i64 0] 72)).cell? ⟨w.heap.size + 1, 5, none⟩ = some (.int .i64 0) := by go_simp
  have f5 : (((w.alloc (.cells #[.int .i64 (d : Int), .slice a yss.length cap] 25)).alloc (.cells #[.slice none 0 0, .slice none 0 0, .slice none 0 0, .slice none 0 0, .int .i64 0, .int .i64 0, .int .i64 0] 72)).alloc (.cells #[.slice none 0 0, .slice none 0 0, .slice none 0 0, .slice none 0 0, .int .i64 (d : Int), .int .i64 0, .int .i64 0] 72)).frozen? ⟨w.heap.size + 1, 5, none⟩ = false := by go_simp
  have s6 : (((w.alloc (.cells #[.int .i64 (d : Int), .slice a yss.length cap] 25)).alloc (.cells #[.slice none 0 0, .slice none 0 0, .slice none 0 0, .slice none 0 0, .int .i64 0, .int .i64 0, .int .i64 0] 72)).alloc (.cells #[.slice none 0 0, .slice none 0 0, .slice none 0 0, .slice none 0 0, .int .i64 (d : Int), .int .i64 0, .int .i64 0] 72)).cell? ⟨w.heap.size + 1, 6, none⟩ = some (.int .i64 0) := by go_simp
  have f6 : (((w.alloc (.cells #[.int .i64 (d : Int), .slice a yss.length cap] 25)).alloc (.cells #[.slice none 0 0, .slice none 0 0, .slice none 0 0, .slice none 0 0, .int .i64 0, .int .i64 0, .int .i64 0] 72)).alloc (.cells #[.slice none 0 0, .slice none 0 0, .slice none 0 0, .slice none 0 0, .int .i64 (d : Int), .int .i64 0, .int .i64 0] 72)).frozen? ⟨w.heap.size + 1, 6, none⟩ = false := by go_simp
  have BB := hid (show Below w.heap.size w (((w.alloc (.cells #[.int .i64 (d : Int), .slice a yss.length cap] 25)).alloc (.cells #[.slice none 0 0, .slice none 0 0, .slice none 0 0, .slice none 0 0, .int .i64 0, .int .i64 0, .int .i64 0] 72)).alloc (.cells #[.slice none 0 0, .slice none 0 0, .slice none 0 0, .slice none 0 0, .int .i64 (d : Int), .int .i64 0, .int .i64 0] 72)) from (((Below.refl w.heap.size w).alloc (Nat.le_refl _) _).alloc (by simp) _).alloc (by simp; omega) _)
  have z0 : (((w.alloc (.cells #[.int .i64 (d : Int), .slice a yss.length cap] 25)).alloc (.cells #[.slice none 0 0, .slice none 0 0, .slice none 0 0, .slice none 0 0, .int .i64 0, .int .i64 0, .int .i64 0] 72)).alloc (.cells #[.slice none 0 0, .slice none 0 0, .slice none 0 0, .slice none 0 0, .int .i64 (d : Int), .int .i64 0, .int .i64 0] 72)).heap.size = w.heap.size + 3 := by simp
  have HS := hid (And.intro s0 (And.intro s1 (And.intro s2 (And.intro s3 (And.intro s4 (And.intro s5 s6))))))
  have HF := hid (And.intro f0 (And.intro f1 (And.intro f2 (And.intro f3 (And.intro f4 (And.intro f5 f6))))))
  clear s0 s1 s2 s3 s4 s5 s6 f0 f1 f2 f3 f4 f5 f6
  go_enter Try.func56, Try.ntmps56
  go_wp2_with fail
  obtain ⟨W0, hW0⟩ : ∃ W0, ((w.alloc (.cells #[.int .i64 (d : Int), .slice a yss.length cap] 25)).alloc (.cells #[.slice none 0 0, .slice none 0 0, .slice none 0 0, .slice none 0 0, .int .i64 0, .int .i64 0, .int .i64 0] 72)).alloc (.cells #[.slice none 0 0, .slice none 0 0, .slice none 0 0, .slice none 0 0, .int .i64 (d : Int), .int .i64 0, .int .i64 0] 72) = W0 := ⟨_, rfl⟩
  rw [hW0] at KR BB z0 HS HF
  rw [hW0]
  clear hW0
  go_loopw [12] (fun i wr => ∃ (k : Nat) (h : Nat → Value), k ≤ yss.length ∧ i = .int .i64 k ∧ Ring wr (w.heap.size + 1 + 1) h d 0 k ∧ (∀ i, i < 4 → ∃ p l c, h i = .slice p l c) ∧ (∀ i, i < k → Own wr (w.heap.size + 3) (h i) (yss.getD i [])) ∧ Apart k h ∧ Below (w.heap.size + 2) W0 wr ∧ w.heap.size + 3 ≤ wr.heap.size) (fun i _ => yss.length - (intOf i).toNat)
  case atStart => exact ⟨0, _, Nat.zero_le _, rfl, KR.out, fun i _ => ⟨_, _, _, rfl⟩, by omega, fun i j hi => by omega, Below.refl _ _, by omega⟩
  case round =>
    obtain ⟨k, h, hk, rfl, hR, hsl, hou, hap, hB, hsz⟩ := hrel
    have hBw : Below w.heap.size w wr := BB.out.trans (hB.mono (by omega))
    by_cases hlt : k < yss.length
    · rcases h3 with rfl | ⟨b, off, rfl, hc⟩
      · simp at hlt
      obtain ⟨u, hu, hr⟩ := hc k hlt
      have hcx := cell_keep hBw hu
      have RK := hid (hr.keep hBw)
      obtain ⟨ys, hys⟩ : ∃ ys, yss.getD k [] = ys := ⟨_, rfl⟩
      have HYS := hid hys
      rw [hys] at RK hr
      obtain ⟨_, hn2, ua, uc, rfl, _⟩ := hr
      have HR := hid hR
      have HOU := hid hou
      have HSL := hid hsl
      have HAP := hid hap
      have HB := hid hB
      have t0 : (0 : Int) ≤ (k : Int) := by omega
      have t1 : (k : Int) < (yss.length : Int) := by omega
      clear hc hR hou hB hys hu hsl hap hBw
      go_wp2_with fail
      refine (clone_any _ ys _ RK.out).mono ?_
      rintro e w1 ⟨v1, rfl, o1, b1⟩
      obtain ⟨va, vc, hv1, _⟩ := own_form o1
      subst hv1
      have zb := b1.size
      have R1 := hid (HR.out.keep b1)
      have O1 := hid (o1.low (show w.heap.size + 3 ≤ wr.heap.size from hsz))
      have NB := hid (fun b hb => (o1.blk b hb).1)
      have OB := hid (fun i (hi : i < k) b hb => ((HOU.out i hi).blk b hb).2)
      have OU1 := hid (fun i (hi : i < k) => (HOU.out i hi).keep b1)
      have B1 := hid (HB.out.trans (b1.mono (by omega)))
      clear o1 b1
      go_wp2_with fail
      refine (put_any (w.heap.size + 1 + 1) h d 0 k va ys.length vc _ R1.out hd (by omega) (by omega)).mono ?_
      rintro e w2 ⟨rfl, r2, c2⟩
      rw [show (0 + k) % 4 = k by omega] at r2
      have R2 := hid r2
      have O2 := hid (O1.out.chg c2 (fun j hj e => by have e : j = w.heap.size + 1 + 1 := e; omega))
      have OU2 := hid (fun i (hi : i < k) => (OU1.out i hi).chg c2 (fun j hj e => by have e : j = w.heap.size + 1 + 1 := e; omega))
      have B2 := hid (below_chg B1.out c2 (by have := B1.out.size; omega) (fun j hj => by have hj : j = w.heap.size + 1 + 1 := hj; omega))
      have z2 : w.heap.size + 3 ≤ w2.heap.size := by have := c2.size; omega
      clear r2 c2
      go_wp2
      go_roundw
      case rel =>
        refine ⟨k + 1, _, by omega, by go_num, R2.out, fun i hi => ?_, fun i hi => ?_, fun i j hi hj hij b hb hb' => ?_, B2.out, z2⟩
        · by_cases e : i = k
          · exact ⟨_, _, _, if_pos e⟩
          · obtain ⟨p, l, c, hh⟩ := HSL.out i hi
            exact ⟨p, l, c, (if_neg e).trans hh⟩
        · by_cases e : i = k
          · subst e
            rw [if_pos rfl, HYS.out]; exact O2.out
          · rw [if_neg e]; exact OU2.out i (by omega)
        · dsimp only at hb hb'
          by_cases ei : i = k
          · by_cases ej : j = k
            · omega
            · rw [if_pos ei] at hb
              rw [if_neg ej] at hb'
              have := NB.out b hb
              have := OB.out j (by omega) b hb'
              omega
          · by_cases ej : j = k
            · rw [if_neg ei] at hb
              rw [if_pos ej] at hb'
              have := NB.out b hb'
              have := OB.out i (by omega) b hb
              omega
            · rw [if_neg ei] at hb
              rw [if_neg ej] at hb'
              exact HAP.out i j (by omega) (by omega) hij b hb hb'
      case measure => simp [intOf]; omega
    · obtain rfl : k = yss.length := by omega
      obtain ⟨k1, k2, k3, k4, k5⟩ := hR
      obtain ⟨p0, l0, c0, e0⟩ := hsl 0 (by omega)
      have r0 := k1 0 (by omega)
      rw [e0] at r0
      obtain ⟨p1, l1, c1, e1⟩ := hsl 1 (by omega)
      have r1 := k1 1 (by omega)
      rw [e1] at r1
      obtain ⟨p2, l2, c2, e2⟩ := hsl 2 (by omega)
      have r2 := k1 2 (by omega)
      rw [e2] at r2
      obtain ⟨p3, l3, c3, e3⟩ := hsl 3 (by omega)
      have r3 := k1 3 (by omega)
      rw [e3] at r3
      obtain ⟨s0, s1, s2, s3, s4, s5, s6⟩ := HS.out
      obtain ⟨f0, f1, f2, f3, f4, f5, f6⟩ := HF.out
      have s0 := (hB.cell (p := ⟨w.heap.size + 1, 0, none⟩) (by dsimp only; omega)).trans s0
      have f0 := (hB.frozen (p := ⟨w.heap.size + 1, 0, none⟩) (by dsimp only; omega)).trans f0
      have s1 := (hB.cell (p := ⟨w.heap.size + 1, 1, none⟩) (by dsimp only; omega)).trans s1
      have f1 := (hB.frozen (p := ⟨w.heap.size + 1, 1, none⟩) (by dsimp only; omega)).trans f1
      have s2 := (hB.cell (p := ⟨w.heap.size + 1, 2, none⟩) (by dsimp only; omega)).trans s2
      have f2 := (hB.frozen (p := ⟨w.heap.size + 1, 2, none⟩) (by dsimp only; omega)).trans f2
      have s3 := (hB.cell (p := ⟨w.heap.size + 1, 3, none⟩) (by dsimp only; omega)).trans s3
      have f3 := (hB.frozen (p := ⟨w.heap.size + 1, 3, none⟩) (by dsimp only; omega)).trans f3
      have s4 := (hB.cell (p := ⟨w.heap.size + 1, 4, none⟩) (by dsimp only; omega)).trans s4
      have f4 := (hB.frozen (p := ⟨w.heap.size + 1, 4, none⟩) (by dsimp only; omega)).trans f4
      have s5 := (hB.cell (p := ⟨w.heap.size + 1, 5, none⟩) (by dsimp only; omega)).trans s5
      have f5 := (hB.frozen (p := ⟨w.heap.size + 1, 5, none⟩) (by dsimp only; omega)).trans f5
      have s6 := (hB.cell (p := ⟨w.heap.size + 1, 6, none⟩) (by dsimp only; omega)).trans s6
      have f6 := (hB.frozen (p := ⟨w.heap.size + 1, 6, none⟩) (by dsimp only; omega)).trans f6
      have HT := hid (seven_set (.slice p0 l0 c0) (.slice p1 l1 c1) (.slice p2 l2 c2) (.slice p3 l3 c3) (.int .i64 (d : Int)) (.int .i64 0) (.int .i64 (yss.length : Int)) s0 s1 s2 s3 s4 s5 s6)
      have CG := hid ((((((((Chg.refl (fun j => j = w.heap.size + 1) wr).set (p := ⟨w.heap.size + 1, 0, none⟩) rfl (.slice p0 l0 c0)).set (p := ⟨w.heap.size + 1, 1, none⟩) rfl (.slice p1 l1 c1)).set (p := ⟨w.heap.size + 1, 2, none⟩) rfl (.slice p2 l2 c2)).set (p := ⟨w.heap.size + 1, 3, none⟩) rfl (.slice p3 l3 c3)).set (p := ⟨w.heap.size + 1, 4, none⟩) rfl (.int .i64 (d : Int))).set (p := ⟨w.heap.size + 1, 5, none⟩) rfl (.int .i64 0)).set (p := ⟨w.heap.size + 1, 6, none⟩) rfl (.int .i64 (yss.length : Int)))
      have HE := hid (And.intro e0 (And.intro e1 (And.intro e2 e3)))
      have HBW := hid hBw
      have HSL := hid hsl
      have HOU := hid hou
      have HAP := hid hap
      clear h3 hsl hou hap hB hBw k1 k5 e0 e1 e2 e3 HS HF RV
      go_wp2_with fail
      obtain ⟨t0, t1, t2, t3, t4, t5, t6⟩ := HT.out
      refine bodyPost_ret (v := .agg #[.slice p0 l0 c0, .slice p1 l1 c1, .slice p2 l2 c2, .slice p3 l3 c3, .int .i64 (d : Int), .int .i64 0, .int .i64 (yss.length : Int)]) (resBoxOpen _ rfl t0 t1 t2 t3 t4 t5 t6) rfl ?_
      refine ⟨h, by rw [HE.out.1, HE.out.2.1, HE.out.2.2.1, HE.out.2.2.2], HSL.out, fun i hi => ((HOU.out i hi).chg CG.out (fun j hj e => by have e : j = w.heap.size + 1 := e; omega)).low (by omega), HAP.out, below_chg HBW.out CG.out (by have := HBW.out.size; omega) (fun j hj => by have hj : j = w.heap.size + 1 := hj; omega)⟩
end Go.Proofs.Ytanmapgpplhecaa
