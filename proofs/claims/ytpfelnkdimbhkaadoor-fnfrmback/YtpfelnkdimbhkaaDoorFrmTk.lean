/- The contract of what reads a head off bytes. -/
import Derived.Test.YtpfelnkdimbhkaaDoorFrmHB
import Derived.Test.YtpfelnkdimbhkaaDoorBytTake
namespace Go.Proofs.YtpfelnkdimbhkaaDoor
open Go.ChangeShapes Go.WideShapes Go.ChangeAt Go.RowKit Go.Joins Go.Deep
set_option linter.unusedVariables false
set_option linter.unusedSimpArgs false
set_option maxRecDepth 4000

/-- the fields of a head, as they are read -/
def hfV (xs : List Int) (q : Nat) : Int := match q with
  | 0 => tkN xs 0 1
  | 1 => tkN xs 1 1
  | 2 => tkN xs 2 1
  | 3 => tkN xs 3 1
  | 4 => tkN xs 4 2
  | 5 => tkN xs 6 2
  | 6 => tkN xs 8 1
  | _ => tkN xs 9 2
theorem results_head8 {W : World} {b : Nat} {x0 x1 x2 x3 x4 x5 x6 x7 : Value} (tmps : Array Value) (ht : tmps[2]?.getD undef = .pointer (some ⟨b, 0, none⟩)) (h0 : W.cell? ⟨b, 0, none⟩ = some x0) (h1 : W.cell? ⟨b, 1, none⟩ = some x1) (h2 : W.cell? ⟨b, 2, none⟩ = some x2) (h3 : W.cell? ⟨b, 3, none⟩ = some x3) (h4 : W.cell? ⟨b, 4, none⟩ = some x4) (h5 : W.cell? ⟨b, 5, none⟩ = some x5) (h6 : W.cell? ⟨b, 6, none⟩ = some x6) (h7 : W.cell? ⟨b, 7, none⟩ = some x7) :
    (results Tryd.f63 tmps).run Tryd.prog W = .ok (.agg #[x0, x1, x2, x3, x4, x5, x6, x7]) W := by
  simp [results, Tryd.results63, go_sem, ht, h0, h1, h2, h3, h4, h5, h6, h7]

theorem set_same {w : World} {a : Addr} {u v : Value} (h : w.cell? a = some u) : (w.setCell a v).cell? a = some v := World.cell?_setCell_same _ _ _ h
theorem eight_set {w : World} {b : Nat} {y0 y1 y2 y3 y4 y5 y6 y7 : Value} (v0 v1 v2 v3 v4 v5 v6 v7 : Value) (h0 : w.cell? ⟨b, 0, none⟩ = some y0) (h1 : w.cell? ⟨b, 1, none⟩ = some y1) (h2 : w.cell? ⟨b, 2, none⟩ = some y2) (h3 : w.cell? ⟨b, 3, none⟩ = some y3) (h4 : w.cell? ⟨b, 4, none⟩ = some y4) (h5 : w.cell? ⟨b, 5, none⟩ = some y5) (h6 : w.cell? ⟨b, 6, none⟩ = some y6) (h7 : w.cell? ⟨b, 7, none⟩ = some y7) :
    ((((((((w.setCell ⟨b, 0, none⟩ v0).setCell ⟨b, 1, none⟩ v1).setCell ⟨b, 2, none⟩ v2).setCell ⟨b, 3, none⟩ v3).setCell ⟨b, 4, none⟩ v4).setCell ⟨b, 5, none⟩ v5).setCell ⟨b, 6, none⟩ v6).setCell ⟨b, 7, none⟩ v7).cell? ⟨b, 0, none⟩ = some v0 ∧ ((((((((w.setCell ⟨b, 0, none⟩ v0).setCell ⟨b, 1, none⟩ v1).setCell ⟨b, 2, none⟩ v2).setCell ⟨b, 3, none⟩ v3).setCell ⟨b, 4, none⟩ v4).setCell ⟨b, 5, none⟩ v5).setCell ⟨b, 6, none⟩ v6).setCell ⟨b, 7, none⟩ v7).cell? ⟨b, 1, none⟩ = some v1 ∧ ((((((((w.setCell ⟨b, 0, none⟩ v0).setCell ⟨b, 1, none⟩ v1).setCell ⟨b, 2, none⟩ v2).setCell ⟨b, 3, none⟩ v3).setCell ⟨b, 4, none⟩ v4).setCell ⟨b, 5, none⟩ v5).setCell ⟨b, 6, none⟩ v6).setCell ⟨b, 7, none⟩ v7).cell? ⟨b, 2, none⟩ = some v2 ∧ ((((((((w.setCell ⟨b, 0, none⟩ v0).setCell ⟨b, 1, none⟩ v1).setCell ⟨b, 2, none⟩ v2).setCell ⟨b, 3, none⟩ v3).setCell ⟨b, 4, none⟩ v4).setCell ⟨b, 5, none⟩ v5).setCell ⟨b, 6, none⟩ v6).setCell ⟨b, 7, none⟩ v7).cell? ⟨b, 3, none⟩ = some v3 ∧ ((((((((w.setCell ⟨b, 0, none⟩ v0).setCell ⟨b, 1, none⟩ v1).setCell ⟨b, 2, none⟩ v2).setCell ⟨b, 3, none⟩ v3).setCell ⟨b, 4, none⟩ v4).setCell ⟨b, 5, none⟩ v5).setCell ⟨b, 6, none⟩ v6).setCell ⟨b, 7, none⟩ v7).cell? ⟨b, 4, none⟩ = some v4 ∧ ((((((((w.setCell ⟨b, 0, none⟩ v0).setCell ⟨b, 1, none⟩ v1).setCell ⟨b, 2, none⟩ v2).setCell ⟨b, 3, none⟩ v3).setCell ⟨b, 4, none⟩ v4).setCell ⟨b, 5, none⟩ v5).setCell ⟨b, 6, none⟩ v6).setCell ⟨b, 7, none⟩ v7).cell? ⟨b, 5, none⟩ = some v5 ∧ ((((((((w.setCell ⟨b, 0, none⟩ v0).setCell ⟨b, 1, none⟩ v1).setCell ⟨b, 2, none⟩ v2).setCell ⟨b, 3, none⟩ v3).setCell ⟨b, 4, none⟩ v4).setCell ⟨b, 5, none⟩ v5).setCell ⟨b, 6, none⟩ v6).setCell ⟨b, 7, none⟩ v7).cell? ⟨b, 6, none⟩ = some v6 ∧ ((((((((w.setCell ⟨b, 0, none⟩ v0).setCell ⟨b, 1, none⟩ v1).setCell ⟨b, 2, none⟩ v2).setCell ⟨b, 3, none⟩ v3).setCell ⟨b, 4, none⟩ v4).setCell ⟨b, 5, none⟩ v5).setCell ⟨b, 6, none⟩ v6).setCell ⟨b, 7, none⟩ v7).cell? ⟨b, 7, none⟩ = some v7 := by
  refine ⟨?_, ?_, ?_, ?_, ?_, ?_, ?_, ?_⟩
  · rw [World.cell?_setCell_other _ _ _ _ (by simp)]; rw [World.cell?_setCell_other _ _ _ _ (by simp)]; rw [World.cell?_setCell_other _ _ _ _ (by simp)]; rw [World.cell?_setCell_other _ _ _ _ (by simp)]; rw [World.cell?_setCell_other _ _ _ _ (by simp)]; rw [World.cell?_setCell_other _ _ _ _ (by simp)]; rw [World.cell?_setCell_other _ _ _ _ (by simp)]; refine set_same (u := y0) ?_; exact h0
  · rw [World.cell?_setCell_other _ _ _ _ (by simp)]; rw [World.cell?_setCell_other _ _ _ _ (by simp)]; rw [World.cell?_setCell_other _ _ _ _ (by simp)]; rw [World.cell?_setCell_other _ _ _ _ (by simp)]; rw [World.cell?_setCell_other _ _ _ _ (by simp)]; rw [World.cell?_setCell_other _ _ _ _ (by simp)]; refine set_same (u := y1) ?_; rw [World.cell?_setCell_other _ _ _ _ (by simp)]; exact h1
  · rw [World.cell?_setCell_other _ _ _ _ (by simp)]; rw [World.cell?_setCell_other _ _ _ _ (by simp)]; rw [World.cell?_setCell_other _ _ _ _ (by simp)]; rw [World.cell?_setCell_other _ _ _ _ (by simp)]; rw [World.cell?_setCell_other _ _ _ _ (by simp)]; refine set_same (u := y2) ?_; rw [World.cell?_setCell_other _ _ _ _ (by simp)]; rw [World.cell?_setCell_other _ _ _ _ (by simp)]; exact h2
  · rw [World.cell?_setCell_other _ _ _ _ (by simp)]; rw [World.cell?_setCell_other _ _ _ _ (by simp)]; rw [World.cell?_setCell_other _ _ _ _ (by simp)]; rw [World.cell?_setCell_other _ _ _ _ (by simp)]; refine set_same (u := y3) ?_; rw [World.cell?_setCell_other _ _ _ _ (by simp)]; rw [World.cell?_setCell_other _ _ _ _ (by simp)]; rw [World.cell?_setCell_other _ _ _ _ (by simp)]; exact h3
  · rw [World.cell?_setCell_other _ _ _ _ (by simp)]; rw [World.cell?_setCell_other _ _ _ _ (by simp)]; rw [World.cell?_setCell_other _ _ _ _ (by simp)]; refine set_same (u := y4) ?_; rw [World.cell?_setCell_other _ _ _ _ (by simp)]; rw [World.cell?_setCell_other _ _ _ _ (by simp)]; rw [World.cell?_setCell_other _ _ _ _ (by simp)]; rw [World.cell?_setCell_other _ _ _ _ (by simp)]; exact h4
  · rw [World.cell?_setCell_other _ _ _ _ (by simp)]; rw [World.cell?_setCell_other _ _ _ _ (by simp)]; refine set_same (u := y5) ?_; rw [World.cell?_setCell_other _ _ _ _ (by simp)]; rw [World.cell?_setCell_other _ _ _ _ (by simp)]; rw [World.cell?_setCell_other _ _ _ _ (by simp)]; rw [World.cell?_setCell_other _ _ _ _ (by simp)]; rw [World.cell?_setCell_other _ _ _ _ (by simp)]; exact h5
  · rw [World.cell?_setCell_other _ _ _ _ (by simp)]; refine set_same (u := y6) ?_; rw [World.cell?_setCell_other _ _ _ _ (by simp)]; rw [World.cell?_setCell_other _ _ _ _ (by simp)]; rw [World.cell?_setCell_other _ _ _ _ (by simp)]; rw [World.cell?_setCell_other _ _ _ _ (by simp)]; rw [World.cell?_setCell_other _ _ _ _ (by simp)]; rw [World.cell?_setCell_other _ _ _ _ (by simp)]; exact h6
  · refine set_same (u := y7) ?_; rw [World.cell?_setCell_other _ _ _ _ (by simp)]; rw [World.cell?_setCell_other _ _ _ _ (by simp)]; rw [World.cell?_setCell_other _ _ _ _ (by simp)]; rw [World.cell?_setCell_other _ _ _ _ (by simp)]; rw [World.cell?_setCell_other _ _ _ _ (by simp)]; rw [World.cell?_setCell_other _ _ _ _ (by simp)]; rw [World.cell?_setCell_other _ _ _ _ (by simp)]; exact h7

set_option maxHeartbeats 16000000 in
theorem headOf_any (a : Option Addr) (cap : Nat) (xs : List Int) (w : World) (hn : xs.length = 24) (hv : Rd w (.slice a 24 cap) xs) (hcap : 24 ≤ cap) (het : Et w) :
    Calls Tryd.prog 63 #[.slice a 24 cap] w fun e w' => e = .returned (.agg #[.int .i64 (hfV xs 0), .int .i64 (hfV xs 1), .int .i64 (hfV xs 2), .int .i64 (hfV xs 3), .int .i64 (hfV xs 4), .int .i64 (hfV xs 5), .int .i64 (hfV xs 6), .int .i64 (hfV xs 7)]) ∧ Below w.heap.size w w' := by
  have hbt : ∀ (wr : World) (A S : Int), Rd wr (.slice a 24 cap) xs → Et wr → Calls Tryd.prog 15 #[.slice a 24 cap, .int .i64 A, .int .i64 S] wr fun e w' => e = .returned (.tuple #[.int .i64 (tkN xs A S), .bool (tkOk xs A S)]) ∧ Below wr.heap.size wr w' := by
    intro wr A S h1 h2
    have := bytTake_any a cap xs A S wr (by rw [hn]; exact h1) (by omega) h2
    rw [hn] at this; exact this
  have HBT := hid hbt
  have HN := hid hn
  have HV := hid hv
  have HE := hid het
  have hp := het.pos
  clear hbt hv het hn
  go_enter Tryd.func63, Tryd.ntmps63
  go_wp2_with fail
  refine (fields_any _ _ _ _ _ _ _ _ _).mono ?_
  rintro x w2 ⟨hx, hw2⟩
  simp only [World.size_alloc] at hx
  subst hx
  have hF : w2.heap.size = w.heap.size + 4 := by rw [hw2]; simp
  have c0 : w2.cell? ⟨w.heap.size + 1, 0, none⟩ = some (.int .i64 0) := by rw [hw2]; go_simp
  have c1 : w2.cell? ⟨w.heap.size + 1, 1, none⟩ = some (.int .i64 0) := by rw [hw2]; go_simp
  have c2 : w2.cell? ⟨w.heap.size + 1, 2, none⟩ = some (.int .i64 0) := by rw [hw2]; go_simp
  have c3 : w2.cell? ⟨w.heap.size + 1, 3, none⟩ = some (.int .i64 0) := by rw [hw2]; go_simp
  have c4 : w2.cell? ⟨w.heap.size + 1, 4, none⟩ = some (.int .i64 0) := by rw [hw2]; go_simp
  have c5 : w2.cell? ⟨w.heap.size + 1, 5, none⟩ = some (.int .i64 0) := by rw [hw2]; go_simp
  have c6 : w2.cell? ⟨w.heap.size + 1, 6, none⟩ = some (.int .i64 0) := by rw [hw2]; go_simp
  have c7 : w2.cell? ⟨w.heap.size + 1, 7, none⟩ = some (.int .i64 0) := by rw [hw2]; go_simp
  have fL : ∀ q, w2.frozen? ⟨w.heap.size + 1, q, none⟩ = false := fun q => by rw [hw2]; go_simp
  have r0 : Hid (w2.cell? ⟨w.heap.size, 0, none⟩ = some (.int .i64 0)) := by unfold Hid; rw [hw2]; go_simp
  have r1 : Hid (w2.cell? ⟨w.heap.size, 1, none⟩ = some (.int .i64 0)) := by unfold Hid; rw [hw2]; go_simp
  have r2 : Hid (w2.cell? ⟨w.heap.size, 2, none⟩ = some (.int .i64 0)) := by unfold Hid; rw [hw2]; go_simp
  have r3 : Hid (w2.cell? ⟨w.heap.size, 3, none⟩ = some (.int .i64 0)) := by unfold Hid; rw [hw2]; go_simp
  have r4 : Hid (w2.cell? ⟨w.heap.size, 4, none⟩ = some (.int .i64 0)) := by unfold Hid; rw [hw2]; go_simp
  have r5 : Hid (w2.cell? ⟨w.heap.size, 5, none⟩ = some (.int .i64 0)) := by unfold Hid; rw [hw2]; go_simp
  have r6 : Hid (w2.cell? ⟨w.heap.size, 6, none⟩ = some (.int .i64 0)) := by unfold Hid; rw [hw2]; go_simp
  have r7 : Hid (w2.cell? ⟨w.heap.size, 7, none⟩ = some (.int .i64 0)) := by unfold Hid; rw [hw2]; go_simp
  have fR : Hid (∀ q, w2.frozen? ⟨w.heap.size, q, none⟩ = false) := hid fun q => by rw [hw2]; go_simp
  have d0 : Hid (w2.cell? ⟨w.heap.size + 1 + 1 + 1, 0, none⟩ = some (.iface 113 (.int .i64 0))) := by unfold Hid; rw [hw2]; go_simp
  have d1 : Hid (w2.cell? ⟨w.heap.size + 1 + 1 + 1, 1, none⟩ = some (.iface 113 (.int .i64 0))) := by unfold Hid; rw [hw2]; go_simp
  have d2 : Hid (w2.cell? ⟨w.heap.size + 1 + 1 + 1, 2, none⟩ = some (.iface 113 (.int .i64 0))) := by unfold Hid; rw [hw2]; go_simp
  have d3 : Hid (w2.cell? ⟨w.heap.size + 1 + 1 + 1, 3, none⟩ = some (.iface 113 (.int .i64 0))) := by unfold Hid; rw [hw2]; go_simp
  have d4 : Hid (w2.cell? ⟨w.heap.size + 1 + 1 + 1, 4, none⟩ = some (.iface 114 (.int .i64 0))) := by unfold Hid; rw [hw2]; go_simp
  have d5 : Hid (w2.cell? ⟨w.heap.size + 1 + 1 + 1, 5, none⟩ = some (.iface 114 (.int .i64 0))) := by unfold Hid; rw [hw2]; go_simp
  have d6 : Hid (w2.cell? ⟨w.heap.size + 1 + 1 + 1, 6, none⟩ = some (.iface 113 (.int .i64 0))) := by unfold Hid; rw [hw2]; go_simp
  have d7 : Hid (w2.cell? ⟨w.heap.size + 1 + 1 + 1, 7, none⟩ = some (.iface 114 (.int .i64 0))) := by unfold Hid; rw [hw2]; go_simp
  have B2 : Hid (Below w.heap.size w w2) := by
    rw [hw2]
    exact hid (((((Below.refl w.heap.size w).alloc (Nat.le_refl _) _).alloc (by simp) _).alloc (by simp; omega) _).alloc (by simp; omega) _)
  clear hw2
  have hf0 : ∀ q, q < 8 → w2.cell? ⟨w.heap.size + 1, q, none⟩ = some (.int .i64 0) := by
    intro q hq
    rcases (by omega : q = 0 ∨ q = 1 ∨ q = 2 ∨ q = 3 ∨ q = 4 ∨ q = 5 ∨ q = 6 ∨ q = 7) with rfl | rfl | rfl | rfl | rfl | rfl | rfl | rfl <;> assumption
  have HF0 := hid hf0
  have FL := hid fL
  clear c0 c1 c2 c3 c4 c5 c6 c7 hf0 fL
  go_wp2_with fail
  go_loopw [4, 12] (fun u i wr => ∃ j : Nat, j ≤ 8 ∧ i = .int .i64 j ∧ u = .int .i64 (([0, 1, 2, 3, 4, 6, 8, 9, 11] : List Int).getD j 0) ∧ Hid (∃ f : Nat → Int, (∀ q, q < 8 → wr.cell? ⟨w.heap.size + 1, q, none⟩ = some (.int .i64 (f q))) ∧ ∀ q, q < j → f q = hfV xs q) ∧ Hid (∀ q, wr.frozen? ⟨w.heap.size + 1, q, none⟩ = false) ∧ Hid (∀ i o, i < w2.heap.size → ¬ i = w.heap.size + 1 → wr.cell? ⟨i, o, none⟩ = w2.cell? ⟨i, o, none⟩ ∧ wr.frozen? ⟨i, o, none⟩ = w2.frozen? ⟨i, o, none⟩) ∧ Hid (Rd wr (.slice a 24 cap) xs) ∧ Hid (Et wr) ∧ Hid (Below w.heap.size w wr) ∧ w.heap.size + 4 ≤ wr.heap.size) (fun _ i _ => 8 - (intOf i).toNat)
  case atStart => exact ⟨0, by omega, rfl, rfl, hid ⟨fun _ => 0, HF0.out, fun q hq => by omega⟩, FL, hid (fun _ _ _ _ => ⟨rfl, rfl⟩), hid (HV.out.keep B2.out), hid (HE.out.keep B2.out hp), B2, by omega⟩
  case round =>
    obtain ⟨j, hj, rfl, rfl, HC, HFr, HK, HR, HEr, HB, hz⟩ := hrel
    by_cases hlt : j < 8
    · rcases (by omega : j = 0 ∨ j = 1 ∨ j = 2 ∨ j = 3 ∨ j = 4 ∨ j = 5 ∨ j = 6 ∨ j = 7) with rfl | rfl | rfl | rfl | rfl | rfl | rfl | rfl
      · have hd := ((HK.out (w.heap.size + 1 + 1 + 1) 0 (by omega) (by omega)).1).trans d0.out
        simp only [List.getD_cons_zero, List.getD_cons_succ, List.getD]
        go_wp2_with fail
        refine (field_byte _ _).mono ?_
        rintro x w3 ⟨rfl, rfl⟩
        go_wp2_with fail
        refine (HBT.out _ 0 1 HR.out HEr.out).mono ?_
        rintro e w4 ⟨he, b4⟩
        subst he
        obtain ⟨f, hf, hfv⟩ := HC.out
        have hcJ := cell_keep b4 (hf 0 (by omega))
        have hfJ : w4.frozen? ⟨w.heap.size + 1, 0, none⟩ = false := ((bcell b4).2 (w.heap.size + 1) 0 (by omega)).trans (HFr.out 0)
        have C4 : Hid (∃ f : Nat → Int, (∀ q, q < 8 → (w4.setCell ⟨w.heap.size + 1, 0, none⟩ (.int .i64 (tkN xs 0 1))).cell? ⟨w.heap.size + 1, q, none⟩ = some (.int .i64 (f q))) ∧ ∀ q, q < 0 + 1 → f q = hfV xs q) := hid (by
          refine ⟨fun q => if q = 0 then tkN xs 0 1 else f q, fun q hq => ?_, fun q hq => ?_⟩
          · by_cases hqq : q = 0
            · subst hqq; dsimp only; rw [if_pos rfl]; exact World.cell?_setCell_same _ _ _ hcJ
            · dsimp only; rw [if_neg hqq, World.cell?_setCell_other _ _ _ _ (by intro e; injection e with _ e2; exact hqq e2.symm)]
              exact cell_keep b4 (hf q hq)
          · by_cases hqq : q = 0
            · subst hqq; rfl
            · simp only [if_neg hqq]; exact hfv q (by omega))
        have FF4 : Hid (∀ q, (w4.setCell ⟨w.heap.size + 1, 0, none⟩ (.int .i64 (tkN xs 0 1))).frozen? ⟨w.heap.size + 1, q, none⟩ = false) := hid (fun q => by simp; exact ((bcell b4).2 (w.heap.size + 1) q (by omega)).trans (HFr.out q))
        have K4 : Hid (∀ i o, i < w2.heap.size → ¬ i = w.heap.size + 1 → (w4.setCell ⟨w.heap.size + 1, 0, none⟩ (.int .i64 (tkN xs 0 1))).cell? ⟨i, o, none⟩ = w2.cell? ⟨i, o, none⟩ ∧ (w4.setCell ⟨w.heap.size + 1, 0, none⟩ (.int .i64 (tkN xs 0 1))).frozen? ⟨i, o, none⟩ = w2.frozen? ⟨i, o, none⟩) := hid (fun i o hi hne => ⟨by
          rw [World.cell?_setCell_other _ _ _ _ (by intro e; injection e with e1; exact hne e1.symm)]
          exact ((bcell b4).1 i o (by omega)).trans (HK.out i o hi hne).1, by
          simp; exact ((bcell b4).2 i o (by omega)).trans (HK.out i o hi hne).2⟩)
        have B4 := hid ((HB.out.trans (b4.mono HB.out.size)).setCell (p := ⟨w.heap.size + 1, 0, none⟩) (by simp) (.int .i64 (tkN xs 0 1)))
        have z4 : w.heap.size + 4 ≤ w4.heap.size := Nat.le_trans hz b4.size
        clear HC hf hfv HFr HK HR HEr HB b4
        go_wp2
        go_roundw
        case rel => exact ⟨1, by omega, by go_num, by simp, C4, FF4, K4, hid (HV.out.keep B4.out), hid (HE.out.keep B4.out hp), B4, by simpa using z4⟩
        case measure => simp [intOf]
      · have hd := ((HK.out (w.heap.size + 1 + 1 + 1) 1 (by omega) (by omega)).1).trans d1.out
        simp only [List.getD_cons_zero, List.getD_cons_succ, List.getD]
        go_wp2_with fail
        refine (field_byte _ _).mono ?_
        rintro x w3 ⟨rfl, rfl⟩
        go_wp2_with fail
        refine (HBT.out _ 1 1 HR.out HEr.out).mono ?_
        rintro e w4 ⟨he, b4⟩
        subst he
        obtain ⟨f, hf, hfv⟩ := HC.out
        have hcJ := cell_keep b4 (hf 1 (by omega))
        have hfJ : w4.frozen? ⟨w.heap.size + 1, 1, none⟩ = false := ((bcell b4).2 (w.heap.size + 1) 1 (by omega)).trans (HFr.out 1)
        have C4 : Hid (∃ f : Nat → Int, (∀ q, q < 8 → (w4.setCell ⟨w.heap.size + 1, 1, none⟩ (.int .i64 (tkN xs 1 1))).cell? ⟨w.heap.size + 1, q, none⟩ = some (.int .i64 (f q))) ∧ ∀ q, q < 1 + 1 → f q = hfV xs q) := hid (by
          refine ⟨fun q => if q = 1 then tkN xs 1 1 else f q, fun q hq => ?_, fun q hq => ?_⟩
          · by_cases hqq : q = 1
            · subst hqq; dsimp only; rw [if_pos rfl]; exact World.cell?_setCell_same _ _ _ hcJ
            · dsimp only; rw [if_neg hqq, World.cell?_setCell_other _ _ _ _ (by intro e; injection e with _ e2; exact hqq e2.symm)]
              exact cell_keep b4 (hf q hq)
          · by_cases hqq : q = 1
            · subst hqq; rfl
            · simp only [if_neg hqq]; exact hfv q (by omega))
        have FF4 : Hid (∀ q, (w4.setCell ⟨w.heap.size + 1, 1, none⟩ (.int .i64 (tkN xs 1 1))).frozen? ⟨w.heap.size + 1, q, none⟩ = false) := hid (fun q => by simp; exact ((bcell b4).2 (w.heap.size + 1) q (by omega)).trans (HFr.out q))
        have K4 : Hid (∀ i o, i < w2.heap.size → ¬ i = w.heap.size + 1 → (w4.setCell ⟨w.heap.size + 1, 1, none⟩ (.int .i64 (tkN xs 1 1))).cell? ⟨i, o, none⟩ = w2.cell? ⟨i, o, none⟩ ∧ (w4.setCell ⟨w.heap.size + 1, 1, none⟩ (.int .i64 (tkN xs 1 1))).frozen? ⟨i, o, none⟩ = w2.frozen? ⟨i, o, none⟩) := hid (fun i o hi hne => ⟨by
          rw [World.cell?_setCell_other _ _ _ _ (by intro e; injection e with e1; exact hne e1.symm)]
          exact ((bcell b4).1 i o (by omega)).trans (HK.out i o hi hne).1, by
          simp; exact ((bcell b4).2 i o (by omega)).trans (HK.out i o hi hne).2⟩)
        have B4 := hid ((HB.out.trans (b4.mono HB.out.size)).setCell (p := ⟨w.heap.size + 1, 1, none⟩) (by simp) (.int .i64 (tkN xs 1 1)))
        have z4 : w.heap.size + 4 ≤ w4.heap.size := Nat.le_trans hz b4.size
        clear HC hf hfv HFr HK HR HEr HB b4
        go_wp2
        go_roundw
        case rel => exact ⟨2, by omega, by go_num, by simp, C4, FF4, K4, hid (HV.out.keep B4.out), hid (HE.out.keep B4.out hp), B4, by simpa using z4⟩
        case measure => simp [intOf]
      · have hd := ((HK.out (w.heap.size + 1 + 1 + 1) 2 (by omega) (by omega)).1).trans d2.out
        simp only [List.getD_cons_zero, List.getD_cons_succ, List.getD]
        go_wp2_with fail
        refine (field_byte _ _).mono ?_
        rintro x w3 ⟨rfl, rfl⟩
        go_wp2_with fail
        refine (HBT.out _ 2 1 HR.out HEr.out).mono ?_
        rintro e w4 ⟨he, b4⟩
        subst he
        obtain ⟨f, hf, hfv⟩ := HC.out
        have hcJ := cell_keep b4 (hf 2 (by omega))
        have hfJ : w4.frozen? ⟨w.heap.size + 1, 2, none⟩ = false := ((bcell b4).2 (w.heap.size + 1) 2 (by omega)).trans (HFr.out 2)
        have C4 : Hid (∃ f : Nat → Int, (∀ q, q < 8 → (w4.setCell ⟨w.heap.size + 1, 2, none⟩ (.int .i64 (tkN xs 2 1))).cell? ⟨w.heap.size + 1, q, none⟩ = some (.int .i64 (f q))) ∧ ∀ q, q < 2 + 1 → f q = hfV xs q) := hid (by
          refine ⟨fun q => if q = 2 then tkN xs 2 1 else f q, fun q hq => ?_, fun q hq => ?_⟩
          · by_cases hqq : q = 2
            · subst hqq; dsimp only; rw [if_pos rfl]; exact World.cell?_setCell_same _ _ _ hcJ
            · dsimp only; rw [if_neg hqq, World.cell?_setCell_other _ _ _ _ (by intro e; injection e with _ e2; exact hqq e2.symm)]
              exact cell_keep b4 (hf q hq)
          · by_cases hqq : q = 2
            · subst hqq; rfl
            · simp only [if_neg hqq]; exact hfv q (by omega))
        have FF4 : Hid (∀ q, (w4.setCell ⟨w.heap.size + 1, 2, none⟩ (.int .i64 (tkN xs 2 1))).frozen? ⟨w.heap.size + 1, q, none⟩ = false) := hid (fun q => by simp; exact ((bcell b4).2 (w.heap.size + 1) q (by omega)).trans (HFr.out q))
        have K4 : Hid (∀ i o, i < w2.heap.size → ¬ i = w.heap.size + 1 → (w4.setCell ⟨w.heap.size + 1, 2, none⟩ (.int .i64 (tkN xs 2 1))).cell? ⟨i, o, none⟩ = w2.cell? ⟨i, o, none⟩ ∧ (w4.setCell ⟨w.heap.size + 1, 2, none⟩ (.int .i64 (tkN xs 2 1))).frozen? ⟨i, o, none⟩ = w2.frozen? ⟨i, o, none⟩) := hid (fun i o hi hne => ⟨by
          rw [World.cell?_setCell_other _ _ _ _ (by intro e; injection e with e1; exact hne e1.symm)]
          exact ((bcell b4).1 i o (by omega)).trans (HK.out i o hi hne).1, by
          simp; exact ((bcell b4).2 i o (by omega)).trans (HK.out i o hi hne).2⟩)
        have B4 := hid ((HB.out.trans (b4.mono HB.out.size)).setCell (p := ⟨w.heap.size + 1, 2, none⟩) (by simp) (.int .i64 (tkN xs 2 1)))
        have z4 : w.heap.size + 4 ≤ w4.heap.size := Nat.le_trans hz b4.size
        clear HC hf hfv HFr HK HR HEr HB b4
        go_wp2
        go_roundw
        case rel => exact ⟨3, by omega, by go_num, by simp, C4, FF4, K4, hid (HV.out.keep B4.out), hid (HE.out.keep B4.out hp), B4, by simpa using z4⟩
        case measure => simp [intOf]
      · have hd := ((HK.out (w.heap.size + 1 + 1 + 1) 3 (by omega) (by omega)).1).trans d3.out
        simp only [List.getD_cons_zero, List.getD_cons_succ, List.getD]
        go_wp2_with fail
        refine (field_byte _ _).mono ?_
        rintro x w3 ⟨rfl, rfl⟩
        go_wp2_with fail
        refine (HBT.out _ 3 1 HR.out HEr.out).mono ?_
        rintro e w4 ⟨he, b4⟩
        subst he
        obtain ⟨f, hf, hfv⟩ := HC.out
        have hcJ := cell_keep b4 (hf 3 (by omega))
        have hfJ : w4.frozen? ⟨w.heap.size + 1, 3, none⟩ = false := ((bcell b4).2 (w.heap.size + 1) 3 (by omega)).trans (HFr.out 3)
        have C4 : Hid (∃ f : Nat → Int, (∀ q, q < 8 → (w4.setCell ⟨w.heap.size + 1, 3, none⟩ (.int .i64 (tkN xs 3 1))).cell? ⟨w.heap.size + 1, q, none⟩ = some (.int .i64 (f q))) ∧ ∀ q, q < 3 + 1 → f q = hfV xs q) := hid (by
          refine ⟨fun q => if q = 3 then tkN xs 3 1 else f q, fun q hq => ?_, fun q hq => ?_⟩
          · by_cases hqq : q = 3
            · subst hqq; dsimp only; rw [if_pos rfl]; exact World.cell?_setCell_same _ _ _ hcJ
            · dsimp only; rw [if_neg hqq, World.cell?_setCell_other _ _ _ _ (by intro e; injection e with _ e2; exact hqq e2.symm)]
              exact cell_keep b4 (hf q hq)
          · by_cases hqq : q = 3
            · subst hqq; rfl
            · simp only [if_neg hqq]; exact hfv q (by omega))
        have FF4 : Hid (∀ q, (w4.setCell ⟨w.heap.size + 1, 3, none⟩ (.int .i64 (tkN xs 3 1))).frozen? ⟨w.heap.size + 1, q, none⟩ = false) := hid (fun q => by simp; exact ((bcell b4).2 (w.heap.size + 1) q (by omega)).trans (HFr.out q))
        have K4 : Hid (∀ i o, i < w2.heap.size → ¬ i = w.heap.size + 1 → (w4.setCell ⟨w.heap.size + 1, 3, none⟩ (.int .i64 (tkN xs 3 1))).cell? ⟨i, o, none⟩ = w2.cell? ⟨i, o, none⟩ ∧ (w4.setCell ⟨w.heap.size + 1, 3, none⟩ (.int .i64 (tkN xs 3 1))).frozen? ⟨i, o, none⟩ = w2.frozen? ⟨i, o, none⟩) := hid (fun i o hi hne => ⟨by
          rw [World.cell?_setCell_other _ _ _ _ (by intro e; injection e with e1; exact hne e1.symm)]
          exact ((bcell b4).1 i o (by omega)).trans (HK.out i o hi hne).1, by
          simp; exact ((bcell b4).2 i o (by omega)).trans (HK.out i o hi hne).2⟩)
        have B4 := hid ((HB.out.trans (b4.mono HB.out.size)).setCell (p := ⟨w.heap.size + 1, 3, none⟩) (by simp) (.int .i64 (tkN xs 3 1)))
        have z4 : w.heap.size + 4 ≤ w4.heap.size := Nat.le_trans hz b4.size
        clear HC hf hfv HFr HK HR HEr HB b4
        go_wp2
        go_roundw
        case rel => exact ⟨4, by omega, by go_num, by simp, C4, FF4, K4, hid (HV.out.keep B4.out), hid (HE.out.keep B4.out hp), B4, by simpa using z4⟩
        case measure => simp [intOf]
      · have hd := ((HK.out (w.heap.size + 1 + 1 + 1) 4 (by omega) (by omega)).1).trans d4.out
        simp only [List.getD_cons_zero, List.getD_cons_succ, List.getD]
        go_wp2_with fail
        refine (field_pair _ _).mono ?_
        rintro x w3 ⟨rfl, rfl⟩
        go_wp2_with fail
        refine (HBT.out _ 4 2 HR.out HEr.out).mono ?_
        rintro e w4 ⟨he, b4⟩
        subst he
        obtain ⟨f, hf, hfv⟩ := HC.out
        have hcJ := cell_keep b4 (hf 4 (by omega))
        have hfJ : w4.frozen? ⟨w.heap.size + 1, 4, none⟩ = false := ((bcell b4).2 (w.heap.size + 1) 4 (by omega)).trans (HFr.out 4)
        have C4 : Hid (∃ f : Nat → Int, (∀ q, q < 8 → (w4.setCell ⟨w.heap.size + 1, 4, none⟩ (.int .i64 (tkN xs 4 2))).cell? ⟨w.heap.size + 1, q, none⟩ = some (.int .i64 (f q))) ∧ ∀ q, q < 4 + 1 → f q = hfV xs q) := hid (by
          refine ⟨fun q => if q = 4 then tkN xs 4 2 else f q, fun q hq => ?_, fun q hq => ?_⟩
          · by_cases hqq : q = 4
            · subst hqq; dsimp only; rw [if_pos rfl]; exact World.cell?_setCell_same _ _ _ hcJ
            · dsimp only; rw [if_neg hqq, World.cell?_setCell_other _ _ _ _ (by intro e; injection e with _ e2; exact hqq e2.symm)]
              exact cell_keep b4 (hf q hq)
          · by_cases hqq : q = 4
            · subst hqq; rfl
            · simp only [if_neg hqq]; exact hfv q (by omega))
        have FF4 : Hid (∀ q, (w4.setCell ⟨w.heap.size + 1, 4, none⟩ (.int .i64 (tkN xs 4 2))).frozen? ⟨w.heap.size + 1, q, none⟩ = false) := hid (fun q => by simp; exact ((bcell b4).2 (w.heap.size + 1) q (by omega)).trans (HFr.out q))
        have K4 : Hid (∀ i o, i < w2.heap.size → ¬ i = w.heap.size + 1 → (w4.setCell ⟨w.heap.size + 1, 4, none⟩ (.int .i64 (tkN xs 4 2))).cell? ⟨i, o, none⟩ = w2.cell? ⟨i, o, none⟩ ∧ (w4.setCell ⟨w.heap.size + 1, 4, none⟩ (.int .i64 (tkN xs 4 2))).frozen? ⟨i, o, none⟩ = w2.frozen? ⟨i, o, none⟩) := hid (fun i o hi hne => ⟨by
          rw [World.cell?_setCell_other _ _ _ _ (by intro e; injection e with e1; exact hne e1.symm)]
          exact ((bcell b4).1 i o (by omega)).trans (HK.out i o hi hne).1, by
          simp; exact ((bcell b4).2 i o (by omega)).trans (HK.out i o hi hne).2⟩)
        have B4 := hid ((HB.out.trans (b4.mono HB.out.size)).setCell (p := ⟨w.heap.size + 1, 4, none⟩) (by simp) (.int .i64 (tkN xs 4 2)))
        have z4 : w.heap.size + 4 ≤ w4.heap.size := Nat.le_trans hz b4.size
        clear HC hf hfv HFr HK HR HEr HB b4
        go_wp2
        go_roundw
        case rel => exact ⟨5, by omega, by go_num, by simp, C4, FF4, K4, hid (HV.out.keep B4.out), hid (HE.out.keep B4.out hp), B4, by simpa using z4⟩
        case measure => simp [intOf]
      · have hd := ((HK.out (w.heap.size + 1 + 1 + 1) 5 (by omega) (by omega)).1).trans d5.out
        simp only [List.getD_cons_zero, List.getD_cons_succ, List.getD]
        go_wp2_with fail
        refine (field_pair _ _).mono ?_
        rintro x w3 ⟨rfl, rfl⟩
        go_wp2_with fail
        refine (HBT.out _ 6 2 HR.out HEr.out).mono ?_
        rintro e w4 ⟨he, b4⟩
        subst he
        obtain ⟨f, hf, hfv⟩ := HC.out
        have hcJ := cell_keep b4 (hf 5 (by omega))
        have hfJ : w4.frozen? ⟨w.heap.size + 1, 5, none⟩ = false := ((bcell b4).2 (w.heap.size + 1) 5 (by omega)).trans (HFr.out 5)
        have C4 : Hid (∃ f : Nat → Int, (∀ q, q < 8 → (w4.setCell ⟨w.heap.size + 1, 5, none⟩ (.int .i64 (tkN xs 6 2))).cell? ⟨w.heap.size + 1, q, none⟩ = some (.int .i64 (f q))) ∧ ∀ q, q < 5 + 1 → f q = hfV xs q) := hid (by
          refine ⟨fun q => if q = 5 then tkN xs 6 2 else f q, fun q hq => ?_, fun q hq => ?_⟩
          · by_cases hqq : q = 5
            · subst hqq; dsimp only; rw [if_pos rfl]; exact World.cell?_setCell_same _ _ _ hcJ
            · dsimp only; rw [if_neg hqq, World.cell?_setCell_other _ _ _ _ (by intro e; injection e with _ e2; exact hqq e2.symm)]
              exact cell_keep b4 (hf q hq)
          · by_cases hqq : q = 5
            · subst hqq; rfl
            · simp only [if_neg hqq]; exact hfv q (by omega))
        have FF4 : Hid (∀ q, (w4.setCell ⟨w.heap.size + 1, 5, none⟩ (.int .i64 (tkN xs 6 2))).frozen? ⟨w.heap.size + 1, q, none⟩ = false) := hid (fun q => by simp; exact ((bcell b4).2 (w.heap.size + 1) q (by omega)).trans (HFr.out q))
        have K4 : Hid (∀ i o, i < w2.heap.size → ¬ i = w.heap.size + 1 → (w4.setCell ⟨w.heap.size + 1, 5, none⟩ (.int .i64 (tkN xs 6 2))).cell? ⟨i, o, none⟩ = w2.cell? ⟨i, o, none⟩ ∧ (w4.setCell ⟨w.heap.size + 1, 5, none⟩ (.int .i64 (tkN xs 6 2))).frozen? ⟨i, o, none⟩ = w2.frozen? ⟨i, o, none⟩) := hid (fun i o hi hne => ⟨by
          rw [World.cell?_setCell_other _ _ _ _ (by intro e; injection e with e1; exact hne e1.symm)]
          exact ((bcell b4).1 i o (by omega)).trans (HK.out i o hi hne).1, by
          simp; exact ((bcell b4).2 i o (by omega)).trans (HK.out i o hi hne).2⟩)
        have B4 := hid ((HB.out.trans (b4.mono HB.out.size)).setCell (p := ⟨w.heap.size + 1, 5, none⟩) (by simp) (.int .i64 (tkN xs 6 2)))
        have z4 : w.heap.size + 4 ≤ w4.heap.size := Nat.le_trans hz b4.size
        clear HC hf hfv HFr HK HR HEr HB b4
        go_wp2
        go_roundw
        case rel => exact ⟨6, by omega, by go_num, by simp, C4, FF4, K4, hid (HV.out.keep B4.out), hid (HE.out.keep B4.out hp), B4, by simpa using z4⟩
        case measure => simp [intOf]
      · have hd := ((HK.out (w.heap.size + 1 + 1 + 1) 6 (by omega) (by omega)).1).trans d6.out
        simp only [List.getD_cons_zero, List.getD_cons_succ, List.getD]
        go_wp2_with fail
        refine (field_byte _ _).mono ?_
        rintro x w3 ⟨rfl, rfl⟩
        go_wp2_with fail
        refine (HBT.out _ 8 1 HR.out HEr.out).mono ?_
        rintro e w4 ⟨he, b4⟩
        subst he
        obtain ⟨f, hf, hfv⟩ := HC.out
        have hcJ := cell_keep b4 (hf 6 (by omega))
        have hfJ : w4.frozen? ⟨w.heap.size + 1, 6, none⟩ = false := ((bcell b4).2 (w.heap.size + 1) 6 (by omega)).trans (HFr.out 6)
        have C4 : Hid (∃ f : Nat → Int, (∀ q, q < 8 → (w4.setCell ⟨w.heap.size + 1, 6, none⟩ (.int .i64 (tkN xs 8 1))).cell? ⟨w.heap.size + 1, q, none⟩ = some (.int .i64 (f q))) ∧ ∀ q, q < 6 + 1 → f q = hfV xs q) := hid (by
          refine ⟨fun q => if q = 6 then tkN xs 8 1 else f q, fun q hq => ?_, fun q hq => ?_⟩
          · by_cases hqq : q = 6
            · subst hqq; dsimp only; rw [if_pos rfl]; exact World.cell?_setCell_same _ _ _ hcJ
            · dsimp only; rw [if_neg hqq, World.cell?_setCell_other _ _ _ _ (by intro e; injection e with _ e2; exact hqq e2.symm)]
              exact cell_keep b4 (hf q hq)
          · by_cases hqq : q = 6
            · subst hqq; rfl
            · simp only [if_neg hqq]; exact hfv q (by omega))
        have FF4 : Hid (∀ q, (w4.setCell ⟨w.heap.size + 1, 6, none⟩ (.int .i64 (tkN xs 8 1))).frozen? ⟨w.heap.size + 1, q, none⟩ = false) := hid (fun q => by simp; exact ((bcell b4).2 (w.heap.size + 1) q (by omega)).trans (HFr.out q))
        have K4 : Hid (∀ i o, i < w2.heap.size → ¬ i = w.heap.size + 1 → (w4.setCell ⟨w.heap.size + 1, 6, none⟩ (.int .i64 (tkN xs 8 1))).cell? ⟨i, o, none⟩ = w2.cell? ⟨i, o, none⟩ ∧ (w4.setCell ⟨w.heap.size + 1, 6, none⟩ (.int .i64 (tkN xs 8 1))).frozen? ⟨i, o, none⟩ = w2.frozen? ⟨i, o, none⟩) := hid (fun i o hi hne => ⟨by
          rw [World.cell?_setCell_other _ _ _ _ (by intro e; injection e with e1; exact hne e1.symm)]
          exact ((bcell b4).1 i o (by omega)).trans (HK.out i o hi hne).1, by
          simp; exact ((bcell b4).2 i o (by omega)).trans (HK.out i o hi hne).2⟩)
        have B4 := hid ((HB.out.trans (b4.mono HB.out.size)).setCell (p := ⟨w.heap.size + 1, 6, none⟩) (by simp) (.int .i64 (tkN xs 8 1)))
        have z4 : w.heap.size + 4 ≤ w4.heap.size := Nat.le_trans hz b4.size
        clear HC hf hfv HFr HK HR HEr HB b4
        go_wp2
        go_roundw
        case rel => exact ⟨7, by omega, by go_num, by simp, C4, FF4, K4, hid (HV.out.keep B4.out), hid (HE.out.keep B4.out hp), B4, by simpa using z4⟩
        case measure => simp [intOf]
      · have hd := ((HK.out (w.heap.size + 1 + 1 + 1) 7 (by omega) (by omega)).1).trans d7.out
        simp only [List.getD_cons_zero, List.getD_cons_succ, List.getD]
        go_wp2_with fail
        refine (field_pair _ _).mono ?_
        rintro x w3 ⟨rfl, rfl⟩
        go_wp2_with fail
        refine (HBT.out _ 9 2 HR.out HEr.out).mono ?_
        rintro e w4 ⟨he, b4⟩
        subst he
        obtain ⟨f, hf, hfv⟩ := HC.out
        have hcJ := cell_keep b4 (hf 7 (by omega))
        have hfJ : w4.frozen? ⟨w.heap.size + 1, 7, none⟩ = false := ((bcell b4).2 (w.heap.size + 1) 7 (by omega)).trans (HFr.out 7)
        have C4 : Hid (∃ f : Nat → Int, (∀ q, q < 8 → (w4.setCell ⟨w.heap.size + 1, 7, none⟩ (.int .i64 (tkN xs 9 2))).cell? ⟨w.heap.size + 1, q, none⟩ = some (.int .i64 (f q))) ∧ ∀ q, q < 7 + 1 → f q = hfV xs q) := hid (by
          refine ⟨fun q => if q = 7 then tkN xs 9 2 else f q, fun q hq => ?_, fun q hq => ?_⟩
          · by_cases hqq : q = 7
            · subst hqq; dsimp only; rw [if_pos rfl]; exact World.cell?_setCell_same _ _ _ hcJ
            · dsimp only; rw [if_neg hqq, World.cell?_setCell_other _ _ _ _ (by intro e; injection e with _ e2; exact hqq e2.symm)]
              exact cell_keep b4 (hf q hq)
          · by_cases hqq : q = 7
            · subst hqq; rfl
            · simp only [if_neg hqq]; exact hfv q (by omega))
        have FF4 : Hid (∀ q, (w4.setCell ⟨w.heap.size + 1, 7, none⟩ (.int .i64 (tkN xs 9 2))).frozen? ⟨w.heap.size + 1, q, none⟩ = false) := hid (fun q => by simp; exact ((bcell b4).2 (w.heap.size + 1) q (by omega)).trans (HFr.out q))
        have K4 : Hid (∀ i o, i < w2.heap.size → ¬ i = w.heap.size + 1 → (w4.setCell ⟨w.heap.size + 1, 7, none⟩ (.int .i64 (tkN xs 9 2))).cell? ⟨i, o, none⟩ = w2.cell? ⟨i, o, none⟩ ∧ (w4.setCell ⟨w.heap.size + 1, 7, none⟩ (.int .i64 (tkN xs 9 2))).frozen? ⟨i, o, none⟩ = w2.frozen? ⟨i, o, none⟩) := hid (fun i o hi hne => ⟨by
          rw [World.cell?_setCell_other _ _ _ _ (by intro e; injection e with e1; exact hne e1.symm)]
          exact ((bcell b4).1 i o (by omega)).trans (HK.out i o hi hne).1, by
          simp; exact ((bcell b4).2 i o (by omega)).trans (HK.out i o hi hne).2⟩)
        have B4 := hid ((HB.out.trans (b4.mono HB.out.size)).setCell (p := ⟨w.heap.size + 1, 7, none⟩) (by simp) (.int .i64 (tkN xs 9 2)))
        have z4 : w.heap.size + 4 ≤ w4.heap.size := Nat.le_trans hz b4.size
        clear HC hf hfv HFr HK HR HEr HB b4
        go_wp2
        go_roundw
        case rel => exact ⟨8, by omega, by go_num, by simp, C4, FF4, K4, hid (HV.out.keep B4.out), hid (HE.out.keep B4.out hp), B4, by simpa using z4⟩
        case measure => simp [intOf]
    · obtain rfl : j = 8 := by omega
      obtain ⟨f, hf, hfv⟩ := HC.out
      have l0 : wr.cell? ⟨w.heap.size + 1, 0, none⟩ = some (.int .i64 (hfV xs 0)) := by rw [hf 0 (by omega), hfv 0 (by omega)]
      have l1 : wr.cell? ⟨w.heap.size + 1, 1, none⟩ = some (.int .i64 (hfV xs 1)) := by rw [hf 1 (by omega), hfv 1 (by omega)]
      have l2 : wr.cell? ⟨w.heap.size + 1, 2, none⟩ = some (.int .i64 (hfV xs 2)) := by rw [hf 2 (by omega), hfv 2 (by omega)]
      have l3 : wr.cell? ⟨w.heap.size + 1, 3, none⟩ = some (.int .i64 (hfV xs 3)) := by rw [hf 3 (by omega), hfv 3 (by omega)]
      have l4 : wr.cell? ⟨w.heap.size + 1, 4, none⟩ = some (.int .i64 (hfV xs 4)) := by rw [hf 4 (by omega), hfv 4 (by omega)]
      have l5 : wr.cell? ⟨w.heap.size + 1, 5, none⟩ = some (.int .i64 (hfV xs 5)) := by rw [hf 5 (by omega), hfv 5 (by omega)]
      have l6 : wr.cell? ⟨w.heap.size + 1, 6, none⟩ = some (.int .i64 (hfV xs 6)) := by rw [hf 6 (by omega), hfv 6 (by omega)]
      have l7 : wr.cell? ⟨w.heap.size + 1, 7, none⟩ = some (.int .i64 (hfV xs 7)) := by rw [hf 7 (by omega), hfv 7 (by omega)]
      have s0 := ((HK.out w.heap.size 0 (by omega) (by omega)).1).trans r0.out
      have t0 := ((HK.out w.heap.size 0 (by omega) (by omega)).2).trans (fR.out 0)
      have s1 := ((HK.out w.heap.size 1 (by omega) (by omega)).1).trans r1.out
      have t1 := ((HK.out w.heap.size 1 (by omega) (by omega)).2).trans (fR.out 1)
      have s2 := ((HK.out w.heap.size 2 (by omega) (by omega)).1).trans r2.out
      have t2 := ((HK.out w.heap.size 2 (by omega) (by omega)).2).trans (fR.out 2)
      have s3 := ((HK.out w.heap.size 3 (by omega) (by omega)).1).trans r3.out
      have t3 := ((HK.out w.heap.size 3 (by omega) (by omega)).2).trans (fR.out 3)
      have s4 := ((HK.out w.heap.size 4 (by omega) (by omega)).1).trans r4.out
      have t4 := ((HK.out w.heap.size 4 (by omega) (by omega)).2).trans (fR.out 4)
      have s5 := ((HK.out w.heap.size 5 (by omega) (by omega)).1).trans r5.out
      have t5 := ((HK.out w.heap.size 5 (by omega) (by omega)).2).trans (fR.out 5)
      have s6 := ((HK.out w.heap.size 6 (by omega) (by omega)).1).trans r6.out
      have t6 := ((HK.out w.heap.size 6 (by omega) (by omega)).2).trans (fR.out 6)
      have s7 := ((HK.out w.heap.size 7 (by omega) (by omega)).1).trans r7.out
      have t7 := ((HK.out w.heap.size 7 (by omega) (by omega)).2).trans (fR.out 7)
      clear HC hf hfv HFr HK HR HEr HF0 FL
      obtain ⟨v0, e0⟩ : ∃ v, hfV xs 0 = v := ⟨_, rfl⟩
      rw [e0] at l0
      obtain ⟨v1, e1⟩ : ∃ v, hfV xs 1 = v := ⟨_, rfl⟩
      rw [e1] at l1
      obtain ⟨v2, e2⟩ : ∃ v, hfV xs 2 = v := ⟨_, rfl⟩
      rw [e2] at l2
      obtain ⟨v3, e3⟩ : ∃ v, hfV xs 3 = v := ⟨_, rfl⟩
      rw [e3] at l3
      obtain ⟨v4, e4⟩ : ∃ v, hfV xs 4 = v := ⟨_, rfl⟩
      rw [e4] at l4
      obtain ⟨v5, e5⟩ : ∃ v, hfV xs 5 = v := ⟨_, rfl⟩
      rw [e5] at l5
      obtain ⟨v6, e6⟩ : ∃ v, hfV xs 6 = v := ⟨_, rfl⟩
      rw [e6] at l6
      obtain ⟨v7, e7⟩ : ∃ v, hfV xs 7 = v := ⟨_, rfl⟩
      rw [e7] at l7
      have E0 := hid e0
      clear e0
      have E1 := hid e1
      clear e1
      have E2 := hid e2
      clear e2
      have E3 := hid e3
      clear e3
      have E4 := hid e4
      clear e4
      have E5 := hid e5
      clear e5
      have E6 := hid e6
      clear e6
      have E7 := hid e7
      clear e7
      go_wp2
      have HE8 := eight_set (.int .i64 v0) (.int .i64 v1) (.int .i64 v2) (.int .i64 v3) (.int .i64 v4) (.int .i64 v5) (.int .i64 v6) (.int .i64 v7) s0 s1 s2 s3 s4 s5 s6 s7
      obtain ⟨g0, g1, g2, g3, g4, g5, g6, g7⟩ := HE8
      refine bodyPost_ret (v := .agg #[.int .i64 v0, .int .i64 v1, .int .i64 v2, .int .i64 v3, .int .i64 v4, .int .i64 v5, .int .i64 v6, .int .i64 v7]) (results_head8 (b := w.heap.size) _ rfl g0 g1 g2 g3 g4 g5 g6 g7) rfl ?_
      rw [E0.out, E1.out, E2.out, E3.out, E4.out, E5.out, E6.out, E7.out]
      exact ⟨rfl, (((((((HB.out.setCell (by simp) _).setCell (by simp) _).setCell (by simp) _).setCell (by simp) _).setCell (by simp) _).setCell (by simp) _).setCell (by simp) _).setCell (by simp) _⟩
end Go.Proofs.YtpfelnkdimbhkaaDoor
