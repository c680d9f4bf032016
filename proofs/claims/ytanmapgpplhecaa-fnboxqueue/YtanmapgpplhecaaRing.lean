/- The ring of a box (document, chapter 7): what lies in it; the contracts of its put and take. Conditions: the ring lies as it was laid, its first place is one of the four, and there are at most four things in it. -/
import Derived.Test.YtanmapgpplhecaaByteSS
import Derived.Test.YtanmapgpplhecaaChg
import Derived.Deep.QuietTactic
import Derived.BigQuiet
import Derived.BigRegion
namespace Go.Proofs.Ytanmapgpplhecaa
open Go.ChangeShapes Go.WideShapes Go.ChangeAt Go.RowKit Go.Joins Go.Deep
set_option linter.unusedVariables false
set_option maxRecDepth 4000

/-- a ring in the block r: its four places, its depth, its first place, how many things it has -/
def Ring (w : World) (r : Nat) (h : Nat → Value) (d f s : Nat) : Prop :=
  (∀ i, i < 4 → w.cell? ⟨r, i, none⟩ = some (h i)) ∧ w.cell? ⟨r, 4, none⟩ = some (.int .i64 d) ∧ w.cell? ⟨r, 5, none⟩ = some (.int .i64 f) ∧ w.cell? ⟨r, 6, none⟩ = some (.int .i64 s) ∧ ∀ i, w.frozen? ⟨r, i, none⟩ = false
theorem Ring.keep {w w' : World} {r : Nat} {h : Nat → Value} {d f s : Nat} (k : Ring w r h d f s) (hb : Below w.heap.size w w') : Ring w' r h d f s := by
  obtain ⟨k1, k2, k3, k4, k5⟩ := k
  have hlt : r < w.heap.size := World.block_lt_of_cell? w ⟨r, 4, none⟩ k2
  exact ⟨fun i hi => cell_keep hb (k1 i hi), cell_keep hb k2, cell_keep hb k3, cell_keep hb k4, fun i => (hb.frozen (p := ⟨r, i, none⟩) hlt).trans (k5 i)⟩
theorem Ring.drawn {w : World} {r : Nat} {h : Nat → Value} {d f s q : Nat} (k : Ring w r h d f s) : Ring (w.drewN q) r h d f s := k

theorem Chg.drew {S : Nat → Prop} {a b : World} (h : Chg S a b) : Chg S a b.drew := ⟨h.os, h.tape, h.output, h.size, h.block⟩
theorem ring_put {W : World} {r : Nat} {h : Nat → Value} {d f s P : Nat} (k : Ring W r h d f s) (hP : P < 4) (u : Value) : Ring ((W.setCell ⟨r, P, none⟩ u).setCell ⟨r, 6, none⟩ (.int .i64 ((s : Int) + 1))) r (fun i => if i = P then u else h i) d f (s + 1) := by
  obtain ⟨k1, k2, k3, k4, k5⟩ := k
  refine ⟨fun i hi => ?_, ?_, ?_, ?_, fun i => ?_⟩
  · rw [World.cell?_setCell_other _ _ _ _ (by simp <;> omega)]
    by_cases e : i = P
    · subst e; dsimp only; rw [if_pos rfl]; exact World.cell?_setCell_same _ _ _ (k1 i hi)
    · dsimp only; rw [if_neg e, World.cell?_setCell_other _ _ _ _ (by simp <;> omega)]; exact k1 i hi
  · rw [World.cell?_setCell_other _ _ _ _ (by simp), World.cell?_setCell_other _ _ _ _ (by simp <;> omega)]; exact k2
  · rw [World.cell?_setCell_other _ _ _ _ (by simp), World.cell?_setCell_other _ _ _ _ (by simp <;> omega)]; exact k3
  · have := World.cell?_setCell_same (W.setCell ⟨r, P, none⟩ u) ⟨r, 6, none⟩ (.int .i64 ((s : Int) + 1)) ((World.cell?_setCell_other _ _ _ _ (by simp <;> omega)).trans k4)
    rw [this]; simp
  · rw [World.frozen?_setCell, World.frozen?_setCell]; exact k5 i
theorem ring_take {W : World} {r : Nat} {h : Nat → Value} {d f s g : Nat} (k : Ring W r h d f (s + 1)) : Ring ((W.setCell ⟨r, 5, none⟩ (.int .i64 g)).setCell ⟨r, 6, none⟩ (.int .i64 (s : Int))) r h d g s := by
  obtain ⟨k1, k2, k3, k4, k5⟩ := k
  refine ⟨fun i hi => ?_, ?_, ?_, ?_, fun i => ?_⟩
  · rw [World.cell?_setCell_other _ _ _ _ (by simp <;> omega), World.cell?_setCell_other _ _ _ _ (by simp <;> omega)]; exact k1 i hi
  · rw [World.cell?_setCell_other _ _ _ _ (by simp), World.cell?_setCell_other _ _ _ _ (by simp)]; exact k2
  · rw [World.cell?_setCell_other _ _ _ _ (by simp)]; exact World.cell?_setCell_same _ _ _ k3
  · exact World.cell?_setCell_same _ _ _ ((World.cell?_setCell_other _ _ _ _ (by simp)).trans k4)
  · rw [World.frozen?_setCell, World.frozen?_setCell]; exact k5 i

set_option maxHeartbeats 4000000 in
theorem put_full (r : Nat) (h : Nat → Value) (d f : Nat) (u : Value) (w : World) (k : Ring w r h d f d) (hd : d ≤ 4) :
    Calls Try.prog 57 #[.pointer (some ⟨r, 0, none⟩), u] w fun e w' => e = .returned (.bool false) ∧ Ring w' r h d f d ∧ Below w.heap.size w w' := by
  have HK := hid k
  obtain ⟨k1, k2, k3, k4, k5⟩ := k
  clear k1 k3 k5
  have hq : ((d : Int) == (d : Int)) = true := by simp
  go_enter Try.func57, Try.ntmps57
  go_wp2_with fail
  go_quiet (fail)
  go_wp2
  go_ret
  exact ⟨rfl, HK.out.drawn, below_draws _ _ _⟩

set_option maxHeartbeats 4000000 in
theorem put_any (r : Nat) (h : Nat → Value) (d f s : Nat) (ua : Option Addr) (ul uc : Nat) (w : World) (k : Ring w r h d f s) (hd : d ≤ 4) (hs : s < d) (hf : f < 4) :
    Calls Try.prog 57 #[.pointer (some ⟨r, 0, none⟩), .slice ua ul uc] w fun e w' => e = .returned (.bool true) ∧ Ring w' r (fun i => if i = (f + s) % 4 then .slice ua ul uc else h i) d f (s + 1) ∧ Chg (fun j => j = r) w w' := by
  have HK := hid k
  obtain ⟨k1, k2, k3, k4, k5⟩ := k
  obtain ⟨P, hP, hP4⟩ : ∃ P : Nat, (f + s) % 4 = P ∧ P < 4 := ⟨_, rfl, Nat.mod_lt _ (by omega)⟩
  have hPI : ((f : Int) + (s : Int)) % 4 = (P : Int) := by omega
  have hPT : ((f : Int) + (s : Int)).tmod 4 = (P : Int) := by rw [Int.tmod_eq_emod_of_nonneg (by omega)]; exact hPI
  have c0 := k1 P hP4
  have fP := k5 P
  have f6 := k5 6
  have hne : ((s : Int) == (d : Int)) = false := beq_eq_false_iff_ne.2 (by omega)
  have t0 : (0 : Int) ≤ (P : Int) := by omega
  have t1 : (P : Int) < 4 := by omega
  rw [hP]
  have HP := hid hP
  have K1 := hid k1
  have K5 := hid k5
  clear hP k1 k5
  go_enter Try.func57, Try.ntmps57
  go_wp2_with fail
  go_quiet (fail)
  go_wp2_with fail
  obtain ⟨W1, hW1⟩ : ∃ W1, w.drewN nq = W1 := ⟨_, rfl⟩
  have BW : Below w.heap.size w W1 := by rw [← hW1]; exact below_draws _ _ _
  have k2 : W1.cell? ⟨r, 4, none⟩ = some (.int .i64 d) := by rw [← hW1]; exact k2
  have k3 : W1.cell? ⟨r, 5, none⟩ = some (.int .i64 f) := by rw [← hW1]; exact k3
  have k4 : W1.cell? ⟨r, 6, none⟩ = some (.int .i64 s) := by rw [← hW1]; exact k4
  have c0 : W1.cell? ⟨r, P, none⟩ = some (h P) := by rw [← hW1]; exact c0
  have fP : W1.frozen? ⟨r, P, none⟩ = false := by rw [← hW1]; exact fP
  have f6 : W1.frozen? ⟨r, 6, none⟩ = false := by rw [← hW1]; exact f6
  rw [hW1]
  have HW := hid hW1
  clear hW1
  go_region
  go_wp2
  go_ret
  have KW : Ring W1 r h d f s := by rw [← HW.out]; exact HK.out.drawn
  exact ⟨rfl, ring_put KW hP4 _, ((Chg.of_below (S := fun j => j = r) BW).set (p := ⟨r, P, none⟩) rfl _).set (p := ⟨r, 6, none⟩) rfl _ |>.drew⟩

set_option maxHeartbeats 4000000 in
theorem take_none (r : Nat) (h : Nat → Value) (d f : Nat) (w : World) (k : Ring w r h d f 0) :
    Calls Try.prog 60 #[.pointer (some ⟨r, 0, none⟩)] w fun e w' => e = .returned (.tuple #[.slice none 0 0, .bool false]) ∧ w' = w := by
  obtain ⟨k1, k2, k3, k4, k5⟩ := k
  clear k1 k2 k3 k5
  go_enter Try.func60, Try.ntmps60
  go_wp2
  refine bodyPost_ret (v := .tuple #[.slice none 0 0, .bool false]) (by simp [results, Try.results60, go_sem]) rfl ?_
  exact ⟨rfl, rfl⟩

set_option maxHeartbeats 4000000 in
theorem take_any (r : Nat) (h : Nat → Value) (d f s : Nat) (ua : Option Addr) (ul uc : Nat) (w : World) (k : Ring w r h d f (s + 1)) (hs : s < 4) (hf : f < 4) (hu : h f = .slice ua ul uc) :
    Calls Try.prog 60 #[.pointer (some ⟨r, 0, none⟩)] w fun e w' => e = .returned (.tuple #[.slice ua ul uc, .bool true]) ∧ Ring w' r h d ((f + 1) % 4) s ∧ Chg (fun j => j = r) w w' := by
  have HK := hid k
  obtain ⟨k1, k2, k3, k4, k5⟩ := k
  obtain ⟨P, hP, hP4⟩ : ∃ P : Nat, (f + 1) % 4 = P ∧ P < 4 := ⟨_, rfl, Nat.mod_lt _ (by omega)⟩
  have hPI : ((f : Int) + 1) % 4 = (P : Int) := by omega
  have hPT : ((f : Int) + 1).tmod 4 = (P : Int) := by rw [Int.tmod_eq_emod_of_nonneg (by omega)]; exact hPI
  have c0 := k1 f hf
  rw [hu] at c0
  have f5 := k5 5
  have f6 := k5 6
  have k4 : w.cell? ⟨r, 6, none⟩ = some (.int .i64 ((s : Int) + 1)) := by rw [k4]; simp
  have hne : (((s : Int) + 1) == 0) = false := beq_eq_false_iff_ne.2 (by omega)
  have t0 : (0 : Int) ≤ (f : Int) := by omega
  have t1 : (f : Int) < 4 := by omega
  rw [hP]
  clear hP k1 k5 hu k2
  go_enter Try.func60, Try.ntmps60
  go_wp2_with fail
  go_quiet (fail)
  obtain ⟨W1, hW1⟩ : ∃ W1, w.drewN nq = W1 := ⟨_, rfl⟩
  have BW : Below w.heap.size w W1 := by rw [← hW1]; exact below_draws _ _ _
  have k3 : W1.cell? ⟨r, 5, none⟩ = some (.int .i64 f) := by rw [← hW1]; exact k3
  have k4 : W1.cell? ⟨r, 6, none⟩ = some (.int .i64 ((s : Int) + 1)) := by rw [← hW1]; exact k4
  have f5 : W1.frozen? ⟨r, 5, none⟩ = false := by rw [← hW1]; exact f5
  have f6 : W1.frozen? ⟨r, 6, none⟩ = false := by rw [← hW1]; exact f6
  rw [hW1]
  have KW := hid (show Ring W1 r h d f (s + 1) by rw [← hW1]; exact HK.out.drawn)
  clear hW1
  go_wp2
  refine bodyPost_ret (v := .tuple #[.slice ua ul uc, .bool true]) (by simp [results, Try.results60, go_sem]) rfl ?_
  exact ⟨rfl, ring_take KW.out, ((Chg.of_below (S := fun j => j = r) BW).set (p := ⟨r, 5, none⟩) rfl _).set (p := ⟨r, 6, none⟩) rfl _⟩
end Go.Proofs.Ytanmapgpplhecaa
