/- The contracts of the laws' markByteSS (a running number over lists of bytes of one's own) and heldByteSS (whether it is still there). Conditions: the lists are one's own, in blocks apart, and few. -/
import Derived.Test.YtanmapgpplhecaaByteSS
import Derived.Test.YtanmapgpplhecaaChg
namespace Go.Proofs.Ytanmapgpplhecaa
open Go.ChangeShapes Go.WideShapes Go.ChangeAt Go.RowKit Go.Joins Go.Deep
set_option linter.unusedVariables false
set_option maxRecDepth 4000

/-- a row of lists of one's own, all from the block B on: the row in the block g, the lists in blocks apart from it and from each other -/
def OwnU (w : World) (B g : Nat) (f : Nat → Value) (yss : List (List Int)) : Prop := B ≤ g ∧ w.rowIs g 22 yss.length f ∧ (∀ i, i < yss.length → Own w B (f i) (yss.getD i [])) ∧ Apart yss.length f ∧ ∀ i, i < yss.length → (f i).ownBlock ≠ some g
theorem OwnT.u {w : World} {g : Nat} {f : Nat → Value} {yss : List (List Int)} (h : OwnT w g f yss) : OwnU w g g f yss :=
  ⟨Nat.le_refl _, h.1, fun i hi => (h.2.1 i hi).low (by omega), h.2.2, fun i hi e => by have := ((h.2.1 i hi).blk g e).1; omega⟩
theorem OwnU.rd {w : World} {B g : Nat} {f : Nat → Value} {yss : List (List Int)} (h : OwnU w B g f yss) (cap : Nat) (hn : yss.length ≤ 2000000) (hy : ∀ i, i < yss.length → (yss.getD i []).length ≤ 2000000) : RdS w (.slice (some ⟨g, 0, none⟩) yss.length cap) yss := by
  refine ⟨hn, _, _, rfl, ?_⟩
  by_cases h0 : yss = []
  · exact .inl h0
  · exact .inr ⟨g, 0, rfl, fun i hi => ⟨f i, by rw [Nat.zero_add]; exact h.2.1.cell hi, (h.2.2.1 i hi).rd (hy i hi)⟩⟩
theorem OwnU.keep {w w' : World} {B g : Nat} {f : Nat → Value} {yss : List (List Int)} (h : OwnU w B g f yss) (hb : Below w.heap.size w w') : OwnU w' B g f yss :=
  ⟨h.1, h.2.1.of_block (hb.block g h.2.1.lt), fun i hi => (h.2.2.1 i hi).keep hb, h.2.2.2⟩
theorem OwnU.low {w : World} {B B' g : Nat} {f : Nat → Value} {yss : List (List Int)} (h : OwnU w B g f yss) (hb : B' ≤ B) : OwnU w B' g f yss :=
  ⟨Nat.le_trans hb h.1, h.2.1, fun i hi => (h.2.2.1 i hi).low hb, h.2.2.2⟩
/-- how many bytes lie ahead of the i-th list -/
def offs (yss : List (List Int)) : Nat → Nat
  | 0 => 0
  | i + 1 => offs yss i + (yss.getD i []).length
/-- the first j lists marked, the rest as they were -/
def stS (k : Int) (yss : List (List Int)) (j : Nat) : List (List Int) := (List.range yss.length).map fun i => if i < j then marks (k + offs yss i) (yss.getD i []).length else yss.getD i []
theorem stS_len (k : Int) (yss : List (List Int)) (j : Nat) : (stS k yss j).length = yss.length := by simp [stS]
theorem stS_at (k : Int) (yss : List (List Int)) (j i : Nat) (h : i < yss.length) : (stS k yss j).getD i [] = if i < j then marks (k + offs yss i) (yss.getD i []).length else yss.getD i [] := by
  simp [stS, h]
theorem stS_zero (k : Int) (yss : List (List Int)) : stS k yss 0 = yss := by
  apply List.ext_getElem
  · simp [stS]
  · intro i h1 h2
    simp [stS, h2]
theorem Own.apart {w w' : World} {B : Nat} {v : Value} {xs : List Int} {row : Option Nat} (h : Own w B v xs) (hg : w.grownBy w' row) (hr : ∀ k, row = some k → v.ownBlock ≠ some k) : Own w' B v xs := by
  obtain ⟨h1, h2, h3⟩ := h
  refine ⟨h1, h2, ?_⟩
  rcases h3 with h3 | ⟨q, cap', cur, hv, hq, hh, r⟩
  · exact .inl h3
  · refine .inr ⟨q, cap', cur, hv, hq, ?_, r⟩
    have hlt : q < w.heap.size := by
      rcases Nat.lt_or_ge q w.heap.size with h' | h'
      · exact h'
      · rw [Array.getElem?_eq_none h'] at hh; cases hh
    rw [hg.block q hlt (fun e => hr q e.symm (by rw [hv]; rfl))]; exact hh
theorem offs_mono (yss : List (List Int)) : ∀ {i j : Nat}, i ≤ j → offs yss i ≤ offs yss j := by
  intro i j h
  induction j with
  | zero => obtain rfl : i = 0 := by omega
            exact Nat.le_refl _
  | succ j ih =>
    rcases Nat.lt_or_ge j i with h' | h'
    · obtain rfl : i = j + 1 := by omega
      exact Nat.le_refl _
    · exact Nat.le_trans (ih h') (by simp [offs])

set_option maxHeartbeats 4000000 in
theorem markSS_any (B g cap : Nat) (f : Nat → Value) (yss : List (List Int)) (k : Int) (w : World) (hv : OwnU w B g f yss) (hn : yss.length ≤ 2000000) (hy : ∀ i, i < yss.length → (yss.getD i []).length ≤ 2000000) (k0 : 0 ≤ k) (k1 : k + offs yss yss.length ≤ 2000000000) :
    Calls Try.prog 75 #[.slice (some ⟨g, 0, none⟩) yss.length cap, .int .i64 k] w fun e w' => e = .returned (.int .i64 (k + offs yss yss.length)) ∧ OwnU w' B g f (stS k yss yss.length) ∧ Chg (fun j => ∃ i, i < yss.length ∧ (f i).ownBlock = some j) w w' := by
  have HV := hid hv
  clear hv
  go_enter Try.func75, Try.ntmps75
  go_wp2_with fail
  go_loopw [1, 5] (fun t i wr => ∃ j : Nat, j ≤ yss.length ∧ i = .int .i64 j ∧ t = .int .i64 (k + offs yss j) ∧ OwnU wr B g f (stS k yss j) ∧ Chg (fun j => ∃ i, i < yss.length ∧ (f i).ownBlock = some j) w wr) (fun _ i _ => yss.length - (intOf i).toNat)
  case atStart => exact ⟨0, Nat.zero_le _, rfl, by simp [offs], by rw [stS_zero]; exact HV.out, Chg.refl _ _⟩
  case round =>
    obtain ⟨j, hj, rfl, rfl, ⟨hbg, hro, hou, hap, hng⟩, hc⟩ := hrel
    rw [stS_len] at hro hou hap hng
    by_cases hlt : j < yss.length
    · have hcx : wr.cell? ⟨g, 0 + j, none⟩ = some (f j) := by rw [Nat.zero_add]; exact hro.cell hlt
      rw [Nat.zero_add] at hcx
      have hoj := hou j hlt
      rw [stS_at k yss j j hlt, if_neg (by omega)] at hoj
      obtain ⟨ua, uc, hfj, _⟩ := own_form hoj
      have OJ := hid hoj
      have HRO := hid hro
      have HOU := hid hou
      have HAP := hid hap
      have HNG := hid hng
      have HC := hid hc
      have HFJ := hid hfj
      have hyj := hy j hlt
      have hm : offs yss j + (yss.getD j []).length ≤ offs yss yss.length := offs_mono yss (i := j + 1) (by omega)
      obtain ⟨ys, hys⟩ : ∃ ys, yss.getD j [] = ys := ⟨_, rfl⟩
      have HYS := hid hys
      obtain ⟨O, hO⟩ : ∃ O : Nat, offs yss j = O := ⟨_, rfl⟩
      have HOO := hid hO
      have HOS := hid (show offs yss (j + 1) = O + ys.length by simp only [offs, hO, hys])
      rw [hys] at OJ hyj hm hfj
      rw [hO] at hm ⊢
      rw [hfj] at hcx OJ
      clear hro hou hap hc hoj hys hO hfj hng
      go_wp2_with fail
      refine (mark_any _ ys (k + O) B _ OJ.out hyj (by omega) (by omega)).mono ?_
      rintro e w1 ⟨rfl, o1, g1, z1⟩
      have hfb : ∀ q, (Value.slice ua ys.length uc).ownBlock = some q → (f j).ownBlock = some q := fun q hq => by rw [HFJ.out, HYS.out]; exact hq
      have RT : Hid (OwnU w1 B g f (stS k yss (j + 1))) := hid (by
        refine ⟨hbg, ?_, ?_, ?_, ?_⟩
        · rw [stS_len]
          exact HRO.out.of_block (g1.block g HRO.out.lt (fun e => HNG.out j hlt (hfb g e.symm)))
        · intro i hi
          rw [stS_len] at hi
          rw [stS_at k yss (j + 1) i hi]
          by_cases e : i = j
          · subst e
            rw [if_pos (by omega), HYS.out, HOO.out, HFJ.out, HYS.out]; exact o1
          · have h0 := HOU.out i hi
            rw [stS_at k yss j i hi] at h0
            have h1 := h0.apart g1 (fun q hq => HAP.out j i hlt hi (fun h => e h.symm) q (hfb q hq))
            by_cases c : i < j
            · rw [if_pos (by omega)]; rw [if_pos c] at h1; exact h1
            · rw [if_neg (by omega)]; rw [if_neg c] at h1; exact h1
        · rw [stS_len]; exact HAP.out
        · rw [stS_len]; exact HNG.out)
      have CC := hid (HC.out.trans (Chg.of_grown g1 (fun q hq => ⟨j, hlt, hfb q hq⟩)))
      clear o1 g1 z1 hfb
      go_wp2
      go_roundw
      case rel => exact ⟨j + 1, by omega, by go_num, by rw [HOS.out]; go_num, RT.out, CC.out⟩
      case measure => simp [intOf]; omega
    · obtain rfl : j = yss.length := by omega
      have HO := hid (show OwnU wr B g f (stS k yss yss.length) from ⟨hbg, by rw [stS_len]; exact hro, by rw [stS_len]; exact hou, by rw [stS_len]; exact hap, by rw [stS_len]; exact hng⟩)
      have HC := hid hc
      clear hro hou hap hc hng
      go_wp2
      go_ret
      exact ⟨rfl, HO.out, HC.out⟩

set_option maxHeartbeats 4000000 in
theorem heldSS_any (B g cap : Nat) (f : Nat → Value) (yss : List (List Int)) (k : Int) (w : World) (hv : OwnU w B g f (stS k yss yss.length)) (hn : yss.length ≤ 2000000) (hy : ∀ i, i < yss.length → (yss.getD i []).length ≤ 2000000) (k0 : 0 ≤ k) (k1 : k + offs yss yss.length ≤ 2000000000) :
    Calls Try.prog 76 #[.slice (some ⟨g, 0, none⟩) yss.length cap, .int .i64 k] w fun e w' => e = .returned (.int .i64 (k + offs yss yss.length)) ∧ w' = w := by
  obtain ⟨_, hro, hou, hap, _⟩ := hv
  rw [stS_len] at hro hou
  clear hap
  go_enter Try.func76, Try.ntmps76
  go_wp2_with fail
  go_loop [1, 5] (fun t i => ∃ j : Nat, j ≤ yss.length ∧ i = .int .i64 j ∧ t = .int .i64 (k + offs yss j)) (fun _ i => yss.length - (intOf i).toNat)
  case atStart => exact ⟨0, Nat.zero_le _, rfl, by simp [offs]⟩
  case round =>
    obtain ⟨j, hj, rfl, rfl⟩ := hrel
    by_cases hlt : j < yss.length
    · have hcx := hro.cell hlt
      have hoj := hou j hlt
      rw [stS_at k yss yss.length j hlt, if_pos hlt] at hoj
      have hyj := hy j hlt
      have hm : offs yss j + (yss.getD j []).length ≤ offs yss yss.length := offs_mono yss (i := j + 1) (by omega)
      obtain ⟨ys, hys⟩ : ∃ ys, yss.getD j [] = ys := ⟨_, rfl⟩
      obtain ⟨O, hO⟩ : ∃ O : Nat, offs yss j = O := ⟨_, rfl⟩
      have HOS := hid (show offs yss (j + 1) = O + ys.length by simp only [offs, hO, hys])
      rw [hys] at hoj hyj hm
      rw [hO] at hm hoj ⊢
      have RJ := hid (hoj.rd (by rw [marks_len]; exact hyj))
      obtain ⟨ua, uc, hfj, _⟩ := own_form hoj
      rw [marks_len] at hfj
      rw [hfj] at hcx RJ
      have d1 : decide (k + (O : Int) + (ys.length : Int) < 0) = false := by simp; omega
      clear hoj hys hO hfj hro hou
      go_wp2_with fail
      refine (held_any _ ys.length (k + O) _ RJ.out (by omega) (by omega)).mono ?_
      rintro e w1 ⟨rfl, rfl⟩
      go_wp2
      go_round
      case rel => exact ⟨j + 1, by omega, by go_num, by rw [HOS.out]; go_num⟩
      case measure => simp [intOf]; omega
    · obtain rfl : j = yss.length := by omega
      clear hro hou
      go_wp2
      go_ret
      exact ⟨rfl, rfl⟩
end Go.Proofs.Ytanmapgpplhecaa
