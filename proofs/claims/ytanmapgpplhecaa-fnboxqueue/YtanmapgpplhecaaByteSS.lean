/- Lists of byte lists: what a value reads as; the contracts of the laws' toByteSS, eqByteSS and szByteSS. Conditions: the arguments read as such lists. -/
import Derived.Test.YtanmapgpplhecaaBytesMark2
import Derived.Deep.RegionWith
import Derived.Deep.Slices
namespace Go.Proofs.Ytanmapgpplhecaa
open Go.ChangeShapes Go.WideShapes Go.ChangeAt Go.RowKit Go.Joins Go.Deep
set_option linter.unusedVariables false
set_option maxRecDepth 4000

/-- the slice value reads as these lists of bytes -/
def RdS (w : World) (v : Value) (yss : List (List Int)) : Prop :=
  yss.length ≤ 2000000 ∧ ∃ a cap, v = .slice a yss.length cap ∧ (yss = [] ∨ ∃ b off, a = some ⟨b, off, none⟩ ∧ ∀ i, i < yss.length → ∃ u, w.cell? ⟨b, off + i, none⟩ = some u ∧ Rd w u (yss.getD i []))
theorem RdS.keep {w w' : World} {v : Value} {yss : List (List Int)} (h : RdS w v yss) (hb : Below w.heap.size w w') : RdS w' v yss := by
  obtain ⟨h2, a, cap, hv, h3⟩ := h
  refine ⟨h2, a, cap, hv, ?_⟩
  rcases h3 with h3 | ⟨b, off, ha, hc⟩
  · exact .inl h3
  · exact .inr ⟨b, off, ha, fun i hi => by obtain ⟨u, hu, hr⟩ := hc i hi; exact ⟨u, cell_keep hb hu, hr.keep hb⟩⟩
/-- a row of lists of one's own: the row in the block g, the lists beyond it -/
def Apart (n : Nat) (f : Nat → Value) : Prop := ∀ i j, i < n → j < n → ¬ i = j → ∀ b, (f i).ownBlock = some b → (f j).ownBlock ≠ some b
def OwnT (w : World) (g : Nat) (f : Nat → Value) (yss : List (List Int)) : Prop := w.rowIs g 22 yss.length f ∧ (∀ i, i < yss.length → Own w (g + 1) (f i) (yss.getD i [])) ∧ Apart yss.length f
theorem OwnT.rd {w : World} {g : Nat} {f : Nat → Value} {yss : List (List Int)} (h : OwnT w g f yss) (hn : yss.length ≤ 2000000) (hy : ∀ i, i < yss.length → (yss.getD i []).length ≤ 2000000) : RdS w (.slice (some ⟨g, 0, none⟩) yss.length yss.length) yss := by
  refine ⟨hn, _, _, rfl, ?_⟩
  by_cases h0 : yss = []
  · exact .inl h0
  · exact .inr ⟨g, 0, rfl, fun i hi => ⟨f i, by rw [Nat.zero_add]; exact h.1.cell hi, (h.2.1 i hi).rd (hy i hi)⟩⟩
theorem OwnT.keep {w w' : World} {g : Nat} {f : Nat → Value} {yss : List (List Int)} (h : OwnT w g f yss) (hb : Below w.heap.size w w') : OwnT w' g f yss :=
  ⟨h.1.of_block (hb.block g h.1.lt), fun i hi => (h.2.1 i hi).keep hb, h.2.2⟩

theorem infoB : (Try.prog.info? 22).map (fun i => (i.zero, i.size, i.bytes)) = some (some (.slice none 0 0), 1, 24) := by kernel_rfl
theorem grefl1 (a : World) (g : Nat) : a.grownBy a (some g) := ⟨rfl, rfl, rfl, Nat.le_refl _, fun _ _ _ => rfl⟩

set_option maxHeartbeats 2000000 in
theorem toSS_any (v : Value) (yss : List (List Int)) (w : World) (hv : RdS w v yss) :
    Calls Try.prog 78 #[v] w fun e w' => ∃ f, e = .returned (.slice (some ⟨w.heap.size, 0, none⟩) yss.length yss.length) ∧ OwnT w' w.heap.size f yss ∧ Below w.heap.size w w' := by
  have RV := hid hv
  obtain ⟨h2, a, cap, rfl, h3⟩ := hv
  have hmk := run_make_row' (P := Try.prog) 23 22 (.slice none 0 0) 24 Try.underlying23 infoB rfl .i64 .i64 yss.length (by omega) (by omega)
  have HM := hid (World.rowIs_made w (.slice none 0 0) yss.length 22)
  go_enter Try.func78, Try.ntmps78
  go_wp2_with fail
  go_loopw [4] (fun i wr => ∃ k : Nat, k ≤ yss.length ∧ i = .int .i64 k ∧ (∃ f, wr.rowIs w.heap.size 22 yss.length f ∧ (∀ i, i < yss.length → ∃ p l c, f i = .slice p l c) ∧ (∀ i, i < k → Own wr (w.heap.size + 1) (f i) (yss.getD i [])) ∧ Apart k f) ∧ Below w.heap.size w wr ∧ w.heap.size + 1 ≤ wr.heap.size) (fun i _ => yss.length - (intOf i).toNat)
  case atStart => exact ⟨0, Nat.zero_le _, rfl, ⟨_, HM.out, fun i _ => ⟨_, _, _, rfl⟩, by omega, fun i j hi => by omega⟩, below_alloc1 _ _, by simp⟩
  case round =>
    obtain ⟨k, hk, rfl, ⟨f, hro, hsl, hou, hap⟩, hB, hsz⟩ := hrel
    by_cases hlt : k < yss.length
    · rcases h3 with rfl | ⟨b, off, rfl, hc⟩
      · simp at hlt
      obtain ⟨u, hu, hr⟩ := hc k hlt
      have hcx := cell_keep hB hu
      have RU := hid ((RV.out.keep hB))
      have RK := hid (hr.keep hB)
      obtain ⟨ys, hys⟩ : ∃ ys, yss.getD k [] = ys := ⟨_, rfl⟩
      have HYS := hid hys
      rw [hys] at RK hr
      obtain ⟨_, hn2, ua, uc, rfl, _⟩ := hr
      have HRO := hid hro
      have HOU := hid hou
      have HSL := hid hsl
      have HAP := hid hap
      have HB := hid hB
      clear hc hro hou hB hys hu hsl RU hap
      go_wp2_with fail
      refine (toBytes_any _ ys _ RK.out).mono ?_
      rintro e w1 ⟨v1, rfl, o1, b1⟩
      obtain ⟨va, vc, hv1, _⟩ := own_form o1
      subst hv1
      have hlg : w.heap.size < wr.heap.size := by omega
      have R1 := HRO.out.of_block (b1.block w.heap.size hlg)
      obtain ⟨p0, l0, q0, he0⟩ := HSL.out k hlt
      have hcg := R1.cell hlt
      rw [he0] at hcg
      have hfg := R1.frozen k
      have RS := hid (R1.set k (.slice va ys.length vc))
      have OS := hid (fun i (hi : i < k) => ((HOU.out i hi).keep b1).grown (grown_set' (o := k) (v := .slice va ys.length vc) (grefl1 w1 w.heap.size)) (fun j hj => by cases hj; omega))
      have ON := hid ((o1.grown (grown_set' (o := k) (v := .slice va ys.length vc) (grefl1 w1 w.heap.size)) (fun j hj => by cases hj; omega)).low (show w.heap.size + 1 ≤ wr.heap.size by omega))
      have B1 := hid ((HB.out.trans (b1.mono HB.out.size)).setCell (p := ⟨w.heap.size, k, none⟩) (Nat.le_refl _) (.slice va ys.length vc))
      have z1 : w.heap.size + 1 ≤ (w1.setCell ⟨w.heap.size, k, none⟩ (.slice va ys.length vc)).heap.size := by have := b1.size; simp [World.setCell]; omega
      have Z1 := hid z1
      have NB := hid (fun b hb => (o1.blk b hb).1)
      have OB := hid (fun i (hi : i < k) b hb => ((HOU.out i hi).blk b hb).2)
      clear o1 b1 R1 z1
      go_wp2
      go_roundw
      case rel =>
        refine ⟨k + 1, by omega, by go_num, ⟨_, RS.out, fun i hi => ?_, fun i hi => ?_, fun i j hi hj hij b hb hb' => ?_⟩, B1.out, Z1.out⟩
        · by_cases e : i = k
          · exact ⟨_, _, _, if_pos e⟩
          · obtain ⟨p, l, c, h⟩ := HSL.out i hi
            exact ⟨p, l, c, (if_neg e).trans h⟩
        · by_cases e : i = k
          · subst e
            rw [if_pos rfl, HYS.out]; exact ON.out
          · rw [if_neg e]; exact OS.out i (by omega)
        · dsimp only at hb hb'
          by_cases ei : i = k
          · by_cases ej : j = k
            · omega
            · rw [if_pos ei] at hb
              rw [if_neg ej] at hb'
              have := NB.out b hb
              have := OB.out j (by omega) b hb'
              omega
          · by_cases ej : j = k
            · rw [if_neg ei] at hb
              rw [if_pos ej] at hb'
              have := NB.out b hb'
              have := OB.out i (by omega) b hb
              omega
            · rw [if_neg ei] at hb
              rw [if_neg ej] at hb'
              exact HAP.out i j (by omega) (by omega) hij b hb hb'
      case measure => simp [intOf]; omega
    · obtain rfl : k = yss.length := by omega
      have HO := hid (show OwnT wr w.heap.size f yss from ⟨hro, hou, hap⟩)
      have HB := hid hB
      clear h3 hB hro hou hsl RV hap
      go_wp2
      go_ret
      exact ⟨f, rfl, HO.out, HB.out⟩

set_option maxHeartbeats 4000000 in
theorem eqSS_same (v u : Value) (yss : List (List Int)) (w : World) (hv : RdS w v yss) (hu : RdS w u yss) :
    Calls Try.prog 74 #[v, u] w fun e w' => e = .returned (.bool true) ∧ Below w.heap.size w w' := by
  obtain ⟨h2, a, cap, rfl, h3⟩ := hv
  obtain ⟨_, a', cap', rfl, h3'⟩ := hu
  go_enter Try.func74, Try.ntmps74
  go_wp2_with fail
  go_loopw [5] (fun i wr => ∃ k : Nat, k ≤ yss.length ∧ i = .int .i64 k ∧ Below w.heap.size w wr) (fun i _ => yss.length - (intOf i).toNat)
  case atStart => exact ⟨0, Nat.zero_le _, rfl, Below.refl _ _⟩
  case round =>
    obtain ⟨k, hk, rfl, hB⟩ := hrel
    by_cases hlt : k < yss.length
    · rcases h3 with rfl | ⟨b, off, rfl, hc⟩
      · simp at hlt
      rcases h3' with rfl | ⟨b', off', rfl, hc'⟩
      · simp at hlt
      obtain ⟨u, hu, hr⟩ := hc k hlt
      obtain ⟨u', hu', hr'⟩ := hc' k hlt
      have hcx := cell_keep hB hu
      have hcy := cell_keep hB hu'
      have RX := hid (hr.keep hB.drew)
      have RY := hid (hr'.keep hB.drew)
      generalize yss.getD k [] = ys at RX RY hr hr'
      obtain ⟨_, _, ua, uc, rfl, _⟩ := hr
      obtain ⟨_, _, ua', uc', rfl, _⟩ := hr'
      have hk0 : (0 : Int) ≤ (k : Int) := by omega
      have hk1 : (k : Int) < (yss.length : Int) := by omega
      have HBd := hid hB.drew
      clear hc hc' hB hu hu'
      go_wp2_with fail
      go_region_with ((go_at_call 43; refine (eqBytes_same _ _ ys _ RX.out RY.out).mono ?_; rintro e w2 ⟨rfl, b2⟩; have B2 := hid (HBd.out.trans (b2.mono HBd.out.size))))
      all_goals
        go_wp2
        go_roundw
        case rel => exact ⟨k + 1, by omega, by go_num, B2.out⟩
        case measure => simp [intOf]; omega
    · obtain rfl : k = yss.length := by omega
      have HB := hid hB
      clear h3 h3' hB
      go_wp2
      go_ret
      exact ⟨rfl, HB.out⟩
end Go.Proofs.Ytanmapgpplhecaa
