/- Boxes: the contracts of the laws' szBoxBox, toBoxBox and eqBoxBox, and whether a box is ok. Conditions: the lists read as lists of bytes. -/
import Derived.Test.YtanmapgpplhecaaBoxSz
namespace Go.Proofs.Ytanmapgpplhecaa
open Go.ChangeShapes Go.WideShapes Go.ChangeAt Go.RowKit Go.Joins Go.Deep
set_option linter.unusedVariables false
set_option maxRecDepth 4000

set_option maxHeartbeats 1000000 in
theorem szBox_any (d : Int) (a : Option Addr) (n cap : Nat) (A : Nat → Option Addr) (L C : Nat → Nat) (w : World) (hm : (n : Int) ≤ 9223372036854775807) (hLm : ∀ i, i < n → L i ≤ 9223372036854775807)
    (h2 : n = 0 ∨ ∃ b off, a = some ⟨b, off, none⟩ ∧ ∀ i, i < n → w.cell? ⟨b, off + i, none⟩ = some (.slice (A i) (L i) (C i))) :
    Calls Try.prog 40 #[.agg #[.int .i64 d, .slice a n cap], .int .i64 1048576] w fun e w' => (∃ r : Int, e = .returned (.int .i64 r) ∧ (r = -1 ∨ (0 ≤ r ∧ n ≤ 1048576 ∧ ∀ i, i < n → L i ≤ 1048576))) ∧ Below w.heap.size w w' := by
  have H2 : Hid (n = 0 ∨ ∃ b off, a = some ⟨b, off, none⟩ ∧ ∀ i, i < n → (w.alloc (.cells #[.int .i64 d, .slice a n cap] 51)).cell? ⟨b, off + i, none⟩ = some (.slice (A i) (L i) (C i))) := hid (by
    rcases h2 with h2 | ⟨b, off, ha, hc⟩
    · exact .inl h2
    · exact .inr ⟨b, off, ha, fun i hi => cell_keep (below_alloc1 w _) (hc i hi)⟩)
  have HLM := hid hLm
  clear h2 hLm
  go_enter Try.func40, Try.ntmps40
  go_wp2_with fail
  refine (szSS_any a n cap A L C _ hm HLM.out H2.out).mono ?_
  rintro e w1 ⟨⟨r, rfl, hr⟩, rfl⟩
  have HR := hid hr
  rcases hr with rfl | ⟨r0, hr1⟩
  · clear H2
    go_wp2
    go_ret
    exact ⟨⟨-1, rfl, .inl rfl⟩, below_alloc1 _ _⟩
  · have d1 : decide (r < 0) = false := by simp; omega
    clear H2 hr1
    go_wp2
    go_ret
    exact ⟨⟨r, rfl, HR.out⟩, below_alloc1 _ _⟩

theorem resToBox {W : World} {b : Nat} {x0 x1 : Value} (tmps : Array Value) (ht : tmps[2]?.getD undef = .pointer (some ⟨b, 0, none⟩)) (h0 : W.cell? ⟨b, 0, none⟩ = some x0) (h1 : W.cell? ⟨b, 1, none⟩ = some x1) :
    (results Try.f41 tmps).run Try.prog W = .ok (.agg #[x0, x1]) W := by
  simp [results, Try.results41, go_sem, ht, h0, h1]
theorem OwnT.chg {w w' : World} {g : Nat} {f : Nat → Value} {yss : List (List Int)} {S : Nat → Prop} (h : OwnT w g f yss) (hc : Chg S w w') (hs : ∀ j, g ≤ j → ¬ S j) : OwnT w' g f yss :=
  ⟨h.1.of_block (hc.block g h.1.lt (hs g (Nat.le_refl _))), fun i hi => by
    obtain ⟨h1, h2, h3⟩ := h.2.1 i hi
    refine ⟨h1, h2, ?_⟩
    rcases h3 with h3 | ⟨q, cap', cur, hv, hq, hh, r⟩
    · exact .inl h3
    · refine .inr ⟨q, cap', cur, hv, hq, ?_, r⟩
      have hlt : q < w.heap.size := by
        rcases Nat.lt_or_ge q w.heap.size with h' | h'
        · exact h'
        · rw [Array.getElem?_eq_none h'] at hh; cases hh
      rw [hc.block q hlt (hs q (by omega))]; exact hh, h.2.2⟩

set_option maxHeartbeats 4000000 in
theorem toBox_any (d : Int) (v : Value) (yss : List (List Int)) (w : World) (hv : RdS w v yss) :
    Calls Try.prog 41 #[.agg #[.int .i64 d, v]] w fun e w' => ∃ g f, e = .returned (.agg #[.int .i64 d, .slice (some ⟨g, 0, none⟩) yss.length yss.length]) ∧ w.heap.size ≤ g ∧ OwnT w' g f yss ∧ Below w.heap.size w w' := by
  have RV := hid hv
  obtain ⟨_, a, cap, rfl, _⟩ := hv
  have BB := hid ((((Below.refl w.heap.size w).alloc (Nat.le_refl _) (.cells #[.int .i64 d, .slice a yss.length cap] 51)).alloc (by simp) (.cells #[.int .i64 0, .slice none 0 0] 25)).alloc (by simp; omega) (.cells #[.int .i64 d, .slice none 0 0] 25))
  have z0 : (((w.alloc (.cells #[.int .i64 d, .slice a yss.length cap] 51)).alloc (.cells #[.int .i64 0, .slice none 0 0] 25)).alloc (.cells #[.int .i64 d, .slice none 0 0] 25)).heap.size = w.heap.size + 3 := by simp
  have s0 : (((w.alloc (.cells #[.int .i64 d, .slice a yss.length cap] 51)).alloc (.cells #[.int .i64 0, .slice none 0 0] 25)).alloc (.cells #[.int .i64 d, .slice none 0 0] 25)).cell? ⟨w.heap.size + 1, 0, none⟩ = some (.int .i64 0) := by go_simp
  have s1 : (((w.alloc (.cells #[.int .i64 d, .slice a yss.length cap] 51)).alloc (.cells #[.int .i64 0, .slice none 0 0] 25)).alloc (.cells #[.int .i64 d, .slice none 0 0] 25)).cell? ⟨w.heap.size + 1, 1, none⟩ = some (.slice none 0 0) := by go_simp
  have o0 : (((w.alloc (.cells #[.int .i64 d, .slice a yss.length cap] 51)).alloc (.cells #[.int .i64 0, .slice none 0 0] 25)).alloc (.cells #[.int .i64 d, .slice none 0 0] 25)).cell? ⟨w.heap.size + 1 + 1, 0, none⟩ = some (.int .i64 d) := by go_simp
  have o1 : (((w.alloc (.cells #[.int .i64 d, .slice a yss.length cap] 51)).alloc (.cells #[.int .i64 0, .slice none 0 0] 25)).alloc (.cells #[.int .i64 d, .slice none 0 0] 25)).cell? ⟨w.heap.size + 1 + 1, 1, none⟩ = some (.slice none 0 0) := by go_simp
  have f0 : (((w.alloc (.cells #[.int .i64 d, .slice a yss.length cap] 51)).alloc (.cells #[.int .i64 0, .slice none 0 0] 25)).alloc (.cells #[.int .i64 d, .slice none 0 0] 25)).frozen? ⟨w.heap.size + 1, 0, none⟩ = false := by go_simp
  have f1 : (((w.alloc (.cells #[.int .i64 d, .slice a yss.length cap] 51)).alloc (.cells #[.int .i64 0, .slice none 0 0] 25)).alloc (.cells #[.int .i64 d, .slice none 0 0] 25)).frozen? ⟨w.heap.size + 1, 1, none⟩ = false := by go_simp
  have g1 : (((w.alloc (.cells #[.int .i64 d, .slice a yss.length cap] 51)).alloc (.cells #[.int .i64 0, .slice none 0 0] 25)).alloc (.cells #[.int .i64 d, .slice none 0 0] 25)).frozen? ⟨w.heap.size + 1 + 1, 1, none⟩ = false := by go_simp
  go_enter Try.func41, Try.ntmps41
  go_wp2_with fail
  refine (toSS_any _ yss _ (RV.out.keep BB.out)).mono ?_
  rintro e w1 ⟨f, rfl, p1, b1⟩
  rw [z0] at p1 ⊢
  have z1 := b1.size
  rw [z0] at z1
  have s0 := cell_keep b1 s0
  have s1 := cell_keep b1 s1
  have o0 := cell_keep b1 o0
  have o1 := cell_keep b1 o1
  have f0 := (b1.frozen (p := ⟨w.heap.size + 1, 0, none⟩) (by rw [z0]; dsimp only; omega)).trans f0
  have f1 := (b1.frozen (p := ⟨w.heap.size + 1, 1, none⟩) (by rw [z0]; dsimp only; omega)).trans f1
  have g1 := (b1.frozen (p := ⟨w.heap.size + 1 + 1, 1, none⟩) (by rw [z0]; dsimp only; omega)).trans g1
  have P1 := hid p1
  have B1 := hid (BB.out.trans (b1.mono BB.out.size))
  clear p1 b1
  have e0 := (World.cell?_setCell_other w1 ⟨w.heap.size + 1 + 1, 1, none⟩ ⟨w.heap.size + 1 + 1, 0, none⟩ (.slice (some ⟨w.heap.size + 3, 0, none⟩) yss.length yss.length) (by simp)).trans o0
  have e1 := World.cell?_setCell_same w1 ⟨w.heap.size + 1 + 1, 1, none⟩ (.slice (some ⟨w.heap.size + 3, 0, none⟩) yss.length yss.length) o1
  have r0 := (World.cell?_setCell_other w1 ⟨w.heap.size + 1 + 1, 1, none⟩ ⟨w.heap.size + 1, 0, none⟩ (.slice (some ⟨w.heap.size + 3, 0, none⟩) yss.length yss.length) (by simp)).trans s0
  have r1 := (World.cell?_setCell_other w1 ⟨w.heap.size + 1 + 1, 1, none⟩ ⟨w.heap.size + 1, 1, none⟩ (.slice (some ⟨w.heap.size + 3, 0, none⟩) yss.length yss.length) (by simp)).trans s1
  have HT := hid (show (((w1.setCell ⟨w.heap.size + 1 + 1, 1, none⟩ (.slice (some ⟨w.heap.size + 3, 0, none⟩) yss.length yss.length)).setCell ⟨w.heap.size + 1, 0, none⟩ (.int .i64 d)).setCell ⟨w.heap.size + 1, 1, none⟩ (.slice (some ⟨w.heap.size + 3, 0, none⟩) yss.length yss.length)).cell? ⟨w.heap.size + 1, 0, none⟩ = some (.int .i64 d) ∧ (((w1.setCell ⟨w.heap.size + 1 + 1, 1, none⟩ (.slice (some ⟨w.heap.size + 3, 0, none⟩) yss.length yss.length)).setCell ⟨w.heap.size + 1, 0, none⟩ (.int .i64 d)).setCell ⟨w.heap.size + 1, 1, none⟩ (.slice (some ⟨w.heap.size + 3, 0, none⟩) yss.length yss.length)).cell? ⟨w.heap.size + 1, 1, none⟩ = some (.slice (some ⟨w.heap.size + 3, 0, none⟩) yss.length yss.length) from
    ⟨(World.cell?_setCell_other _ _ _ _ (by simp)).trans (World.cell?_setCell_same _ _ _ r0), World.cell?_setCell_same _ _ _ ((World.cell?_setCell_other _ _ _ _ (by simp)).trans r1)⟩)
  have CG := hid ((((Chg.refl (fun j => j = w.heap.size + 1 ∨ j = w.heap.size + 1 + 1) w1).set (p := ⟨w.heap.size + 1 + 1, 1, none⟩) (.inr rfl) (.slice (some ⟨w.heap.size + 3, 0, none⟩) yss.length yss.length)).set (p := ⟨w.heap.size + 1, 0, none⟩) (.inl rfl) (.int .i64 d)).set (p := ⟨w.heap.size + 1, 1, none⟩) (.inl rfl) (.slice (some ⟨w.heap.size + 3, 0, none⟩) yss.length yss.length))
  go_wp2_with fail
  obtain ⟨t0, t1⟩ := HT.out
  refine bodyPost_ret (v := .agg #[.int .i64 d, .slice (some ⟨w.heap.size + 3, 0, none⟩) yss.length yss.length]) (resToBox _ rfl t0 t1) rfl ?_
  exact ⟨_, f, rfl, by omega, P1.out.chg CG.out (fun j hj he => by have he : j = w.heap.size + 1 ∨ j = w.heap.size + 1 + 1 := he; omega), below_chg B1.out CG.out (by have := B1.out.size; omega) (fun j hj => by have hj : j = w.heap.size + 1 ∨ j = w.heap.size + 1 + 1 := hj; omega)⟩

set_option maxHeartbeats 1000000 in
theorem eqBox_same (d : Int) (v u : Value) (yss : List (List Int)) (w : World) (hv : RdS w v yss) (hu : RdS w u yss) :
    Calls Try.prog 37 #[.agg #[.int .i64 d, v], .agg #[.int .i64 d, u]] w fun e w' => e = .returned (.bool true) ∧ Below w.heap.size w w' := by
  have R := hid hv
  have U := hid hu
  obtain ⟨_, a, cap, rfl, _⟩ := hv
  obtain ⟨_, a', cap', rfl, _⟩ := hu
  have P := hid (((Below.refl w.heap.size w).alloc (Nat.le_refl _) (.cells #[.int .i64 d, .slice a yss.length cap] 25)).alloc (by simp) (.cells #[.int .i64 d, .slice a' yss.length cap'] 25))
  go_enter Try.func37, Try.ntmps37
  go_wp2_with fail
  refine (eqSS_same _ _ yss _ (R.out.keep P.out) (U.out.keep P.out)).mono ?_
  rintro e w1 ⟨rfl, b1⟩
  have P1 := hid (P.out.trans (b1.mono P.out.size))
  clear b1
  go_wp2
  go_ret
  exact ⟨rfl, P1.out⟩

/-- whether a box is ok -/
def boxB (d : Int) (yss : List (List Int)) : Bool := inB d 1 4 && (!decide (d < yss.length) && (List.range yss.length).all fun i => decide ((yss.getD i []).length ≤ 8))
theorem all_range_succ' (p : Nat → Bool) (k : Nat) : (List.range (k + 1)).all p = ((List.range k).all p && p k) := by
  rw [List.range_succ, List.all_append]; simp
theorem boxB_bad {d : Int} {yss : List (List Int)} {k : Nat} (hk : k < yss.length) (h : decide ((yss.getD k []).length ≤ 8) = false) : boxB d yss = false := by
  have : ((List.range yss.length).all fun i => decide ((yss.getD i []).length ≤ 8)) = false := List.all_eq_false.2 ⟨k, by simpa using hk, by rw [h]; decide⟩
  simp only [boxB, this, Bool.and_false]
theorem boxB_good {d : Int} {yss : List (List Int)} (h1 : inB d 1 4 = true) (h2 : decide (d < yss.length) = false) (h : ((List.range yss.length).all fun i => decide ((yss.getD i []).length ≤ 8)) = true) : boxB d yss = true := by
  simp only [boxB, h1, h2, h]; rfl

theorem greater_any (x y : Int) (w : World) :
    Calls Try.prog 61 #[.int .i64 x, .int .i64 y] w fun e w' => e = .returned (.bool (decide (y < x))) ∧ w' = w := by
  go_enter Try.func61, Try.ntmps61
  go_wp2
  go_ret
  exact ⟨rfl, rfl⟩

set_option maxHeartbeats 4000000 in
theorem specBoxOk_any (d : Int) (v : Value) (yss : List (List Int)) (w : World) (hv : RdS w v yss) :
    Calls Try.prog 26 #[.agg #[.int .i64 d, v]] w fun e w' => e = .returned (.bool (boxB d yss)) ∧ Below w.heap.size w w' := by
  have RV := hid (hv.keep (below_alloc1 w (.cells #[.int .i64 d, v] 25)))
  obtain ⟨h2, a, cap, rfl, _⟩ := hv
  cases c0 : inB d 1 4
  · have H := hid (show boxB d yss = false by simp only [boxB, c0, Bool.false_and])
    go_enter Try.func26, Try.ntmps26
    go_wp2_with (go_at_call 54; refine (l1In_any _ _ _ _).mono ?_; rintro e w' ⟨rfl, rfl⟩)
    go_ret
    exact ⟨ret_bool H.out.symm, below_alloc1 _ _⟩
  cases c1 : decide (d < (yss.length : Int))
  · go_enter Try.func26, Try.ntmps26
    go_wp2_with (go_at_call 54; refine (l1In_any _ _ _ _).mono ?_; rintro e w' ⟨rfl, rfl⟩)
    go_loop [3] (fun i => ∃ k : Nat, k ≤ yss.length ∧ i = .int .i64 k ∧ ((List.range k).all fun i => decide ((yss.getD i []).length ≤ 8)) = true) (fun i => yss.length - (intOf i).toNat)
    case atStart => exact ⟨0, Nat.zero_le _, rfl, rfl⟩
    case round =>
      obtain ⟨k, hk, rfl, hall⟩ := hrel
      by_cases hlt : k < yss.length
      · obtain ⟨_, a2, cap2, hv2, h3⟩ := RV.out
        simp only [Value.slice.injEq, true_and] at hv2
        obtain ⟨rfl, rfl⟩ := hv2
        rcases h3 with rfl | ⟨b, off, rfl, hc⟩
        · simp at hlt
        obtain ⟨u, hu, hr⟩ := hc k hlt
        have HA := hid (all_range_succ' (fun i => decide ((yss.getD i []).length ≤ 8)) k)
        rw [hall, Bool.true_and] at HA
        have HBAD := hid (fun h => boxB_bad (d := d) hlt h)
        have RK := hid hr
        obtain ⟨ys, hys⟩ : ∃ ys, yss.getD k [] = ys := ⟨_, rfl⟩
        rw [hys] at RK hr
        have HYS := hid hys
        obtain ⟨_, _, ua, uc, rfl, _⟩ := hr
        have t0 : (0 : Int) ≤ (k : Int) := by omega
        have t1 : (k : Int) < (yss.length : Int) := by omega
        clear hc hall hys RV
        cases c8 : decide (ys.length ≤ 8)
        · go_wp2_with (go_at_call 27; refine (specMsg_any _ ys _ RK.out).mono ?_; rintro e w1 ⟨rfl, rfl⟩)
          go_ret
          exact ⟨ret_bool (HBAD.out (by rw [HYS.out]; exact c8)).symm, below_alloc1 _ _⟩
        · have C8 := hid c8
          go_wp2_with (go_at_call 27; refine (specMsg_any _ ys _ RK.out).mono ?_; rintro e w1 ⟨rfl, rfl⟩)
          go_round
          case rel => exact ⟨k + 1, by omega, by go_num, by rw [HA.out]; rw [HYS.out]; first | exact C8.out | exact c8⟩
          case measure => simp [intOf]; omega
      · obtain rfl : k = yss.length := by omega
        have HG := hid (boxB_good c0 c1 hall)
        clear hall RV
        go_wp2
        go_ret
        exact ⟨ret_bool HG.out.symm, below_alloc1 _ _⟩
  · have H := hid (show boxB d yss = false by simp only [boxB, c1, c0]; rfl)
    go_enter Try.func26, Try.ntmps26
    go_wp2_with (go_at_call 54; refine (l1In_any _ _ _ _).mono ?_; rintro e w' ⟨rfl, rfl⟩)
    go_ret
    exact ⟨ret_bool H.out.symm, below_alloc1 _ _⟩

set_option maxHeartbeats 4000000 in
theorem boxOk_any (d : Int) (v : Value) (yss : List (List Int)) (w : World) (hv : RdS w v yss) :
    Calls Try.prog 23 #[.agg #[.int .i64 d, v]] w fun e w' => e = .returned (.bool (boxB d yss)) ∧ Below w.heap.size w w' := by
  have RV := hid (hv.keep (below_alloc1 w (.cells #[.int .i64 d, v] 25)))
  obtain ⟨h2, a, cap, rfl, _⟩ := hv
  cases c0 : inB d 1 4
  · have H := hid (show boxB d yss = false by simp only [boxB, c0, Bool.false_and])
    go_enter Try.func23, Try.ntmps23
    go_wp2_with ((first | (go_at_call 53; refine (within_any _ _ _ _).mono ?_; rintro e w' ⟨rfl, rfl⟩) | (go_at_call 61; refine (greater_any _ _ _).mono ?_; rintro e w' ⟨rfl, rfl⟩)))
    go_ret
    exact ⟨ret_bool H.out.symm, below_alloc1 _ _⟩
  cases c1 : decide (d < (yss.length : Int))
  · go_enter Try.func23, Try.ntmps23
    go_wp2_with ((first | (go_at_call 53; refine (within_any _ _ _ _).mono ?_; rintro e w' ⟨rfl, rfl⟩) | (go_at_call 61; refine (greater_any _ _ _).mono ?_; rintro e w' ⟨rfl, rfl⟩)))
    go_loop [20] (fun i => ∃ k : Nat, k ≤ yss.length ∧ i = .int .i64 k ∧ ((List.range k).all fun i => decide ((yss.getD i []).length ≤ 8)) = true) (fun i => yss.length - (intOf i).toNat)
    case atStart => exact ⟨0, Nat.zero_le _, rfl, rfl⟩
    case round =>
      obtain ⟨k, hk, rfl, hall⟩ := hrel
      by_cases hlt : k < yss.length
      · obtain ⟨_, a2, cap2, hv2, h3⟩ := RV.out
        simp only [Value.slice.injEq, true_and] at hv2
        obtain ⟨rfl, rfl⟩ := hv2
        rcases h3 with rfl | ⟨b, off, rfl, hc⟩
        · simp at hlt
        obtain ⟨u, hu, hr⟩ := hc k hlt
        have HA := hid (all_range_succ' (fun i => decide ((yss.getD i []).length ≤ 8)) k)
        rw [hall, Bool.true_and] at HA
        have HBAD := hid (fun h => boxB_bad (d := d) hlt h)
        have RK := hid hr
        obtain ⟨ys, hys⟩ : ∃ ys, yss.getD k [] = ys := ⟨_, rfl⟩
        rw [hys] at RK hr
        have HYS := hid hys
        obtain ⟨_, _, ua, uc, rfl, _⟩ := hr
        have t0 : (0 : Int) ≤ (k : Int) := by omega
        have t1 : (k : Int) < (yss.length : Int) := by omega
        clear hc hall hys RV
        cases c8 : decide (ys.length ≤ 8)
        · go_wp2_with (go_at_call 55; refine (implMsg_any _ ys _ RK.out).mono ?_; rintro e w1 ⟨rfl, rfl⟩)
          go_ret
          exact ⟨ret_bool (HBAD.out (by rw [HYS.out]; exact c8)).symm, below_alloc1 _ _⟩
        · have C8 := hid c8
          go_wp2_with (go_at_call 55; refine (implMsg_any _ ys _ RK.out).mono ?_; rintro e w1 ⟨rfl, rfl⟩)
          go_round
          case rel => exact ⟨k + 1, by omega, by go_num, by rw [HA.out]; rw [HYS.out]; first | exact C8.out | exact c8⟩
          case measure => simp [intOf]; omega
      · obtain rfl : k = yss.length := by omega
        have HG := hid (boxB_good c0 c1 hall)
        clear hall RV
        go_wp2
        go_ret
        exact ⟨ret_bool HG.out.symm, below_alloc1 _ _⟩
  · have H := hid (show boxB d yss = false by simp only [boxB, c1, c0]; rfl)
    go_enter Try.func23, Try.ntmps23
    go_wp2_with ((first | (go_at_call 53; refine (within_any _ _ _ _).mono ?_; rintro e w' ⟨rfl, rfl⟩) | (go_at_call 61; refine (greater_any _ _ _).mono ?_; rintro e w' ⟨rfl, rfl⟩)))
    go_ret
    exact ⟨ret_bool H.out.symm, below_alloc1 _ _⟩
end Go.Proofs.Ytanmapgpplhecaa
