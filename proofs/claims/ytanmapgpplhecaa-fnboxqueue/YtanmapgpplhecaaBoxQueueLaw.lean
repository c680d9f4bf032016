/- First in, first out: what is put into a box by drawn turns comes out in order. No conditions. -/
import Derived.Test.YtanmapgpplhecaaWantRow
import Derived.Test.YtanmapgpplhecaaBoxNew
namespace Go.Proofs.Ytanmapgpplhecaa.fnBoxQueue
open Go.ChangeShapes Go.WideShapes Go.ChangeAt Go.RowKit Go.Joins Go.Deep
set_option linter.unusedVariables false
set_option linter.unusedSimpArgs false
set_option maxRecDepth 4000
theorem ldB {b : Nat} {x y : Value} (w : World) (h0 : w.cell? ⟨b, 0, none⟩ = some x) (h1 : w.cell? ⟨b, 1, none⟩ = some y) : (Instr.loadAt 25 (.pointer (some ⟨b, 0, none⟩))).run Try.prog w = .ok (.agg #[x, y]) w := by
  go_simp
theorem rd_atG {w : World} {a : Option Addr} {n cap i : Nat} {xs : List Int} (h : Rd w (.slice a n cap) xs) (hi : i < xs.length) : ∃ b off, a = some ⟨b, off, none⟩ ∧ w.cell? ⟨b, off + i, none⟩ = some (.int .u8 (xs.getD i 0)) ∧ 0 ≤ xs.getD i 0 ∧ xs.getD i 0 ≤ 255 := by
  obtain ⟨h1, h2, a', cap', hv, h3⟩ := h
  simp only [Value.slice.injEq] at hv
  obtain ⟨rfl, _, rfl⟩ := hv
  rcases h3 with rfl | ⟨b, off, ha, hc⟩
  · simp at hi
  · have eg : xs.getD i 0 = xs[i] := by simp [List.getD_eq_getElem?_getD, List.getElem?_eq_getElem hi]
    have hx := h1 (xs.getD i 0) (by rw [eg]; exact List.getElem_mem hi)
    exact ⟨b, off, ha, hc i hi, hx.1, hx.2⟩
theorem boxB_app {d : Int} {yss : List (List Int)} {ms : List Int} (h : boxB d yss = true) (hm : ms.length ≤ 8) (hl : (yss.length : Int) < d) : boxB d (yss ++ [ms]) = true := by
  obtain ⟨⟨h1, h2⟩, h3, h4⟩ := box_of h
  refine boxB_good (by simp [inB]; omega) (by simp; omega) ?_
  rw [List.all_eq_true]
  intro i hi
  have hi := List.mem_range.1 hi
  simpa using getD_app h4 hm i hi
theorem boxB_drop {d : Int} {yss : List (List Int)} (h : boxB d yss = true) : boxB d (yss.drop 1) = true := by
  obtain ⟨⟨h1, h2⟩, h3, h4⟩ := box_of h
  refine boxB_good (by simp [inB]; omega) (by simp; omega) ?_
  rw [List.all_eq_true]
  intro i hi
  have hi := List.mem_range.1 hi
  rw [List.length_drop] at hi
  rw [getD_drop1]
  simpa using h4 (i + 1) (by omega)
theorem want_drop {w : World} {lo g off cap : Nat} {f : Nat → Value} {yss : List (List Int)} (h : WantF w lo g off cap f yss) (h0 : 0 < yss.length) : WantF w lo g (if cap = 1 then off else off + 1) (cap - 1) (fun i => f (i + 1)) (yss.drop 1) := by
  by_cases hc : cap = 1
  · subst hc
    have h1 := h.2.2.1
    refine ⟨h.1, h.2.1, by rw [List.length_drop]; omega, fun j hj => by omega, fun i hi => ?_⟩
    rw [List.length_drop] at hi
    omega
  · rw [if_neg hc]
    exact h.drop h0
def QAt (w wr : World) (B : Nat) (d : Int) (u : Value) (g off cap : Nat) (f : Nat → Value) (yss : List (List Int)) : Prop := Below w.heap.size w wr ∧ VB wr B [.int .i64 d, u] ∧ RdS wr u yss ∧ WantF wr (B + 1) g off cap f yss ∧ boxB d yss = true
set_option maxHeartbeats 16000000 in
theorem walk (a0 : Option Addr) (len0 cap0 : Nat) (z0 : List Int) (a1 : Option Addr) (len1 cap1 : Nat) (z1 : List Int) (w : World) (k0 : IsRow .u8 w a0 len0 cap0 z0) (k1 : IsRow .u8 w a1 len1 cap1 z1) :
    Calls Try.prog 3 #[.slice a0 len0 cap0, .slice a1 len1 cap1] w fun e w' => e = .returned (.bool true) ∧ Below w.heap.size w w' := by
  have m0 := k0.max
  have m1 := k1.max
  by_cases hl0 : len0 ≤ 1048576
  · by_cases hl1 : len1 ≤ 1048576
    · have hl0' : (len0 : Int) ≤ 1048576 := by omega
      have hl1' : (len1 : Int) ≤ 1048576 := by omega
      have d0 : decide ((1048576 : Int) < (len0 : Int)) = false := by simp; omega
      have d1 : decide ((1048576 : Int) < (len1 : Int)) = false := by simp; omega
      obtain ⟨xs1, hx1, r1⟩ := k1.rd hl1
      have R1 := hid r1
      clear k0 k1 r1 m0 m1
      go_enter Try.func3, Try.ntmps3
      go_wp2_with fail
      obtain ⟨d, hd⟩ : ∃ d : Int, 1 + (len1 : Int) % 4 = d := ⟨_, rfl⟩
      have hd1 : 1 ≤ d := by omega
      have hd4 : d ≤ 4 := by omega
      have HND := hid (show newD d = d by simp [newD, inB]; omega)
      have HD := hid hd
      have HB0 := hid (show boxB d [] = true by simp [boxB, inB]; omega)
      rw [hd]
      clear hd
      refine (boxNew_any d _).mono ?_
      rw [HND.out]
      rintro e w1 ⟨rfl, b1⟩
      have RW := R1
      have PP := hid b1
      replace R1 := hid (R1.out.keep b1)
      obtain ⟨B, hB⟩ : ∃ B, w1.heap.size = B := ⟨_, rfl⟩
      have HBw := hid (show w.heap.size ≤ B by have := b1.size; omega)
      clear b1
      replace R1 := hid (R1.out.keep (below_alloc1 w1 (.cells #[.int .i64 d, .slice none 0 0] 25)))
      replace PP := hid (PP.out.alloc PP.out.size (.cells #[.int .i64 d, .slice none 0 0] 25))
      have V5 := hid (show VB _ B _ by rw [← hB]; exact vb_new w1 [.int .i64 d, .slice none 0 0] 25)
      obtain ⟨W1, hW1⟩ : ∃ W, w1.alloc (.cells #[.int .i64 d, .slice none 0 0] 25) = W := ⟨_, rfl⟩
      rw [hW1] at R1 V5 PP
      have s1 : W1.heap.size = B + 1 := by rw [← hW1, ← hB]; simp
      have HS1 := hid s1
      clear s1
      have HW1 := hid hW1
      have HBe := hid hB
      clear hW1 hB
      go_upto_region 4 with fail
      try rw [HW1.out]
      try rw [HBe.out]
      clear HW1 HBe
      by_cases hbig : 300 < len1
      · have db : decide ((300 : Int) < (len1 : Int)) = true := by simp; omega
        obtain ⟨q0a, q0b⟩ := vb2 V5.out
        have HAL : AllLast [(fun u _ => u = .agg #[.int .i64 d, .slice none 0 0]), (fun u _ => u = .slice a1 len1 cap1), (fun u _ => u = .int .i64 (len1 : Int)), (fun u _ => u = .int .i64 ((len1 : Int) % 4)), (fun u _ => u = .int .i64 (1 + (len1 : Int) % 4)), (fun u _ => u = .agg #[.int .i64 d, .slice none 0 0]), (fun u _ => u = .bool true), (fun u _ => u = .bool false), (fun u _ => u = .bool false), (fun u _ => u = .slice a1 len1 cap1), (fun u _ => u = .int .i64 (len1 : Int)), (fun u _ => u = .bool true), (fun u _ => u = .bool true)] := ⟨lasts_val _, lasts_val _, lasts_val _, lasts_val _, lasts_val _, lasts_val _, lasts_val _, lasts_val _, lasts_val _, lasts_val _, lasts_val _, lasts_val _, lasts_val _, trivial⟩
        refine region_bw [(fun u _ => u = .agg #[.int .i64 d, .slice none 0 0]), (fun u _ => u = .slice a1 len1 cap1), (fun u _ => u = .int .i64 (len1 : Int)), (fun u _ => u = .int .i64 ((len1 : Int) % 4)), (fun u _ => u = .int .i64 (1 + (len1 : Int) % 4)), (fun u _ => u = .agg #[.int .i64 d, .slice none 0 0]), (fun u _ => u = .bool true), (fun u _ => u = .bool false), (fun u _ => u = .bool false), (fun u _ => u = .slice a1 len1 cap1), (fun u _ => u = .int .i64 (len1 : Int)), (fun u _ => u = .bool true), (fun u _ => u = .bool true)] (by kernel_rfl) (by kernel_rfl) ⟨?_, ?_, ?_, ?_, ?_, ?_, ?_, ?_, ?_, ?_, ?_, ?_, ?_, trivial⟩ ?_
        · exact ob_un (bw_load (fun w hb => ldB w (cell_keep hb q0a) (cell_keep hb q0b)) (ok_out rfl rfl) rfl)
        · exact ob_un (bw_move rfl (ok_out rfl rfl))
        · exact ob_un (bw_len (fun w => by go_simp) (ok_in 1 rfl rfl rfl) rfl)
        · exact ob_un (bw_bin (fun w => by go_simp; exact Int.tmod_eq_emod_of_nonneg (by omega)) (ok_in 2 rfl rfl rfl) (ok_const _) rfl)
        · exact ob_un (bw_bin (fun w => by go_simp; rw [IntKind.wrap_i64]; omega) (ok_const _) (ok_in 3 rfl rfl rfl) rfl)
        · exact ob_un (bw_call HAL (fun xs w => by go_simp) (fun a' w hb hat => by
          have e1 : a'.eval (.tmp 31) = .int .i64 (1 + (len1 : Int) % 4) := ok_in 4 rfl rfl rfl a' w hat
          have e : (#[Operand.tmp 31].map a'.eval) = #[.int .i64 d] := by simp [e1, HD.out]
          rw [e]
          refine (specBoxNew_any d w).mono ?_
          rw [HND.out]
          rintro e w' ⟨rfl, b⟩
          exact ⟨_, rfl, rfl, b⟩))
        · exact ob_un (bw_call HAL (fun xs w => by go_simp) (fun a' w hb hat => by
          have e1 : a'.eval (.tmp 27) = .agg #[.int .i64 d, .slice none 0 0] := ok_in 0 rfl rfl rfl a' w hat
          have e2 : a'.eval (.tmp 32) = .agg #[.int .i64 d, .slice none 0 0] := ok_in 5 rfl rfl rfl a' w hat
          have e : (#[Operand.tmp 27, Operand.tmp 32].map a'.eval) = #[.agg #[.int .i64 d, .slice none 0 0], .agg #[.int .i64 d, .slice none 0 0]] := by simp [e1, e2]
          rw [e]
          refine (caBox_same d _ _ [] w (rdS_nil w) (rdS_nil w)).mono ?_
          rintro e w' ⟨rfl, b⟩
          exact ⟨_, rfl, rfl, b⟩))
        · exact ob_un (bw_un (fun w => by go_simp) (ok_in 6 rfl rfl rfl) rfl)
        · exact ob_un (bw_move rfl (ok_in 7 rfl rfl rfl))
        · exact bw_on 8 false rfl rfl (bw_move rfl (ok_out rfl rfl))
        · exact bw_on 8 false rfl rfl (bw_len (fun w => by go_simp) (ok_in 9 rfl rfl rfl) rfl)
        · exact bw_on 8 false rfl rfl (bw_bin (fun w => by go_simp) (ok_in 10 rfl rfl rfl) (ok_const _) rfl)
        · exact ob_un (bw_pick false (ok_in 8 rfl rfl rfl) (ok_in 11 rfl rfl rfl) rfl)
        intro uu wz bz hF
        obtain ⟨-, -, -, -, -, -, -, -, -, -, -, -, f12, -⟩ := hF
        have hn : uu 39 = .bool true := f12
        simp only [outTmps, List.setIfInBounds_toArray, List.set_cons_zero, List.set_cons_succ, hn]
        clear f12 HAL q0a q0b
        replace R1 := hid (R1.out.keep bz)
        replace V5 := hid (V5.out.keep bz)
        replace PP := hid (PP.out.trans (bz.mono PP.out.size))
        clear bz
        go_wp2
        go_ret
        exact ⟨rfl, PP.out⟩
      · have db : decide ((300 : Int) < (len1 : Int)) = false := by simp; omega
        obtain ⟨q0a, q0b⟩ := vb2 V5.out
        have HAL : AllLast [(fun u _ => u = .agg #[.int .i64 d, .slice none 0 0]), (fun u _ => u = .slice a1 len1 cap1), (fun u _ => u = .int .i64 (len1 : Int)), (fun u _ => u = .int .i64 ((len1 : Int) % 4)), (fun u _ => u = .int .i64 (1 + (len1 : Int) % 4)), (fun u _ => u = .agg #[.int .i64 d, .slice none 0 0]), (fun u _ => u = .bool true), (fun u _ => u = .bool false), (fun u _ => u = .bool false), (fun u _ => u = .slice a1 len1 cap1), (fun u _ => u = .int .i64 (len1 : Int)), (fun u _ => u = .bool false), (fun u _ => u = .bool false)] := ⟨lasts_val _, lasts_val _, lasts_val _, lasts_val _, lasts_val _, lasts_val _, lasts_val _, lasts_val _, lasts_val _, lasts_val _, lasts_val _, lasts_val _, lasts_val _, trivial⟩
        refine region_bw [(fun u _ => u = .agg #[.int .i64 d, .slice none 0 0]), (fun u _ => u = .slice a1 len1 cap1), (fun u _ => u = .int .i64 (len1 : Int)), (fun u _ => u = .int .i64 ((len1 : Int) % 4)), (fun u _ => u = .int .i64 (1 + (len1 : Int) % 4)), (fun u _ => u = .agg #[.int .i64 d, .slice none 0 0]), (fun u _ => u = .bool true), (fun u _ => u = .bool false), (fun u _ => u = .bool false), (fun u _ => u = .slice a1 len1 cap1), (fun u _ => u = .int .i64 (len1 : Int)), (fun u _ => u = .bool false), (fun u _ => u = .bool false)] (by kernel_rfl) (by kernel_rfl) ⟨?_, ?_, ?_, ?_, ?_, ?_, ?_, ?_, ?_, ?_, ?_, ?_, ?_, trivial⟩ ?_
        · exact ob_un (bw_load (fun w hb => ldB w (cell_keep hb q0a) (cell_keep hb q0b)) (ok_out rfl rfl) rfl)
        · exact ob_un (bw_move rfl (ok_out rfl rfl))
        · exact ob_un (bw_len (fun w => by go_simp) (ok_in 1 rfl rfl rfl) rfl)
        · exact ob_un (bw_bin (fun w => by go_simp; exact Int.tmod_eq_emod_of_nonneg (by omega)) (ok_in 2 rfl rfl rfl) (ok_const _) rfl)
        · exact ob_un (bw_bin (fun w => by go_simp; rw [IntKind.wrap_i64]; omega) (ok_const _) (ok_in 3 rfl rfl rfl) rfl)
        · exact ob_un (bw_call HAL (fun xs w => by go_simp) (fun a' w hb hat => by
          have e1 : a'.eval (.tmp 31) = .int .i64 (1 + (len1 : Int) % 4) := ok_in 4 rfl rfl rfl a' w hat
          have e : (#[Operand.tmp 31].map a'.eval) = #[.int .i64 d] := by simp [e1, HD.out]
          rw [e]
          refine (specBoxNew_any d w).mono ?_
          rw [HND.out]
          rintro e w' ⟨rfl, b⟩
          exact ⟨_, rfl, rfl, b⟩))
        · exact ob_un (bw_call HAL (fun xs w => by go_simp) (fun a' w hb hat => by
          have e1 : a'.eval (.tmp 27) = .agg #[.int .i64 d, .slice none 0 0] := ok_in 0 rfl rfl rfl a' w hat
          have e2 : a'.eval (.tmp 32) = .agg #[.int .i64 d, .slice none 0 0] := ok_in 5 rfl rfl rfl a' w hat
          have e : (#[Operand.tmp 27, Operand.tmp 32].map a'.eval) = #[.agg #[.int .i64 d, .slice none 0 0], .agg #[.int .i64 d, .slice none 0 0]] := by simp [e1, e2]
          rw [e]
          refine (caBox_same d _ _ [] w (rdS_nil w) (rdS_nil w)).mono ?_
          rintro e w' ⟨rfl, b⟩
          exact ⟨_, rfl, rfl, b⟩))
        · exact ob_un (bw_un (fun w => by go_simp) (ok_in 6 rfl rfl rfl) rfl)
        · exact ob_un (bw_move rfl (ok_in 7 rfl rfl rfl))
        · exact bw_on 8 false rfl rfl (bw_move rfl (ok_out rfl rfl))
        · exact bw_on 8 false rfl rfl (bw_len (fun w => by go_simp) (ok_in 9 rfl rfl rfl) rfl)
        · exact bw_on 8 false rfl rfl (bw_bin (fun w => by go_simp) (ok_in 10 rfl rfl rfl) (ok_const _) rfl)
        · exact ob_un (bw_pick false (ok_in 8 rfl rfl rfl) (ok_in 11 rfl rfl rfl) rfl)
        intro uu wz bz hF
        obtain ⟨-, -, -, -, -, -, -, -, -, -, -, -, f12, -⟩ := hF
        have hn : uu 39 = .bool false := f12
        simp only [outTmps, List.setIfInBounds_toArray, List.set_cons_zero, List.set_cons_succ, hn]
        clear f12 HAL q0a q0b
        replace R1 := hid (R1.out.keep bz)
        replace V5 := hid (V5.out.keep bz)
        replace PP := hid (PP.out.trans (bz.mono PP.out.size))
        clear bz
        have HWB := hid (show B + 1 ≤ wz.heap.size by have := V5.out.2.2; omega)
        replace R1 := hid (R1.out.keep (below_alloc1 wz (.cells #[] 22)))
        replace V5 := hid (V5.out.keep (below_alloc1 wz (.cells #[] 22)))
        replace PP := hid (PP.out.alloc PP.out.size (.cells #[] 22))
        have WT := hid (show WantF (wz.alloc (.cells #[] 22)) (B + 1) wz.heap.size 0 0 (fun _ => undef) [] from ⟨HWB.out, by simp, Nat.zero_le _, fun j hj => by omega, fun i hi => by simp at hi⟩)
        obtain ⟨W2, hW2⟩ : ∃ W, wz.alloc (.cells #[] 22) = W := ⟨_, rfl⟩
        rw [hW2] at R1 V5 WT PP
        go_wp2_with fail
        try rw [hW2]
        clear hW2
        go_loopw [6, 7] (fun v i wr => ∃ (k : Nat) (u : Value) (yss : List (List Int)) (g off cap : Nat) (f : Nat → Value), i = .int .i64 (k : Int) ∧ k ≤ len1 ∧ v = .slice (some ⟨g, off, none⟩) yss.length cap ∧ QAt w wr B d u g off cap f yss) (fun _ i _ => len1 - (intOf i).toNat)
        case atStart => exact ⟨0, .slice none 0 0, [], _, 0, 0, _, rfl, Nat.zero_le _, rfl, PP.out, V5.out, rdS_nil _, WT.out, HB0.out⟩
        case round =>
          clear PP V5 WT R1 HWB HB0 HS1
          obtain ⟨k, u, yss, g, off, cap, f, rfl, hk, rfl, hQ⟩ := hrel
          have PP := hid hQ.1
          have V5 := hid hQ.2.1
          have RX := hid hQ.2.2.1
          have WT := hid hQ.2.2.2.1
          have HB := hid hQ.2.2.2.2
          have BO := hid (box_of hQ.2.2.2.2)
          have R1 := hid (RW.out.keep PP.out)
          obtain ⟨ua, uc, rfl⟩ : ∃ a c, u = .slice a yss.length c := by obtain ⟨_, a, c, h, _⟩ := hQ.2.2.1; exact ⟨a, c, h⟩
          obtain ⟨n, hn⟩ : ∃ n, yss.length = n := ⟨_, rfl⟩
          have HN := hid hn
          rw [hn] at V5 RX ⊢
          have n4 : n ≤ 4 := by have := BO.out.2.1; omega
          clear hQ hn
          by_cases hlt : k < len1
          · obtain ⟨ba, fa, ha, c1, x0, x255⟩ := rd_atG R1.out (i := k) (by omega)
            subst ha
            obtain ⟨x, hx⟩ : ∃ x : Nat, xs1.getD k 0 = (x : Int) := ⟨_, (Int.toNat_of_nonneg x0).symm⟩
            rw [hx] at c1 x0 x255
            obtain ⟨y, hy⟩ : ∃ y, k % 256 = y := ⟨_, rfl⟩
            have y255 : y ≤ 255 := by omega
            have hy1 : (k : Int) % 256 = (y : Int) := by omega
            have hy2 : IntKind.u8.wrap (k : Int) = (y : Int) := by rw [IntKind.wrap_u8]; exact hy1
            have k0 : (0 : Int) ≤ (k : Int) := by omega
            have k1 : (k : Int) < (len1 : Int) := by omega
            clear hx hy x0
            have gM := hid WT.out.2.1
            have c2 : (wr.alloc (.cells #[.int .u8 (x : Int), .int .u8 (y : Int)] 5)).cell? ⟨ba, fa + k, none⟩ = some (.int .u8 (x : Int)) := cell_keep (below_alloc1 wr _) c1
            have HWB := hid (show B + 1 ≤ wr.heap.size by have := V5.out.2.2; omega)
            replace V5 := hid (V5.out.keep (below_alloc1 wr (.cells #[.int .u8 (x : Int), .int .u8 (y : Int)] 5)))
            replace RX := hid (RX.out.keep (below_alloc1 wr (.cells #[.int .u8 (x : Int), .int .u8 (y : Int)] 5)))
            replace WT := hid (WT.out.keep (below_alloc1 wr (.cells #[.int .u8 (x : Int), .int .u8 (y : Int)] 5)))
            replace PP := hid (PP.out.alloc PP.out.size (.cells #[.int .u8 (x : Int), .int .u8 (y : Int)] 5))
            have OM := hid ((own_two wr (x : Int) (y : Int) (by omega)).low (B' := B + 1) HWB.out)
            obtain ⟨Wm, hWm⟩ : ∃ W, wr.alloc (.cells #[.int .u8 (x : Int), .int .u8 (y : Int)] 5) = W := ⟨_, rfl⟩
            rw [hWm] at V5 RX WT OM PP
            rw [hWm] at c2
            by_cases hm : x % 3 = 0
            · have hm1 : ¬ (0 : Int) < (x : Int) % 3 := by omega
              obtain ⟨q0a, q0b⟩ := vb2 V5.out
              go_wp2_with fail
              try rw [hWm]
              clear hWm
              clear q0a q0b
              have TD := hid (show tD d yss = d by simp [tD, HB.out])
              have TM := hid (show tM d yss = yss.getD 0 [] by simp [tM, HB.out])
              have TI := hid (show tI d yss = yss.drop 1 by simp [tI, HB.out])
              have HBI := hid (boxB_drop HB.out)
              have HL := hid (show (yss.drop 1).length = n - 1 by rw [List.length_drop, HN.out])
              have H8 := hid (show (yss.getD 0 []).length ≤ 2000000 by rcases Nat.eq_zero_or_pos n with h | h; · { have : yss = [] := List.eq_nil_of_length_eq_zero (by rw [HN.out, h]); rw [this]; simp }; · { have := BO.out.2.2 0 (by rw [HN.out]; exact h); omega })
              by_cases hl : 0 < n
              · have TB := hid (show tB d yss = true by simp [tB, HB.out, HN.out]; exact hl)
                have dl : decide ((0 : Int) < (n : Int)) = true := by simp; omega
                have i0 : (0 : Int) < (n : Int) := by omega
                have n1 : 1 ≤ n := hl
                refine (boxTake_any d _ yss _ RX.out).mono ?_
                rintro e w2 ⟨u5, f5, m5, rfl, g5, gm5, _, _, b2⟩
                rw [TD.out, TB.out]
                rw [TI.out] at g5
                rw [TM.out] at gm5
                obtain ⟨ua5, uc5, rfl⟩ := g5.form
                rw [HL.out] at g5 ⊢
                have G5 := hid g5
                obtain ⟨ma5, mc5, rfl, _⟩ := own_form gm5
                have RG := hid (gm5.rd H8.out)
                clear g5 gm5
                have HBB := hid (show B < Wm.heap.size by have := V5.out.2.2; omega)
                replace V5 := hid (V5.out.keep b2)
                replace RX := hid (RX.out.keep b2)
                replace WT := hid (WT.out.keep b2)
                replace OM := hid (OM.out.keep b2)
                replace PP := hid (PP.out.trans (b2.mono PP.out.size))
                clear b2
                replace V5 := hid (V5.out.keep (below_alloc1 w2 (.cells #[.int .i64 d, .slice ua5 (n - 1) uc5] 25)))
                replace RX := hid (RX.out.keep (below_alloc1 w2 (.cells #[.int .i64 d, .slice ua5 (n - 1) uc5] 25)))
                replace WT := hid (WT.out.keep (below_alloc1 w2 (.cells #[.int .i64 d, .slice ua5 (n - 1) uc5] 25)))
                replace OM := hid (OM.out.keep (below_alloc1 w2 (.cells #[.int .i64 d, .slice ua5 (n - 1) uc5] 25)))
                replace G5 := hid (G5.out.keep (below_alloc1 w2 (.cells #[.int .i64 d, .slice ua5 (n - 1) uc5] 25)))
                replace RG := hid (RG.out.keep (below_alloc1 w2 (.cells #[.int .i64 d, .slice ua5 (n - 1) uc5] 25)))
                replace PP := hid (PP.out.alloc PP.out.size (.cells #[.int .i64 d, .slice ua5 (n - 1) uc5] 25))
                have V11 := hid (vb_new w2 [.int .i64 d, .slice ua5 (n - 1) uc5] 25)
                obtain ⟨Wx, hWx⟩ : ∃ W, w2.alloc (.cells #[.int .i64 d, .slice ua5 (n - 1) uc5] 25) = W := ⟨_, rfl⟩
                rw [hWx] at V5 RX WT OM G5 RG V11 PP
                obtain ⟨p1, p2, _⟩ := WT.out.2.2.2.2 0 (by rw [HN.out]; exact hl)
                obtain ⟨pz, cz, hfz, _⟩ := own_form p2
                have RZ := hid (p2.rd H8.out)
                rw [hfz] at p1 RZ
                rw [Nat.add_zero] at p1
                clear hfz p2
                have n1c : n - 1 + 1 = n := by omega
                have c1c : 1 ≤ cap := by have := WT.out.2.2.1; have := HN.out; omega
                obtain ⟨q0a, q0b⟩ := vb2 V5.out
                go_wp2_with fail
                try rw [hWx]
                clear hWx
                clear q0a q0b
                refine (caBytes_same _ _ (yss.getD 0 []) _ RG.out RZ.out).mono ?_
                rintro e w3 ⟨rfl, rfl⟩
                clear p1
                replace WT := hid (want_drop WT.out (by rw [HN.out]; exact hl))
                have CG := vbchg2 (S := fun j => j = B) (w := w3) (b := B) (.int .i64 d) (.slice ua5 (n - 1) uc5) rfl
                have V5n := hid (vbset2 (.int .i64 d) (.slice ua5 (n - 1) uc5) V5.out)
                have RXn := hid ((G5.out.off CG (fun j hj => by have hj : j = B := hj; have := HBB.out; omega)).rd (by have := HL.out; omega) (fun i hi => by have := (box_of HBI.out).2.2 i hi; omega))
                have WTn := hid (WT.out.chg CG (fun j hj => by have hj : j = B := hj; omega))
                have PPn := hid (below_chg PP.out CG PP.out.size (fun j hj => by have hj : j = B := hj; have := HBw.out; omega))
                clear CG
                have fr := V5.out.2.1
                obtain ⟨q0a, q0b⟩ := vb2 V5.out
                obtain ⟨q1a, q1b⟩ := vb2 V11.out
                go_wp2_with fail
                go_roundw
                case rel => exact ⟨k + 1, _, yss.drop 1, g, (if cap = 1 then off else off + 1), cap - 1, _, by go_num, by omega, by rw [HL.out]; split <;> rfl, PPn.out, V5n.out, RXn.out, WTn.out, HBI.out⟩
                case measure => simp [intOf]; omega
              · have TB := hid (show tB d yss = false by simp [tB, HB.out, HN.out]; omega)
                have dl : decide ((0 : Int) < (n : Int)) = false := by simp; omega
                have i0 : ¬ (0 : Int) < (n : Int) := by omega
                refine (boxTake_any d _ yss _ RX.out).mono ?_
                rintro e w2 ⟨u5, f5, m5, rfl, g5, gm5, _, _, b2⟩
                rw [TD.out, TB.out]
                rw [TI.out] at g5
                rw [TM.out] at gm5
                obtain ⟨ua5, uc5, rfl⟩ := g5.form
                rw [HL.out] at g5 ⊢
                have G5 := hid g5
                obtain ⟨ma5, mc5, rfl, _⟩ := own_form gm5
                have RG := hid (gm5.rd H8.out)
                clear g5 gm5
                have HBB := hid (show B < Wm.heap.size by have := V5.out.2.2; omega)
                replace V5 := hid (V5.out.keep b2)
                replace RX := hid (RX.out.keep b2)
                replace WT := hid (WT.out.keep b2)
                replace OM := hid (OM.out.keep b2)
                replace PP := hid (PP.out.trans (b2.mono PP.out.size))
                clear b2
                replace V5 := hid (V5.out.keep (below_alloc1 w2 (.cells #[.int .i64 d, .slice ua5 (n - 1) uc5] 25)))
                replace RX := hid (RX.out.keep (below_alloc1 w2 (.cells #[.int .i64 d, .slice ua5 (n - 1) uc5] 25)))
                replace WT := hid (WT.out.keep (below_alloc1 w2 (.cells #[.int .i64 d, .slice ua5 (n - 1) uc5] 25)))
                replace OM := hid (OM.out.keep (below_alloc1 w2 (.cells #[.int .i64 d, .slice ua5 (n - 1) uc5] 25)))
                replace G5 := hid (G5.out.keep (below_alloc1 w2 (.cells #[.int .i64 d, .slice ua5 (n - 1) uc5] 25)))
                replace RG := hid (RG.out.keep (below_alloc1 w2 (.cells #[.int .i64 d, .slice ua5 (n - 1) uc5] 25)))
                replace PP := hid (PP.out.alloc PP.out.size (.cells #[.int .i64 d, .slice ua5 (n - 1) uc5] 25))
                have V11 := hid (vb_new w2 [.int .i64 d, .slice ua5 (n - 1) uc5] 25)
                obtain ⟨Wx, hWx⟩ : ∃ W, w2.alloc (.cells #[.int .i64 d, .slice ua5 (n - 1) uc5] 25) = W := ⟨_, rfl⟩
                rw [hWx] at V5 RX WT OM G5 RG V11 PP
                have hY : yss = [] := List.eq_nil_of_length_eq_zero (by rw [HN.out]; omega)
                have HY := hid hY
                have WTy := WT
                clear WT
                have WT := hid (show WantF Wx (B + 1) g off cap f (yss.drop 1) by have h := WTy.out; rw [HY.out] at h ⊢; exact h)
                clear WTy hY
                have CG := vbchg2 (S := fun j => j = B) (w := Wx) (b := B) (.int .i64 d) (.slice ua5 (n - 1) uc5) rfl
                have V5n := hid (vbset2 (.int .i64 d) (.slice ua5 (n - 1) uc5) V5.out)
                have RXn := hid ((G5.out.off CG (fun j hj => by have hj : j = B := hj; have := HBB.out; omega)).rd (by have := HL.out; omega) (fun i hi => by have := (box_of HBI.out).2.2 i hi; omega))
                have WTn := hid (WT.out.chg CG (fun j hj => by have hj : j = B := hj; omega))
                have PPn := hid (below_chg PP.out CG PP.out.size (fun j hj => by have hj : j = B := hj; have := HBw.out; omega))
                clear CG
                have fr := V5.out.2.1
                obtain ⟨q0a, q0b⟩ := vb2 V5.out
                obtain ⟨q1a, q1b⟩ := vb2 V11.out
                go_wp2_with fail
                try rw [hWx]
                clear hWx
                go_roundw
                case rel => exact ⟨k + 1, _, yss.drop 1, g, off, cap, f, by go_num, by omega, by rw [HL.out]; congr 1; omega, PPn.out, V5n.out, RXn.out, WTn.out, HBI.out⟩
                case measure => simp [intOf]; omega
            · have hm1 : (0 : Int) < (x : Int) % 3 := by omega
              obtain ⟨q0a, q0b⟩ := vb2 V5.out
              go_wp2_with fail
              clear q0a q0b
              have hp : pOk d yss [(x : Int), (y : Int)] = true := by simp [pOk, HB.out]
              by_cases hl : (n : Int) < d
              · have hl2 : (yss.length : Int) < d := by rw [HN.out]; exact hl
                have EE := hid (p_yes hp hl2)
                have HBI0 := hid (boxB_app HB.out (by simp : [(x : Int), (y : Int)].length ≤ 8) hl2)
                obtain ⟨I, hI⟩ : ∃ I, yss ++ [[(x : Int), (y : Int)]] = I := ⟨_, rfl⟩
                have HI := hid hI
                rw [hI] at EE HBI0
                have HBI := HBI0
                have HL := hid (show I.length = n + 1 by rw [← hI, ← HN.out]; simp)
                clear HBI0 hI hl2 hp
                obtain ⟨m, hm2⟩ : ∃ m, n + 1 = m := ⟨_, rfl⟩
                have HM := hid hm2
                rw [hm2] at HL
                clear hm2
                have dl : decide ((n : Int) < d) = true := by simpa using hl
                refine (boxPut_any d _ _ yss [(x : Int), (y : Int)] _ RX.out (OM.out.rd (by simp))).mono ?_
                rintro e w2 ⟨u5, f5, rfl, g5, b2⟩
                rw [EE.out.1, EE.out.2.2]
                rw [EE.out.2.1] at g5
                obtain ⟨ua5, uc5, rfl⟩ := g5.form
                rw [HL.out] at g5 ⊢
                have G5 := hid g5
                clear g5
                have HBB := hid (show B < Wm.heap.size by have := V5.out.2.2; omega)
                have HGM := hid (show g < Wm.heap.size from WT.out.2.1)
                have z2 := hid b2.size
                replace V5 := hid (V5.out.keep b2)
                replace RX := hid (RX.out.keep b2)
                replace WT := hid (WT.out.keep b2)
                replace OM := hid (OM.out.keep b2)
                replace PP := hid (PP.out.trans (b2.mono PP.out.size))
                clear b2
                replace V5 := hid (V5.out.keep (below_alloc1 w2 (.cells #[.int .i64 d, .slice ua5 m uc5] 25)))
                replace RX := hid (RX.out.keep (below_alloc1 w2 (.cells #[.int .i64 d, .slice ua5 m uc5] 25)))
                replace WT := hid (WT.out.keep (below_alloc1 w2 (.cells #[.int .i64 d, .slice ua5 m uc5] 25)))
                replace OM := hid (OM.out.keep (below_alloc1 w2 (.cells #[.int .i64 d, .slice ua5 m uc5] 25)))
                replace G5 := hid (G5.out.keep (below_alloc1 w2 (.cells #[.int .i64 d, .slice ua5 m uc5] 25)))
                replace PP := hid (PP.out.alloc PP.out.size (.cells #[.int .i64 d, .slice ua5 m uc5] 25))
                have V9 := hid (vb_new w2 [.int .i64 d, .slice ua5 m uc5] 25)
                obtain ⟨Wx, hWx⟩ : ∃ W, w2.alloc (.cells #[.int .i64 d, .slice ua5 m uc5] 25) = W := ⟨_, rfl⟩
                rw [hWx] at V5 RX WT OM G5 V9 PP
                have OM2 := hid (OM.out.keep (below_alloc1 Wx (.cells #[.slice (some ⟨wr.heap.size, 0, none⟩) 2 2] 22)))
                have WT2 := hid (WT.out.keep (below_alloc1 Wx (.cells #[.slice (some ⟨wr.heap.size, 0, none⟩) 2 2] 22)))
                have gW := hid (show B + 1 ≤ Wx.heap.size by have := V5.out.2.2; omega)
                obtain ⟨q0a, q0b⟩ := vb2 V5.out
                go_wp2_with (at_builtin; go_must (refine wpList_append_want _ (by rfl) _ _ (by rfl) (B + 1) g off cap n f yss [(x : Int), (y : Int)] (.slice (some ⟨wr.heap.size, 0, none⟩) 2 2) ⟨Wx.heap.size, 0, none⟩ 1 (by rfl) HN.out WT2.out (by rfl) (cell_one_new _ _ _) (by intro y hy; simp at hy; subst hy; rfl) OM2.out ?_ (by have := gW.out; simp; omega) (by omega) ?_))
                · intro he
                  have := gM.out
                  simp only [Value.ownBlock, Option.some.injEq] at he
                  omega
                intro g' off' cap' f' w6 hw hg
                rw [HI.out] at hw
                have BA := below_alloc1 Wx (.cells #[.slice (some ⟨wr.heap.size, 0, none⟩) 2 2] 22)
                have hgB : B + 1 ≤ g := WT.out.1
                replace V5 := hid ((V5.out.keep BA).grown hg (by simp; omega))
                replace V9 := hid ((V9.out.keep BA).grown hg (by have := HGM.out; have := z2.out; simp; omega))
                replace G5 := hid ((G5.out.keep BA).off (Chg.of_grown (S := fun j => j = g) hg (fun j hj => by simpa using hj.symm)) (fun j hj => by have hj : j = g := hj; have := HGM.out; omega))
                replace PP := hid ((PP.out.trans (BA.mono PP.out.size)).trans (below_grown' (n := w.heap.size) hg (by have := HBw.out; omega) (by have := PP.out.size; simp; omega)))
                replace WT := hid hw
                clear hw hg BA OM2 WT2 q0a q0b
                have CG := vbchg2 (S := fun j => j = B) (w := w6) (b := B) (.int .i64 d) (.slice ua5 m uc5) rfl
                have V5n := hid (vbset2 (.int .i64 d) (.slice ua5 m uc5) V5.out)
                have RXn := hid ((G5.out.off CG (fun j hj => by have hj : j = B := hj; have := HBB.out; omega)).rd (by have := HL.out; have := HM.out; omega) (fun i hi => by have := (box_of HBI.out).2.2 i hi; omega))
                have WTn := hid (WT.out.chg CG (fun j hj => by have hj : j = B := hj; omega))
                have PPn := hid (below_chg PP.out CG PP.out.size (fun j hj => by have hj : j = B := hj; have := HBw.out; omega))
                clear CG
                have fr := V5.out.2.1
                obtain ⟨q0a, q0b⟩ := vb2 V5.out
                obtain ⟨q1a, q1b⟩ := vb2 V9.out
                go_wp2_with fail
                try rw [hWx]
                clear hWx
                go_roundw
                case rel => exact ⟨k + 1, _, I, g', off', cap', f', by go_num, by omega, by rw [HL.out, ← HM.out], PPn.out, V5n.out, RXn.out, WTn.out, HBI.out⟩
                case measure => simp [intOf]; omega
              · have EE := hid (p_full hp (by rw [HN.out]; exact hl))
                have HBI := HB
                have HL := HN
                clear hp
                have dl : decide ((n : Int) < d) = false := by simpa using hl
                refine (boxPut_any d _ _ yss [(x : Int), (y : Int)] _ RX.out (OM.out.rd (by simp))).mono ?_
                rintro e w2 ⟨u5, f5, rfl, g5, b2⟩
                rw [EE.out.1, EE.out.2.2]
                rw [EE.out.2.1] at g5
                obtain ⟨ua5, uc5, rfl⟩ := g5.form
                rw [HL.out] at g5 ⊢
                have G5 := hid g5
                clear g5
                have HBB := hid (show B < Wm.heap.size by have := V5.out.2.2; omega)
                have HGM := hid (show g < Wm.heap.size from WT.out.2.1)
                have z2 := hid b2.size
                replace V5 := hid (V5.out.keep b2)
                replace RX := hid (RX.out.keep b2)
                replace WT := hid (WT.out.keep b2)
                replace OM := hid (OM.out.keep b2)
                replace PP := hid (PP.out.trans (b2.mono PP.out.size))
                clear b2
                replace V5 := hid (V5.out.keep (below_alloc1 w2 (.cells #[.int .i64 d, .slice ua5 n uc5] 25)))
                replace RX := hid (RX.out.keep (below_alloc1 w2 (.cells #[.int .i64 d, .slice ua5 n uc5] 25)))
                replace WT := hid (WT.out.keep (below_alloc1 w2 (.cells #[.int .i64 d, .slice ua5 n uc5] 25)))
                replace OM := hid (OM.out.keep (below_alloc1 w2 (.cells #[.int .i64 d, .slice ua5 n uc5] 25)))
                replace G5 := hid (G5.out.keep (below_alloc1 w2 (.cells #[.int .i64 d, .slice ua5 n uc5] 25)))
                replace PP := hid (PP.out.alloc PP.out.size (.cells #[.int .i64 d, .slice ua5 n uc5] 25))
                have V9 := hid (vb_new w2 [.int .i64 d, .slice ua5 n uc5] 25)
                obtain ⟨Wx, hWx⟩ : ∃ W, w2.alloc (.cells #[.int .i64 d, .slice ua5 n uc5] 25) = W := ⟨_, rfl⟩
                rw [hWx] at V5 RX WT OM G5 V9 PP
                have CG := vbchg2 (S := fun j => j = B) (w := Wx) (b := B) (.int .i64 d) (.slice ua5 n uc5) rfl
                have V5n := hid (vbset2 (.int .i64 d) (.slice ua5 n uc5) V5.out)
                have RXn := hid ((G5.out.off CG (fun j hj => by have hj : j = B := hj; have := HBB.out; omega)).rd (by have := HL.out; omega) (fun i hi => by have := (box_of HBI.out).2.2 i hi; omega))
                have WTn := hid (WT.out.chg CG (fun j hj => by have hj : j = B := hj; omega))
                have PPn := hid (below_chg PP.out CG PP.out.size (fun j hj => by have hj : j = B := hj; have := HBw.out; omega))
                clear CG
                have fr := V5.out.2.1
                obtain ⟨q0a, q0b⟩ := vb2 V5.out
                obtain ⟨q1a, q1b⟩ := vb2 V9.out
                go_wp2_with fail
                try rw [hWx]
                clear hWx
                go_roundw
                case rel => exact ⟨k + 1, _, yss, g, off, cap, f, by go_num, by omega, by rw [HN.out], PPn.out, V5n.out, RXn.out, WTn.out, HBI.out⟩
                case measure => simp [intOf]; omega
          · have hlt' : ¬ (k : Int) < (len1 : Int) := by omega
            have WR := hid (WT.out.rd (by rw [HN.out]; omega) (fun i hi => by have := BO.out.2.2 i hi; omega))
            rw [HN.out] at WR
            obtain ⟨q0a, q0b⟩ := vb2 V5.out
            go_wp2_with fail
            clear q0a q0b
            refine (caItems_same _ _ yss _ RX.out WR.out).mono ?_
            rintro e w8 ⟨rfl, b8⟩
            replace V5 := hid (V5.out.keep b8)
            replace RX := hid (RX.out.keep b8)
            replace WT := hid (WT.out.keep b8)
            replace WR := hid (WR.out.keep b8)
            replace PP := hid (PP.out.trans (b8.mono PP.out.size))
            clear b8
            obtain ⟨q0a, q0b⟩ := vb2 V5.out
            go_wp2_with fail
            clear q0a q0b
            refine (boxOk_any d _ yss _ RX.out).mono ?_
            rw [HB.out]
            rintro e w9 ⟨rfl, b9⟩
            replace V5 := hid (V5.out.keep b9)
            replace RX := hid (RX.out.keep b9)
            replace WT := hid (WT.out.keep b9)
            replace WR := hid (WR.out.keep b9)
            replace PP := hid (PP.out.trans (b9.mono PP.out.size))
            clear b9
            go_wp2
            go_ret
            exact ⟨rfl, PP.out⟩
    · have hl0' : (len0 : Int) ≤ 1048576 := by omega
      have hl1' : (1048576 : Int) < (len1 : Int) := by omega
      have d0 : decide ((1048576 : Int) < (len0 : Int)) = false := by simp; omega
      have d1 : decide ((1048576 : Int) < (len1 : Int)) = true := by simp; omega
      clear k0 k1
      go_enter Try.func3, Try.ntmps3
      go_wp2
      go_ret
      exact ⟨rfl, Below.refl _ _⟩
  · have hl0' : (1048576 : Int) < (len0 : Int) := by omega
    have d0 : decide ((1048576 : Int) < (len0 : Int)) = true := by simp; omega
    clear k0 k1
    go_enter Try.func3, Try.ntmps3
    go_wp2
    go_ret
    exact ⟨rfl, Below.refl _ _⟩
theorem own : ownKnob Try.prog.godebug = none := by kernel_rfl
theorem laidOut : laidOutB Try.prog = true := by kernel_rfl
set_option maxRecDepth 100000 in
theorem lifted (os : Os) (started : os.Started) (H : Type) (enc : TypeId × Value → H) :
    ReturnsInHanded {} Try.checked os 3 .any (Rows.fnBoxQueueSpec.pre6 enc Try.prog Try.f3 Rows.fnBoxQueueRow.domain false) (Rows.fnBoxQueueSpec.post enc Try.prog Try.f3 false true false false) := by
  refine returnsInHanded_of_change (C := Try.checked) own started (by kernel_rfl) Try.func3
    (ChangeSpec.witness6 (enc := enc) (C := Try.checked) false ⟨#[], #[.slice none 0 0, .slice none 0 0], []⟩ 8 (by kernel_rfl) (by kernel_rfl) (by kernel_rfl) (by kernel_rfl)) ?_
  intro W base args ds gs before hval0 hW hcnd _
  have hval : ∀ (j : Nat) t v, Try.f3.params[j]? = some t → args[j]? = some v → Value.okWide Try.prog W .any base t v := hval0
  have hW' := hW
  obtain ⟨p, q, hA0, hV, rfl, hfz, hnd⟩ := hW
  have hA : DataW.TrodAll enc Try.prog W 0 (fun _ => true) true Try.f3.params.toList args.toList ds p := hA0
  rw [Try.params3] at hA hval
  obtain ⟨v0, vs0, d0, ds0, p0, q0, hargs, rfl, rfl, h0, r0⟩ := trodAll_cons hA
  obtain ⟨v1, vs1, d1, ds1, p1, q1, rfl, rfl, rfl, h1, r1⟩ := trodAll_cons r0
  obtain ⟨rfl, rfl, rfl⟩ := trodAll_nil r1
  obtain rfl : args = #[v0, v1] := by cases args; simp_all
  obtain ⟨rfl, rfl⟩ := trodVars_none hV
  obtain ⟨a0, len0, cap0, rfl⟩ := okWide_slice Try.underlying22 (hval 0 22 v0 rfl rfl)
  have k0 := h0
  have lt0 : ∀ x ∈ p0, x.block < W.heap.size := by obtain ⟨m, hm⟩ := k0; exact DataW.trod_lt m _ _ _ hm
  obtain ⟨z0, w0⟩ : ∃ zs, IsRow .u8 W a0 len0 cap0 zs := by
    obtain ⟨fuel, hf⟩ := h0
    rcases open_ints Try.underlying22 Try.underlying5 (by kernel_rfl) hf with ⟨hcs, _⟩ | ⟨x, l, c, zs, hcs, _, hl, hm, hz, _, hcell, hwz⟩
    · simp [Value.cells] at hcs
      obtain ⟨rfl, rfl, rfl⟩ := hcs
      exact ⟨[], .inl ⟨rfl, rfl, rfl, rfl⟩⟩
    · simp [Value.cells] at hcs
      obtain ⟨rfl, rfl, rfl⟩ := hcs
      exact ⟨zs, .inr ⟨_, rfl, hl, hm, by simpa using hz, hcell, hwz⟩⟩
  obtain ⟨a1, len1, cap1, rfl⟩ := okWide_slice Try.underlying22 (hval 1 22 v1 rfl rfl)
  have k1 := h1
  have lt1 : ∀ x ∈ p1, x.block < W.heap.size := by obtain ⟨m, hm⟩ := k1; exact DataW.trod_lt m _ _ _ hm
  obtain ⟨z1, w1⟩ : ∃ zs, IsRow .u8 W a1 len1 cap1 zs := by
    obtain ⟨fuel, hf⟩ := h1
    rcases open_ints Try.underlying22 Try.underlying5 (by kernel_rfl) hf with ⟨hcs, _⟩ | ⟨x, l, c, zs, hcs, _, hl, hm, hz, _, hcell, hwz⟩
    · simp [Value.cells] at hcs
      obtain ⟨rfl, rfl, rfl⟩ := hcs
      exact ⟨[], .inl ⟨rfl, rfl, rfl, rfl⟩⟩
    · simp [Value.cells] at hcs
      obtain ⟨rfl, rfl, rfl⟩ := hcs
      exact ⟨zs, .inr ⟨_, rfl, hl, hm, by simpa using hz, hcell, hwz⟩⟩
  clear hA0 hval0
  refine (walk a0 len0 cap0 z0 a1 len1 cap1 z1 W w0 w1).mono fun e W' ⟨he, bel⟩ => ?_
  subst he
  exact ⟨_, rfl, _, _, _, [], _, [], hW', trodAll_mk1 (shut_bool Try.underlying4 _), (trodAll_cons_mk (Below.trod laidOut (by kernel_rfl) (of_decide_eq_true (by kernel_rfl)) k0 bel lt0) (trodAll_cons_mk (Below.trod laidOut (by kernel_rfl) (of_decide_eq_true (by kernel_rfl)) k1 bel lt1) trodAll_mk0)), rfl, bel.frame _, fun h => by cases h⟩

theorem over : Rows.fnBoxQueueRow.holds Try.pinned (OpenSpec.ofChange Rows.fnBoxQueueSpec) :=
  OpenClaim.holds_of_wide 3 Try.f3 rfl rfl rfl rfl rfl rfl rfl ⟨rfl, rfl, rfl, rfl, rfl⟩ rfl rfl rfl rfl rfl (by kernel_rfl) Try.func3 (by kernel_rfl)
    (of_decide_eq_true (by kernel_rfl)) (by unfold Func.isWrapper; first | (rw [if_pos (by decide +kernel)]; kernel_rfl) | (rw [if_neg (by decide +kernel)]; exact ⟨rfl, rfl⟩))
    (fun os started H enc _ => lifted os started H enc)

end Go.Proofs.Ytanmapgpplhecaa.fnBoxQueue
namespace Go.Proofs.Ytanmapgpplhecaa
theorem fnBoxQueue_holds : Rows.FnBoxQueueSaid := fnBoxQueue.over
#print axioms fnBoxQueue_holds
end Go.Proofs.Ytanmapgpplhecaa
