/- Whether a program is ok: the contracts of the program and of the specification, and the law. No conditions but that the list reads as orders. -/
import Derived.Test.YthabigbbjpcpkaaCodOrd
import Derived.Test.YthabigbbjpcpkaaVmOrderS
import Derived.Test.YthabigbbjpcpkaaOpenI
namespace Go.Proofs.Ythabigbbjpcpkaa
open Go.ChangeShapes Go.WideShapes Go.ChangeAt Go.RowKit Go.Joins Go.Deep
set_option linter.unusedVariables false
set_option maxRecDepth 4000

def ordAt (n : Nat) (xs : List Int) (i : Nat) : Bool := orderB (xs.getD (i * 4) 0) (xs.getD (i * 4 + 1) 0) (xs.getD (i * 4 + 2) 0) (xs.getD (i * 4 + 3) 0) && !leavesB (xs.getD (i * 4) 0) (xs.getD (i * 4 + 1) 0) n
/-- whether a program is ok -/
def codB (n : Nat) (xs : List Int) : Bool := decide (n ≤ 24) && (List.range n).all (ordAt n xs)
theorem all_range_succ (p : Nat → Bool) (k : Nat) : (List.range (k + 1)).all p = ((List.range k).all p && p k) := by
  rw [List.range_succ, List.all_append]; simp
theorem codB_long {n : Nat} {xs : List Int} (h : ¬ n ≤ 24) : codB n xs = false := by simp [codB, h]
theorem codB_bad {n k : Nat} {xs : List Int} (hk : k < n) (h : ordAt n xs k = false) : codB n xs = false := by
  have : (List.range n).all (ordAt n xs) = false := List.all_eq_false.2 ⟨k, by simpa using hk, by rw [h]; decide⟩
  simp [codB, this]
theorem codB_good {n : Nat} {xs : List Int} (hn : n ≤ 24) (h : (List.range n).all (ordAt n xs) = true) : codB n xs = true := by
  simp only [codB, h, Bool.and_true]; simpa using hn

set_option maxHeartbeats 4000000 in
theorem specCodOk_any (v : Value) (n : Nat) (xs : List Int) (w : World) (hv : RdI 4 w v n xs) :
    Calls Try.prog 18 #[v] w fun e w' => e = .returned (.bool (codB n xs)) ∧ Below w.heap.size w w' := by
  obtain ⟨h1, h2, a, cap, rfl, h3⟩ := hv
  by_cases hn : n ≤ 24
  · have d24 : decide ((24 : Int) < (n : Int)) = false := by simp; omega
    go_enter Try.func18, Try.ntmps18
    go_wp2_with fail
    go_loopw [3] (fun i wr => ∃ k : Nat, k ≤ n ∧ i = .int .i64 k ∧ (List.range k).all (ordAt n xs) = true ∧ Below w.heap.size w wr) (fun i _ => n - (intOf i).toNat)
    case atStart => exact ⟨0, Nat.zero_le _, rfl, rfl, Below.refl _ _⟩
    case round =>
      obtain ⟨k, hk, rfl, hall, hB⟩ := hrel
      by_cases hlt : k < n
      · rcases h3 with rfl | ⟨b, off, rfl, hc⟩
        · omega
        have hkk : k * 4 + 4 ≤ n * 4 := by omega
        have HA := hid (all_range_succ (ordAt n xs) k)
        rw [hall, Bool.true_and] at HA
        have HD : Hid (ordAt n xs k = (orderB (xs.getD (k * 4) 0) (xs.getD (k * 4 + 1) 0) (xs.getD (k * 4 + 2) 0) (xs.getD (k * 4 + 3) 0) && !leavesB (xs.getD (k * 4) 0) (xs.getD (k * 4 + 1) 0) n)) := hid rfl
        have HBAD := hid (fun h => codB_bad (xs := xs) hlt h)
        have r0 := cell_keep hB (hc (k * 4) (by omega))
        obtain ⟨y0, hy0⟩ : ∃ y, xs.getD (k * 4) 0 = y := ⟨_, rfl⟩
        rw [hy0] at r0
        have r1 := cell_keep hB (hc (k * 4 + 1) (by omega))
        obtain ⟨y1, hy1⟩ : ∃ y, xs.getD (k * 4 + 1) 0 = y := ⟨_, rfl⟩
        rw [hy1] at r1
        have r2 := cell_keep hB (hc (k * 4 + 2) (by omega))
        obtain ⟨y2, hy2⟩ : ∃ y, xs.getD (k * 4 + 2) 0 = y := ⟨_, rfl⟩
        rw [hy2] at r2
        have r3 := cell_keep hB (hc (k * 4 + 3) (by omega))
        obtain ⟨y3, hy3⟩ : ∃ y, xs.getD (k * 4 + 3) 0 = y := ⟨_, rfl⟩
        rw [hy3] at r3
        have HD := hid (HD.out)
        simp only [hy0, hy1, hy2, hy3] at HD
        rw [← Nat.add_assoc] at r1; rw [← Nat.add_assoc] at r2; rw [← Nat.add_assoc] at r3
        have HB := hid hB
        clear hc hB hall hy0 hy1 hy2 hy3
        cases c0 : orderB y0 y1 y2 y3
        · rw [c0, Bool.false_and] at HD
          go_wp2_with (go_at_call 61; refine (specOrder_any y0 y1 y2 y3 _).mono ?_; rintro e w1 ⟨rfl, b1⟩; have r0 := cell_keep b1 r0; have r1 := cell_keep b1 r1; have r2 := cell_keep b1 r2; have r3 := cell_keep b1 r3; have B1 := hid (HB.out.trans (b1.mono HB.out.size)); clear b1)
          go_ret
          exact ⟨ret_bool (HBAD.out HD.out).symm, B1.out⟩
        rw [c0, Bool.true_and] at HD
        cases c1 : (y0 == 8)
        · have HL := hid (show leavesB y0 y1 n = false by simp only [leavesB, c1, Bool.false_and])
          rw [HL.out] at HD
          go_wp2_with (go_at_call 61; refine (specOrder_any y0 y1 y2 y3 _).mono ?_; rintro e w1 ⟨rfl, b1⟩; have r0 := cell_keep b1 r0; have r1 := cell_keep b1 r1; have r2 := cell_keep b1 r2; have r3 := cell_keep b1 r3; have B1 := hid (HB.out.trans (b1.mono HB.out.size)); clear b1)
          go_roundw
          case rel => exact ⟨k + 1, by omega, by go_num, by rw [HA.out]; exact HD.out, B1.out⟩
          case measure => simp [intOf]; omega
        by_cases c2 : (n : Int) < y1
        · have HL := hid (show leavesB y0 y1 n = true by simp [leavesB, c1, c2])
          rw [HL.out] at HD
          go_wp2_with (go_at_call 61; refine (specOrder_any y0 y1 y2 y3 _).mono ?_; rintro e w1 ⟨rfl, b1⟩; have r0 := cell_keep b1 r0; have r1 := cell_keep b1 r1; have r2 := cell_keep b1 r2; have r3 := cell_keep b1 r3; have B1 := hid (HB.out.trans (b1.mono HB.out.size)); clear b1)
          go_ret
          exact ⟨ret_bool (HBAD.out HD.out).symm, B1.out⟩
        · have HL := hid (show leavesB y0 y1 n = false by simp [leavesB, c2])
          rw [HL.out] at HD
          have d2 : decide ((n : Int) < y1) = false := by simpa using c2
          go_wp2_with (go_at_call 61; refine (specOrder_any y0 y1 y2 y3 _).mono ?_; rintro e w1 ⟨rfl, b1⟩; have r0 := cell_keep b1 r0; have r1 := cell_keep b1 r1; have r2 := cell_keep b1 r2; have r3 := cell_keep b1 r3; have B1 := hid (HB.out.trans (b1.mono HB.out.size)); clear b1)
          go_roundw
          case rel => exact ⟨k + 1, by omega, by go_num, by rw [HA.out]; exact HD.out, B1.out⟩
          case measure => simp [intOf]; omega
      · obtain rfl : k = n := by omega
        have HB := hid hB
        have HG := hid (codB_good hn hall)
        clear h3 hB hall
        go_wp2
        go_ret
        exact ⟨ret_bool HG.out.symm, HB.out⟩
  · have d24 : decide ((24 : Int) < (n : Int)) = true := by simp; omega
    have H := hid (codB_long (xs := xs) hn)
    clear h3
    go_enter Try.func18, Try.ntmps18
    go_wp2
    go_ret
    exact ⟨ret_bool H.out.symm, Below.refl _ _⟩

set_option maxHeartbeats 4000000 in
theorem codOk_any (v : Value) (n : Nat) (xs : List Int) (w : World) (hv : RdI 4 w v n xs) :
    Calls Try.prog 27 #[v] w fun e w' => e = .returned (.bool (codB n xs)) ∧ Below w.heap.size w w' := by
  obtain ⟨h1, h2, a, cap, rfl, h3⟩ := hv
  by_cases hn : n ≤ 24
  · have d24 : decide ((24 : Int) < (n : Int)) = false := by simp; omega
    go_enter Try.func27, Try.ntmps27
    go_wp2_with fail
    go_loopw [10] (fun i wr => ∃ k : Nat, k ≤ n ∧ i = .int .i64 k ∧ (List.range k).all (ordAt n xs) = true ∧ Below w.heap.size w wr) (fun i _ => n - (intOf i).toNat)
    case atStart => exact ⟨0, Nat.zero_le _, rfl, rfl, Below.refl _ _⟩
    case round =>
      obtain ⟨k, hk, rfl, hall, hB⟩ := hrel
      by_cases hlt : k < n
      · rcases h3 with rfl | ⟨b, off, rfl, hc⟩
        · omega
        have hkk : k * 4 + 4 ≤ n * 4 := by omega
        have HA := hid (all_range_succ (ordAt n xs) k)
        rw [hall, Bool.true_and] at HA
        have HD : Hid (ordAt n xs k = (orderB (xs.getD (k * 4) 0) (xs.getD (k * 4 + 1) 0) (xs.getD (k * 4 + 2) 0) (xs.getD (k * 4 + 3) 0) && !leavesB (xs.getD (k * 4) 0) (xs.getD (k * 4 + 1) 0) n)) := hid rfl
        have HBAD := hid (fun h => codB_bad (xs := xs) hlt h)
        have r0 := cell_keep hB (hc (k * 4) (by omega))
        obtain ⟨y0, hy0⟩ : ∃ y, xs.getD (k * 4) 0 = y := ⟨_, rfl⟩
        rw [hy0] at r0
        have r1 := cell_keep hB (hc (k * 4 + 1) (by omega))
        obtain ⟨y1, hy1⟩ : ∃ y, xs.getD (k * 4 + 1) 0 = y := ⟨_, rfl⟩
        rw [hy1] at r1
        have r2 := cell_keep hB (hc (k * 4 + 2) (by omega))
        obtain ⟨y2, hy2⟩ : ∃ y, xs.getD (k * 4 + 2) 0 = y := ⟨_, rfl⟩
        rw [hy2] at r2
        have r3 := cell_keep hB (hc (k * 4 + 3) (by omega))
        obtain ⟨y3, hy3⟩ : ∃ y, xs.getD (k * 4 + 3) 0 = y := ⟨_, rfl⟩
        rw [hy3] at r3
        have HD := hid (HD.out)
        simp only [hy0, hy1, hy2, hy3] at HD
        rw [← Nat.add_assoc] at r1; rw [← Nat.add_assoc] at r2; rw [← Nat.add_assoc] at r3
        have HB := hid hB
        clear hc hB hall hy0 hy1 hy2 hy3
        cases c0 : orderB y0 y1 y2 y3
        · rw [c0, Bool.false_and] at HD
          go_wp2_with (first | (go_at_call 76; refine (order_any y0 y1 y2 y3 _).mono ?_; rintro e w1 ⟨rfl, b1⟩; have q0 := cell_keep b1 (show (wr.alloc (.cells #[.int .i64 y0, .int .i64 y1, .int .i64 y2, .int .i64 y3] 45)).cell? ⟨wr.heap.size, 0, none⟩ = some (.int .i64 y0) by go_simp); have q1 := cell_keep b1 (show (wr.alloc (.cells #[.int .i64 y0, .int .i64 y1, .int .i64 y2, .int .i64 y3] 45)).cell? ⟨wr.heap.size, 1, none⟩ = some (.int .i64 y1) by go_simp); have q2 := cell_keep b1 (show (wr.alloc (.cells #[.int .i64 y0, .int .i64 y1, .int .i64 y2, .int .i64 y3] 45)).cell? ⟨wr.heap.size, 2, none⟩ = some (.int .i64 y2) by go_simp); have q3 := cell_keep b1 (show (wr.alloc (.cells #[.int .i64 y0, .int .i64 y1, .int .i64 y2, .int .i64 y3] 45)).cell? ⟨wr.heap.size, 3, none⟩ = some (.int .i64 y3) by go_simp); have B1 := hid ((HB.out.alloc HB.out.size (.cells #[.int .i64 y0, .int .i64 y1, .int .i64 y2, .int .i64 y3] 45)).trans (b1.mono (by have := HB.out.size; simp; omega))); clear b1) | (go_at_call 77; refine (leaves_any y0 y1 y2 y3 _ _).mono ?_; rintro e w2 ⟨rfl, b2⟩; have B2 := hid (B1.out.trans (b2.mono B1.out.size)); clear b2))
          go_ret
          exact ⟨ret_bool (HBAD.out HD.out).symm, B1.out⟩
        rw [c0, Bool.true_and] at HD
        cases c1 : leavesB y0 y1 n
        · rw [c1] at HD
          go_wp2_with (first | (go_at_call 76; refine (order_any y0 y1 y2 y3 _).mono ?_; rintro e w1 ⟨rfl, b1⟩; have q0 := cell_keep b1 (show (wr.alloc (.cells #[.int .i64 y0, .int .i64 y1, .int .i64 y2, .int .i64 y3] 45)).cell? ⟨wr.heap.size, 0, none⟩ = some (.int .i64 y0) by go_simp); have q1 := cell_keep b1 (show (wr.alloc (.cells #[.int .i64 y0, .int .i64 y1, .int .i64 y2, .int .i64 y3] 45)).cell? ⟨wr.heap.size, 1, none⟩ = some (.int .i64 y1) by go_simp); have q2 := cell_keep b1 (show (wr.alloc (.cells #[.int .i64 y0, .int .i64 y1, .int .i64 y2, .int .i64 y3] 45)).cell? ⟨wr.heap.size, 2, none⟩ = some (.int .i64 y2) by go_simp); have q3 := cell_keep b1 (show (wr.alloc (.cells #[.int .i64 y0, .int .i64 y1, .int .i64 y2, .int .i64 y3] 45)).cell? ⟨wr.heap.size, 3, none⟩ = some (.int .i64 y3) by go_simp); have B1 := hid ((HB.out.alloc HB.out.size (.cells #[.int .i64 y0, .int .i64 y1, .int .i64 y2, .int .i64 y3] 45)).trans (b1.mono (by have := HB.out.size; simp; omega))); clear b1) | (go_at_call 77; refine (leaves_any y0 y1 y2 y3 _ _).mono ?_; rintro e w2 ⟨rfl, b2⟩; have B2 := hid (B1.out.trans (b2.mono B1.out.size)); clear b2))
          go_roundw
          case rel => exact ⟨k + 1, by omega, by go_num, by rw [HA.out]; exact HD.out, B2.out⟩
          case measure => simp [intOf]; omega
        · rw [c1] at HD
          go_wp2_with (first | (go_at_call 76; refine (order_any y0 y1 y2 y3 _).mono ?_; rintro e w1 ⟨rfl, b1⟩; have q0 := cell_keep b1 (show (wr.alloc (.cells #[.int .i64 y0, .int .i64 y1, .int .i64 y2, .int .i64 y3] 45)).cell? ⟨wr.heap.size, 0, none⟩ = some (.int .i64 y0) by go_simp); have q1 := cell_keep b1 (show (wr.alloc (.cells #[.int .i64 y0, .int .i64 y1, .int .i64 y2, .int .i64 y3] 45)).cell? ⟨wr.heap.size, 1, none⟩ = some (.int .i64 y1) by go_simp); have q2 := cell_keep b1 (show (wr.alloc (.cells #[.int .i64 y0, .int .i64 y1, .int .i64 y2, .int .i64 y3] 45)).cell? ⟨wr.heap.size, 2, none⟩ = some (.int .i64 y2) by go_simp); have q3 := cell_keep b1 (show (wr.alloc (.cells #[.int .i64 y0, .int .i64 y1, .int .i64 y2, .int .i64 y3] 45)).cell? ⟨wr.heap.size, 3, none⟩ = some (.int .i64 y3) by go_simp); have B1 := hid ((HB.out.alloc HB.out.size (.cells #[.int .i64 y0, .int .i64 y1, .int .i64 y2, .int .i64 y3] 45)).trans (b1.mono (by have := HB.out.size; simp; omega))); clear b1) | (go_at_call 77; refine (leaves_any y0 y1 y2 y3 _ _).mono ?_; rintro e w2 ⟨rfl, b2⟩; have B2 := hid (B1.out.trans (b2.mono B1.out.size)); clear b2))
          go_ret
          exact ⟨ret_bool (HBAD.out HD.out).symm, B2.out⟩
      · obtain rfl : k = n := by omega
        have HB := hid hB
        have HG := hid (codB_good hn hall)
        clear h3 hB hall
        go_wp2
        go_ret
        exact ⟨ret_bool HG.out.symm, HB.out⟩
  · have d24 : decide ((24 : Int) < (n : Int)) = true := by simp; omega
    have H := hid (codB_long (xs := xs) hn)
    clear h3
    go_enter Try.func27, Try.ntmps27
    go_wp2
    go_ret
    exact ⟨ret_bool H.out.symm, Below.refl _ _⟩
end Go.Proofs.Ythabigbbjpcpkaa
namespace Go.Proofs.Ythabigbbjpcpkaa.fnExactCodOk
open Go.ChangeShapes Go.WideShapes Go.ChangeAt Go.RowKit Go.Joins Go.Deep
set_option linter.unusedVariables false
set_option maxRecDepth 4000
set_option maxHeartbeats 4000000 in
theorem walk (a0 : Option Addr) (len0 cap0 : Nat) (z0 : List Int) (w : World) (k0 : IsRowI 4 w a0 len0 cap0 z0) :
    Calls Try.prog 7 #[.slice a0 len0 cap0] w fun e w' => e = .returned (.bool true) ∧ Below w.heap.size w w' := by
  have m0 := k0.max
  by_cases hl : len0 ≤ 1048576
  · obtain ⟨xs, r0⟩ := k0.rd hl (by omega)
    have R0 := hid r0
    have d1 : decide ((1048576 : Int) - len0 < 0) = false := by simp; omega
    have E1 := hid (show (if (1048576 : Int) - len0 < 0 then -1 else (1048576 : Int) - len0) = 1048576 - len0 by rw [if_neg (by omega)])
    clear k0 r0
    go_enter Try.func7, Try.ntmps7
    go_wp2_with fail
    refine (szVmOrderS_any a0 len0 cap0 1048576 _ (by omega) (by omega) (by omega)).mono ?_
    rw [E1.out]
    rintro e w1 ⟨rfl, rfl⟩
    go_wp2_with fail
    refine (toVmOrderS_any _ len0 xs _ R0.out).mono ?_
    rintro e w2 ⟨v2, rfl, o2, b2⟩
    have P2 := hid (o2.rd (by omega))
    have B := hid b2
    clear o2 b2
    go_wp2_with fail
    refine (specCodOk_any _ len0 xs _ P2.out).mono ?_
    rintro e w3 ⟨rfl, b3⟩
    have B := hid (B.out.trans (b3.mono B.out.size))
    clear b3 P2
    go_wp2_with fail
    refine (toVmOrderS_any _ len0 xs _ (R0.out.keep B.out)).mono ?_
    rintro e w4 ⟨v4, rfl, o4, b4⟩
    have X := hid o4
    have B := hid (B.out.trans (b4.mono B.out.size))
    clear o4 b4
    go_wp2_with fail
    refine (codOk_any _ len0 xs _ (X.out.rd (by omega))).mono ?_
    rintro e w5 ⟨rfl, b5⟩
    have X := hid (X.out.keep b5)
    have B := hid (B.out.trans (b5.mono B.out.size))
    clear b5
    go_wp2_with fail
    refine (toVmOrderS_any _ len0 xs _ (R0.out.keep B.out)).mono ?_
    rintro e w6 ⟨v6, rfl, o6, b6⟩
    have X := hid ((X.out.keep b6).rd (by omega))
    have P6 := hid (o6.rd (by omega))
    have B := hid (B.out.trans (b6.mono B.out.size))
    clear o6 b6
    go_wp2_with fail
    refine (eqVmOrderS_same _ _ len0 xs _ X.out P6.out).mono ?_
    rintro e w7 ⟨rfl, b7⟩
    have B := hid (B.out.trans (b7.mono B.out.size))
    clear b7
    go_wp2
    go_ret
    exact ⟨rfl, B.out⟩
  · have E1 := hid (show (if (1048576 : Int) - len0 < 0 then -1 else (1048576 : Int) - len0) = -1 by rw [if_pos (by omega)])
    clear k0
    go_enter Try.func7, Try.ntmps7
    go_wp2_with fail
    refine (szVmOrderS_any a0 len0 cap0 1048576 _ (by omega) (by omega) (by omega)).mono ?_
    rw [E1.out]
    rintro e w1 ⟨rfl, rfl⟩
    go_wp2
    go_ret
    exact ⟨rfl, Below.refl _ _⟩
theorem own : ownKnob Try.prog.godebug = none := by kernel_rfl
theorem laidOut : laidOutB Try.prog = true := by kernel_rfl
set_option maxRecDepth 100000 in
theorem lifted (os : Os) (started : os.Started) (H : Type) (enc : TypeId × Value → H) :
    ReturnsInHanded {} Try.checked os 7 .any (Rows.fnExactCodOkSpec.pre6 enc Try.prog Try.f7 Rows.fnExactCodOkRow.domain false) (Rows.fnExactCodOkSpec.post enc Try.prog Try.f7 false true false false) := by
  refine returnsInHanded_of_change (C := Try.checked) own started (by kernel_rfl) Try.func7
    (ChangeSpec.witness6 (enc := enc) (C := Try.checked) false ⟨#[], #[.slice none 0 0], []⟩ 8 (by kernel_rfl) (by kernel_rfl) (by kernel_rfl) (by kernel_rfl)) ?_
  intro W base args ds gs before hval0 hW hcnd _
  have hval : ∀ (j : Nat) t v, Try.f7.params[j]? = some t → args[j]? = some v → Value.okWide Try.prog W .any base t v := hval0
  have hW' := hW
  obtain ⟨p, q, hA0, hV, rfl, hfz, hnd⟩ := hW
  have hA : DataW.TrodAll enc Try.prog W 0 (fun _ => true) true Try.f7.params.toList args.toList ds p := hA0
  rw [Try.params7] at hA hval
  obtain ⟨v0, vs0, d0, ds0, p0, q0, hargs, rfl, rfl, h0, r0⟩ := trodAll_cons hA
  obtain ⟨rfl, rfl, rfl⟩ := trodAll_nil r0
  obtain rfl : args = #[v0] := by cases args; simp_all
  obtain ⟨rfl, rfl⟩ := trodVars_none hV
  obtain ⟨a0, len0, cap0, rfl⟩ := okWide_slice Try.underlying46 (hval 0 46 v0 rfl rfl)
  have k0 := h0
  have lt0 : ∀ x ∈ p0, x.block < W.heap.size := by obtain ⟨m, hm⟩ := k0; exact DataW.trod_lt m _ _ _ hm
  obtain ⟨z0, w0⟩ : ∃ zs, IsRowI 4 W a0 len0 cap0 zs := by
    obtain ⟨fuel, hf⟩ := h0
    obtain ⟨a', l', c', zs, hcs, hr⟩ := open_rowI Try.underlying46 Try.underlying98 (by kernel_rfl) Try.underlying3 (by rfl) (by kernel_rfl) (by decide) (c := .slice a0 len0 cap0) hf
    simp only [Value.slice.injEq] at hcs
    obtain ⟨rfl, rfl, rfl⟩ := hcs
    exact ⟨zs, hr⟩
  clear hA0 hval0
  refine (walk a0 len0 cap0 z0 W w0).mono fun e W' ⟨he, bel⟩ => ?_
  subst he
  exact ⟨_, rfl, _, _, _, [], _, [], hW', trodAll_mk1 (shut_bool Try.underlying4 _), (trodAll_cons_mk (Below.trod laidOut (by kernel_rfl) (of_decide_eq_true (by kernel_rfl)) k0 bel lt0) trodAll_mk0), rfl, bel.frame _, fun h => by cases h⟩

theorem over : Rows.fnExactCodOkRow.holds Try.pinned (OpenSpec.ofChange Rows.fnExactCodOkSpec) :=
  OpenClaim.holds_of_wide 7 Try.f7 rfl rfl rfl rfl rfl rfl rfl ⟨rfl, rfl, rfl, rfl, rfl⟩ rfl rfl rfl rfl rfl (by kernel_rfl) Try.func7 (by kernel_rfl)
    (of_decide_eq_true (by kernel_rfl)) (by unfold Func.isWrapper; first | (rw [if_pos (by decide +kernel)]; kernel_rfl) | (rw [if_neg (by decide +kernel)]; exact ⟨rfl, rfl⟩))
    (fun os started H enc _ => lifted os started H enc)

end Go.Proofs.Ythabigbbjpcpkaa.fnExactCodOk
namespace Go.Proofs.Ythabigbbjpcpkaa
theorem fnExactCodOk_holds : Rows.FnExactCodOkSaid := fnExactCodOk.over
#print axioms fnExactCodOk_holds
end Go.Proofs.Ythabigbbjpcpkaa
