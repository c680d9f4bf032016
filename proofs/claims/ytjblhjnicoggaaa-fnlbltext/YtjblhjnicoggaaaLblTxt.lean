/- The contracts of a label's text, of the program and of the specification. -/
import Derived.Test.YtjblhjnicoggaaaLblBase3
import Derived.Test.YtjblhjnicoggaaaBld
import Derived.Deep.QuietTactic
import Derived.BigQuiet
namespace Go.Proofs.Ytjblhjnicoggaaa
open Go.ChangeShapes Go.WideShapes Go.ChangeAt Go.RowKit Go.Joins Go.Deep
set_option linter.unusedVariables false

/-- whether a mark is there -/
def mkB (m k : Nat) : Bool := m / 2 ^ k % 2 == 1
/-- the letters of the marks below k -/
def letL (m k : Nat) : List UInt8 := ((List.range k).filter (mkB m)).map fun i => (97 + i).toUInt8
/-- a label's text -/
def txtL (l m : Nat) (k : Nat) : List UInt8 := (48 + l).toUInt8 :: letL m k
theorem letL_succ (m k : Nat) : letL m (k + 1) = if mkB m k then letL m k ++ [(97 + k).toUInt8] else letL m k := by
  unfold letL
  rw [List.range_succ, List.filter_append, List.map_append]
  cases h : mkB m k <;> simp [h]
theorem and0 : ∀ m : Fin 16, decide (bits .and .i64 (m.val : Int) 1 = 0) = !(mkB m.val 0) := by decide +kernel
theorem and1 : ∀ m : Fin 16, decide (bits .and .i64 (m.val : Int) 2 = 0) = !(mkB m.val 1) := by decide +kernel
theorem and2 : ∀ m : Fin 16, decide (bits .and .i64 (m.val : Int) 4 = 0) = !(mkB m.val 2) := by decide +kernel
theorem and3 : ∀ m : Fin 16, decide (bits .and .i64 (m.val : Int) 8 = 0) = !(mkB m.val 3) := by decide +kernel
theorem txtL_len (l m k : Nat) (h : k ≤ 4) : (txtL l m k).length ≤ 5 := by
  unfold txtL letL
  simp only [List.length_cons, List.length_map]
  have := List.length_filter_le (mkB m) (List.range k)
  simp at this; omega
theorem letters4 (k : Nat) (h : k < 4) : (⟨#[97, 98, 99, 100]⟩ : ByteArray).data[k]? = some (97 + k).toUInt8 := by
  rcases (by omega : k = 0 ∨ k = 1 ∨ k = 2 ∨ k = 3) with rfl | rfl | rfl | rfl <;> rfl
theorem bld_draws {T e B b n : Nat} {bs : List Value} {w : World} (h : Lib.IsBuilder T e B b bs w) : Lib.IsBuilder T e B b bs (w.drewN n) := h
theorem cells_snoc (l : List UInt8) (c : UInt8) : Lib.byteCells (l ++ [c]) = Lib.byteCells l ++ [.int .u8 (c.toNat : Int)] := by simp [Lib.byteCells]

set_option maxHeartbeats 4000000 in
theorem text_any (l m : Nat) (w : World) (hl : l ≤ 3) (hm : m ≤ 15) :
    Calls Try.prog 39 #[.agg #[.int .i64 (l : Int), .int .i64 (m : Int)]] w fun e w' => e = .returned (.string ⟨(txtL l m 4).toArray⟩) ∧ Below w.heap.size w w' := by
  go_enter Try.func39, Try.ntmps39
  go_wp2_with fail
  refine (bldByte (w.heap.size + 1) (w.heap.size + 1) [] _ _ (by simpa using Lib.fresh_isBuilder 59 5 (w.alloc (Obj.cells #[Value.int IntKind.i64 (l : Int), Value.int IntKind.i64 (m : Int)] 24))) (by simp) (by simp)).mono ?_
  rintro e w1 ⟨rfl, hB1, b1⟩
  have ha : w1.cell? ⟨w.heap.size, 1, none⟩ = some (.int .i64 (m : Int)) := by
    rw [b1.cell (p := ⟨w.heap.size, 1, none⟩) (by simp)]; simp
  have hsz : w.heap.size + 2 ≤ w1.heap.size := by have := b1.size; simpa using this
  have hbw : Below w.heap.size w w1 := (((Below.refl _ w).alloc (Nat.le_refl _) _).alloc (by simp) _).trans (b1.mono (by omega))
  have hB1' : Lib.IsBuilder 59 5 (w.heap.size + 1) (w.heap.size + 1) (Lib.byteCells (txtL l m 0)) w1 := by
    have e : Lib.byteCells (txtL l m 0) = [] ++ [Value.int .u8 (48 + (l : Int))] := by
      rcases (by omega : l = 0 ∨ l = 1 ∨ l = 2 ∨ l = 3) with rfl | rfl | rfl | rfl <;> rfl
    rw [e]; exact hB1
  clear hB1 b1
  have HB := hid hB1'
  clear hB1'
  go_wp2_with fail
  go_loopw [10] (fun i wr => ∃ k : Nat, k ≤ 4 ∧ i = .int .i64 k ∧ wr.cell? ⟨w.heap.size, 1, none⟩ = some (.int .i64 (m : Int)) ∧ w.heap.size + 2 ≤ wr.heap.size ∧ Below w.heap.size w wr ∧ Hid (Lib.IsBuilder 59 5 (w.heap.size + 1) (w.heap.size + 1) (Lib.byteCells (txtL l m k)) wr)) (fun i _ => 4 - (intOf i).toNat)
  case atStart => exact ⟨0, by omega, rfl, ha, hsz, hbw, HB⟩
  case round =>
    obtain ⟨k, hk, rfl, hca, hzr, hbe, HBr⟩ := hrel
    clear ha hsz hbw HB
    by_cases hlt : k < 4
    · rcases (by omega : k = 0 ∨ k = 1 ∨ k = 2 ∨ k = 3) with rfl | rfl | rfl | rfl
      · have HA := and0 ⟨m, by omega⟩
        have HS := hid (letL_succ m 0)
        have HL := hid (txtL_len l m 0 hk)
        cases hb : mkB m 0
        · rw [hb] at HA HS
          simp at HA
          go_wp2_with fail
          go_quiet (fail)
          go_wp2
          go_roundw
          case measure => simp [intOf]
          case rel =>
           refine ⟨1, by omega, by go_num, by simpa using hca, by simpa using hzr, hbe.trans (below_draws _ _ _), ?_⟩
           have e : txtL l m 1 = txtL l m 0 := by unfold txtL; rw [HS.out]; simp
           rw [e]; exact hid (bld_draws HBr.out)
        · rw [hb] at HA HS
          simp at HA
          go_wp2_with fail
          go_quiet (fail)
          go_wp2_with fail
          refine (bldByte (w.heap.size + 1) (w.heap.size + 1) (Lib.byteCells (txtL l m 0)) _ _ (bld_draws HBr.out) (by have := HL.out; simp [Lib.byteCells]; omega) (by simp; omega)).mono ?_
          rintro e w2 ⟨rfl, hB2, b2⟩
          have hc2 : w2.cell? ⟨w.heap.size, 1, none⟩ = some (.int .i64 (m : Int)) := by
            rw [b2.cell (p := ⟨w.heap.size, 1, none⟩) (by simp)]; simpa using hca
          have hz2 : w.heap.size + 2 ≤ w2.heap.size := by have := b2.size; simp at this; omega
          have hb2 : Below w.heap.size w w2 := (hbe.trans (below_draws _ _ _)).trans (b2.mono (by omega))
          have HB2 := hid hB2
          clear b2 hB2 hca hzr hbe HBr
          go_wp2
          go_roundw
          case measure => simp [intOf]
          case rel =>
           refine ⟨1, by omega, by go_num, by simpa using hc2, by simpa using hz2, by (repeat' (first | exact Below.refl _ _ | assumption | exact Nat.le_refl _ | (refine Below.alloc ?_ ?_ _) | (refine Below.drew ?_) | (refine Below.setCell ?_ ?_ _) | (refine Below.trans ?_ (Below.mono (by assumption) ?_)) | (simp; done) | (simp; omega) | omega)), ?_⟩
           have e : Lib.byteCells (txtL l m 1) = Lib.byteCells (txtL l m 0) ++ [.int .u8 97] := by
             unfold txtL; rw [HS.out]; simp [Lib.byteCells]
           rw [e]; exact HB2
      · have HA := and1 ⟨m, by omega⟩
        have HS := hid (letL_succ m 1)
        have HL := hid (txtL_len l m 1 hk)
        cases hb : mkB m 1
        · rw [hb] at HA HS
          simp at HA
          go_wp2_with fail
          go_quiet (fail)
          go_wp2
          go_roundw
          case measure => simp [intOf]
          case rel =>
           refine ⟨2, by omega, by go_num, by simpa using hca, by simpa using hzr, hbe.trans (below_draws _ _ _), ?_⟩
           have e : txtL l m 2 = txtL l m 1 := by unfold txtL; rw [HS.out]; simp
           rw [e]; exact hid (bld_draws HBr.out)
        · rw [hb] at HA HS
          simp at HA
          go_wp2_with fail
          go_quiet (fail)
          go_wp2_with fail
          refine (bldByte (w.heap.size + 1) (w.heap.size + 1) (Lib.byteCells (txtL l m 1)) _ _ (bld_draws HBr.out) (by have := HL.out; simp [Lib.byteCells]; omega) (by simp; omega)).mono ?_
          rintro e w2 ⟨rfl, hB2, b2⟩
          have hc2 : w2.cell? ⟨w.heap.size, 1, none⟩ = some (.int .i64 (m : Int)) := by
            rw [b2.cell (p := ⟨w.heap.size, 1, none⟩) (by simp)]; simpa using hca
          have hz2 : w.heap.size + 2 ≤ w2.heap.size := by have := b2.size; simp at this; omega
          have hb2 : Below w.heap.size w w2 := (hbe.trans (below_draws _ _ _)).trans (b2.mono (by omega))
          have HB2 := hid hB2
          clear b2 hB2 hca hzr hbe HBr
          go_wp2
          go_roundw
          case measure => simp [intOf]
          case rel =>
           refine ⟨2, by omega, by go_num, by simpa using hc2, by simpa using hz2, by (repeat' (first | exact Below.refl _ _ | assumption | exact Nat.le_refl _ | (refine Below.alloc ?_ ?_ _) | (refine Below.drew ?_) | (refine Below.setCell ?_ ?_ _) | (refine Below.trans ?_ (Below.mono (by assumption) ?_)) | (simp; done) | (simp; omega) | omega)), ?_⟩
           have e : Lib.byteCells (txtL l m 2) = Lib.byteCells (txtL l m 1) ++ [.int .u8 98] := by
             unfold txtL; rw [HS.out]; simp [Lib.byteCells]
           rw [e]; exact HB2
      · have HA := and2 ⟨m, by omega⟩
        have HS := hid (letL_succ m 2)
        have HL := hid (txtL_len l m 2 hk)
        cases hb : mkB m 2
        · rw [hb] at HA HS
          simp at HA
          go_wp2_with fail
          go_quiet (fail)
          go_wp2
          go_roundw
          case measure => simp [intOf]
          case rel =>
           refine ⟨3, by omega, by go_num, by simpa using hca, by simpa using hzr, hbe.trans (below_draws _ _ _), ?_⟩
           have e : txtL l m 3 = txtL l m 2 := by unfold txtL; rw [HS.out]; simp
           rw [e]; exact hid (bld_draws HBr.out)
        · rw [hb] at HA HS
          simp at HA
          go_wp2_with fail
          go_quiet (fail)
          go_wp2_with fail
          refine (bldByte (w.heap.size + 1) (w.heap.size + 1) (Lib.byteCells (txtL l m 2)) _ _ (bld_draws HBr.out) (by have := HL.out; simp [Lib.byteCells]; omega) (by simp; omega)).mono ?_
          rintro e w2 ⟨rfl, hB2, b2⟩
          have hc2 : w2.cell? ⟨w.heap.size, 1, none⟩ = some (.int .i64 (m : Int)) := by
            rw [b2.cell (p := ⟨w.heap.size, 1, none⟩) (by simp)]; simpa using hca
          have hz2 : w.heap.size + 2 ≤ w2.heap.size := by have := b2.size; simp at this; omega
          have hb2 : Below w.heap.size w w2 := (hbe.trans (below_draws _ _ _)).trans (b2.mono (by omega))
          have HB2 := hid hB2
          clear b2 hB2 hca hzr hbe HBr
          go_wp2
          go_roundw
          case measure => simp [intOf]
          case rel =>
           refine ⟨3, by omega, by go_num, by simpa using hc2, by simpa using hz2, by (repeat' (first | exact Below.refl _ _ | assumption | exact Nat.le_refl _ | (refine Below.alloc ?_ ?_ _) | (refine Below.drew ?_) | (refine Below.setCell ?_ ?_ _) | (refine Below.trans ?_ (Below.mono (by assumption) ?_)) | (simp; done) | (simp; omega) | omega)), ?_⟩
           have e : Lib.byteCells (txtL l m 3) = Lib.byteCells (txtL l m 2) ++ [.int .u8 99] := by
             unfold txtL; rw [HS.out]; simp [Lib.byteCells]
           rw [e]; exact HB2
      · have HA := and3 ⟨m, by omega⟩
        have HS := hid (letL_succ m 3)
        have HL := hid (txtL_len l m 3 hk)
        cases hb : mkB m 3
        · rw [hb] at HA HS
          simp at HA
          go_wp2_with fail
          go_quiet (fail)
          go_wp2
          go_roundw
          case measure => simp [intOf]
          case rel =>
           refine ⟨4, by omega, by go_num, by simpa using hca, by simpa using hzr, hbe.trans (below_draws _ _ _), ?_⟩
           have e : txtL l m 4 = txtL l m 3 := by unfold txtL; rw [HS.out]; simp
           rw [e]; exact hid (bld_draws HBr.out)
        · rw [hb] at HA HS
          simp at HA
          go_wp2_with fail
          go_quiet (fail)
          go_wp2_with fail
          refine (bldByte (w.heap.size + 1) (w.heap.size + 1) (Lib.byteCells (txtL l m 3)) _ _ (bld_draws HBr.out) (by have := HL.out; simp [Lib.byteCells]; omega) (by simp; omega)).mono ?_
          rintro e w2 ⟨rfl, hB2, b2⟩
          have hc2 : w2.cell? ⟨w.heap.size, 1, none⟩ = some (.int .i64 (m : Int)) := by
            rw [b2.cell (p := ⟨w.heap.size, 1, none⟩) (by simp)]; simpa using hca
          have hz2 : w.heap.size + 2 ≤ w2.heap.size := by have := b2.size; simp at this; omega
          have hb2 : Below w.heap.size w w2 := (hbe.trans (below_draws _ _ _)).trans (b2.mono (by omega))
          have HB2 := hid hB2
          clear b2 hB2 hca hzr hbe HBr
          go_wp2
          go_roundw
          case measure => simp [intOf]
          case rel =>
           refine ⟨4, by omega, by go_num, by simpa using hc2, by simpa using hz2, by (repeat' (first | exact Below.refl _ _ | assumption | exact Nat.le_refl _ | (refine Below.alloc ?_ ?_ _) | (refine Below.drew ?_) | (refine Below.setCell ?_ ?_ _) | (refine Below.trans ?_ (Below.mono (by assumption) ?_)) | (simp; done) | (simp; omega) | omega)), ?_⟩
           have e : Lib.byteCells (txtL l m 4) = Lib.byteCells (txtL l m 3) ++ [.int .u8 100] := by
             unfold txtL; rw [HS.out]; simp [Lib.byteCells]
           rw [e]; exact HB2
    · obtain rfl : k = 4 := by omega
      go_wp2_with fail
      refine (bldString (w.heap.size + 1) (w.heap.size + 1) (txtL l m 4) _ (by simpa using HBr.out) (by omega)).mono ?_
      rintro e w2 ⟨rfl, b2⟩
      go_wp2
      go_ret
      exact ⟨rfl, by (repeat' (first | exact Below.refl _ _ | assumption | exact Nat.le_refl _ | (refine Below.alloc ?_ ?_ _) | (refine Below.drew ?_) | (refine Below.setCell ?_ ?_ _) | (refine Below.trans ?_ (Below.mono (by assumption) ?_)) | (simp; done) | (simp; omega) | omega))⟩
/-- the text of any label -/
def lblTxt (l m : Int) : ByteArray := if okB l m then ⟨(txtL l.toNat m.toNat 4).toArray⟩ else ⟨#[]⟩
theorem ret_str {a b : ByteArray} (h : a = b) : Ending.returned (.string a) = .returned (.string b) := by rw [h]

theorem lblText_any (l m : Int) (w : World) :
    Calls Try.prog 25 #[.agg #[.int .i64 l, .int .i64 m]] w fun e w' => e = .returned (.string (lblTxt l m)) ∧ Below w.heap.size w w' := by
  cases h1 : okB l m
  · have H : Hid (lblTxt l m = ⟨#[]⟩) := by unfold Hid lblTxt; simp [h1]
    go_enter Try.func25, Try.ntmps25
    go_wp2_with fail
    refine (ok_any _ _ _).mono ?_
    rintro e w1 ⟨rfl, hb1⟩
    rw [h1]
    go_wp2
    go_ret
    exact ⟨ret_str H.out.symm, by (repeat' (first | exact Below.refl _ _ | assumption | exact Nat.le_refl _ | (refine Below.alloc ?_ ?_ _) | (refine Below.drew ?_) | (refine Below.setCell ?_ ?_ _) | (refine Below.trans ?_ (Below.mono (by assumption) ?_)) | (simp; done) | (simp; omega) | omega))⟩
  · have g := okB_iff.1 h1
    obtain ⟨L, rfl⟩ : ∃ L : Nat, l = L := ⟨l.toNat, by omega⟩
    obtain ⟨M, rfl⟩ : ∃ M : Nat, m = M := ⟨m.toNat, by omega⟩
    have H : Hid (lblTxt L M = ⟨(txtL L M 4).toArray⟩) := by unfold Hid lblTxt; simp [h1]
    go_enter Try.func25, Try.ntmps25
    go_wp2_with fail
    refine (ok_any _ _ _).mono ?_
    rintro e w1 ⟨rfl, hb1⟩
    rw [h1]
    obtain ⟨hc1, _⟩ := bcell hb1
    have ha0 := hc1 w.heap.size 0 (by simp)
    have ha1 := hc1 w.heap.size 1 (by simp)
    simp at ha0 ha1
    go_wp2_with fail
    refine (text_any L M _ (by omega) (by omega)).mono ?_
    rintro e w2 ⟨rfl, hb2⟩
    go_wp2
    go_ret
    exact ⟨ret_str H.out.symm, (((Below.refl _ w).alloc (Nat.le_refl _) _).trans (hb1.mono (by simp))).trans (hb2.mono (by have := hb1.size; simp at this; omega))⟩
end Go.Proofs.Ytjblhjnicoggaaa
