/- The contract of the program's LblRead. -/
import Derived.Test.YtjblhjnicoggaaaLblTxtSpec
namespace Go.Proofs.Ytjblhjnicoggaaa
open Go.ChangeShapes Go.WideShapes Go.ChangeAt Go.RowKit Go.Joins Go.Deep
set_option linter.unusedVariables false

/-- whether a byte stands in a text -/
def hasB (s : List UInt8) (k : Nat) : Bool := decide (0 ≤ Lib.indexByte s (97 + k).toUInt8)
/-- the marks whose letters stand in a text, those below k -/
def guM (s : List UInt8) : Nat → Nat
  | 0 => 0
  | k + 1 => guM s k + (if hasB s k then 2 ^ k else 0)
def guL (s : List UInt8) : Int := ((s.headD 0).toNat : Int) - 48
theorem guM_lt (s : List UInt8) : ∀ k, guM s k < 2 ^ k
  | 0 => by simp [guM]
  | k + 1 => by
    have := guM_lt s k
    simp only [guM]
    rw [Nat.pow_succ]
    split <;> omega
theorem gu_back : ∀ (l : Fin 4) (m : Fin 16), guL (txtL l.val m.val 4) = (l.val : Int) ∧ guM (txtL l.val m.val 4) 4 = m.val := by decide +kernel
/-- what is read from a text -/
def rdOk (s : ByteArray) : Bool := decide (s.data.toList ≠ [] ∧ lblTxt (guL s.data.toList) (guM s.data.toList 4) = s)
def rdL (s : ByteArray) : Int := if rdOk s then guL s.data.toList else 0
def rdM (s : ByteArray) : Int := if rdOk s then (guM s.data.toList 4 : Int) else 0
theorem txt_ne {l m : Int} (h : okB l m = true) : (lblTxt l m).data.toList ≠ [] := by
  unfold lblTxt; rw [if_pos h]; simp [txtL]
theorem gu_txt {l m : Int} (h : okB l m = true) : guL (lblTxt l m).data.toList = l ∧ (guM (lblTxt l m).data.toList 4 : Int) = m := by
  have g := okB_iff.1 h
  have k := gu_back ⟨l.toNat, by omega⟩ ⟨m.toNat, by omega⟩
  unfold lblTxt; rw [if_pos h]
  simp only at k ⊢
  rw [k.1, k.2]
  omega
theorem rd_yes {l m : Int} {s : ByteArray} (h : okB l m = true) (e : lblTxt l m = s) : rdOk s = true ∧ rdL s = l ∧ rdM s = m := by
  subst e
  have k := gu_txt h
  have y : rdOk (lblTxt l m) = true := by
    unfold rdOk
    simp only [decide_eq_true_eq]
    refine ⟨txt_ne h, ?_⟩
    rw [k.1, k.2]
  refine ⟨y, ?_, ?_⟩
  · unfold rdL; rw [if_pos y]; exact k.1
  · unfold rdM; rw [if_pos y]; exact k.2
theorem rd_no {s : ByteArray} (h : ∀ l m : Int, okB l m = true → lblTxt l m ≠ s) : rdOk s = false ∧ rdL s = 0 ∧ rdM s = 0 := by
  have y : rdOk s = false := by
    unfold rdOk
    simp only [decide_eq_false_iff_not, not_and]
    intro h1 h2
    cases h3 : okB (guL s.data.toList) (guM s.data.toList 4)
    · unfold lblTxt at h2; rw [h3] at h2; simp at h2; rw [← h2] at h1; simp at h1
    · exact h _ _ h3 h2
  exact ⟨y, by simp [rdL, y], by simp [rdM, y]⟩
theorem str_eq {a b : ByteArray} (h : (a.toList == b.toList) = true) : a = b := by
  have h := eq_of_beq h
  rw [ByteArray.toList_eq, ByteArray.toList_eq] at h
  apply ByteArray.ext; exact Array.toList_inj.1 h
theorem str_ne {a b : ByteArray} (h : (a.toList == b.toList) = false) : a ≠ b := by
  intro e; subst e; simp at h

theorem or0 : ∀ a : Fin 1, bits .or .i64 (a.val : Int) 1 = ((a.val + 1 : Nat) : Int) := by decide +kernel
theorem or1 : ∀ a : Fin 2, bits .or .i64 (a.val : Int) 2 = ((a.val + 2 : Nat) : Int) := by decide +kernel
theorem or2 : ∀ a : Fin 4, bits .or .i64 (a.val : Int) 4 = ((a.val + 4 : Nat) : Int) := by decide +kernel
theorem or3 : ∀ a : Fin 8, bits .or .i64 (a.val : Int) 8 = ((a.val + 8 : Nat) : Int) := by decide +kernel

theorem set2 {w : World} {n : Nat} {a b x y : Value} (h0 : w.cell? ⟨n, 0, none⟩ = some x) (h1 : w.cell? ⟨n, 1, none⟩ = some y) :
    ((w.setCell ⟨n, 0, none⟩ a).setCell ⟨n, 1, none⟩ b).cell? ⟨n, 0, none⟩ = some a ∧ ((w.setCell ⟨n, 0, none⟩ a).setCell ⟨n, 1, none⟩ b).cell? ⟨n, 1, none⟩ = some b := by
  constructor
  · rw [World.cell?_setCell_other _ _ _ _ (by simp)]; exact World.cell?_setCell_same _ _ _ h0
  · exact World.cell?_setCell_same _ _ _ ((World.cell?_setCell_other _ _ _ _ (by simp)).trans h1)
theorem rdKeep {w w2 : World} {n : Nat} {G M : Int} {N B : Nat} {o : Int}
    (r0 : w2.cell? ⟨n, 0, none⟩ = some (.int .i64 0)) (r1 : w2.cell? ⟨n, 1, none⟩ = some (.int .i64 0)) (f0 : w2.frozen? ⟨n, 0, none⟩ = false) (f1 : w2.frozen? ⟨n, 1, none⟩ = false)
    (hc0 : w2.cell? ⟨n + 1, 0, none⟩ = some (.int .i64 G)) (hc1 : w2.cell? ⟨n + 1, 1, none⟩ = some (.int .i64 M)) (hf1 : w2.frozen? ⟨n + 1, 1, none⟩ = false)
    (hz : n + 2 ≤ w2.heap.size) (hbe : Below B w w2) (ho : o = (N : Int)) (hB : B ≤ n + 1) :
    ((w2.setCell ⟨n + 1, 1, none⟩ (.int .i64 o)).drew.cell? ⟨n, 0, none⟩ = some (.int .i64 0) ∧ (w2.setCell ⟨n + 1, 1, none⟩ (.int .i64 o)).drew.cell? ⟨n, 1, none⟩ = some (.int .i64 0) ∧
      (w2.setCell ⟨n + 1, 1, none⟩ (.int .i64 o)).drew.frozen? ⟨n, 0, none⟩ = false ∧ (w2.setCell ⟨n + 1, 1, none⟩ (.int .i64 o)).drew.frozen? ⟨n, 1, none⟩ = false) ∧
    (w2.setCell ⟨n + 1, 1, none⟩ (.int .i64 o)).drew.cell? ⟨n + 1, 0, none⟩ = some (.int .i64 G) ∧ (w2.setCell ⟨n + 1, 1, none⟩ (.int .i64 o)).drew.cell? ⟨n + 1, 1, none⟩ = some (.int .i64 (N : Int)) ∧
    (w2.setCell ⟨n + 1, 1, none⟩ (.int .i64 o)).drew.frozen? ⟨n + 1, 1, none⟩ = false ∧ n + 2 ≤ (w2.setCell ⟨n + 1, 1, none⟩ (.int .i64 o)).drew.heap.size ∧ Below B w (w2.setCell ⟨n + 1, 1, none⟩ (.int .i64 o)).drew := by
  subst ho
  refine ⟨⟨?_, ?_, ?_, ?_⟩, ?_, ?_, ?_, ?_, ?_⟩
  · simp only [World.cell?_drew]; rw [World.cell?_setCell_other _ _ _ _ (by simp)]; exact r0
  · simp only [World.cell?_drew]; rw [World.cell?_setCell_other _ _ _ _ (by simp)]; exact r1
  · simpa using f0
  · simpa using f1
  · simp only [World.cell?_drew]; rw [World.cell?_setCell_other _ _ _ _ (by simp)]; exact hc0
  · simp only [World.cell?_drew]; exact World.cell?_setCell_same _ _ _ hc1
  · simpa using hf1
  · simpa using hz
  · exact (hbe.setCell (by simpa using hB) _).drew
set_option maxHeartbeats 4000000 in
theorem lblRead_any (s : ByteArray) (w : World) :
    Calls Try.prog 26 #[.string s] w fun e w' => e = .returned (.tuple #[.agg #[.int .i64 (rdL s), .int .i64 (rdM s)], .bool (rdOk s)]) ∧ Below w.heap.size w w' := by
  by_cases h0 : s.data.toList = []
  · have y : rdOk s = false := by unfold rdOk; simp [h0]
    have e0 : s = ⟨#[]⟩ := by apply ByteArray.ext; exact Array.toList_inj.1 h0
    have HL : Hid (rdL s = 0 ∧ rdM s = 0 ∧ rdOk s = false) := ⟨by simp [rdL, y], by simp [rdM, y], y⟩
    rw [HL.out.1, HL.out.2.1, HL.out.2.2]
    subst e0
    clear y h0 HL
    go_enter Try.func26, Try.ntmps26
    go_wp2
    refine bodyPost_ret (v := .tuple #[.agg #[.int .i64 0, .int .i64 0], .bool false]) (by simp [results, Try.results26, go_sem]) rfl ?_
    exact ⟨rfl, by (repeat' (first | exact Below.refl _ _ | assumption | exact Nat.le_refl _ | (refine Below.alloc ?_ ?_ _) | (refine Below.drew ?_) | (refine Below.setCell ?_ ?_ _) | (refine Below.trans ?_ (Below.mono (by assumption) ?_)) | (simp; done) | (simp; omega) | omega))⟩
  · obtain ⟨c, cs, hcs⟩ : ∃ c cs, s.data.toList = c :: cs := by
      cases h : s.data.toList with
      | nil => exact absurd h h0
      | cons c cs => exact ⟨c, cs, rfl⟩
    have he : s.toList.isEmpty = false := by rw [ByteArray.toList_eq, hcs]; rfl
    have hsz : 0 < s.size := by
      have : s.data.toList.length = s.size := rfl
      rw [hcs] at this; simp at this; omega
    have hGb : -48 ≤ guL s.data.toList ∧ guL s.data.toList ≤ 207 := by
      unfold guL; have := (s.data.toList.headD 0).toNat_lt; omega
    obtain ⟨G, hG⟩ : ∃ G, guL s.data.toList = G := ⟨_, rfl⟩
    have hw : wrap64 (wrap64 ((s[0]'hsz).toNat : Int) - 48) = G := by
      have e : (s[0]'hsz) = s.data.toList.headD 0 := by
        rw [hcs]
        have h2 : s.data.toList[0]'(by rw [hcs]; simp) = c := by simp [hcs]
        have h3 : (s[0]'hsz) = s.data.toList[0]'(by rw [hcs]; simp) := by simp; rfl
        rw [h3, h2]; rfl
      rw [← hG, e]; unfold guL
      have := (s.data.toList.headD 0).toNat_lt
      unfold wrap64; omega
    have HG := hid hG
    have HE : Hid (rdOk s = decide (lblTxt G (guM s.data.toList 4) = s)) := by unfold Hid rdOk; rw [hG]; simp [h0]
    rw [hG] at hGb
    clear hG hcs h0
    go_enter Try.func26, Try.ntmps26
    go_wp2_with fail
    simp only [hw]
    clear hw
    go_loopw [14] (fun i wr => ∃ k : Nat, k ≤ 4 ∧ i = .int .i64 k ∧ (wr.cell? ⟨w.heap.size, 0, none⟩ = some (.int .i64 0) ∧ wr.cell? ⟨w.heap.size, 1, none⟩ = some (.int .i64 0) ∧ wr.frozen? ⟨w.heap.size, 0, none⟩ = false ∧ wr.frozen? ⟨w.heap.size, 1, none⟩ = false) ∧ wr.cell? ⟨w.heap.size + 1, 0, none⟩ = some (.int .i64 G) ∧ wr.cell? ⟨w.heap.size + 1, 1, none⟩ = some (.int .i64 (guM s.data.toList k : Int)) ∧ wr.frozen? ⟨w.heap.size + 1, 1, none⟩ = false ∧ w.heap.size + 2 ≤ wr.heap.size ∧ Below w.heap.size w wr) (fun i _ => 4 - (intOf i).toNat)
    case atStart => exact ⟨0, by omega, rfl, by simp, by simp, by simp [guM], by simp, by simp, by (repeat' (first | exact Below.refl _ _ | assumption | exact Nat.le_refl _ | (refine Below.alloc ?_ ?_ _) | (refine Below.drew ?_) | (refine Below.setCell ?_ ?_ _) | (refine Below.trans ?_ (Below.mono (by assumption) ?_)) | (simp; done) | (simp; omega) | omega))⟩
    case round =>
      obtain ⟨k, hk, rfl, ⟨r0, r1, f0, f1⟩, hc0, hc1, hf1, hzr, hbe⟩ := hrel
      have hlt2 := guM_lt s.data.toList k
      by_cases hlt : k < 4
      · rcases (by omega : k = 0 ∨ k = 1 ∨ k = 2 ∨ k = 3) with rfl | rfl | rfl | rfl

        · have hgs : guM s.data.toList 1 = guM s.data.toList 0 + (if hasB s.data.toList 0 then 1 else 0) := rfl
          have hh : hasB s.data.toList 0 = decide (0 ≤ Lib.indexByte s.data.toList 97) := rfl
          obtain ⟨M, hM⟩ : ∃ M, guM s.data.toList 0 = M := ⟨_, rfl⟩
          obtain ⟨X, hX⟩ : ∃ X, Lib.indexByte s.data.toList 97 = X := ⟨_, rfl⟩
          rw [hM] at hgs hlt2 hc1
          rw [hX] at hh
          have hor := or0 ⟨M, by omega⟩
          simp only at hor
          by_cases hx : 0 ≤ X
          · rw [hh] at hgs
            simp only [hx, decide_true, if_true] at hgs
            have HGS := hid hgs
            clear hgs hh
            go_wp2_with fail
            have e97 : Lib.indexByte s.data.toList (Int.toNat 97).toUInt8 = X := hX
            refine (indexByte_any s 97 _).mono ?_
            rintro e w2 ⟨he2, rfl⟩
            rw [e97] at he2
            subst he2
            clear e97 hX
            go_wp2_with fail
            go_region_with (fail)
            all_goals
              go_wp2
              go_roundw
              case measure => simp [intOf]
              exact ⟨1, by omega, by go_num, rdKeep r0 r1 f0 f1 hc0 hc1 hf1 hzr hbe (by rw [HGS.out]; exact hor) (by omega)⟩
          · rw [hh] at hgs
            simp only [hx, decide_false] at hgs
            have HGS := hid hgs
            clear hgs hh
            go_wp2_with fail
            have e97 : Lib.indexByte s.data.toList (Int.toNat 97).toUInt8 = X := hX
            refine (indexByte_any s 97 _).mono ?_
            rintro e w2 ⟨he2, rfl⟩
            rw [e97] at he2
            subst he2
            clear e97 hX
            go_wp2
            go_roundw
            case measure => simp [intOf]
            exact ⟨1, by omega, by go_num, ⟨r0, r1, f0, f1⟩, hc0, by rw [HGS.out]; simpa using hc1, hf1, hzr, hbe⟩
        · have hgs : guM s.data.toList 2 = guM s.data.toList 1 + (if hasB s.data.toList 1 then 2 else 0) := rfl
          have hh : hasB s.data.toList 1 = decide (0 ≤ Lib.indexByte s.data.toList 98) := rfl
          obtain ⟨M, hM⟩ : ∃ M, guM s.data.toList 1 = M := ⟨_, rfl⟩
          obtain ⟨X, hX⟩ : ∃ X, Lib.indexByte s.data.toList 98 = X := ⟨_, rfl⟩
          rw [hM] at hgs hlt2 hc1
          rw [hX] at hh
          have hor := or1 ⟨M, by omega⟩
          simp only at hor
          by_cases hx : 0 ≤ X
          · rw [hh] at hgs
            simp only [hx, decide_true, if_true] at hgs
            have HGS := hid hgs
            clear hgs hh
            go_wp2_with fail
            have e97 : Lib.indexByte s.data.toList (Int.toNat 98).toUInt8 = X := hX
            refine (indexByte_any s 98 _).mono ?_
            rintro e w2 ⟨he2, rfl⟩
            rw [e97] at he2
            subst he2
            clear e97 hX
            go_wp2_with fail
            go_region_with (fail)
            all_goals
              go_wp2
              go_roundw
              case measure => simp [intOf]
              exact ⟨2, by omega, by go_num, rdKeep r0 r1 f0 f1 hc0 hc1 hf1 hzr hbe (by rw [HGS.out]; exact hor) (by omega)⟩
          · rw [hh] at hgs
            simp only [hx, decide_false] at hgs
            have HGS := hid hgs
            clear hgs hh
            go_wp2_with fail
            have e97 : Lib.indexByte s.data.toList (Int.toNat 98).toUInt8 = X := hX
            refine (indexByte_any s 98 _).mono ?_
            rintro e w2 ⟨he2, rfl⟩
            rw [e97] at he2
            subst he2
            clear e97 hX
            go_wp2
            go_roundw
            case measure => simp [intOf]
            exact ⟨2, by omega, by go_num, ⟨r0, r1, f0, f1⟩, hc0, by rw [HGS.out]; simpa using hc1, hf1, hzr, hbe⟩
        · have hgs : guM s.data.toList 3 = guM s.data.toList 2 + (if hasB s.data.toList 2 then 4 else 0) := rfl
          have hh : hasB s.data.toList 2 = decide (0 ≤ Lib.indexByte s.data.toList 99) := rfl
          obtain ⟨M, hM⟩ : ∃ M, guM s.data.toList 2 = M := ⟨_, rfl⟩
          obtain ⟨X, hX⟩ : ∃ X, Lib.indexByte s.data.toList 99 = X := ⟨_, rfl⟩
          rw [hM] at hgs hlt2 hc1
          rw [hX] at hh
          have hor := or2 ⟨M, by omega⟩
          simp only at hor
          by_cases hx : 0 ≤ X
          · rw [hh] at hgs
            simp only [hx, decide_true, if_true] at hgs
            have HGS := hid hgs
            clear hgs hh
            go_wp2_with fail
            have e97 : Lib.indexByte s.data.toList (Int.toNat 99).toUInt8 = X := hX
            refine (indexByte_any s 99 _).mono ?_
            rintro e w2 ⟨he2, rfl⟩
            rw [e97] at he2
            subst he2
            clear e97 hX
            go_wp2_with fail
            go_region_with (fail)
            all_goals
              go_wp2
              go_roundw
              case measure => simp [intOf]
              exact ⟨3, by omega, by go_num, rdKeep r0 r1 f0 f1 hc0 hc1 hf1 hzr hbe (by rw [HGS.out]; exact hor) (by omega)⟩
          · rw [hh] at hgs
            simp only [hx, decide_false] at hgs
            have HGS := hid hgs
            clear hgs hh
            go_wp2_with fail
            have e97 : Lib.indexByte s.data.toList (Int.toNat 99).toUInt8 = X := hX
            refine (indexByte_any s 99 _).mono ?_
            rintro e w2 ⟨he2, rfl⟩
            rw [e97] at he2
            subst he2
            clear e97 hX
            go_wp2
            go_roundw
            case measure => simp [intOf]
            exact ⟨3, by omega, by go_num, ⟨r0, r1, f0, f1⟩, hc0, by rw [HGS.out]; simpa using hc1, hf1, hzr, hbe⟩
        · have hgs : guM s.data.toList 4 = guM s.data.toList 3 + (if hasB s.data.toList 3 then 8 else 0) := rfl
          have hh : hasB s.data.toList 3 = decide (0 ≤ Lib.indexByte s.data.toList 100) := rfl
          obtain ⟨M, hM⟩ : ∃ M, guM s.data.toList 3 = M := ⟨_, rfl⟩
          obtain ⟨X, hX⟩ : ∃ X, Lib.indexByte s.data.toList 100 = X := ⟨_, rfl⟩
          rw [hM] at hgs hlt2 hc1
          rw [hX] at hh
          have hor := or3 ⟨M, by omega⟩
          simp only at hor
          by_cases hx : 0 ≤ X
          · rw [hh] at hgs
            simp only [hx, decide_true, if_true] at hgs
            have HGS := hid hgs
            clear hgs hh
            go_wp2_with fail
            have e97 : Lib.indexByte s.data.toList (Int.toNat 100).toUInt8 = X := hX
            refine (indexByte_any s 100 _).mono ?_
            rintro e w2 ⟨he2, rfl⟩
            rw [e97] at he2
            subst he2
            clear e97 hX
            go_wp2_with fail
            go_region_with (fail)
            all_goals
              go_wp2
              go_roundw
              case measure => simp [intOf]
              exact ⟨4, by omega, by go_num, rdKeep r0 r1 f0 f1 hc0 hc1 hf1 hzr hbe (by rw [HGS.out]; exact hor) (by omega)⟩
          · rw [hh] at hgs
            simp only [hx, decide_false] at hgs
            have HGS := hid hgs
            clear hgs hh
            go_wp2_with fail
            have e97 : Lib.indexByte s.data.toList (Int.toNat 100).toUInt8 = X := hX
            refine (indexByte_any s 100 _).mono ?_
            rintro e w2 ⟨he2, rfl⟩
            rw [e97] at he2
            subst he2
            clear e97 hX
            go_wp2
            go_roundw
            case measure => simp [intOf]
            exact ⟨4, by omega, by go_num, ⟨r0, r1, f0, f1⟩, hc0, by rw [HGS.out]; simpa using hc1, hf1, hzr, hbe⟩
      · obtain rfl : k = 4 := by omega
        have he' : Hid (he = he) := rfl
        go_wp2_with fail
        refine (lblText_any _ _ _).mono ?_
        rintro e w2 ⟨rfl, b2⟩
        have y0 := cell_keep b2 r0
        have y1 := cell_keep b2 r1
        have y2 := cell_keep b2 hc0
        have y3 := cell_keep b2 hc1
        obtain ⟨_, hfk⟩ := bcell b2
        have g0 := (hfk w.heap.size 0 (by omega)).trans f0
        have g1 := (hfk w.heap.size 1 (by omega)).trans f1
        have B2 := hid (hbe.trans (b2.mono (by omega)))
        have Z2 := b2.size
        clear hfk b2 r0 r1 f0 f1 hc0 hc1 hf1 hbe
        obtain ⟨T, hT⟩ : ∃ T, lblTxt G (guM s.data.toList 4) = T := ⟨_, rfl⟩
        rw [hT] at HE ⊢
        obtain ⟨M, hM⟩ : ∃ M, guM s.data.toList 4 = M := ⟨_, rfl⟩
        rw [hM] at y3
        cases hq : (T.toList == s.toList)
        · have y : rdOk s = false := by rw [HE.out]; simp [str_ne hq]
          have HL : Hid (rdL s = 0 ∧ rdM s = 0 ∧ rdOk s = false) := ⟨by simp [rdL, y], by simp [rdM, y], y⟩
          clear y
          go_wp2_with fail
          obtain ⟨q0, q1⟩ := set2 (a := .int .i64 0) (b := .int .i64 0) y0 y1
          refine bodyPost_ret (v := .tuple #[.agg #[.int .i64 0, .int .i64 0], .bool false]) (by simp [results, Try.results26, go_sem, q0, q1]) rfl ?_
          rw [HL.out.1, HL.out.2.1, HL.out.2.2]
          exact ⟨rfl, ((B2.out.setCell (p := ⟨w.heap.size, 0, none⟩) (by simp) _).setCell (p := ⟨w.heap.size, 1, none⟩) (by simp) _)⟩
        · have y : rdOk s = true := by rw [HE.out]; simp [str_eq hq]
          have HL : Hid (rdL s = G ∧ rdM s = M ∧ rdOk s = true) := ⟨by simp [rdL, y, HG.out], by simp [rdM, y, hM], y⟩
          clear y
          go_wp2_with fail
          obtain ⟨q0, q1⟩ := set2 (a := .int .i64 G) (b := .int .i64 M) y0 y1
          refine bodyPost_ret (v := .tuple #[.agg #[.int .i64 G, .int .i64 M], .bool true]) (by simp [results, Try.results26, go_sem, q0, q1]) rfl ?_
          rw [HL.out.1, HL.out.2.1, HL.out.2.2]
          exact ⟨rfl, ((B2.out.setCell (p := ⟨w.heap.size, 0, none⟩) (by simp) _).setCell (p := ⟨w.heap.size, 1, none⟩) (by simp) _)⟩
end Go.Proofs.Ytjblhjnicoggaaa
