/- The contract of the specification's LblRead. -/
import Derived.Test.YtjblhjnicoggaaaLblRd
namespace Go.Proofs.Ytjblhjnicoggaaa
open Go.ChangeShapes Go.WideShapes Go.ChangeAt Go.RowKit Go.Joins Go.Deep
set_option linter.unusedVariables false

/-- the result's cells are as they were made -/
def Res0 (n : Nat) (w wr : World) : Prop := wr.cell? ⟨n, 0, none⟩ = some (.int .i64 0) ∧ wr.cell? ⟨n, 1, none⟩ = some (.int .i64 0) ∧ wr.frozen? ⟨n, 0, none⟩ = false ∧ wr.frozen? ⟨n, 1, none⟩ = false ∧ n + 1 ≤ wr.heap.size ∧ Below n w wr
theorem Res0.keep {n : Nat} {w wr w2 : World} (h : Res0 n w wr) (hb : Below wr.heap.size wr w2) : Res0 n w w2 := by
  obtain ⟨h0, h1, f0, f1, hz, hbe⟩ := h
  exact ⟨cell_keep hb h0, cell_keep hb h1, ((bcell hb).2 n 0 (by omega)).trans f0, ((bcell hb).2 n 1 (by omega)).trans f1, Nat.le_trans hz hb.size, hbe.trans (hb.mono (by omega))⟩

set_option maxHeartbeats 4000000 in
theorem specRead_any (s : ByteArray) (w : World) :
    Calls Try.prog 28 #[.string s] w fun e w' => e = .returned (.tuple #[.agg #[.int .i64 (rdL s), .int .i64 (rdM s)], .bool (rdOk s)]) ∧ Below w.heap.size w w' := by
  go_enter Try.func28, Try.ntmps28
  go_wp2_with fail
  go_loopw [4] (fun i wr => ∃ k : Nat, k ≤ 4 ∧ i = .int .i64 k ∧ Hid (∀ l m : Int, okB l m = true → l < k → lblTxt l m ≠ s) ∧ Res0 w.heap.size w wr) (fun i _ => 4 - (intOf i).toNat)
  case atStart =>
    refine ⟨0, by omega, rfl, ?_, by simp, by simp, by simp, by simp, by simp, by (repeat' (first | exact Below.refl _ _ | assumption | exact Nat.le_refl _ | (refine Below.alloc ?_ ?_ _) | (refine Below.drew ?_) | (refine Below.setCell ?_ ?_ _) | (refine Below.trans ?_ (Below.mono (by assumption) ?_)) | (simp; done) | (simp; omega) | omega))⟩
    intro l m h hl
    have := (okB_iff.1 h).1.1
    simp at hl; omega
  case round =>
    obtain ⟨k, hk, rfl, HK, hR⟩ := hrel
    have HR := hid hR
    by_cases hlt : k < 4
    · have hle : decide ((k : Int) ≤ 3) = true := by simp; omega
      clear hR
      go_wp2_with fail
      go_loopw [5] (fun j wr => ∃ q : Nat, q ≤ 16 ∧ j = .int .i64 q ∧ Hid (∀ l m : Int, okB l m = true → (l < k ∨ l = k ∧ m < q) → lblTxt l m ≠ s) ∧ Res0 w.heap.size w wr) (fun j _ => 16 - (intOf j).toNat)
      case atStart =>
        refine ⟨0, by omega, rfl, ?_, HR.out⟩
        intro l m h hl
        have := (okB_iff.1 h).2.1
        exact HK.out l m h (by simp at hl; omega)
      case round =>
        obtain ⟨q, hq, rfl, HQ, hR⟩ := hrel
        have HR := hid hR
        clear hR
        by_cases hqt : q < 16
        · have hle2 : decide ((q : Int) ≤ 15) = true := by simp; omega
          have HB := hid HR.out.2.2.2.2.2
          go_wp2_with fail
          refine (specText_any _ _ _).mono ?_
          rintro e w2 ⟨rfl, b2⟩
          have R2 := hid ((HR.out.keep (below_alloc1 _ _)).keep b2)
          have hg : okB (k : Int) (q : Int) = true := by rw [okB_iff]; omega
          have a0 : w2.cell? ⟨wr.heap.size, 0, none⟩ = some (.int .i64 (k : Int)) := cell_keep b2 (by simp)
          have a1 : w2.cell? ⟨wr.heap.size, 1, none⟩ = some (.int .i64 (q : Int)) := cell_keep b2 (by simp)
          clear HR HB b2
          obtain ⟨T, hT⟩ : ∃ T, lblTxt (k : Int) (q : Int) = T := ⟨_, rfl⟩
          rw [hT]
          cases hqq : (T.toList == s.toList)
          · have HN : Hid (lblTxt (k : Int) (q : Int) ≠ s) := by unfold Hid; rw [hT]; exact str_ne hqq
            clear hT hg
            go_wp2_with fail
            refine ⟨⟨q + 1, by omega, by go_num, ?_, R2.out⟩, by simp [intOf]; omega⟩
            intro l m h hl
            by_cases he : l = k ∧ m = q
            · rw [he.1, he.2]; exact HN.out
            · exact HQ.out l m h (by simp at hl; omega)
          · have HY := hid (rd_yes hg (hT.trans (str_eq hqq)))
            obtain ⟨r0, r1, f0, f1, hz, hbe⟩ := R2.out
            clear hT hg
            go_wp2_with fail
            obtain ⟨q0, q1⟩ := set2 (a := .int .i64 (k : Int)) (b := .int .i64 (q : Int)) r0 r1
            refine bodyPost_ret (v := .tuple #[.agg #[.int .i64 k, .int .i64 q], .bool true]) (by simp [results, Try.results28, go_sem, q0, q1]) rfl ?_
            rw [HY.out.1, HY.out.2.1, HY.out.2.2]
            exact ⟨rfl, ((hbe.setCell (p := ⟨w.heap.size, 0, none⟩) (by simp) _).setCell (p := ⟨w.heap.size, 1, none⟩) (by simp) _)⟩
        · obtain rfl : q = 16 := by omega
          go_wp2_with fail
          refine ⟨⟨k + 1, by omega, by go_num, ?_, HR.out⟩, by simp [intOf]; omega⟩
          intro l m h hl
          have := (okB_iff.1 h).2.2
          exact HQ.out l m h (by simp at hl; omega)
    · obtain rfl : k = 4 := by omega
      obtain ⟨r0, r1, f0, f1, hz, hbe⟩ := hR
      have HN := hid (rd_no (s := s) (fun l m h => HK.out l m h (by have := (okB_iff.1 h).1.2; omega)))
      go_wp2_with fail
      obtain ⟨q0, q1⟩ := set2 (a := .int .i64 0) (b := .int .i64 0) r0 r1
      refine bodyPost_ret (v := .tuple #[.agg #[.int .i64 0, .int .i64 0], .bool false]) (by simp [results, Try.results28, go_sem, q0, q1]) rfl ?_
      rw [HN.out.1, HN.out.2.1, HN.out.2.2]
      exact ⟨rfl, ((hbe.setCell (p := ⟨w.heap.size, 0, none⟩) (by simp) _).setCell (p := ⟨w.heap.size, 1, none⟩) (by simp) _)⟩
end Go.Proofs.Ytjblhjnicoggaaa
