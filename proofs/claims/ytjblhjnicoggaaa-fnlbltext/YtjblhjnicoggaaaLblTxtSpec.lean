/- The contracts of the specification's text of a label. -/
import Derived.Test.YtjblhjnicoggaaaLblTxt
import Derived.Laws.IdiomStrings
namespace Go.Proofs.Ytjblhjnicoggaaa
open Go.ChangeShapes Go.WideShapes Go.ChangeAt Go.RowKit Go.Joins Go.Deep
set_option linter.unusedVariables false

theorem l1Bit_any (n k : Nat) (w : World) (hn : n ≤ 15) (hk : k ≤ 3) :
    Calls Try.prog 43 #[.int .i64 (n : Int), .int .i64 (k : Int)] w fun e w' => e = .returned (.int .i64 ((n / 2 ^ k % 2 : Nat) : Int)) ∧ w' = w := by
  go_enter Try.func43, Try.ntmps43
  go_wp2_with fail
  go_loop [0, 1] (fun i j => ∃ q : Nat, q ≤ k ∧ i = .int .i64 ((n / 2 ^ q : Nat) : Int) ∧ j = .int .i64 ((k : Int) - q)) (fun _ j => (intOf j).toNat)
  case atStart => exact ⟨0, by omega, by simp, by simp⟩
  case round =>
    obtain ⟨q, hq, rfl, rfl⟩ := hrel
    by_cases hlt : q < k
    · have hd : decide ((0 : Int) < (k : Int) - (q : Int)) = true := by simp; omega
      have hd' : ((k : Int) - (q : Int) > 0) := by omega
      have hx : Int.tdiv ((n / 2 ^ q : Nat) : Int) 2 = ((n / 2 ^ (q + 1) : Nat) : Int) := by
        rw [Nat.pow_succ, ← Nat.div_div_eq_div_mul]; exact (Int.ofNat_tdiv _ _).symm
      have hx : wrap64 (((n : Int) / 2 ^ q).tdiv 2) = ((n / 2 ^ (q + 1) : Nat) : Int) := by
        have e : ((n : Int) / 2 ^ q) = ((n / 2 ^ q : Nat) : Int) := by simp
        rw [e, hx]
        have : n / 2 ^ (q + 1) ≤ n := Nat.div_le_self _ _
        generalize n / 2 ^ (q + 1) = Y at this
        unfold wrap64; omega
      have HX := hid hx
      clear hx
      go_wp2_with fail
      exact ⟨⟨q + 1, by omega, by rw [HX.out], by go_num⟩, by simp [intOf]; omega⟩
    · obtain rfl : q = k := by omega
      go_wp2_with fail
      go_wp2
      go_ret
      have e : ((n : Int) / 2 ^ q) = ((n / 2 ^ q : Nat) : Int) := by simp
      refine ⟨ret_int ?_, rfl⟩
      rw [e, Int.tmod_eq_emod_of_nonneg (Int.natCast_nonneg _)]
theorem str_snoc {a b : List UInt8} {c : UInt8} (h : b = a ++ [c]) : Value.string (⟨a.toArray⟩ ++ ⟨#[c]⟩) = .string ⟨b.toArray⟩ := by
  subst h
  rw [show (⟨a.toArray⟩ ++ ⟨#[c]⟩ : ByteArray) = ⟨(a ++ [c]).toArray⟩ from by apply ByteArray.ext; simp [ByteArray.data_append]]

/-- a row of one byte as a text -/
theorem conv1 (w : World) (c : Nat) (hc : c ≤ 255) : Sem.run Try.prog (convert 22 9 (.slice (some ⟨w.heap.size, 0, none⟩) 1 1)) (w.alloc (.cells #[.int .u8 (c : Int)] 5)) = .ok (.string ⟨#[c.toUInt8]⟩) (w.alloc (.cells #[.int .u8 (c : Int)] 5)) := by
  have h := run_convert_bytes_back (P := Try.prog) (w.alloc (.cells #[.int .u8 (c : Int)] 5)) 22 9 5 ⟨w.heap.size, 0, none⟩ 1 [c.toUInt8] Try.underlying22 Try.underlying5 Try.underlying9 (by
    intro j hj
    match j, hj with
    | 0, _ =>
      have : c % 256 = c := by omega
      simp [Addr.add, this])
  exact h

set_option maxHeartbeats 4000000 in
theorem specText1_any (l m : Nat) (w : World) (hl : l ≤ 3) (hm : m ≤ 15) :
    Calls Try.prog 29 #[.agg #[.int .i64 (l : Int), .int .i64 (m : Int)]] w fun e w' => e = .returned (.string ⟨(txtL l m 4).toArray⟩) ∧ Below w.heap.size w w' := by
  have h1 : okB l m = true := by rw [okB_iff]; omega
  have hcv : ∀ w : World, Sem.run Try.prog (convert 22 9 (.slice (some ⟨w.heap.size, 0, none⟩) 1 1)) (w.alloc (.cells #[.int .u8 (48 + (l : Int))] 5)) = .ok (.string ⟨#[(48 + l).toUInt8]⟩) (w.alloc (.cells #[.int .u8 (48 + (l : Int))] 5)) := by
    intro w
    have := conv1 w (48 + l) (by omega)
    simpa using this
  have hcv0 : ∀ w : World, Sem.run Try.prog (convert 22 9 (.slice (some ⟨w.heap.size, 0, none⟩) 1 1)) (w.alloc (.cells #[.int .u8 97] 5)) = .ok (.string ⟨#[97]⟩) (w.alloc (.cells #[.int .u8 97] 5)) := fun w => conv1 w 97 (by omega)
  have hcv1 : ∀ w : World, Sem.run Try.prog (convert 22 9 (.slice (some ⟨w.heap.size, 0, none⟩) 1 1)) (w.alloc (.cells #[.int .u8 98] 5)) = .ok (.string ⟨#[98]⟩) (w.alloc (.cells #[.int .u8 98] 5)) := fun w => conv1 w 98 (by omega)
  have hcv2 : ∀ w : World, Sem.run Try.prog (convert 22 9 (.slice (some ⟨w.heap.size, 0, none⟩) 1 1)) (w.alloc (.cells #[.int .u8 99] 5)) = .ok (.string ⟨#[99]⟩) (w.alloc (.cells #[.int .u8 99] 5)) := fun w => conv1 w 99 (by omega)
  have hcv3 : ∀ w : World, Sem.run Try.prog (convert 22 9 (.slice (some ⟨w.heap.size, 0, none⟩) 1 1)) (w.alloc (.cells #[.int .u8 100] 5)) = .ok (.string ⟨#[100]⟩) (w.alloc (.cells #[.int .u8 100] 5)) := fun w => conv1 w 100 (by omega)
  go_enter Try.func29, Try.ntmps29
  go_wp2_with fail
  refine (specOk_any _ _ _).mono ?_
  rintro e w1 ⟨rfl, hb1⟩
  rw [h1]
  obtain ⟨hc1, _⟩ := bcell hb1
  have ha0 := hc1 w.heap.size 0 (by simp)
  have ha1 := hc1 w.heap.size 1 (by simp)
  simp at ha0 ha1
  have hsz : w.heap.size + 1 ≤ w1.heap.size := by have := hb1.size; simpa using this
  have hbw : Below w.heap.size w w1 := (((Below.refl _ w).alloc (Nat.le_refl _) _)).trans (hb1.mono (by simp))
  clear hb1 hc1
  go_wp2_with fail
  go_loopw [3, 4] (fun s i wr => ∃ k : Nat, k ≤ 4 ∧ i = .int .i64 k ∧ s = .string ⟨(txtL l m k).toArray⟩ ∧ wr.cell? ⟨w.heap.size, 1, none⟩ = some (.int .i64 (m : Int)) ∧ w.heap.size + 1 ≤ wr.heap.size ∧ Below w.heap.size w wr) (fun _ i _ => 4 - (intOf i).toNat)
  case atStart => exact ⟨0, by omega, rfl, by simp [txtL, letL], by simpa using cell_keep (below_alloc1 _ _) ha1, by simp; omega, hbw.alloc (by omega) _⟩
  case round =>
    obtain ⟨k, hk, rfl, rfl, hca, hzr, hbe⟩ := hrel
    clear ha0 ha1 hsz hbw
    by_cases hlt : k < 4
    · rcases (by omega : k = 0 ∨ k = 1 ∨ k = 2 ∨ k = 3) with rfl | rfl | rfl | rfl
      · have HS := hid (letL_succ m 0)
        have HL := hid (txtL_len l m 0 hk)
        have hq : (m / 2 ^ 0 % 2 == 1) = mkB m 0 := rfl
        have hadd : ∀ w : World, Sem.run Try.prog (Op.stringOp .add ⟨(txtL l m 0).toArray⟩ ⟨#[97]⟩) w = .ok (.string (⟨(txtL l m 0).toArray⟩ ++ ⟨#[97]⟩)) w := fun w => run_string_add_sum w _ _ (by have := HL.out; simp [ByteArray.size]; omega)
        cases hb : mkB m 0
        · rw [hb] at hq HS
          go_wp2_with fail
          refine (l1Bit_any m 0 _ hm (by omega)).mono ?_
          rintro e w2 ⟨rfl, rfl⟩
          obtain ⟨X, hX, hX0⟩ : ∃ X : Int, ((m / 2 ^ 0 % 2 : Nat) : Int) = X ∧ X = 0 := ⟨_, rfl, by simp at hq; omega⟩
          rw [hX, hX0]
          go_wp2_with fail
          have e : txtL l m 1 = txtL l m 0 := by unfold txtL; rw [HS.out]; simp
          exact ⟨⟨1, by omega, by go_num, by rw [e], hca, hzr, hbe⟩, by simp [intOf]⟩
        · rw [hb] at hq HS
          go_wp2_with fail
          refine (l1Bit_any m 0 _ hm (by omega)).mono ?_
          rintro e w2 ⟨rfl, rfl⟩
          obtain ⟨X, hX, hX0⟩ : ∃ X : Int, ((m / 2 ^ 0 % 2 : Nat) : Int) = X ∧ X = 1 := ⟨_, rfl, by simp at hq; omega⟩
          rw [hX, hX0]
          go_wp2_with fail
          have e : txtL l m 1 = txtL l m 0 ++ [97] := by unfold txtL; rw [HS.out]; simp
          exact ⟨⟨1, by omega, by go_num, str_snoc e, cell_keep (below_alloc1 _ _) hca, by simp; omega, hbe.alloc (by omega) _⟩, by simp [intOf]⟩
      · have HS := hid (letL_succ m 1)
        have HL := hid (txtL_len l m 1 hk)
        have hq : (m / 2 ^ 1 % 2 == 1) = mkB m 1 := rfl
        have hadd : ∀ w : World, Sem.run Try.prog (Op.stringOp .add ⟨(txtL l m 1).toArray⟩ ⟨#[98]⟩) w = .ok (.string (⟨(txtL l m 1).toArray⟩ ++ ⟨#[98]⟩)) w := fun w => run_string_add_sum w _ _ (by have := HL.out; simp [ByteArray.size]; omega)
        cases hb : mkB m 1
        · rw [hb] at hq HS
          go_wp2_with fail
          refine (l1Bit_any m 1 _ hm (by omega)).mono ?_
          rintro e w2 ⟨rfl, rfl⟩
          obtain ⟨X, hX, hX0⟩ : ∃ X : Int, ((m / 2 ^ 1 % 2 : Nat) : Int) = X ∧ X = 0 := ⟨_, rfl, by simp at hq; omega⟩
          rw [hX, hX0]
          go_wp2_with fail
          have e : txtL l m 2 = txtL l m 1 := by unfold txtL; rw [HS.out]; simp
          exact ⟨⟨2, by omega, by go_num, by rw [e], hca, hzr, hbe⟩, by simp [intOf]⟩
        · rw [hb] at hq HS
          go_wp2_with fail
          refine (l1Bit_any m 1 _ hm (by omega)).mono ?_
          rintro e w2 ⟨rfl, rfl⟩
          obtain ⟨X, hX, hX0⟩ : ∃ X : Int, ((m / 2 ^ 1 % 2 : Nat) : Int) = X ∧ X = 1 := ⟨_, rfl, by simp at hq; omega⟩
          rw [hX, hX0]
          go_wp2_with fail
          have e : txtL l m 2 = txtL l m 1 ++ [98] := by unfold txtL; rw [HS.out]; simp
          exact ⟨⟨2, by omega, by go_num, str_snoc e, cell_keep (below_alloc1 _ _) hca, by simp; omega, hbe.alloc (by omega) _⟩, by simp [intOf]⟩
      · have HS := hid (letL_succ m 2)
        have HL := hid (txtL_len l m 2 hk)
        have hq : (m / 2 ^ 2 % 2 == 1) = mkB m 2 := rfl
        have hadd : ∀ w : World, Sem.run Try.prog (Op.stringOp .add ⟨(txtL l m 2).toArray⟩ ⟨#[99]⟩) w = .ok (.string (⟨(txtL l m 2).toArray⟩ ++ ⟨#[99]⟩)) w := fun w => run_string_add_sum w _ _ (by have := HL.out; simp [ByteArray.size]; omega)
        cases hb : mkB m 2
        · rw [hb] at hq HS
          go_wp2_with fail
          refine (l1Bit_any m 2 _ hm (by omega)).mono ?_
          rintro e w2 ⟨rfl, rfl⟩
          obtain ⟨X, hX, hX0⟩ : ∃ X : Int, ((m / 2 ^ 2 % 2 : Nat) : Int) = X ∧ X = 0 := ⟨_, rfl, by simp at hq; omega⟩
          rw [hX, hX0]
          go_wp2_with fail
          have e : txtL l m 3 = txtL l m 2 := by unfold txtL; rw [HS.out]; simp
          exact ⟨⟨3, by omega, by go_num, by rw [e], hca, hzr, hbe⟩, by simp [intOf]⟩
        · rw [hb] at hq HS
          go_wp2_with fail
          refine (l1Bit_any m 2 _ hm (by omega)).mono ?_
          rintro e w2 ⟨rfl, rfl⟩
          obtain ⟨X, hX, hX0⟩ : ∃ X : Int, ((m / 2 ^ 2 % 2 : Nat) : Int) = X ∧ X = 1 := ⟨_, rfl, by simp at hq; omega⟩
          rw [hX, hX0]
          go_wp2_with fail
          have e : txtL l m 3 = txtL l m 2 ++ [99] := by unfold txtL; rw [HS.out]; simp
          exact ⟨⟨3, by omega, by go_num, str_snoc e, cell_keep (below_alloc1 _ _) hca, by simp; omega, hbe.alloc (by omega) _⟩, by simp [intOf]⟩
      · have HS := hid (letL_succ m 3)
        have HL := hid (txtL_len l m 3 hk)
        have hq : (m / 2 ^ 3 % 2 == 1) = mkB m 3 := rfl
        have hadd : ∀ w : World, Sem.run Try.prog (Op.stringOp .add ⟨(txtL l m 3).toArray⟩ ⟨#[100]⟩) w = .ok (.string (⟨(txtL l m 3).toArray⟩ ++ ⟨#[100]⟩)) w := fun w => run_string_add_sum w _ _ (by have := HL.out; simp [ByteArray.size]; omega)
        cases hb : mkB m 3
        · rw [hb] at hq HS
          go_wp2_with fail
          refine (l1Bit_any m 3 _ hm (by omega)).mono ?_
          rintro e w2 ⟨rfl, rfl⟩
          obtain ⟨X, hX, hX0⟩ : ∃ X : Int, ((m / 2 ^ 3 % 2 : Nat) : Int) = X ∧ X = 0 := ⟨_, rfl, by simp at hq; omega⟩
          rw [hX, hX0]
          go_wp2_with fail
          have e : txtL l m 4 = txtL l m 3 := by unfold txtL; rw [HS.out]; simp
          exact ⟨⟨4, by omega, by go_num, by rw [e], hca, hzr, hbe⟩, by simp [intOf]⟩
        · rw [hb] at hq HS
          go_wp2_with fail
          refine (l1Bit_any m 3 _ hm (by omega)).mono ?_
          rintro e w2 ⟨rfl, rfl⟩
          obtain ⟨X, hX, hX0⟩ : ∃ X : Int, ((m / 2 ^ 3 % 2 : Nat) : Int) = X ∧ X = 1 := ⟨_, rfl, by simp at hq; omega⟩
          rw [hX, hX0]
          go_wp2_with fail
          have e : txtL l m 4 = txtL l m 3 ++ [100] := by unfold txtL; rw [HS.out]; simp
          exact ⟨⟨4, by omega, by go_num, str_snoc e, cell_keep (below_alloc1 _ _) hca, by simp; omega, hbe.alloc (by omega) _⟩, by simp [intOf]⟩
    · obtain rfl : k = 4 := by omega
      go_wp2
      go_ret
      exact ⟨rfl, hbe⟩

theorem specText_any (l m : Int) (w : World) :
    Calls Try.prog 29 #[.agg #[.int .i64 l, .int .i64 m]] w fun e w' => e = .returned (.string (lblTxt l m)) ∧ Below w.heap.size w w' := by
  cases h1 : okB l m
  · have H : Hid (lblTxt l m = ⟨#[]⟩) := by unfold Hid lblTxt; simp [h1]
    go_enter Try.func29, Try.ntmps29
    go_wp2_with fail
    refine (specOk_any _ _ _).mono ?_
    rintro e w1 ⟨rfl, hb1⟩
    rw [h1]
    go_wp2
    go_ret
    exact ⟨ret_str H.out.symm, by (repeat' (first | exact Below.refl _ _ | assumption | exact Nat.le_refl _ | (refine Below.alloc ?_ ?_ _) | (refine Below.drew ?_) | (refine Below.setCell ?_ ?_ _) | (refine Below.trans ?_ (Below.mono (by assumption) ?_)) | (simp; done) | (simp; omega) | omega))⟩
  · have g := okB_iff.1 h1
    obtain ⟨L, rfl⟩ : ∃ L : Nat, l = L := ⟨l.toNat, by omega⟩
    obtain ⟨M, rfl⟩ : ∃ M : Nat, m = M := ⟨m.toNat, by omega⟩
    have H : lblTxt L M = ⟨(txtL L M 4).toArray⟩ := by unfold lblTxt; simp [h1]
    rw [H]
    exact specText1_any L M w (by omega) (by omega)
end Go.Proofs.Ytjblhjnicoggaaa
