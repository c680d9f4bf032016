/- The contracts of FrmPut, of the program and of the specification. -/
import Derived.Test.YtpfelnkdimbhkaaDoorFrmHBS
namespace Go.Proofs.YtpfelnkdimbhkaaDoor
open Go.ChangeShapes Go.WideShapes Go.ChangeAt Go.RowKit Go.Joins Go.Deep
set_option linter.unusedVariables false
set_option maxRecDepth 4000
set_option linter.unusedSimpArgs false
def ptL (k f t y b p e s : Int) (xs : List Int) : List Int := if headB k f t y b p e s && decide (xs.length = 13) then hdL k f t y b p e s ++ xs else []
theorem hdL_yes {k f t y b p e s : Int} (h : headB k f t y b p e s = true) : (hdL k f t y b p e s).length = 11 := by
  unfold hdL; rw [if_pos h]; simp [preL, fld, putL_len]
theorem ptL_len (k f t y b p e s : Int) (xs : List Int) : (ptL k f t y b p e s xs).length ≤ 24 := by
  unfold ptL; split
  · rename_i h
    simp only [Bool.and_eq_true, decide_eq_true_eq] at h
    rw [List.length_append, hdL_yes h.1]; omega
  · simp

set_option maxHeartbeats 8000000 in
theorem frmPut_any (k f t y b p e s : Int) (v : Value) (xs : List Int) (w : World) (hv : Rd w v xs) :
    Calls Tryd.prog 24 #[.agg #[.int .i64 k, .int .i64 f, .int .i64 t, .int .i64 y, .int .i64 b, .int .i64 p, .int .i64 e, .int .i64 s], v] w fun x w' => ∃ u, x = .returned u ∧ Own w' w.heap.size u (ptL k f t y b p e s xs) ∧ Below w.heap.size w w' := by
  obtain ⟨ti, hti, htz, hts, htb⟩ := info8'
  have RV := hid hv
  obtain ⟨h1, h2, a, cap, rfl, h3⟩ := hv
  have H1 := hid h1
  clear h1
  cases hk : headB k f t y b p e s
  · have H : Hid (ptL k f t y b p e s xs = []) := by unfold Hid ptL; simp [hk]
    clear h3
    go_enter Tryd.func24, Tryd.ntmps24
    go_wp2_with fail
    refine (headOk_any _ _ _ _ _ _ _ _ _).mono ?_
    rintro x w1 ⟨rfl, b1⟩
    rw [hk]
    have hz1 : w.heap.size + 1 ≤ w1.heap.size := by have := b1.size; simpa using this
    have B1 : Hid (Below w.heap.size w w1) := hid ((below_alloc1 _ _).trans (b1.mono (by simp)))
    clear b1
    go_wp2
    go_ret
    rw [H.out]
    exact ⟨_, rfl, own_nil _, B1.out⟩
  by_cases h13 : xs.length = 13
  · have H : Hid (ptL k f t y b p e s xs = hdL k f t y b p e s ++ xs) := by unfold Hid ptL; simp [hk, h13]
    have h11 := hdL_yes hk
    rcases h3 with rfl | ⟨bb, off, rfl, hc⟩
    · simp at h13
    have HC := hid hc
    clear hc
    rw [h13]
    have h13' := hid h13
    obtain ⟨XL, hXL⟩ : ∃ XL, hdL k f t y b p e s = XL := ⟨_, rfl⟩
    have HXL := hid hXL
    rw [hXL] at h11 H
    clear hXL
    go_enter Tryd.func24, Tryd.ntmps24
    go_wp2_with fail
    refine (headOk_any _ _ _ _ _ _ _ _ _).mono ?_
    rintro x w1 ⟨rfl, b1⟩
    rw [hk]
    have hz1 : w.heap.size + 1 ≤ w1.heap.size := by have := b1.size; simpa using this
    have B1 : Hid (Below w.heap.size w w1) := hid ((below_alloc1 _ _).trans (b1.mono (by simp)))
    obtain ⟨hc1, _⟩ := bcell b1
    have a0 : w1.cell? ⟨w.heap.size, 0, none⟩ = some (.int .i64 k) := (hc1 w.heap.size 0 (by simp)).trans (by simp)
    have a1 : w1.cell? ⟨w.heap.size, 1, none⟩ = some (.int .i64 f) := (hc1 w.heap.size 1 (by simp)).trans (by simp)
    have a2 : w1.cell? ⟨w.heap.size, 2, none⟩ = some (.int .i64 t) := (hc1 w.heap.size 2 (by simp)).trans (by simp)
    have a3 : w1.cell? ⟨w.heap.size, 3, none⟩ = some (.int .i64 y) := (hc1 w.heap.size 3 (by simp)).trans (by simp)
    have a4 : w1.cell? ⟨w.heap.size, 4, none⟩ = some (.int .i64 b) := (hc1 w.heap.size 4 (by simp)).trans (by simp)
    have a5 : w1.cell? ⟨w.heap.size, 5, none⟩ = some (.int .i64 p) := (hc1 w.heap.size 5 (by simp)).trans (by simp)
    have a6 : w1.cell? ⟨w.heap.size, 6, none⟩ = some (.int .i64 e) := (hc1 w.heap.size 6 (by simp)).trans (by simp)
    have a7 : w1.cell? ⟨w.heap.size, 7, none⟩ = some (.int .i64 s) := (hc1 w.heap.size 7 (by simp)).trans (by simp)
    clear b1 hc1 hk h13
    go_wp2_with fail
    refine (headBytes_any _ _ _ _ _ _ _ _ _).mono ?_
    rintro x w2 ⟨u2, rfl, o2, b2⟩
    rw [HXL.out] at o2
    have B2 := hid (B1.out.trans (b2.mono (by omega)))
    obtain ⟨au, cu, heu, fu⟩ := own_form o2
    rw [h11] at heu
    rcases fu with fu | ⟨gu, rfl⟩
    · rw [fu] at h11; simp at h11
    subst heu
    have O2 := hid o2
    have RO := own_ints o2
    rw [h11] at RO
    have RO := hid RO
    have hzz : w.heap.size < w2.heap.size := by have := b2.size; omega
    have hz2 : w1.heap.size ≤ w2.heap.size := b2.size
    have HN := hid (news_rd (fun i hi => cell_keep B2.out (HC.out i hi)))
    clear o2 b2
    go_wp2_with (at_builtin; go_must (refine wpList_append_lies _ (by rfl) _ _ 22 (by rfl) w1.heap.size 5 ti (.int .u8 0) 1 1 Tryd.underlying22 hti htz hts htb rfl (by omega) _ 11 (XL.map (Value.int .u8)) (by rfl) RO.out ⟨bb, off, none⟩ 13 cap (xs.map (Value.int .u8)) (by rfl) (by simp [h13'.out]) HN.out (by intro y hy; simp at hy; obtain ⟨z, _, rfl⟩ := hy; rfl) (by omega) (by unfold maxLen; omega) (by omega) (by omega) w2.heap.size rfl ?_))
    intro g cap2 w3 ho hg hat hlt
    have B3 := hid (B2.out.grown hg (by omega) (by intro j hj; have := (RO.out.lt j hj).1; omega))
    have O3 : Hid (Own w3 w1.heap.size (.slice (some ⟨g, 0, none⟩) (11 + 13) cap2) (XL ++ xs)) := by
      refine ⟨?_, ?_⟩
      · intro y hy
        rcases List.mem_append.1 hy with hy | hy
        · exact O2.out.1 y hy
        · exact H1.out y hy
      · have e : (XL ++ xs).length = 11 + 13 := by simp [h11, h13'.out]
        rw [e, List.map_append]; exact ho
    clear ho hg hat hlt
    go_wp2
    go_ret
    rw [H.out]
    exact ⟨_, rfl, O3.out.low (B' := w.heap.size) (by omega), B3.out⟩
  · have H : Hid (ptL k f t y b p e s xs = []) := by unfold Hid ptL; simp [h13]
    have h13' : ¬ (xs.length : Int) = 13 := by omega
    clear h3
    go_enter Tryd.func24, Tryd.ntmps24
    go_wp2_with fail
    refine (headOk_any _ _ _ _ _ _ _ _ _).mono ?_
    rintro x w1 ⟨rfl, b1⟩
    rw [hk]
    have hz1 : w.heap.size + 1 ≤ w1.heap.size := by have := b1.size; simpa using this
    have B1 : Hid (Below w.heap.size w w1) := hid ((below_alloc1 _ _).trans (b1.mono (by simp)))
    clear b1
    go_wp2
    go_ret
    rw [H.out]
    exact ⟨_, rfl, own_nil _, B1.out⟩

set_option maxHeartbeats 8000000 in
theorem specPutF_any (k f t y b p e s : Int) (v : Value) (xs : List Int) (w : World) (hv : Rd w v xs) :
    Calls Tryd.prog 25 #[.agg #[.int .i64 k, .int .i64 f, .int .i64 t, .int .i64 y, .int .i64 b, .int .i64 p, .int .i64 e, .int .i64 s], v] w fun x w' => ∃ u, x = .returned u ∧ Own w' w.heap.size u (ptL k f t y b p e s xs) ∧ Below w.heap.size w w' := by
  obtain ⟨ti, hti, htz, hts, htb⟩ := info8'
  have RV := hid hv
  obtain ⟨h1, h2, a, cap, rfl, h3⟩ := hv
  have H1 := hid h1
  clear h1
  cases hk : headB k f t y b p e s
  · have H : Hid (ptL k f t y b p e s xs = []) := by unfold Hid ptL; simp [hk]
    clear h3
    go_enter Tryd.func25, Tryd.ntmps25
    go_wp2_with fail
    refine (specHead_any _ _ _ _ _ _ _ _ _).mono ?_
    rintro x w1 ⟨rfl, b1⟩
    rw [hk]
    have hz1 : w.heap.size + 1 ≤ w1.heap.size := by have := b1.size; simpa using this
    have B1 : Hid (Below w.heap.size w w1) := hid ((below_alloc1 _ _).trans (b1.mono (by simp)))
    clear b1
    go_wp2
    go_ret
    rw [H.out]
    exact ⟨_, rfl, (own_none w1).low (B' := w.heap.size) (by omega), B1.out.alloc (by omega) _⟩
  by_cases h13 : xs.length = 13
  · have H : Hid (ptL k f t y b p e s xs = hdL k f t y b p e s ++ xs) := by unfold Hid ptL; simp [hk, h13]
    have h11 := hdL_yes hk
    rcases h3 with rfl | ⟨bb, off, rfl, hc⟩
    · simp at h13
    have HC := hid hc
    clear hc
    rw [h13]
    have h13' := hid h13
    obtain ⟨XL, hXL⟩ : ∃ XL, hdL k f t y b p e s = XL := ⟨_, rfl⟩
    have HXL := hid hXL
    rw [hXL] at h11 H
    clear hXL
    go_enter Tryd.func25, Tryd.ntmps25
    go_wp2_with fail
    refine (specHead_any _ _ _ _ _ _ _ _ _).mono ?_
    rintro x w1 ⟨rfl, b1⟩
    rw [hk]
    have hz1 : w.heap.size + 1 ≤ w1.heap.size := by have := b1.size; simpa using this
    have B1 : Hid (Below w.heap.size w w1) := hid ((below_alloc1 _ _).trans (b1.mono (by simp)))
    obtain ⟨hc1, _⟩ := bcell b1
    have a0 : w1.cell? ⟨w.heap.size, 0, none⟩ = some (.int .i64 k) := (hc1 w.heap.size 0 (by simp)).trans (by simp)
    have a1 : w1.cell? ⟨w.heap.size, 1, none⟩ = some (.int .i64 f) := (hc1 w.heap.size 1 (by simp)).trans (by simp)
    have a2 : w1.cell? ⟨w.heap.size, 2, none⟩ = some (.int .i64 t) := (hc1 w.heap.size 2 (by simp)).trans (by simp)
    have a3 : w1.cell? ⟨w.heap.size, 3, none⟩ = some (.int .i64 y) := (hc1 w.heap.size 3 (by simp)).trans (by simp)
    have a4 : w1.cell? ⟨w.heap.size, 4, none⟩ = some (.int .i64 b) := (hc1 w.heap.size 4 (by simp)).trans (by simp)
    have a5 : w1.cell? ⟨w.heap.size, 5, none⟩ = some (.int .i64 p) := (hc1 w.heap.size 5 (by simp)).trans (by simp)
    have a6 : w1.cell? ⟨w.heap.size, 6, none⟩ = some (.int .i64 e) := (hc1 w.heap.size 6 (by simp)).trans (by simp)
    have a7 : w1.cell? ⟨w.heap.size, 7, none⟩ = some (.int .i64 s) := (hc1 w.heap.size 7 (by simp)).trans (by simp)
    clear b1 hc1 hk h13
    go_wp2_with fail
    refine (specHeadBytes_any _ _ _ _ _ _ _ _ _).mono ?_
    rintro x w2 ⟨u2, rfl, o2, b2⟩
    rw [HXL.out] at o2
    have B2 := hid (B1.out.trans (b2.mono (by omega)))
    obtain ⟨au, cu, heu, fu⟩ := own_form o2
    rw [h11] at heu
    rcases fu with fu | ⟨gu, rfl⟩
    · rw [fu] at h11; simp at h11
    subst heu
    have O2 := hid o2
    have RO := own_ints o2
    rw [h11] at RO
    have RO := hid RO
    have hzz : w.heap.size < w2.heap.size := by have := b2.size; omega
    have hz2 : w1.heap.size ≤ w2.heap.size := b2.size
    have HN := hid (news_rd (fun i hi => cell_keep B2.out (HC.out i hi)))
    clear o2 b2
    go_wp2_with (at_builtin; go_must (refine wpList_append_lies _ (by rfl) _ _ 22 (by rfl) w1.heap.size 5 ti (.int .u8 0) 1 1 Tryd.underlying22 hti htz hts htb rfl (by omega) _ 11 (XL.map (Value.int .u8)) (by rfl) RO.out ⟨bb, off, none⟩ 13 cap (xs.map (Value.int .u8)) (by rfl) (by simp [h13'.out]) HN.out (by intro y hy; simp at hy; obtain ⟨z, _, rfl⟩ := hy; rfl) (by omega) (by unfold maxLen; omega) (by omega) (by omega) w2.heap.size rfl ?_))
    intro g cap2 w3 ho hg hat hlt
    have B3 := hid (B2.out.grown hg (by omega) (by intro j hj; have := (RO.out.lt j hj).1; omega))
    have O3 : Hid (Own w3 w1.heap.size (.slice (some ⟨g, 0, none⟩) (11 + 13) cap2) (XL ++ xs)) := by
      refine ⟨?_, ?_⟩
      · intro y hy
        rcases List.mem_append.1 hy with hy | hy
        · exact O2.out.1 y hy
        · exact H1.out y hy
      · have e : (XL ++ xs).length = 11 + 13 := by simp [h11, h13'.out]
        rw [e, List.map_append]; exact ho
    clear ho hg hat hlt
    go_wp2
    go_ret
    rw [H.out]
    exact ⟨_, rfl, O3.out.low (B' := w.heap.size) (by omega), B3.out⟩
  · have H : Hid (ptL k f t y b p e s xs = []) := by unfold Hid ptL; simp [h13]
    have h13' : ¬ (xs.length : Int) = 13 := by omega
    clear h3
    go_enter Tryd.func25, Tryd.ntmps25
    go_wp2_with fail
    refine (specHead_any _ _ _ _ _ _ _ _ _).mono ?_
    rintro x w1 ⟨rfl, b1⟩
    rw [hk]
    have hz1 : w.heap.size + 1 ≤ w1.heap.size := by have := b1.size; simpa using this
    have B1 : Hid (Below w.heap.size w w1) := hid ((below_alloc1 _ _).trans (b1.mono (by simp)))
    clear b1
    go_wp2
    go_ret
    rw [H.out]
    exact ⟨_, rfl, (own_none w1).low (B' := w.heap.size) (by omega), B1.out.alloc (by omega) _⟩

end Go.Proofs.YtpfelnkdimbhkaaDoor
