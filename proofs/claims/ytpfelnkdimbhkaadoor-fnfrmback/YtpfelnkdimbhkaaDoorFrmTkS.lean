/- The contract of FrmTake, of the specification. -/
import Derived.Test.YtpfelnkdimbhkaaDoorFrmTkC
namespace Go.Proofs.YtpfelnkdimbhkaaDoor
open Go.ChangeShapes Go.WideShapes Go.ChangeAt Go.RowKit Go.Joins Go.Deep
set_option linter.unusedVariables false
set_option linter.unusedSimpArgs false
set_option maxRecDepth 4000

set_option maxHeartbeats 16000000 in
theorem specTakeF_any (a : Option Addr) (cap : Nat) (xs : List Int) (w : World) (hv : Rd w (.slice a xs.length cap) xs) (hcap : xs.length ≤ cap) :
    Calls Tryd.prog 30 #[.slice a xs.length cap] w fun e w' => ∃ u, e = .returned (.tuple #[.agg #[.int .i64 (ftH xs 0), .int .i64 (ftH xs 1), .int .i64 (ftH xs 2), .int .i64 (ftH xs 3), .int .i64 (ftH xs 4), .int .i64 (ftH xs 5), .int .i64 (ftH xs 6), .int .i64 (ftH xs 7)], u, .bool (ftOk xs)]) ∧ Own w' w.heap.size u (ftL xs) ∧ Below w.heap.size w w' := by
  have hl := hv.2.1
  have HV := hid hv
  clear hv
  by_cases hn : xs.length = 24
  · have HR : Hid (Rd w (.slice a 24 cap) xs) := hid (by have h := HV.out; rw [hn] at h; exact h)
    obtain ⟨b, off, rfl⟩ := some_of_rd HV.out (by omega)
    have RC : Hid (Rd w (.slice (some ⟨b, off + 11, none⟩) 13 (cap - 11)) (xs.drop 11)) := hid (by have h := rd_drop HV.out (n := 11) (cap - 11) (by omega); rw [hn] at h; exact h)
    rw [hn] at hcap
    obtain ⟨v0, e0⟩ : ∃ v, hfV xs 0 = v := ⟨_, rfl⟩
    obtain ⟨v1, e1⟩ : ∃ v, hfV xs 1 = v := ⟨_, rfl⟩
    obtain ⟨v2, e2⟩ : ∃ v, hfV xs 2 = v := ⟨_, rfl⟩
    obtain ⟨v3, e3⟩ : ∃ v, hfV xs 3 = v := ⟨_, rfl⟩
    obtain ⟨v4, e4⟩ : ∃ v, hfV xs 4 = v := ⟨_, rfl⟩
    obtain ⟨v5, e5⟩ : ∃ v, hfV xs 5 = v := ⟨_, rfl⟩
    obtain ⟨v6, e6⟩ : ∃ v, hfV xs 6 = v := ⟨_, rfl⟩
    obtain ⟨v7, e7⟩ : ∃ v, hfV xs 7 = v := ⟨_, rfl⟩
    have HO : Hid (ftOk xs = headB v0 v1 v2 v3 v4 v5 v6 v7) := hid (by simp [ftOk, hn, e0, e1, e2, e3, e4, e5, e6, e7])
    have HEQ := hid (And.intro e0 (And.intro e1 (And.intro e2 (And.intro e3 (And.intro e4 (And.intro e5 (And.intro e6 e7)))))))
    have HN := hid hn
    clear e0 e1 e2 e3 e4 e5 e6 e7
    rw [hn]
    clear hn HV
    have B0 := hid (below_alloc1 w (.cells #[.int .i64 0, .int .i64 0, .int .i64 0, .int .i64 0, .int .i64 0, .int .i64 0, .int .i64 0, .int .i64 0] 37))
    have hnum : ∀ (wr : World) (A S : Int), Rd wr (.slice (some ⟨b, off, none⟩) 24 cap) xs → Calls Tryd.prog 67 #[.slice (some ⟨b, off, none⟩) 24 cap, .int .i64 A, .int .i64 S] wr fun e w' => e = .returned (.int .i64 (tkN xs A S)) ∧ w' = wr := by
      intro wr A S h1
      have := l4Num_any (some ⟨b, off, none⟩) cap xs A S wr (by rw [HN.out]; exact h1)
      rw [HN.out] at this; exact this
    have HNUM := hid hnum
    have HR := hid (HR.out.keep B0.out)
    clear hnum
    go_enter Tryd.func30, Tryd.ntmps30
    go_wp2_with fail
    refine (HNUM.out _ 0 1 HR.out).mono ?_
    rintro e w9 ⟨he, rfl⟩
    rw [show tkN xs 0 1 = v0 from HEQ.out.1] at he
    subst he
    go_wp2_with fail
    refine (HNUM.out _ 1 1 HR.out).mono ?_
    rintro e w9 ⟨he, rfl⟩
    rw [show tkN xs 1 1 = v1 from HEQ.out.2.1] at he
    subst he
    go_wp2_with fail
    refine (HNUM.out _ 2 1 HR.out).mono ?_
    rintro e w9 ⟨he, rfl⟩
    rw [show tkN xs 2 1 = v2 from HEQ.out.2.2.1] at he
    subst he
    go_wp2_with fail
    refine (HNUM.out _ 3 1 HR.out).mono ?_
    rintro e w9 ⟨he, rfl⟩
    rw [show tkN xs 3 1 = v3 from HEQ.out.2.2.2.1] at he
    subst he
    go_wp2_with fail
    refine (HNUM.out _ 4 2 HR.out).mono ?_
    rintro e w9 ⟨he, rfl⟩
    rw [show tkN xs 4 2 = v4 from HEQ.out.2.2.2.2.1] at he
    subst he
    go_wp2_with fail
    refine (HNUM.out _ 6 2 HR.out).mono ?_
    rintro e w9 ⟨he, rfl⟩
    rw [show tkN xs 6 2 = v5 from HEQ.out.2.2.2.2.2.1] at he
    subst he
    go_wp2_with fail
    refine (HNUM.out _ 8 1 HR.out).mono ?_
    rintro e w9 ⟨he, rfl⟩
    rw [show tkN xs 8 1 = v6 from HEQ.out.2.2.2.2.2.2.1] at he
    subst he
    go_wp2_with fail
    refine (HNUM.out _ 9 2 HR.out).mono ?_
    rintro e w9 ⟨he, rfl⟩
    rw [show tkN xs 9 2 = v7 from HEQ.out.2.2.2.2.2.2.2] at he
    subst he
    go_wp2_with fail
    refine (specHead_any _ _ _ _ _ _ _ _ _).mono ?_
    rintro x w2 ⟨rfl, b2⟩
    have c2 := bcell b2
    have s0 : w2.cell? ⟨w.heap.size, 0, none⟩ = some (.int .i64 0) := (c2.1 w.heap.size 0 (by simp; omega)).trans (by go_simp)
    have s1 : w2.cell? ⟨w.heap.size, 1, none⟩ = some (.int .i64 0) := (c2.1 w.heap.size 1 (by simp; omega)).trans (by go_simp)
    have s2 : w2.cell? ⟨w.heap.size, 2, none⟩ = some (.int .i64 0) := (c2.1 w.heap.size 2 (by simp; omega)).trans (by go_simp)
    have s3 : w2.cell? ⟨w.heap.size, 3, none⟩ = some (.int .i64 0) := (c2.1 w.heap.size 3 (by simp; omega)).trans (by go_simp)
    have s4 : w2.cell? ⟨w.heap.size, 4, none⟩ = some (.int .i64 0) := (c2.1 w.heap.size 4 (by simp; omega)).trans (by go_simp)
    have s5 : w2.cell? ⟨w.heap.size, 5, none⟩ = some (.int .i64 0) := (c2.1 w.heap.size 5 (by simp; omega)).trans (by go_simp)
    have s6 : w2.cell? ⟨w.heap.size, 6, none⟩ = some (.int .i64 0) := (c2.1 w.heap.size 6 (by simp; omega)).trans (by go_simp)
    have s7 : w2.cell? ⟨w.heap.size, 7, none⟩ = some (.int .i64 0) := (c2.1 w.heap.size 7 (by simp; omega)).trans (by go_simp)
    have t0 : ∀ o, w2.frozen? ⟨w.heap.size, o, none⟩ = false := fun o => (c2.2 w.heap.size o (by simp; omega)).trans (by go_simp)
    have B2 := hid ((B0.out.alloc (by simp) (.cells #[.int .i64 v0, .int .i64 v1, .int .i64 v2, .int .i64 v3, .int .i64 v4, .int .i64 v5, .int .i64 v6, .int .i64 v7] 37)).trans (b2.mono (by simp; omega)))
    have hz2 : w.heap.size + 2 ≤ w2.heap.size := by have := b2.size; simpa using this
    have l0 : w2.cell? ⟨(w.heap.size + 1), 0, none⟩ = some (.int .i64 v0) := (c2.1 (w.heap.size + 1) 0 (by simp)).trans (by go_simp)
    have l1 : w2.cell? ⟨(w.heap.size + 1), 1, none⟩ = some (.int .i64 v1) := (c2.1 (w.heap.size + 1) 1 (by simp)).trans (by go_simp)
    have l2 : w2.cell? ⟨(w.heap.size + 1), 2, none⟩ = some (.int .i64 v2) := (c2.1 (w.heap.size + 1) 2 (by simp)).trans (by go_simp)
    have l3 : w2.cell? ⟨(w.heap.size + 1), 3, none⟩ = some (.int .i64 v3) := (c2.1 (w.heap.size + 1) 3 (by simp)).trans (by go_simp)
    have l4 : w2.cell? ⟨(w.heap.size + 1), 4, none⟩ = some (.int .i64 v4) := (c2.1 (w.heap.size + 1) 4 (by simp)).trans (by go_simp)
    have l5 : w2.cell? ⟨(w.heap.size + 1), 5, none⟩ = some (.int .i64 v5) := (c2.1 (w.heap.size + 1) 5 (by simp)).trans (by go_simp)
    have l6 : w2.cell? ⟨(w.heap.size + 1), 6, none⟩ = some (.int .i64 v6) := (c2.1 (w.heap.size + 1) 6 (by simp)).trans (by go_simp)
    have l7 : w2.cell? ⟨(w.heap.size + 1), 7, none⟩ = some (.int .i64 v7) := (c2.1 (w.heap.size + 1) 7 (by simp)).trans (by go_simp)
    clear c2 b2
    cases hk : headB v0 v1 v2 v3 v4 v5 v6 v7
    · have hf : ftOk xs = false := by rw [HO.out, hk]
      have H : Hid (ftL xs = [] ∧ ∀ q, ftH xs q = 0) := hid ⟨by simp [ftL, hf], fun q => by simp [ftH, hf]⟩
      have HF := hid hf
      clear hf l0 l1 l2 l3 l4 l5 l6 l7
      have s0 := cell_keep (below_alloc1 w2 (.cells #[] 5)) s0
      have s1 := cell_keep (below_alloc1 w2 (.cells #[] 5)) s1
      have s2 := cell_keep (below_alloc1 w2 (.cells #[] 5)) s2
      have s3 := cell_keep (below_alloc1 w2 (.cells #[] 5)) s3
      have s4 := cell_keep (below_alloc1 w2 (.cells #[] 5)) s4
      have s5 := cell_keep (below_alloc1 w2 (.cells #[] 5)) s5
      have s6 := cell_keep (below_alloc1 w2 (.cells #[] 5)) s6
      have s7 := cell_keep (below_alloc1 w2 (.cells #[] 5)) s7
      have t0 : ∀ o, (w2.alloc (.cells #[] 5)).frozen? ⟨w.heap.size, o, none⟩ = false := fun o => ((below_alloc1 w2 _).frozen (p := ⟨w.heap.size, o, none⟩) (by simp; omega)).trans (t0 o)
      go_wp2
      have HE8 := eight_set (.int .i64 0) (.int .i64 0) (.int .i64 0) (.int .i64 0) (.int .i64 0) (.int .i64 0) (.int .i64 0) (.int .i64 0) s0 s1 s2 s3 s4 s5 s6 s7
      obtain ⟨g0, g1, g2, g3, g4, g5, g6, g7⟩ := HE8
      refine bodyPost_ret (v := .tuple #[.agg #[.int .i64 0, .int .i64 0, .int .i64 0, .int .i64 0, .int .i64 0, .int .i64 0, .int .i64 0, .int .i64 0], .slice (some ⟨w2.heap.size, 0, none⟩) 0 0, .bool false]) (results_take_spec (b := w.heap.size) _ rfl rfl rfl g0 g1 g2 g3 g4 g5 g6 g7) rfl ?_
      rw [HF.out, H.out.1, H.out.2 0, H.out.2 1, H.out.2 2, H.out.2 3, H.out.2 4, H.out.2 5, H.out.2 6, H.out.2 7]
      exact ⟨_, rfl, own_set8 (b := w.heap.size) ((own_none w2).low (B' := w.heap.size + 1) (by omega)) (by omega), ((((((((B2.out.alloc (by omega) (.cells #[] 5)).setCell (by simp) _).setCell (by simp) _).setCell (by simp) _).setCell (by simp) _).setCell (by simp) _).setCell (by simp) _).setCell (by simp) _).setCell (by simp) _⟩
    · have hf : ftOk xs = true := by rw [HO.out, hk]
      have H : Hid (ftL xs = xs.drop 11 ∧ ∀ q, ftH xs q = hfV xs q) := hid ⟨by simp [ftL, hf], fun q => by simp [ftH, hf]⟩
      have HF := hid hf
      have B2d := hid B2.out.drew
      have RCd := hid (rd_drew (RC.out.keep B2.out))
      clear hf
      have s0 : w2.drew.cell? ⟨w.heap.size, 0, none⟩ = some (.int .i64 0) := s0
      have l0 : w2.drew.cell? ⟨(w.heap.size + 1), 0, none⟩ = some (.int .i64 v0) := l0
      have s1 : w2.drew.cell? ⟨w.heap.size, 1, none⟩ = some (.int .i64 0) := s1
      have l1 : w2.drew.cell? ⟨(w.heap.size + 1), 1, none⟩ = some (.int .i64 v1) := l1
      have s2 : w2.drew.cell? ⟨w.heap.size, 2, none⟩ = some (.int .i64 0) := s2
      have l2 : w2.drew.cell? ⟨(w.heap.size + 1), 2, none⟩ = some (.int .i64 v2) := l2
      have s3 : w2.drew.cell? ⟨w.heap.size, 3, none⟩ = some (.int .i64 0) := s3
      have l3 : w2.drew.cell? ⟨(w.heap.size + 1), 3, none⟩ = some (.int .i64 v3) := l3
      have s4 : w2.drew.cell? ⟨w.heap.size, 4, none⟩ = some (.int .i64 0) := s4
      have l4 : w2.drew.cell? ⟨(w.heap.size + 1), 4, none⟩ = some (.int .i64 v4) := l4
      have s5 : w2.drew.cell? ⟨w.heap.size, 5, none⟩ = some (.int .i64 0) := s5
      have l5 : w2.drew.cell? ⟨(w.heap.size + 1), 5, none⟩ = some (.int .i64 v5) := l5
      have s6 : w2.drew.cell? ⟨w.heap.size, 6, none⟩ = some (.int .i64 0) := s6
      have l6 : w2.drew.cell? ⟨(w.heap.size + 1), 6, none⟩ = some (.int .i64 v6) := l6
      have s7 : w2.drew.cell? ⟨w.heap.size, 7, none⟩ = some (.int .i64 0) := s7
      have l7 : w2.drew.cell? ⟨(w.heap.size + 1), 7, none⟩ = some (.int .i64 v7) := l7
      have t0 : ∀ o, w2.drew.frozen? ⟨w.heap.size, o, none⟩ = false := t0
      go_wp2_with fail
      go_region_with ((go_at_call 55; refine (l2Copy_any _ (xs.drop 11) _ RCd.out).mono ?_; rintro e w3 ⟨u, rfl, o3, b3⟩; have O3 := hid (o3.low (B' := w.heap.size + 1) (by simp; omega)); have B3 := hid (B2d.out.trans (b3.mono (by simp; omega))); have s0 := cell_keep b3 s0; have l0 := cell_keep b3 l0; have s1 := cell_keep b3 s1; have l1 := cell_keep b3 l1; have s2 := cell_keep b3 s2; have l2 := cell_keep b3 l2; have s3 := cell_keep b3 s3; have l3 := cell_keep b3 l3; have s4 := cell_keep b3 s4; have l4 := cell_keep b3 l4; have s5 := cell_keep b3 s5; have l5 := cell_keep b3 l5; have s6 := cell_keep b3 s6; have l6 := cell_keep b3 l6; have s7 := cell_keep b3 s7; have l7 := cell_keep b3 l7; have t3 : ∀ o, w3.frozen? ⟨w.heap.size, o, none⟩ = false := fun o => ((bcell b3).2 w.heap.size o (by simp; omega)).trans (t0 o); clear o3 b3))
      all_goals
        go_wp2
        have HE8 := eight_set (.int .i64 v0) (.int .i64 v1) (.int .i64 v2) (.int .i64 v3) (.int .i64 v4) (.int .i64 v5) (.int .i64 v6) (.int .i64 v7) s0 s1 s2 s3 s4 s5 s6 s7
        obtain ⟨g0, g1, g2, g3, g4, g5, g6, g7⟩ := HE8
        refine bodyPost_ret (v := .tuple #[.agg #[.int .i64 v0, .int .i64 v1, .int .i64 v2, .int .i64 v3, .int .i64 v4, .int .i64 v5, .int .i64 v6, .int .i64 v7], u, .bool true]) (results_take_spec (b := w.heap.size) _ rfl rfl rfl g0 g1 g2 g3 g4 g5 g6 g7) rfl ?_
        rw [HF.out, H.out.1, H.out.2 0, H.out.2 1, H.out.2 2, H.out.2 3, H.out.2 4, H.out.2 5, H.out.2 6, H.out.2 7, HEQ.out.1, HEQ.out.2.1, HEQ.out.2.2.1, HEQ.out.2.2.2.1, HEQ.out.2.2.2.2.1, HEQ.out.2.2.2.2.2.1, HEQ.out.2.2.2.2.2.2.1, HEQ.out.2.2.2.2.2.2.2]
        exact ⟨_, rfl, own_set8 (b := w.heap.size) O3.out (by omega), (((((((B3.out.setCell (by simp) _).setCell (by simp) _).setCell (by simp) _).setCell (by simp) _).setCell (by simp) _).setCell (by simp) _).setCell (by simp) _).setCell (by simp) _⟩
  · have hf : ftOk xs = false := by simp [ftOk, hn]
    have H : Hid (ftL xs = [] ∧ ∀ q, ftH xs q = 0) := hid ⟨by simp [ftL, hf], fun q => by simp [ftH, hf]⟩
    have HF := hid hf
    have hn' : ¬ ((xs.length : Int) = 24) := by omega
    clear hf hn HV
    obtain ⟨W0, hW0⟩ : ∃ W, w.alloc (.cells #[.int .i64 0, .int .i64 0, .int .i64 0, .int .i64 0, .int .i64 0, .int .i64 0, .int .i64 0, .int .i64 0] 37) = W := ⟨_, rfl⟩
    have B2 : Hid (Below w.heap.size w W0) := hid (hW0 ▸ below_alloc1 w (.cells #[.int .i64 0, .int .i64 0, .int .i64 0, .int .i64 0, .int .i64 0, .int .i64 0, .int .i64 0, .int .i64 0] 37))
    have HS : Hid (W0.heap.size = w.heap.size + 1) := hid (by rw [← hW0]; simp)
    have s0 : W0.cell? ⟨w.heap.size, 0, none⟩ = some (.int .i64 0) := by rw [← hW0]; clear hW0; go_simp
    have s1 : W0.cell? ⟨w.heap.size, 1, none⟩ = some (.int .i64 0) := by rw [← hW0]; clear hW0; go_simp
    have s2 : W0.cell? ⟨w.heap.size, 2, none⟩ = some (.int .i64 0) := by rw [← hW0]; clear hW0; go_simp
    have s3 : W0.cell? ⟨w.heap.size, 3, none⟩ = some (.int .i64 0) := by rw [← hW0]; clear hW0; go_simp
    have s4 : W0.cell? ⟨w.heap.size, 4, none⟩ = some (.int .i64 0) := by rw [← hW0]; clear hW0; go_simp
    have s5 : W0.cell? ⟨w.heap.size, 5, none⟩ = some (.int .i64 0) := by rw [← hW0]; clear hW0; go_simp
    have s6 : W0.cell? ⟨w.heap.size, 6, none⟩ = some (.int .i64 0) := by rw [← hW0]; clear hW0; go_simp
    have s7 : W0.cell? ⟨w.heap.size, 7, none⟩ = some (.int .i64 0) := by rw [← hW0]; clear hW0; go_simp
    have t0 : ∀ o, W0.frozen? ⟨w.heap.size, o, none⟩ = false := fun o => by rw [← hW0]; clear hW0; go_simp
    have s0 := cell_keep (below_alloc1 W0 (.cells #[] 5)) s0
    have s1 := cell_keep (below_alloc1 W0 (.cells #[] 5)) s1
    have s2 := cell_keep (below_alloc1 W0 (.cells #[] 5)) s2
    have s3 := cell_keep (below_alloc1 W0 (.cells #[] 5)) s3
    have s4 := cell_keep (below_alloc1 W0 (.cells #[] 5)) s4
    have s5 := cell_keep (below_alloc1 W0 (.cells #[] 5)) s5
    have s6 := cell_keep (below_alloc1 W0 (.cells #[] 5)) s6
    have s7 := cell_keep (below_alloc1 W0 (.cells #[] 5)) s7
    have t0 : ∀ o, (W0.alloc (.cells #[] 5)).frozen? ⟨w.heap.size, o, none⟩ = false := fun o => ((below_alloc1 W0 _).frozen (p := ⟨w.heap.size, o, none⟩) (by have := HS.out; simp; omega)).trans (t0 o)
    go_enter Tryd.func30, Tryd.ntmps30
    go_wp2
    have HE8 := eight_set (.int .i64 0) (.int .i64 0) (.int .i64 0) (.int .i64 0) (.int .i64 0) (.int .i64 0) (.int .i64 0) (.int .i64 0) s0 s1 s2 s3 s4 s5 s6 s7
    obtain ⟨g0, g1, g2, g3, g4, g5, g6, g7⟩ := HE8
    refine bodyPost_ret (v := .tuple #[.agg #[.int .i64 0, .int .i64 0, .int .i64 0, .int .i64 0, .int .i64 0, .int .i64 0, .int .i64 0, .int .i64 0], .slice (some ⟨W0.heap.size, 0, none⟩) 0 0, .bool false]) (results_take_spec (b := w.heap.size) _ rfl rfl rfl g0 g1 g2 g3 g4 g5 g6 g7) rfl ?_
    rw [HF.out, H.out.1, H.out.2 0, H.out.2 1, H.out.2 2, H.out.2 3, H.out.2 4, H.out.2 5, H.out.2 6, H.out.2 7]
    exact ⟨_, rfl, own_set8 (b := w.heap.size) ((own_none W0).low (B' := w.heap.size + 1) (by have := HS.out; omega)) (by omega), (((((((((B2.out.alloc (by have := HS.out; omega) (.cells #[] 5))).setCell (by simp) _).setCell (by simp) _).setCell (by simp) _).setCell (by simp) _).setCell (by simp) _).setCell (by simp) _).setCell (by simp) _).setCell (by simp) _⟩
end Go.Proofs.YtpfelnkdimbhkaaDoor
