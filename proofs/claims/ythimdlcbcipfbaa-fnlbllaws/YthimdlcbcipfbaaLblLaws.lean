/- P42: labels in any order, any brackets, at every two codes. No conditions. -/
import Derived.Test.YthimdlcbcipfbaaDrawLbl4
import Derived.Test.YthimdlcbcipfbaaLblLat
import Derived.Test.YthimdlcbcipfbaaLblOrder
import Derived.Deep.RegionHeld3
import Derived.Deep.DeepCutAuto
namespace Go.Proofs.Ythimdlcbcipfbaa.fnLblLaws
open Go.ChangeShapes Go.WideShapes Go.ChangeAt Go.RowKit Go.Joins Go.Deep
set_option linter.unusedVariables false

set_option maxHeartbeats 4000000 in
theorem walk (a0 : Option Addr) (len0 cap0 : Nat) (z0 : List Int) (a1 : Option Addr) (len1 cap1 : Nat) (z1 : List Int) (w : World) (w0 : IsRow .u8 w a0 len0 cap0 z0) (w1 : IsRow .u8 w a1 len1 cap1 z1) :
    Calls Try.prog 5 #[.slice a0 len0 cap0, .slice a1 len1 cap1] w fun e w' => e = .returned (.bool true) ∧ Below w.heap.size w w' := by
  obtain ⟨hc0, hm0⟩ := w0.cap
  obtain ⟨hc1, hm1⟩ := w1.cap
  unfold maxLen at hm0 hm1
  by_cases hl : len0 ≤ 1048576
  · by_cases hk : len1 ≤ 1048576
    · obtain ⟨xs, hx, hr⟩ := w0.rd hl
      obtain ⟨ys, hy, hs⟩ := w1.rd hk
      have HX := hid hx
      have HY := hid hy
      have HR := hid hr
      have HS := hid hs
      have h1 : decide ((1048576 : Int) < (len0 : Int)) = false := by simp; omega
      have h2 : decide ((1048576 : Int) < (len1 : Int)) = false := by simp; omega
      clear hx hy hr hs w0 w1
      go_enter Try.func5, Try.ntmps5
      go_wp2_with fail
      refine (drawCommon_any a0 len0 cap0 xs w HX.out HR.out hc0).mono ?_
      rintro e wa ⟨l1, m1, l2, m2, rfl, ba⟩
      have BA := hid ba
      have za := ba.size
      clear ba
      go_wp2_with fail
      have HS2 := hid ((HS.out.keep BA.out).keep (below_alloc2 wa (.cells #[.int .i64 l1, .int .i64 m1] 24) (.cells #[.int .i64 l2, .int .i64 m2] 24)))
      refine (drawCommon_any a1 len1 cap1 ys _ HY.out HS2.out hc1).mono ?_
      rintro e wb ⟨l3, m3, l4, m4, rfl, bb⟩
      have ca0 : wb.cell? ⟨wa.heap.size, 0, none⟩ = some (.int .i64 l1) := cell_keep bb (by go_simp)
      have ca1 : wb.cell? ⟨wa.heap.size, 1, none⟩ = some (.int .i64 m1) := cell_keep bb (by go_simp)
      have cb0 : wb.cell? ⟨wa.heap.size + 1, 0, none⟩ = some (.int .i64 l2) := cell_keep bb (by go_simp)
      have cb1 : wb.cell? ⟨wa.heap.size + 1, 1, none⟩ = some (.int .i64 m2) := cell_keep bb (by go_simp)
      have zb := bb.size
      simp at zb
      have BB := hid (Below.trans BA.out (Below.trans ((below_alloc2 wa (.cells #[.int .i64 l1, .int .i64 m1] 24) (.cells #[.int .i64 l2, .int .i64 m2] 24)).mono za) (bb.mono (by simp; omega))))
      clear bb BA HS2 HS HR h1 h2
      have zw : w.heap.size ≤ wb.heap.size := BB.out.size
      have e1 : ¬ wa.heap.size = wb.heap.size := by omega
      have e2 : ¬ wa.heap.size = wb.heap.size + 1 := by omega
      have e3 : ¬ wa.heap.size + 1 = wb.heap.size := by omega
      have hS0 : ((wb.alloc (.cells #[.int .i64 l3, .int .i64 m3] 24)).alloc (.cells #[.int .i64 l4, .int .i64 m4] 24)).cell? ⟨wa.heap.size, 0, none⟩ = some (.int .i64 l1) ∧ ((wb.alloc (.cells #[.int .i64 l3, .int .i64 m3] 24)).alloc (.cells #[.int .i64 l4, .int .i64 m4] 24)).cell? ⟨wa.heap.size, 1, none⟩ = some (.int .i64 m1) ∧ ((wb.alloc (.cells #[.int .i64 l3, .int .i64 m3] 24)).alloc (.cells #[.int .i64 l4, .int .i64 m4] 24)).cell? ⟨wa.heap.size + 1, 0, none⟩ = some (.int .i64 l2) ∧ ((wb.alloc (.cells #[.int .i64 l3, .int .i64 m3] 24)).alloc (.cells #[.int .i64 l4, .int .i64 m4] 24)).cell? ⟨wa.heap.size + 1, 1, none⟩ = some (.int .i64 m2) ∧ ((wb.alloc (.cells #[.int .i64 l3, .int .i64 m3] 24)).alloc (.cells #[.int .i64 l4, .int .i64 m4] 24)).cell? ⟨wb.heap.size, 0, none⟩ = some (.int .i64 l3) ∧ ((wb.alloc (.cells #[.int .i64 l3, .int .i64 m3] 24)).alloc (.cells #[.int .i64 l4, .int .i64 m4] 24)).cell? ⟨wb.heap.size, 1, none⟩ = some (.int .i64 m3) ∧ w.heap.size ≤ ((wb.alloc (.cells #[.int .i64 l3, .int .i64 m3] 24)).alloc (.cells #[.int .i64 l4, .int .i64 m4] 24)).heap.size ∧ Below w.heap.size w ((wb.alloc (.cells #[.int .i64 l3, .int .i64 m3] 24)).alloc (.cells #[.int .i64 l4, .int .i64 m4] 24)) := by
        refine ⟨?_, ?_, ?_, ?_, ?_, ?_, ?_, ?_⟩
        · exact cell_keep (below_alloc2 wb _ _) ca0
        · exact cell_keep (below_alloc2 wb _ _) ca1
        · exact cell_keep (below_alloc2 wb _ _) cb0
        · exact cell_keep (below_alloc2 wb _ _) cb1
        · go_simp
        · go_simp
        · simp; omega
        · exact BB.out.trans ((below_alloc2 wb _ _).mono zw)
      clear HX HY
      have q1 : dnL 2 3 1 6 = 1 := by decide +kernel
      have q2 : dnM 2 3 1 6 = 2 := by decide +kernel
      cases k1 : okB l1 m1
      · go_wp2_with (first | (go_at_call 18; refine (lblBoth_any _ _ _ _ _).mono ?_; rintro e w' ⟨rfl, hb⟩; have hS := keep6 (by assumption) hb) | (go_at_call 19; refine (lblCommon_any _ _ _ _ _).mono ?_; rintro e w' ⟨rfl, hb⟩; have hS := keep6 (by assumption) hb) | (go_at_call 20; refine (specBoth_any _ _ _ _ _).mono ?_; rintro e w' ⟨rfl, hb⟩; have hS := keep6 (by assumption) hb) | (go_at_call 21; refine (specCommon_any _ _ _ _ _).mono ?_; rintro e w' ⟨rfl, hb⟩; have hS := keep6 (by assumption) hb) | (go_at_call 23; refine (specOk_any _ _ _).mono ?_; rintro e w' ⟨rfl, hb⟩; have hS := keep6 (by assumption) hb))
        go_region_held3 (fun w' => w'.cell? ⟨wa.heap.size, 0, none⟩ = some (.int .i64 l1) ∧ w'.cell? ⟨wa.heap.size, 1, none⟩ = some (.int .i64 m1) ∧ w'.cell? ⟨wa.heap.size + 1, 0, none⟩ = some (.int .i64 l2) ∧ w'.cell? ⟨wa.heap.size + 1, 1, none⟩ = some (.int .i64 m2) ∧ w'.cell? ⟨wb.heap.size, 0, none⟩ = some (.int .i64 l3) ∧ w'.cell? ⟨wb.heap.size, 1, none⟩ = some (.int .i64 m3) ∧ w.heap.size ≤ w'.heap.size ∧ Below w.heap.size w w') (first | exact keep6 (by assumption) (by assumption) | exact keep6 (by assumption) ((Below.refl _ _).drew) | (refine ⟨?_, ?_, ?_, ?_, ?_, ?_, ?_, ?_⟩ <;> first | (go_keep; done) | (simp; omega) | ((repeat' (first | exact Below.refl _ _ | assumption | exact Nat.le_refl _ | (refine Below.alloc ?_ ?_ _) | (refine Below.drew ?_) | (refine Below.setCell ?_ ?_ _) | (refine Below.trans ?_ (Below.mono (by assumption) ?_)) | (simp; done) | (simp; omega) | omega)); done))) (first | (go_at_call 18; refine (lblBoth_any _ _ _ _ _).mono ?_; rintro e w' ⟨rfl, hb⟩) | (go_at_call 19; refine (lblCommon_any _ _ _ _ _).mono ?_; rintro e w' ⟨rfl, hb⟩) | (go_at_call 20; refine (specBoth_any _ _ _ _ _).mono ?_; rintro e w' ⟨rfl, hb⟩) | (go_at_call 21; refine (specCommon_any _ _ _ _ _).mono ?_; rintro e w' ⟨rfl, hb⟩) | (go_at_call 23; refine (specOk_any _ _ _).mono ?_; rintro e w' ⟨rfl, hb⟩))
        go_wp2_with (first | (go_at_call 18; refine (lblBoth_any _ _ _ _ _).mono ?_; rintro e w' ⟨rfl, hb⟩; have hS := keep6 (by assumption) hb) | (go_at_call 19; refine (lblCommon_any _ _ _ _ _).mono ?_; rintro e w' ⟨rfl, hb⟩; have hS := keep6 (by assumption) hb) | (go_at_call 20; refine (specBoth_any _ _ _ _ _).mono ?_; rintro e w' ⟨rfl, hb⟩; have hS := keep6 (by assumption) hb) | (go_at_call 21; refine (specCommon_any _ _ _ _ _).mono ?_; rintro e w' ⟨rfl, hb⟩; have hS := keep6 (by assumption) hb) | (go_at_call 23; refine (specOk_any _ _ _).mono ?_; rintro e w' ⟨rfl, hb⟩; have hS := keep6 (by assumption) hb))
        go_ret
        first | exact ⟨rfl, by rename_i h; exact h.2.2.2.2.2.2.2⟩ | exact ⟨rfl, hS.2.2.2.2.2.2.2⟩
      · cases k2 : okB l2 m2
        · go_wp2_with (first | (go_at_call 18; refine (lblBoth_any _ _ _ _ _).mono ?_; rintro e w' ⟨rfl, hb⟩; have hS := keep6 (by assumption) hb) | (go_at_call 19; refine (lblCommon_any _ _ _ _ _).mono ?_; rintro e w' ⟨rfl, hb⟩; have hS := keep6 (by assumption) hb) | (go_at_call 20; refine (specBoth_any _ _ _ _ _).mono ?_; rintro e w' ⟨rfl, hb⟩; have hS := keep6 (by assumption) hb) | (go_at_call 21; refine (specCommon_any _ _ _ _ _).mono ?_; rintro e w' ⟨rfl, hb⟩; have hS := keep6 (by assumption) hb) | (go_at_call 23; refine (specOk_any _ _ _).mono ?_; rintro e w' ⟨rfl, hb⟩; have hS := keep6 (by assumption) hb))
          go_region_held3 (fun w' => w'.cell? ⟨wa.heap.size, 0, none⟩ = some (.int .i64 l1) ∧ w'.cell? ⟨wa.heap.size, 1, none⟩ = some (.int .i64 m1) ∧ w'.cell? ⟨wa.heap.size + 1, 0, none⟩ = some (.int .i64 l2) ∧ w'.cell? ⟨wa.heap.size + 1, 1, none⟩ = some (.int .i64 m2) ∧ w'.cell? ⟨wb.heap.size, 0, none⟩ = some (.int .i64 l3) ∧ w'.cell? ⟨wb.heap.size, 1, none⟩ = some (.int .i64 m3) ∧ w.heap.size ≤ w'.heap.size ∧ Below w.heap.size w w') (first | exact keep6 (by assumption) (by assumption) | exact keep6 (by assumption) ((Below.refl _ _).drew) | (refine ⟨?_, ?_, ?_, ?_, ?_, ?_, ?_, ?_⟩ <;> first | (go_keep; done) | (simp; omega) | ((repeat' (first | exact Below.refl _ _ | assumption | exact Nat.le_refl _ | (refine Below.alloc ?_ ?_ _) | (refine Below.drew ?_) | (refine Below.setCell ?_ ?_ _) | (refine Below.trans ?_ (Below.mono (by assumption) ?_)) | (simp; done) | (simp; omega) | omega)); done))) (first | (go_at_call 18; refine (lblBoth_any _ _ _ _ _).mono ?_; rintro e w' ⟨rfl, hb⟩) | (go_at_call 19; refine (lblCommon_any _ _ _ _ _).mono ?_; rintro e w' ⟨rfl, hb⟩) | (go_at_call 20; refine (specBoth_any _ _ _ _ _).mono ?_; rintro e w' ⟨rfl, hb⟩) | (go_at_call 21; refine (specCommon_any _ _ _ _ _).mono ?_; rintro e w' ⟨rfl, hb⟩) | (go_at_call 23; refine (specOk_any _ _ _).mono ?_; rintro e w' ⟨rfl, hb⟩))
          go_wp2_with (first | (go_at_call 18; refine (lblBoth_any _ _ _ _ _).mono ?_; rintro e w' ⟨rfl, hb⟩; have hS := keep6 (by assumption) hb) | (go_at_call 19; refine (lblCommon_any _ _ _ _ _).mono ?_; rintro e w' ⟨rfl, hb⟩; have hS := keep6 (by assumption) hb) | (go_at_call 20; refine (specBoth_any _ _ _ _ _).mono ?_; rintro e w' ⟨rfl, hb⟩; have hS := keep6 (by assumption) hb) | (go_at_call 21; refine (specCommon_any _ _ _ _ _).mono ?_; rintro e w' ⟨rfl, hb⟩; have hS := keep6 (by assumption) hb) | (go_at_call 23; refine (specOk_any _ _ _).mono ?_; rintro e w' ⟨rfl, hb⟩; have hS := keep6 (by assumption) hb))
          go_ret
          first | exact ⟨rfl, by rename_i h; exact h.2.2.2.2.2.2.2⟩ | exact ⟨rfl, hS.2.2.2.2.2.2.2⟩
        · cases k3 : okB l3 m3
          · go_wp2_with (first | (go_at_call 18; refine (lblBoth_any _ _ _ _ _).mono ?_; rintro e w' ⟨rfl, hb⟩; have hS := keep6 (by assumption) hb) | (go_at_call 19; refine (lblCommon_any _ _ _ _ _).mono ?_; rintro e w' ⟨rfl, hb⟩; have hS := keep6 (by assumption) hb) | (go_at_call 20; refine (specBoth_any _ _ _ _ _).mono ?_; rintro e w' ⟨rfl, hb⟩; have hS := keep6 (by assumption) hb) | (go_at_call 21; refine (specCommon_any _ _ _ _ _).mono ?_; rintro e w' ⟨rfl, hb⟩; have hS := keep6 (by assumption) hb) | (go_at_call 23; refine (specOk_any _ _ _).mono ?_; rintro e w' ⟨rfl, hb⟩; have hS := keep6 (by assumption) hb))
            go_region_held3 (fun w' => w'.cell? ⟨wa.heap.size, 0, none⟩ = some (.int .i64 l1) ∧ w'.cell? ⟨wa.heap.size, 1, none⟩ = some (.int .i64 m1) ∧ w'.cell? ⟨wa.heap.size + 1, 0, none⟩ = some (.int .i64 l2) ∧ w'.cell? ⟨wa.heap.size + 1, 1, none⟩ = some (.int .i64 m2) ∧ w'.cell? ⟨wb.heap.size, 0, none⟩ = some (.int .i64 l3) ∧ w'.cell? ⟨wb.heap.size, 1, none⟩ = some (.int .i64 m3) ∧ w.heap.size ≤ w'.heap.size ∧ Below w.heap.size w w') (first | exact keep6 (by assumption) (by assumption) | exact keep6 (by assumption) ((Below.refl _ _).drew) | (refine ⟨?_, ?_, ?_, ?_, ?_, ?_, ?_, ?_⟩ <;> first | (go_keep; done) | (simp; omega) | ((repeat' (first | exact Below.refl _ _ | assumption | exact Nat.le_refl _ | (refine Below.alloc ?_ ?_ _) | (refine Below.drew ?_) | (refine Below.setCell ?_ ?_ _) | (refine Below.trans ?_ (Below.mono (by assumption) ?_)) | (simp; done) | (simp; omega) | omega)); done))) (first | (go_at_call 18; refine (lblBoth_any _ _ _ _ _).mono ?_; rintro e w' ⟨rfl, hb⟩) | (go_at_call 19; refine (lblCommon_any _ _ _ _ _).mono ?_; rintro e w' ⟨rfl, hb⟩) | (go_at_call 20; refine (specBoth_any _ _ _ _ _).mono ?_; rintro e w' ⟨rfl, hb⟩) | (go_at_call 21; refine (specCommon_any _ _ _ _ _).mono ?_; rintro e w' ⟨rfl, hb⟩) | (go_at_call 23; refine (specOk_any _ _ _).mono ?_; rintro e w' ⟨rfl, hb⟩))
            go_wp2_with (first | (go_at_call 18; refine (lblBoth_any _ _ _ _ _).mono ?_; rintro e w' ⟨rfl, hb⟩; have hS := keep6 (by assumption) hb) | (go_at_call 19; refine (lblCommon_any _ _ _ _ _).mono ?_; rintro e w' ⟨rfl, hb⟩; have hS := keep6 (by assumption) hb) | (go_at_call 20; refine (specBoth_any _ _ _ _ _).mono ?_; rintro e w' ⟨rfl, hb⟩; have hS := keep6 (by assumption) hb) | (go_at_call 21; refine (specCommon_any _ _ _ _ _).mono ?_; rintro e w' ⟨rfl, hb⟩; have hS := keep6 (by assumption) hb) | (go_at_call 23; refine (specOk_any _ _ _).mono ?_; rintro e w' ⟨rfl, hb⟩; have hS := keep6 (by assumption) hb))
            go_ret
            first | exact ⟨rfl, by rename_i h; exact h.2.2.2.2.2.2.2⟩ | exact ⟨rfl, hS.2.2.2.2.2.2.2⟩
          · obtain ⟨P, Q, R, S, T, U, P', Q', R', S', T', U', ⟨a1, a2, a3, a4, a5, a6, a7, a8, a9, a10⟩, ⟨b1, b2, b3, b4, b5, b6, b7, b8, b9, b10⟩, c1, c2, c3, c4⟩ := lat3 k1 k2 k3
            go_wp2_with (first | (go_at_call 18; refine (lblBoth_any _ _ _ _ _).mono ?_; rintro e w' ⟨rfl, hb⟩; have hS := keep6 (by assumption) hb) | (go_at_call 19; refine (lblCommon_any _ _ _ _ _).mono ?_; rintro e w' ⟨rfl, hb⟩; have hS := keep6 (by assumption) hb) | (go_at_call 20; refine (specBoth_any _ _ _ _ _).mono ?_; rintro e w' ⟨rfl, hb⟩; have hS := keep6 (by assumption) hb) | (go_at_call 21; refine (specCommon_any _ _ _ _ _).mono ?_; rintro e w' ⟨rfl, hb⟩; have hS := keep6 (by assumption) hb) | (go_at_call 23; refine (specOk_any _ _ _).mono ?_; rintro e w' ⟨rfl, hb⟩; have hS := keep6 (by assumption) hb))
            go_region_held3 (fun w' => w'.cell? ⟨wa.heap.size, 0, none⟩ = some (.int .i64 l1) ∧ w'.cell? ⟨wa.heap.size, 1, none⟩ = some (.int .i64 m1) ∧ w'.cell? ⟨wa.heap.size + 1, 0, none⟩ = some (.int .i64 l2) ∧ w'.cell? ⟨wa.heap.size + 1, 1, none⟩ = some (.int .i64 m2) ∧ w'.cell? ⟨wb.heap.size, 0, none⟩ = some (.int .i64 l3) ∧ w'.cell? ⟨wb.heap.size, 1, none⟩ = some (.int .i64 m3) ∧ w.heap.size ≤ w'.heap.size ∧ Below w.heap.size w w') (first | exact keep6 (by assumption) (by assumption) | exact keep6 (by assumption) ((Below.refl _ _).drew) | (refine ⟨?_, ?_, ?_, ?_, ?_, ?_, ?_, ?_⟩ <;> first | (go_keep; done) | (simp; omega) | ((repeat' (first | exact Below.refl _ _ | assumption | exact Nat.le_refl _ | (refine Below.alloc ?_ ?_ _) | (refine Below.drew ?_) | (refine Below.setCell ?_ ?_ _) | (refine Below.trans ?_ (Below.mono (by assumption) ?_)) | (simp; done) | (simp; omega) | omega)); done))) (first | (go_at_call 18; refine (lblBoth_any _ _ _ _ _).mono ?_; rintro e w' ⟨rfl, hb⟩) | (go_at_call 19; refine (lblCommon_any _ _ _ _ _).mono ?_; rintro e w' ⟨rfl, hb⟩) | (go_at_call 20; refine (specBoth_any _ _ _ _ _).mono ?_; rintro e w' ⟨rfl, hb⟩) | (go_at_call 21; refine (specCommon_any _ _ _ _ _).mono ?_; rintro e w' ⟨rfl, hb⟩) | (go_at_call 23; refine (specOk_any _ _ _).mono ?_; rintro e w' ⟨rfl, hb⟩))
            go_wp2_with fail
            go_region_held3 (fun w' => w'.cell? ⟨wa.heap.size, 0, none⟩ = some (.int .i64 l1) ∧ w'.cell? ⟨wa.heap.size, 1, none⟩ = some (.int .i64 m1) ∧ w'.cell? ⟨wa.heap.size + 1, 0, none⟩ = some (.int .i64 l2) ∧ w'.cell? ⟨wa.heap.size + 1, 1, none⟩ = some (.int .i64 m2) ∧ w'.cell? ⟨wb.heap.size, 0, none⟩ = some (.int .i64 l3) ∧ w'.cell? ⟨wb.heap.size, 1, none⟩ = some (.int .i64 m3) ∧ w.heap.size ≤ w'.heap.size ∧ Below w.heap.size w w') (first | exact keep6 (by assumption) (by assumption) | exact keep6 (by assumption) ((Below.refl _ _).drew) | (refine ⟨?_, ?_, ?_, ?_, ?_, ?_, ?_, ?_⟩ <;> first | (go_keep; done) | (simp; omega) | ((repeat' (first | exact Below.refl _ _ | assumption | exact Nat.le_refl _ | (refine Below.alloc ?_ ?_ _) | (refine Below.drew ?_) | (refine Below.setCell ?_ ?_ _) | (refine Below.trans ?_ (Below.mono (by assumption) ?_)) | (simp; done) | (simp; omega) | omega)); done))) (first | (go_at_call 18; refine (lblBoth_any _ _ _ _ _).mono ?_; rintro e w' ⟨rfl, hb⟩) | (go_at_call 19; refine (lblCommon_any _ _ _ _ _).mono ?_; rintro e w' ⟨rfl, hb⟩) | (go_at_call 20; refine (specBoth_any _ _ _ _ _).mono ?_; rintro e w' ⟨rfl, hb⟩) | (go_at_call 21; refine (specCommon_any _ _ _ _ _).mono ?_; rintro e w' ⟨rfl, hb⟩) | (go_at_call 23; refine (specOk_any _ _ _).mono ?_; rintro e w' ⟨rfl, hb⟩))
            go_wp2_with fail
            go_region_held3 (fun w' => w'.cell? ⟨wa.heap.size, 0, none⟩ = some (.int .i64 l1) ∧ w'.cell? ⟨wa.heap.size, 1, none⟩ = some (.int .i64 m1) ∧ w'.cell? ⟨wa.heap.size + 1, 0, none⟩ = some (.int .i64 l2) ∧ w'.cell? ⟨wa.heap.size + 1, 1, none⟩ = some (.int .i64 m2) ∧ w'.cell? ⟨wb.heap.size, 0, none⟩ = some (.int .i64 l3) ∧ w'.cell? ⟨wb.heap.size, 1, none⟩ = some (.int .i64 m3) ∧ w.heap.size ≤ w'.heap.size ∧ Below w.heap.size w w') (first | exact keep6 (by assumption) (by assumption) | exact keep6 (by assumption) ((Below.refl _ _).drew) | (refine ⟨?_, ?_, ?_, ?_, ?_, ?_, ?_, ?_⟩ <;> first | (go_keep; done) | (simp; omega) | ((repeat' (first | exact Below.refl _ _ | assumption | exact Nat.le_refl _ | (refine Below.alloc ?_ ?_ _) | (refine Below.drew ?_) | (refine Below.setCell ?_ ?_ _) | (refine Below.trans ?_ (Below.mono (by assumption) ?_)) | (simp; done) | (simp; omega) | omega)); done))) (first | (go_at_call 18; refine (lblBoth_any _ _ _ _ _).mono ?_; rintro e w' ⟨rfl, hb⟩) | (go_at_call 19; refine (lblCommon_any _ _ _ _ _).mono ?_; rintro e w' ⟨rfl, hb⟩) | (go_at_call 20; refine (specBoth_any _ _ _ _ _).mono ?_; rintro e w' ⟨rfl, hb⟩) | (go_at_call 21; refine (specCommon_any _ _ _ _ _).mono ?_; rintro e w' ⟨rfl, hb⟩) | (go_at_call 23; refine (specOk_any _ _ _).mono ?_; rintro e w' ⟨rfl, hb⟩))
            go_wp2_with fail
            go_ret
            first | exact ⟨rfl, by rename_i h; exact h.2.2.2.2.2.2.2⟩ | exact ⟨rfl, hS.2.2.2.2.2.2.2⟩
    · have h1 : decide ((1048576 : Int) < (len0 : Int)) = false := by simp; omega
      have h2 : decide ((1048576 : Int) < (len1 : Int)) = true := by simp; omega
      clear w0 w1
      go_enter Try.func5, Try.ntmps5
      go_wp2
      go_ret
      exact ⟨rfl, Below.refl _ _⟩
  · have h1 : decide ((1048576 : Int) < (len0 : Int)) = true := by simp; omega
    clear w0 w1
    go_enter Try.func5, Try.ntmps5
    go_wp2
    go_ret
    exact ⟨rfl, Below.refl _ _⟩
theorem own : ownKnob Try.prog.godebug = none := by kernel_rfl
theorem laidOut : laidOutB Try.prog = true := by kernel_rfl
set_option maxRecDepth 100000 in
theorem lifted (os : Os) (started : os.Started) (H : Type) (enc : TypeId × Value → H) :
    ReturnsInHanded {} Try.checked os 5 .any (Rows.fnLblLawsSpec.pre6 enc Try.prog Try.f5 Rows.fnLblLawsRow.domain false) (Rows.fnLblLawsSpec.post enc Try.prog Try.f5 false true false false) := by
  refine returnsInHanded_of_change (C := Try.checked) own started (by kernel_rfl) Try.func5
    (ChangeSpec.witness6 (enc := enc) (C := Try.checked) false ⟨#[], #[.slice none 0 0, .slice none 0 0], []⟩ 8 (by kernel_rfl) (by kernel_rfl) (by kernel_rfl) (by kernel_rfl)) ?_
  intro W base args ds gs before hval0 hW hcnd _
  have hval : ∀ (j : Nat) t v, Try.f5.params[j]? = some t → args[j]? = some v → Value.okWide Try.prog W .any base t v := hval0
  have hW' := hW
  obtain ⟨p, q, hA0, hV, rfl, hfz, hnd⟩ := hW
  have hA : DataW.TrodAll enc Try.prog W 0 (fun _ => true) true Try.f5.params.toList args.toList ds p := hA0
  rw [Try.params5] at hA hval
  obtain ⟨v0, vs0, d0, ds0, p0, q0, hargs, rfl, rfl, h0, r0⟩ := trodAll_cons hA
  obtain ⟨v1, vs1, d1, ds1, p1, q1, rfl, rfl, rfl, h1, r1⟩ := trodAll_cons r0
  obtain ⟨rfl, rfl, rfl⟩ := trodAll_nil r1
  obtain rfl : args = #[v0, v1] := by cases args; simp_all
  obtain ⟨rfl, rfl⟩ := trodVars_none hV
  obtain ⟨a0, len0, cap0, rfl⟩ := okWide_slice Try.underlying22 (hval 0 22 v0 rfl rfl)
  have k0 := h0
  have lt0 : ∀ x ∈ p0, x.block < W.heap.size := by obtain ⟨m, hm⟩ := k0; exact DataW.trod_lt m _ _ _ hm
  obtain ⟨z0, w0⟩ : ∃ zs, IsRow .u8 W a0 len0 cap0 zs := by
    obtain ⟨fuel, hf⟩ := h0
    rcases open_ints Try.underlying22 Try.underlying5 (by kernel_rfl) hf with ⟨hcs, _⟩ | ⟨x, l, c, zs, hcs, _, hl, hm, hz, _, hcell, hwz⟩
    · simp [Value.cells] at hcs
      obtain ⟨rfl, rfl, rfl⟩ := hcs
      exact ⟨[], .inl ⟨rfl, rfl, rfl, rfl⟩⟩
    · simp [Value.cells] at hcs
      obtain ⟨rfl, rfl, rfl⟩ := hcs
      exact ⟨zs, .inr ⟨_, rfl, hl, hm, by simpa using hz, hcell, hwz⟩⟩
  obtain ⟨a1, len1, cap1, rfl⟩ := okWide_slice Try.underlying22 (hval 1 22 v1 rfl rfl)
  have k1 := h1
  have lt1 : ∀ x ∈ p1, x.block < W.heap.size := by obtain ⟨m, hm⟩ := k1; exact DataW.trod_lt m _ _ _ hm
  obtain ⟨z1, w1⟩ : ∃ zs, IsRow .u8 W a1 len1 cap1 zs := by
    obtain ⟨fuel, hf⟩ := h1
    rcases open_ints Try.underlying22 Try.underlying5 (by kernel_rfl) hf with ⟨hcs, _⟩ | ⟨x, l, c, zs, hcs, _, hl, hm, hz, _, hcell, hwz⟩
    · simp [Value.cells] at hcs
      obtain ⟨rfl, rfl, rfl⟩ := hcs
      exact ⟨[], .inl ⟨rfl, rfl, rfl, rfl⟩⟩
    · simp [Value.cells] at hcs
      obtain ⟨rfl, rfl, rfl⟩ := hcs
      exact ⟨zs, .inr ⟨_, rfl, hl, hm, by simpa using hz, hcell, hwz⟩⟩
  clear hA0 hval0
  refine (walk a0 len0 cap0 z0 a1 len1 cap1 z1 W w0 w1).mono fun e W' ⟨he, bel⟩ => ?_
  subst he
  exact ⟨_, rfl, _, _, _, [], _, [], hW', trodAll_mk1 (shut_bool Try.underlying4 _), (trodAll_cons_mk (Below.trod laidOut (by kernel_rfl) (of_decide_eq_true (by kernel_rfl)) k0 bel lt0) (trodAll_cons_mk (Below.trod laidOut (by kernel_rfl) (of_decide_eq_true (by kernel_rfl)) k1 bel lt1) trodAll_mk0)), rfl, bel.frame _, fun h => by cases h⟩

theorem over : Rows.fnLblLawsRow.holds Try.pinned (OpenSpec.ofChange Rows.fnLblLawsSpec) :=
  OpenClaim.holds_of_wide 5 Try.f5 rfl rfl rfl rfl rfl rfl rfl ⟨rfl, rfl, rfl, rfl, rfl⟩ rfl rfl rfl rfl rfl (by kernel_rfl) Try.func5 (by kernel_rfl)
    (of_decide_eq_true (by kernel_rfl)) (by unfold Func.isWrapper; first | (rw [if_pos (by decide +kernel)]; kernel_rfl) | (rw [if_neg (by decide +kernel)]; exact ⟨rfl, rfl⟩))
    (fun os started H enc _ => lifted os started H enc)

end Go.Proofs.Ythimdlcbcipfbaa.fnLblLaws
namespace Go.Proofs.Ythimdlcbcipfbaa
theorem fnLblLaws_holds : Rows.FnLblLawsSaid := fnLblLaws.over
#print axioms fnLblLaws_holds
end Go.Proofs.Ythimdlcbcipfbaa
