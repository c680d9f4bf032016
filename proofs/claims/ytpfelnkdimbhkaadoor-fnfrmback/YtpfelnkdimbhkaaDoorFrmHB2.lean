/- The contract of the program's FrmHeadBytes. -/
import Derived.Test.YtpfelnkdimbhkaaDoorFrmHB
namespace Go.Proofs.YtpfelnkdimbhkaaDoor
open Go.ChangeShapes Go.WideShapes Go.ChangeAt Go.RowKit Go.Joins Go.Deep
set_option linter.unusedVariables false

/-- a head's bytes, those of its first j fields -/
def preL (q : List (Nat × Nat)) (j : Nat) : List Int := ((q.take j).map fun c => putL c.1 c.2).flatten
def fld (k f t y b p e s : Nat) : List (Nat × Nat) := [(k, 1), (f, 1), (t, 1), (y, 1), (b, 2), (p, 2), (e, 1), (s, 2)]
def hdL (k f t y b p e s : Int) : List Int := if headB k f t y b p e s then preL (fld k.toNat f.toNat t.toNat y.toNat b.toNat p.toNat e.toNat s.toNat) 8 else []
theorem headB_in {k f t y b p e s : Int} (h : headB k f t y b p e s = true) : (1 ≤ k ∧ k ≤ 2) ∧ (0 ≤ f ∧ f ≤ 3) ∧ (0 ≤ t ∧ t ≤ 255) ∧ (0 ≤ y ∧ y ≤ 255) ∧ (1 ≤ b ∧ b ≤ 65535) ∧ (0 ≤ p ∧ p ≤ 65535) ∧ (0 ≤ e ∧ e ≤ 255) ∧ (0 ≤ s ∧ s ≤ 65535) := by
  simp only [headB, orgB, helB, wrdB, inB, Bool.and_eq_true, Bool.or_eq_true, decide_eq_true_eq, beq_iff_eq, bne_iff_ne] at h
  omega
theorem preL_len (Kn Fn Tn Yn Bn Pn En Sn : Nat) (j : Nat) (h : j ≤ 8) : (preL (fld Kn Fn Tn Yn Bn Pn En Sn) j).length ≤ 11 := by
  rcases (by omega : j = 0 ∨ j = 1 ∨ j = 2 ∨ j = 3 ∨ j = 4 ∨ j = 5 ∨ j = 6 ∨ j = 7 ∨ j = 8) with rfl | rfl | rfl | rfl | rfl | rfl | rfl | rfl | rfl <;> simp [preL, fld, putL_len]

set_option maxHeartbeats 8000000 in
theorem headBytes_any (k f t y b p e s : Int) (w : World) :
    Calls Tryd.prog 28 #[.agg #[.int .i64 k, .int .i64 f, .int .i64 t, .int .i64 y, .int .i64 b, .int .i64 p, .int .i64 e, .int .i64 s]] w fun x w' => ∃ u, x = .returned u ∧ Own w' w.heap.size u (hdL k f t y b p e s) ∧ Below w.heap.size w w' := by
  cases hk : headB k f t y b p e s
  · have H : Hid (hdL k f t y b p e s = []) := by unfold Hid hdL; simp [hk]
    go_enter Tryd.func28, Tryd.ntmps28
    go_wp2_with fail
    refine (headOk_any _ _ _ _ _ _ _ _ _).mono ?_
    rintro x w1 ⟨rfl, b1⟩
    rw [hk]
    go_wp2
    go_ret
    rw [H.out]
    exact ⟨_, rfl, own_nil _, by (repeat' (first | exact Below.refl _ _ | assumption | exact Nat.le_refl _ | (refine Below.alloc ?_ ?_ _) | (refine Below.drew ?_) | (refine Below.setCell ?_ ?_ _) | (refine Below.trans ?_ (Below.mono (by assumption) ?_)) | (simp; done) | (simp; omega) | omega))⟩
  · have hin := headB_in hk
    obtain ⟨Kn, rfl⟩ : ∃ Kn : Nat, k = Kn := ⟨k.toNat, by omega⟩
    obtain ⟨Fn, rfl⟩ : ∃ Fn : Nat, f = Fn := ⟨f.toNat, by omega⟩
    obtain ⟨Tn, rfl⟩ : ∃ Tn : Nat, t = Tn := ⟨t.toNat, by omega⟩
    obtain ⟨Yn, rfl⟩ : ∃ Yn : Nat, y = Yn := ⟨y.toNat, by omega⟩
    obtain ⟨Bn, rfl⟩ : ∃ Bn : Nat, b = Bn := ⟨b.toNat, by omega⟩
    obtain ⟨Pn, rfl⟩ : ∃ Pn : Nat, p = Pn := ⟨p.toNat, by omega⟩
    obtain ⟨En, rfl⟩ : ∃ En : Nat, e = En := ⟨e.toNat, by omega⟩
    obtain ⟨Sn, rfl⟩ : ∃ Sn : Nat, s = Sn := ⟨s.toNat, by omega⟩
    have H : Hid (hdL Kn Fn Tn Yn Bn Pn En Sn = preL (fld Kn Fn Tn Yn Bn Pn En Sn) 8) := by unfold Hid hdL; simp [hk]
    have HP := hid (preL_len Kn Fn Tn Yn Bn Pn En Sn)
    go_enter Tryd.func28, Tryd.ntmps28
    go_wp2_with fail
    refine (headOk_any _ _ _ _ _ _ _ _ _).mono ?_
    rintro x w1 ⟨rfl, b1⟩
    rw [hk]
    have hz1 : w.heap.size + 1 ≤ w1.heap.size := by have := b1.size; simpa using this
    have B1 : Hid (Below w.heap.size w w1) := hid ((below_alloc1 _ _).trans (b1.mono (by simp)))
    obtain ⟨hc1, _⟩ := bcell b1
    have a0 : ∀ o, (w1.alloc o).cell? ⟨w.heap.size, 0, none⟩ = some (.int .i64 (Kn : Int)) := fun o => cell_keep (below_alloc1 _ _) ((hc1 w.heap.size 0 (by simp)).trans (by simp))
    have a1 : ∀ o, (w1.alloc o).cell? ⟨w.heap.size, 1, none⟩ = some (.int .i64 (Fn : Int)) := fun o => cell_keep (below_alloc1 _ _) ((hc1 w.heap.size 1 (by simp)).trans (by simp))
    have a2 : ∀ o, (w1.alloc o).cell? ⟨w.heap.size, 2, none⟩ = some (.int .i64 (Tn : Int)) := fun o => cell_keep (below_alloc1 _ _) ((hc1 w.heap.size 2 (by simp)).trans (by simp))
    have a3 : ∀ o, (w1.alloc o).cell? ⟨w.heap.size, 3, none⟩ = some (.int .i64 (Yn : Int)) := fun o => cell_keep (below_alloc1 _ _) ((hc1 w.heap.size 3 (by simp)).trans (by simp))
    have a4 : ∀ o, (w1.alloc o).cell? ⟨w.heap.size, 4, none⟩ = some (.int .i64 (Bn : Int)) := fun o => cell_keep (below_alloc1 _ _) ((hc1 w.heap.size 4 (by simp)).trans (by simp))
    have a5 : ∀ o, (w1.alloc o).cell? ⟨w.heap.size, 5, none⟩ = some (.int .i64 (Pn : Int)) := fun o => cell_keep (below_alloc1 _ _) ((hc1 w.heap.size 5 (by simp)).trans (by simp))
    have a6 : ∀ o, (w1.alloc o).cell? ⟨w.heap.size, 6, none⟩ = some (.int .i64 (En : Int)) := fun o => cell_keep (below_alloc1 _ _) ((hc1 w.heap.size 6 (by simp)).trans (by simp))
    have a7 : ∀ o, (w1.alloc o).cell? ⟨w.heap.size, 7, none⟩ = some (.int .i64 (Sn : Int)) := fun o => cell_keep (below_alloc1 _ _) ((hc1 w.heap.size 7 (by simp)).trans (by simp))
    clear hc1 b1 hk
    go_wp2_with fail
    refine (fields_any _ _ _ _ _ _ _ _ _).mono ?_
    rintro x w2 ⟨hx, hw2⟩
    clear a0 a1 a2 a3 a4 a5 a6 a7
    simp only [World.size_alloc] at hx
    subst hx
    have hF : w2.heap.size = w1.heap.size + 3 := by rw [hw2]; simp
    have cr : w2.cell? ⟨w1.heap.size, 0, none⟩ = some (.slice none 0 0) := by rw [hw2]; go_simp
    have fr : w2.frozen? ⟨w1.heap.size, 0, none⟩ = false := by rw [hw2]; go_simp
    have d0 : Hid (w2.cell? ⟨w1.heap.size + 1 + 1, 0, none⟩ = some (.iface 113 (.int .i64 (Kn : Int)))) := by unfold Hid; rw [hw2]; go_simp
    have d1 : Hid (w2.cell? ⟨w1.heap.size + 1 + 1, 1, none⟩ = some (.iface 113 (.int .i64 (Fn : Int)))) := by unfold Hid; rw [hw2]; go_simp
    have d2 : Hid (w2.cell? ⟨w1.heap.size + 1 + 1, 2, none⟩ = some (.iface 113 (.int .i64 (Tn : Int)))) := by unfold Hid; rw [hw2]; go_simp
    have d3 : Hid (w2.cell? ⟨w1.heap.size + 1 + 1, 3, none⟩ = some (.iface 113 (.int .i64 (Yn : Int)))) := by unfold Hid; rw [hw2]; go_simp
    have d4 : Hid (w2.cell? ⟨w1.heap.size + 1 + 1, 4, none⟩ = some (.iface 114 (.int .i64 (Bn : Int)))) := by unfold Hid; rw [hw2]; go_simp
    have d5 : Hid (w2.cell? ⟨w1.heap.size + 1 + 1, 5, none⟩ = some (.iface 114 (.int .i64 (Pn : Int)))) := by unfold Hid; rw [hw2]; go_simp
    have d6 : Hid (w2.cell? ⟨w1.heap.size + 1 + 1, 6, none⟩ = some (.iface 113 (.int .i64 (En : Int)))) := by unfold Hid; rw [hw2]; go_simp
    have d7 : Hid (w2.cell? ⟨w1.heap.size + 1 + 1, 7, none⟩ = some (.iface 114 (.int .i64 (Sn : Int)))) := by unfold Hid; rw [hw2]; go_simp
    have B2 : Hid (Below w.heap.size w w2) := by
      rw [hw2]
      exact hid (((B1.out.alloc (by omega) _).alloc (by simp; omega) _).alloc (by simp; omega) _)
    clear hw2 B1
    go_wp2_with fail
    go_loopw [14] (fun i wr => ∃ j : Nat, j ≤ 8 ∧ i = .int .i64 j ∧ (∃ v, wr.cell? ⟨w1.heap.size, 0, none⟩ = some v ∧ wr.frozen? ⟨w1.heap.size, 0, none⟩ = false ∧ Hid (Own wr (w1.heap.size + 3) v (preL (fld Kn Fn Tn Yn Bn Pn En Sn) j))) ∧ Hid (∀ o, wr.cell? ⟨w1.heap.size + 1 + 1, o, none⟩ = w2.cell? ⟨w1.heap.size + 1 + 1, o, none⟩) ∧ Hid (Below w.heap.size w wr) ∧ w1.heap.size + 3 ≤ wr.heap.size) (fun i _ => 8 - (intOf i).toNat)
    case atStart => exact ⟨0, by omega, rfl, ⟨_, cr, fr, own_nil _⟩, fun _ => rfl, B2, by omega⟩
    case round =>
      obtain ⟨j, hj, rfl, ⟨v, hcv, hfv, HO⟩, HF, HB, hz⟩ := hrel
      clear cr fr
      by_cases hlt : j < 8
      · rcases (by omega : j = 0 ∨ j = 1 ∨ j = 2 ∨ j = 3 ∨ j = 4 ∨ j = 5 ∨ j = 6 ∨ j = 7) with rfl | rfl | rfl | rfl | rfl | rfl | rfl | rfl
        · have hd := (HF.out 0).trans d0.out
          have HQ := hid (HP.out 0 (by omega))
          go_wp2_with fail
          refine (field_byte _ _).mono ?_
          rintro x w3 ⟨rfl, rfl⟩
          go_wp2_with fail
          refine (lay2_any w1.heap.size Kn 1 v (preL (fld Kn Fn Tn Yn Bn Pn En Sn) 0) (w1.heap.size + 3) w.heap.size _ (by omega) (by omega) (by have := HQ.out; omega) hcv hfv HO.out (by omega) (by omega) hz).mono ?_
          rintro x w4 ⟨rfl, v4, hc4, hf4, o4, b4, k4⟩
          have O4 : Hid (Own w4 (w1.heap.size + 3) v4 (preL (fld Kn Fn Tn Yn Bn Pn En Sn) 1)) := by
            have e : preL (fld Kn Fn Tn Yn Bn Pn En Sn) 1 = preL (fld Kn Fn Tn Yn Bn Pn En Sn) 0 ++ putL Kn 1 := by simp [preL, fld]
            rw [e]; exact o4
          have F4 : Hid (∀ o, w4.cell? ⟨w1.heap.size + 1 + 1, o, none⟩ = w2.cell? ⟨w1.heap.size + 1 + 1, o, none⟩) := fun o => (k4 _ o (by omega) (by omega)).trans (HF.out o)
          have B4 := hid (HB.out.trans b4)
          have z4 : w1.heap.size + 3 ≤ w4.heap.size := Nat.le_trans hz b4.size
          clear o4 b4 k4 HO HF HB hcv hfv
          go_wp2
          go_roundw
          case rel => exact ⟨1, by omega, by go_num, ⟨v4, hc4, hf4, O4⟩, F4, B4, z4⟩
          case measure => simp [intOf]
        · have hd := (HF.out 1).trans d1.out
          have HQ := hid (HP.out 1 (by omega))
          go_wp2_with fail
          refine (field_byte _ _).mono ?_
          rintro x w3 ⟨rfl, rfl⟩
          go_wp2_with fail
          refine (lay2_any w1.heap.size Fn 1 v (preL (fld Kn Fn Tn Yn Bn Pn En Sn) 1) (w1.heap.size + 3) w.heap.size _ (by omega) (by omega) (by have := HQ.out; omega) hcv hfv HO.out (by omega) (by omega) hz).mono ?_
          rintro x w4 ⟨rfl, v4, hc4, hf4, o4, b4, k4⟩
          have O4 : Hid (Own w4 (w1.heap.size + 3) v4 (preL (fld Kn Fn Tn Yn Bn Pn En Sn) 2)) := by
            have e : preL (fld Kn Fn Tn Yn Bn Pn En Sn) 2 = preL (fld Kn Fn Tn Yn Bn Pn En Sn) 1 ++ putL Fn 1 := by simp [preL, fld]
            rw [e]; exact o4
          have F4 : Hid (∀ o, w4.cell? ⟨w1.heap.size + 1 + 1, o, none⟩ = w2.cell? ⟨w1.heap.size + 1 + 1, o, none⟩) := fun o => (k4 _ o (by omega) (by omega)).trans (HF.out o)
          have B4 := hid (HB.out.trans b4)
          have z4 : w1.heap.size + 3 ≤ w4.heap.size := Nat.le_trans hz b4.size
          clear o4 b4 k4 HO HF HB hcv hfv
          go_wp2
          go_roundw
          case rel => exact ⟨2, by omega, by go_num, ⟨v4, hc4, hf4, O4⟩, F4, B4, z4⟩
          case measure => simp [intOf]
        · have hd := (HF.out 2).trans d2.out
          have HQ := hid (HP.out 2 (by omega))
          go_wp2_with fail
          refine (field_byte _ _).mono ?_
          rintro x w3 ⟨rfl, rfl⟩
          go_wp2_with fail
          refine (lay2_any w1.heap.size Tn 1 v (preL (fld Kn Fn Tn Yn Bn Pn En Sn) 2) (w1.heap.size + 3) w.heap.size _ (by omega) (by omega) (by have := HQ.out; omega) hcv hfv HO.out (by omega) (by omega) hz).mono ?_
          rintro x w4 ⟨rfl, v4, hc4, hf4, o4, b4, k4⟩
          have O4 : Hid (Own w4 (w1.heap.size + 3) v4 (preL (fld Kn Fn Tn Yn Bn Pn En Sn) 3)) := by
            have e : preL (fld Kn Fn Tn Yn Bn Pn En Sn) 3 = preL (fld Kn Fn Tn Yn Bn Pn En Sn) 2 ++ putL Tn 1 := by simp [preL, fld]
            rw [e]; exact o4
          have F4 : Hid (∀ o, w4.cell? ⟨w1.heap.size + 1 + 1, o, none⟩ = w2.cell? ⟨w1.heap.size + 1 + 1, o, none⟩) := fun o => (k4 _ o (by omega) (by omega)).trans (HF.out o)
          have B4 := hid (HB.out.trans b4)
          have z4 : w1.heap.size + 3 ≤ w4.heap.size := Nat.le_trans hz b4.size
          clear o4 b4 k4 HO HF HB hcv hfv
          go_wp2
          go_roundw
          case rel => exact ⟨3, by omega, by go_num, ⟨v4, hc4, hf4, O4⟩, F4, B4, z4⟩
          case measure => simp [intOf]
        · have hd := (HF.out 3).trans d3.out
          have HQ := hid (HP.out 3 (by omega))
          go_wp2_with fail
          refine (field_byte _ _).mono ?_
          rintro x w3 ⟨rfl, rfl⟩
          go_wp2_with fail
          refine (lay2_any w1.heap.size Yn 1 v (preL (fld Kn Fn Tn Yn Bn Pn En Sn) 3) (w1.heap.size + 3) w.heap.size _ (by omega) (by omega) (by have := HQ.out; omega) hcv hfv HO.out (by omega) (by omega) hz).mono ?_
          rintro x w4 ⟨rfl, v4, hc4, hf4, o4, b4, k4⟩
          have O4 : Hid (Own w4 (w1.heap.size + 3) v4 (preL (fld Kn Fn Tn Yn Bn Pn En Sn) 4)) := by
            have e : preL (fld Kn Fn Tn Yn Bn Pn En Sn) 4 = preL (fld Kn Fn Tn Yn Bn Pn En Sn) 3 ++ putL Yn 1 := by simp [preL, fld]
            rw [e]; exact o4
          have F4 : Hid (∀ o, w4.cell? ⟨w1.heap.size + 1 + 1, o, none⟩ = w2.cell? ⟨w1.heap.size + 1 + 1, o, none⟩) := fun o => (k4 _ o (by omega) (by omega)).trans (HF.out o)
          have B4 := hid (HB.out.trans b4)
          have z4 : w1.heap.size + 3 ≤ w4.heap.size := Nat.le_trans hz b4.size
          clear o4 b4 k4 HO HF HB hcv hfv
          go_wp2
          go_roundw
          case rel => exact ⟨4, by omega, by go_num, ⟨v4, hc4, hf4, O4⟩, F4, B4, z4⟩
          case measure => simp [intOf]
        · have hd := (HF.out 4).trans d4.out
          have HQ := hid (HP.out 4 (by omega))
          go_wp2_with fail
          refine (field_pair _ _).mono ?_
          rintro x w3 ⟨rfl, rfl⟩
          go_wp2_with fail
          refine (lay2_any w1.heap.size Bn 2 v (preL (fld Kn Fn Tn Yn Bn Pn En Sn) 4) (w1.heap.size + 3) w.heap.size _ (by omega) (by omega) (by have := HQ.out; omega) hcv hfv HO.out (by omega) (by omega) hz).mono ?_
          rintro x w4 ⟨rfl, v4, hc4, hf4, o4, b4, k4⟩
          have O4 : Hid (Own w4 (w1.heap.size + 3) v4 (preL (fld Kn Fn Tn Yn Bn Pn En Sn) 5)) := by
            have e : preL (fld Kn Fn Tn Yn Bn Pn En Sn) 5 = preL (fld Kn Fn Tn Yn Bn Pn En Sn) 4 ++ putL Bn 2 := by simp [preL, fld]
            rw [e]; exact o4
          have F4 : Hid (∀ o, w4.cell? ⟨w1.heap.size + 1 + 1, o, none⟩ = w2.cell? ⟨w1.heap.size + 1 + 1, o, none⟩) := fun o => (k4 _ o (by omega) (by omega)).trans (HF.out o)
          have B4 := hid (HB.out.trans b4)
          have z4 : w1.heap.size + 3 ≤ w4.heap.size := Nat.le_trans hz b4.size
          clear o4 b4 k4 HO HF HB hcv hfv
          go_wp2
          go_roundw
          case rel => exact ⟨5, by omega, by go_num, ⟨v4, hc4, hf4, O4⟩, F4, B4, z4⟩
          case measure => simp [intOf]
        · have hd := (HF.out 5).trans d5.out
          have HQ := hid (HP.out 5 (by omega))
          go_wp2_with fail
          refine (field_pair _ _).mono ?_
          rintro x w3 ⟨rfl, rfl⟩
          go_wp2_with fail
          refine (lay2_any w1.heap.size Pn 2 v (preL (fld Kn Fn Tn Yn Bn Pn En Sn) 5) (w1.heap.size + 3) w.heap.size _ (by omega) (by omega) (by have := HQ.out; omega) hcv hfv HO.out (by omega) (by omega) hz).mono ?_
          rintro x w4 ⟨rfl, v4, hc4, hf4, o4, b4, k4⟩
          have O4 : Hid (Own w4 (w1.heap.size + 3) v4 (preL (fld Kn Fn Tn Yn Bn Pn En Sn) 6)) := by
            have e : preL (fld Kn Fn Tn Yn Bn Pn En Sn) 6 = preL (fld Kn Fn Tn Yn Bn Pn En Sn) 5 ++ putL Pn 2 := by simp [preL, fld]
            rw [e]; exact o4
          have F4 : Hid (∀ o, w4.cell? ⟨w1.heap.size + 1 + 1, o, none⟩ = w2.cell? ⟨w1.heap.size + 1 + 1, o, none⟩) := fun o => (k4 _ o (by omega) (by omega)).trans (HF.out o)
          have B4 := hid (HB.out.trans b4)
          have z4 : w1.heap.size + 3 ≤ w4.heap.size := Nat.le_trans hz b4.size
          clear o4 b4 k4 HO HF HB hcv hfv
          go_wp2
          go_roundw
          case rel => exact ⟨6, by omega, by go_num, ⟨v4, hc4, hf4, O4⟩, F4, B4, z4⟩
          case measure => simp [intOf]
        · have hd := (HF.out 6).trans d6.out
          have HQ := hid (HP.out 6 (by omega))
          go_wp2_with fail
          refine (field_byte _ _).mono ?_
          rintro x w3 ⟨rfl, rfl⟩
          go_wp2_with fail
          refine (lay2_any w1.heap.size En 1 v (preL (fld Kn Fn Tn Yn Bn Pn En Sn) 6) (w1.heap.size + 3) w.heap.size _ (by omega) (by omega) (by have := HQ.out; omega) hcv hfv HO.out (by omega) (by omega) hz).mono ?_
          rintro x w4 ⟨rfl, v4, hc4, hf4, o4, b4, k4⟩
          have O4 : Hid (Own w4 (w1.heap.size + 3) v4 (preL (fld Kn Fn Tn Yn Bn Pn En Sn) 7)) := by
            have e : preL (fld Kn Fn Tn Yn Bn Pn En Sn) 7 = preL (fld Kn Fn Tn Yn Bn Pn En Sn) 6 ++ putL En 1 := by simp [preL, fld]
            rw [e]; exact o4
          have F4 : Hid (∀ o, w4.cell? ⟨w1.heap.size + 1 + 1, o, none⟩ = w2.cell? ⟨w1.heap.size + 1 + 1, o, none⟩) := fun o => (k4 _ o (by omega) (by omega)).trans (HF.out o)
          have B4 := hid (HB.out.trans b4)
          have z4 : w1.heap.size + 3 ≤ w4.heap.size := Nat.le_trans hz b4.size
          clear o4 b4 k4 HO HF HB hcv hfv
          go_wp2
          go_roundw
          case rel => exact ⟨7, by omega, by go_num, ⟨v4, hc4, hf4, O4⟩, F4, B4, z4⟩
          case measure => simp [intOf]
        · have hd := (HF.out 7).trans d7.out
          have HQ := hid (HP.out 7 (by omega))
          go_wp2_with fail
          refine (field_pair _ _).mono ?_
          rintro x w3 ⟨rfl, rfl⟩
          go_wp2_with fail
          refine (lay2_any w1.heap.size Sn 2 v (preL (fld Kn Fn Tn Yn Bn Pn En Sn) 7) (w1.heap.size + 3) w.heap.size _ (by omega) (by omega) (by have := HQ.out; omega) hcv hfv HO.out (by omega) (by omega) hz).mono ?_
          rintro x w4 ⟨rfl, v4, hc4, hf4, o4, b4, k4⟩
          have O4 : Hid (Own w4 (w1.heap.size + 3) v4 (preL (fld Kn Fn Tn Yn Bn Pn En Sn) 8)) := by
            have e : preL (fld Kn Fn Tn Yn Bn Pn En Sn) 8 = preL (fld Kn Fn Tn Yn Bn Pn En Sn) 7 ++ putL Sn 2 := by simp [preL, fld]
            rw [e]; exact o4
          have F4 : Hid (∀ o, w4.cell? ⟨w1.heap.size + 1 + 1, o, none⟩ = w2.cell? ⟨w1.heap.size + 1 + 1, o, none⟩) := fun o => (k4 _ o (by omega) (by omega)).trans (HF.out o)
          have B4 := hid (HB.out.trans b4)
          have z4 : w1.heap.size + 3 ≤ w4.heap.size := Nat.le_trans hz b4.size
          clear o4 b4 k4 HO HF HB hcv hfv
          go_wp2
          go_roundw
          case rel => exact ⟨8, by omega, by go_num, ⟨v4, hc4, hf4, O4⟩, F4, B4, z4⟩
          case measure => simp [intOf]
      · obtain rfl : j = 8 := by omega
        go_wp2
        go_ret
        rw [H.out]
        exact ⟨_, rfl, HO.out.low (B' := w.heap.size) (by omega), HB.out⟩
end Go.Proofs.YtpfelnkdimbhkaaDoor
