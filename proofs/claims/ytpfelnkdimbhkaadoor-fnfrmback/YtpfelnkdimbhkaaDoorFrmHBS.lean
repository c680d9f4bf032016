/- The contract of the specification's FrmHeadBytes. -/
import Derived.Test.YtpfelnkdimbhkaaDoorFrmHB2
import Derived.Test.YtpfelnkdimbhkaaDoorSealShut
namespace Go.Proofs.YtpfelnkdimbhkaaDoor
open Go.ChangeShapes Go.WideShapes Go.ChangeAt Go.RowKit Go.Joins Go.Deep
set_option linter.unusedVariables false
set_option linter.unusedSimpArgs false

theorem putB_one {n : Nat} (h : n ≤ 255) : putB (n : Int) 1 = putL n 1 := by
  have : putOk (n : Int) 1 = true := by simp [putOk, inB]; omega
  simp [putB, this]
theorem putB_two {n : Nat} (h : n ≤ 65535) : putB (n : Int) 2 = putL n 2 := by
  have : putOk (n : Int) 2 = true := by simp [putOk, inB]; omega
  simp [putB, this]
theorem putL_one {n : Nat} (h : n ≤ 255) : putL n 1 = [(n : Int)] := by
  simp [putL]; omega
theorem own_four (w : World) (a b c d : Int) (h : (0 ≤ a ∧ a ≤ 255) ∧ (0 ≤ b ∧ b ≤ 255) ∧ (0 ≤ c ∧ c ≤ 255) ∧ (0 ≤ d ∧ d ≤ 255)) : Own (w.alloc (.cells #[.int .u8 a, .int .u8 b, .int .u8 c, .int .u8 d] 5)) w.heap.size (.slice (some ⟨w.heap.size, 0, none⟩) 4 4) [a, b, c, d] := by
  exact ⟨by simp; omega, by simp, .inr ⟨w.heap.size, 4, #[.int .u8 a, .int .u8 b, .int .u8 c, .int .u8 d], rfl, Nat.le_refl _, heap_alloc_new w _, by simp, by unfold maxLen; omega, by simp, by simp⟩⟩

set_option maxHeartbeats 8000000 in
theorem specHeadBytes_any (k f t y b p e s : Int) (w : World) :
    Calls Tryd.prog 61 #[.agg #[.int .i64 k, .int .i64 f, .int .i64 t, .int .i64 y, .int .i64 b, .int .i64 p, .int .i64 e, .int .i64 s]] w fun x w' => ∃ u, x = .returned u ∧ Own w' w.heap.size u (hdL k f t y b p e s) ∧ Below w.heap.size w w' := by
  obtain ⟨ti, hti, htz, hts, htb⟩ := info8'
  cases hk : headB k f t y b p e s
  · have H : Hid (hdL k f t y b p e s = []) := by unfold Hid hdL; simp [hk]
    go_enter Tryd.func61, Tryd.ntmps61
    go_wp2_with fail
    refine (specHead_any _ _ _ _ _ _ _ _ _).mono ?_
    rintro x w1 ⟨rfl, b1⟩
    rw [hk]
    have hz1 : w.heap.size + 1 ≤ w1.heap.size := by have := b1.size; simpa using this
    have B1 : Hid (Below w.heap.size w w1) := hid ((below_alloc1 _ _).trans (b1.mono (by simp)))
    clear b1
    go_wp2
    go_ret
    rw [H.out]
    exact ⟨_, rfl, (own_none w1).low (B' := w.heap.size) (by omega), B1.out.alloc (by omega) _⟩
  · have hin := headB_in hk
    obtain ⟨Kn, rfl⟩ : ∃ Kn : Nat, k = Kn := ⟨k.toNat, by omega⟩
    obtain ⟨Fn, rfl⟩ : ∃ Fn : Nat, f = Fn := ⟨f.toNat, by omega⟩
    obtain ⟨Tn, rfl⟩ : ∃ Tn : Nat, t = Tn := ⟨t.toNat, by omega⟩
    obtain ⟨Yn, rfl⟩ : ∃ Yn : Nat, y = Yn := ⟨y.toNat, by omega⟩
    obtain ⟨Bn, rfl⟩ : ∃ Bn : Nat, b = Bn := ⟨b.toNat, by omega⟩
    obtain ⟨Pn, rfl⟩ : ∃ Pn : Nat, p = Pn := ⟨p.toNat, by omega⟩
    obtain ⟨En, rfl⟩ : ∃ En : Nat, e = En := ⟨e.toNat, by omega⟩
    obtain ⟨Sn, rfl⟩ : ∃ Sn : Nat, s = Sn := ⟨s.toNat, by omega⟩
    have H : Hid (hdL Kn Fn Tn Yn Bn Pn En Sn = [(Kn : Int), (Fn : Int), (Tn : Int), (Yn : Int)] ++ putB Bn 2 ++ putB Pn 2 ++ putB En 1 ++ putB Sn 2) := by
      unfold Hid hdL
      rw [if_pos hk, putB_one (by omega), putB_two (by omega), putB_two (by omega), putB_two (by omega)]
      simp only [Int.toNat_natCast, preL, fld]
      simp [putL_one (show Kn ≤ 255 by omega), putL_one (show Fn ≤ 255 by omega), putL_one (show Tn ≤ 255 by omega), putL_one (show Yn ≤ 255 by omega)]
    have l4 : (putB (Bn : Int) 2).length = 2 := by rw [putB_two (by omega), putL_len]
    have l5 : (putB (Pn : Int) 2).length = 2 := by rw [putB_two (by omega), putL_len]
    have l6 : (putB (En : Int) 1).length = 1 := by rw [putB_one (by omega), putL_len]
    have l7 : (putB (Sn : Int) 2).length = 2 := by rw [putB_two (by omega), putL_len]
    have LL := hid (And.intro l4 (And.intro l5 (And.intro l6 l7)))
    clear l4 l5 l6 l7
    go_enter Tryd.func61, Tryd.ntmps61
    go_wp2_with fail
    refine (specHead_any _ _ _ _ _ _ _ _ _).mono ?_
    rintro x w1 ⟨rfl, b1⟩
    rw [hk]
    have hz1 : w.heap.size + 1 ≤ w1.heap.size := by have := b1.size; simpa using this
    have B1 : Hid (Below w.heap.size w w1) := hid ((below_alloc1 _ _).trans (b1.mono (by simp)))
    obtain ⟨hc1, _⟩ := bcell b1
    have a0 : w1.cell? ⟨w.heap.size, 0, none⟩ = some (.int .i64 (Kn : Int)) := (hc1 w.heap.size 0 (by simp)).trans (by simp)
    have a1 : w1.cell? ⟨w.heap.size, 1, none⟩ = some (.int .i64 (Fn : Int)) := (hc1 w.heap.size 1 (by simp)).trans (by simp)
    have a2 : w1.cell? ⟨w.heap.size, 2, none⟩ = some (.int .i64 (Tn : Int)) := (hc1 w.heap.size 2 (by simp)).trans (by simp)
    have a3 : w1.cell? ⟨w.heap.size, 3, none⟩ = some (.int .i64 (Yn : Int)) := (hc1 w.heap.size 3 (by simp)).trans (by simp)
    have a4 : w1.cell? ⟨w.heap.size, 4, none⟩ = some (.int .i64 (Bn : Int)) := (hc1 w.heap.size 4 (by simp)).trans (by simp)
    have a5 : w1.cell? ⟨w.heap.size, 5, none⟩ = some (.int .i64 (Pn : Int)) := (hc1 w.heap.size 5 (by simp)).trans (by simp)
    have a6 : w1.cell? ⟨w.heap.size, 6, none⟩ = some (.int .i64 (En : Int)) := (hc1 w.heap.size 6 (by simp)).trans (by simp)
    have a7 : w1.cell? ⟨w.heap.size, 7, none⟩ = some (.int .i64 (Sn : Int)) := (hc1 w.heap.size 7 (by simp)).trans (by simp)
    clear hc1 b1 hk
    have O := hid ((own_four w1 Kn Fn Tn Yn (by omega)))
    have B2 := hid (B1.out.alloc (by omega) (.cells #[.int .u8 (Kn : Int), .int .u8 (Fn : Int), .int .u8 (Tn : Int), .int .u8 (Yn : Int)] 5))
    have a4 := cell_keep (below_alloc1 w1 (.cells #[.int .u8 (Kn : Int), .int .u8 (Fn : Int), .int .u8 (Tn : Int), .int .u8 (Yn : Int)] 5)) a4
    have a5 := cell_keep (below_alloc1 w1 (.cells #[.int .u8 (Kn : Int), .int .u8 (Fn : Int), .int .u8 (Tn : Int), .int .u8 (Yn : Int)] 5)) a5
    have a6 := cell_keep (below_alloc1 w1 (.cells #[.int .u8 (Kn : Int), .int .u8 (Fn : Int), .int .u8 (Tn : Int), .int .u8 (Yn : Int)] 5)) a6
    have a7 := cell_keep (below_alloc1 w1 (.cells #[.int .u8 (Kn : Int), .int .u8 (Fn : Int), .int .u8 (Tn : Int), .int .u8 (Yn : Int)] 5)) a7
    have hzb : w1.heap.size < (w1.alloc (.cells #[.int .u8 (Kn : Int), .int .u8 (Fn : Int), .int .u8 (Tn : Int), .int .u8 (Yn : Int)] 5)).heap.size := by simp
    go_wp2_with fail
    refine (specPut_any _ _ _).mono ?_
    rintro x wa0 ⟨u0, rfl, op, bp⟩
    have O := hid (O.out.keep bp)
    have BN := hid (B2.out.trans (bp.mono (by omega)))
    have OP := hid op
    obtain ⟨ap, cp, hep, fp⟩ := own_form op
    rw [LL.out.1] at hep
    rcases fp with fp | ⟨gp, rfl⟩
    · have := LL.out.1; rw [fp] at this; simp at this
    subst hep
    have a5 := cell_keep bp a5
    have a6 := cell_keep bp a6
    have a7 := cell_keep bp a7
    have RO := own_ints O.out
    have LO : ([(Kn : Int), (Fn : Int), (Tn : Int), (Yn : Int)]).length = 4 := by simp [LL.out.1, LL.out.2.1, LL.out.2.2.1]
    rw [LO] at RO
    have RO := hid RO
    have zq : w1.heap.size < wa0.heap.size := Nat.lt_of_lt_of_le hzb bp.size
    clear op bp B2 hzb
    go_wp2_with (at_builtin; go_must (refine wpList_append_lies _ (by rfl) _ _ 22 (by rfl) w1.heap.size 5 ti (.int .u8 0) 1 1 Tryd.underlying22 hti htz hts htb rfl (by omega) _ 4 (([(Kn : Int), (Fn : Int), (Tn : Int), (Yn : Int)]).map (Value.int .u8)) (by rfl) RO.out ⟨gp, 0, none⟩ 2 cp ((putB (Bn : Int) 2).map (Value.int .u8)) (by rfl) (by simp [LL.out.1]) (news_own OP.out) (by intro y hy; simp at hy; obtain ⟨z, _, rfl⟩ := hy; rfl) (by omega) (by unfold maxLen; omega) (by omega) (by omega) wa0.heap.size rfl ?_))
    intro g0 c0 wb0 ho hg hat hlt
    have B2 := hid (BN.out.grown hg (by omega) (by intro j hj; have := (RO.out.lt j hj).1; omega))
    have O := hid (own_join O.out OP.out LO LL.out.1 (by simpa using ho))
    have hzb : w1.heap.size < wb0.heap.size := Nat.lt_of_lt_of_le zq hg.size
    have a5 := hg.cell a5 (by intro h; have := (RO.out.lt _ h.symm).1; dsimp only at this; omega)
    have a6 := hg.cell a6 (by intro h; have := (RO.out.lt _ h.symm).1; dsimp only at this; omega)
    have a7 := hg.cell a7 (by intro h; have := (RO.out.lt _ h.symm).1; dsimp only at this; omega)
    clear ho hg hat hlt BN OP RO LO zq
    go_wp2_with fail
    refine (specPut_any _ _ _).mono ?_
    rintro x wa1 ⟨u1, rfl, op, bp⟩
    have O := hid (O.out.keep bp)
    have BN := hid (B2.out.trans (bp.mono (by omega)))
    have OP := hid op
    obtain ⟨ap, cp, hep, fp⟩ := own_form op
    rw [LL.out.2.1] at hep
    rcases fp with fp | ⟨gp, rfl⟩
    · have := LL.out.2.1; rw [fp] at this; simp at this
    subst hep
    have a6 := cell_keep bp a6
    have a7 := cell_keep bp a7
    have RO := own_ints O.out
    have LO : ([(Kn : Int), (Fn : Int), (Tn : Int), (Yn : Int)] ++ putB (Bn : Int) 2).length = 6 := by simp [LL.out.1, LL.out.2.1, LL.out.2.2.1]
    rw [LO] at RO
    have RO := hid RO
    have zq : w1.heap.size < wa1.heap.size := Nat.lt_of_lt_of_le hzb bp.size
    clear op bp B2 hzb
    go_wp2_with (at_builtin; go_must (refine wpList_append_lies _ (by rfl) _ _ 22 (by rfl) w1.heap.size 5 ti (.int .u8 0) 1 1 Tryd.underlying22 hti htz hts htb rfl (by omega) _ 6 (([(Kn : Int), (Fn : Int), (Tn : Int), (Yn : Int)] ++ putB (Bn : Int) 2).map (Value.int .u8)) (by rfl) RO.out ⟨gp, 0, none⟩ 2 cp ((putB (Pn : Int) 2).map (Value.int .u8)) (by rfl) (by simp [LL.out.2.1]) (news_own OP.out) (by intro y hy; simp at hy; obtain ⟨z, _, rfl⟩ := hy; rfl) (by omega) (by unfold maxLen; omega) (by omega) (by omega) wa1.heap.size rfl ?_))
    intro g1 c1 wb1 ho hg hat hlt
    have B2 := hid (BN.out.grown hg (by omega) (by intro j hj; have := (RO.out.lt j hj).1; omega))
    have O := hid (own_join O.out OP.out LO LL.out.2.1 (by simpa using ho))
    have hzb : w1.heap.size < wb1.heap.size := Nat.lt_of_lt_of_le zq hg.size
    have a6 := hg.cell a6 (by intro h; have := (RO.out.lt _ h.symm).1; dsimp only at this; omega)
    have a7 := hg.cell a7 (by intro h; have := (RO.out.lt _ h.symm).1; dsimp only at this; omega)
    clear ho hg hat hlt BN OP RO LO zq
    go_wp2_with fail
    refine (specPut_any _ _ _).mono ?_
    rintro x wa2 ⟨u2, rfl, op, bp⟩
    have O := hid (O.out.keep bp)
    have BN := hid (B2.out.trans (bp.mono (by omega)))
    have OP := hid op
    obtain ⟨ap, cp, hep, fp⟩ := own_form op
    rw [LL.out.2.2.1] at hep
    rcases fp with fp | ⟨gp, rfl⟩
    · have := LL.out.2.2.1; rw [fp] at this; simp at this
    subst hep
    have a7 := cell_keep bp a7
    have RO := own_ints O.out
    have LO : ([(Kn : Int), (Fn : Int), (Tn : Int), (Yn : Int)] ++ putB (Bn : Int) 2 ++ putB (Pn : Int) 2).length = 8 := by simp [LL.out.1, LL.out.2.1, LL.out.2.2.1]
    rw [LO] at RO
    have RO := hid RO
    have zq : w1.heap.size < wa2.heap.size := Nat.lt_of_lt_of_le hzb bp.size
    clear op bp B2 hzb
    go_wp2_with (at_builtin; go_must (refine wpList_append_lies _ (by rfl) _ _ 22 (by rfl) w1.heap.size 5 ti (.int .u8 0) 1 1 Tryd.underlying22 hti htz hts htb rfl (by omega) _ 8 (([(Kn : Int), (Fn : Int), (Tn : Int), (Yn : Int)] ++ putB (Bn : Int) 2 ++ putB (Pn : Int) 2).map (Value.int .u8)) (by rfl) RO.out ⟨gp, 0, none⟩ 1 cp ((putB (En : Int) 1).map (Value.int .u8)) (by rfl) (by simp [LL.out.2.2.1]) (news_own OP.out) (by intro y hy; simp at hy; obtain ⟨z, _, rfl⟩ := hy; rfl) (by omega) (by unfold maxLen; omega) (by omega) (by omega) wa2.heap.size rfl ?_))
    intro g2 c2 wb2 ho hg hat hlt
    have B2 := hid (BN.out.grown hg (by omega) (by intro j hj; have := (RO.out.lt j hj).1; omega))
    have O := hid (own_join O.out OP.out LO LL.out.2.2.1 (by simpa using ho))
    have hzb : w1.heap.size < wb2.heap.size := Nat.lt_of_lt_of_le zq hg.size
    have a7 := hg.cell a7 (by intro h; have := (RO.out.lt _ h.symm).1; dsimp only at this; omega)
    clear ho hg hat hlt BN OP RO LO zq
    go_wp2_with fail
    refine (specPut_any _ _ _).mono ?_
    rintro x wa3 ⟨u3, rfl, op, bp⟩
    have O := hid (O.out.keep bp)
    have BN := hid (B2.out.trans (bp.mono (by omega)))
    have OP := hid op
    obtain ⟨ap, cp, hep, fp⟩ := own_form op
    rw [LL.out.2.2.2] at hep
    rcases fp with fp | ⟨gp, rfl⟩
    · have := LL.out.2.2.2; rw [fp] at this; simp at this
    subst hep
    have RO := own_ints O.out
    have LO : ([(Kn : Int), (Fn : Int), (Tn : Int), (Yn : Int)] ++ putB (Bn : Int) 2 ++ putB (Pn : Int) 2 ++ putB (En : Int) 1).length = 9 := by simp [LL.out.1, LL.out.2.1, LL.out.2.2.1]
    rw [LO] at RO
    have RO := hid RO
    have zq : w1.heap.size < wa3.heap.size := Nat.lt_of_lt_of_le hzb bp.size
    clear op bp B2 hzb
    go_wp2_with (at_builtin; go_must (refine wpList_append_lies _ (by rfl) _ _ 22 (by rfl) w1.heap.size 5 ti (.int .u8 0) 1 1 Tryd.underlying22 hti htz hts htb rfl (by omega) _ 9 (([(Kn : Int), (Fn : Int), (Tn : Int), (Yn : Int)] ++ putB (Bn : Int) 2 ++ putB (Pn : Int) 2 ++ putB (En : Int) 1).map (Value.int .u8)) (by rfl) RO.out ⟨gp, 0, none⟩ 2 cp ((putB (Sn : Int) 2).map (Value.int .u8)) (by rfl) (by simp [LL.out.2.2.2]) (news_own OP.out) (by intro y hy; simp at hy; obtain ⟨z, _, rfl⟩ := hy; rfl) (by omega) (by unfold maxLen; omega) (by omega) (by omega) wa3.heap.size rfl ?_))
    intro g3 c3 wb3 ho hg hat hlt
    have B2 := hid (BN.out.grown hg (by omega) (by intro j hj; have := (RO.out.lt j hj).1; omega))
    have O := hid (own_join O.out OP.out LO LL.out.2.2.2 (by simpa using ho))
    have hzb : w1.heap.size < wb3.heap.size := Nat.lt_of_lt_of_le zq hg.size
    clear ho hg hat hlt BN OP RO LO zq
    go_wp2
    go_ret
    rw [H.out]
    exact ⟨_, rfl, O.out.low (B' := w.heap.size) (by omega), B2.out⟩

theorem hdL_len (k f t y b p e s : Int) : (hdL k f t y b p e s).length ≤ 24 := by
  unfold hdL; split
  · have := preL_len k.toNat f.toNat t.toNat y.toNat b.toNat p.toNat e.toNat s.toNat 8 (by omega); omega
  · simp
end Go.Proofs.YtpfelnkdimbhkaaDoor
