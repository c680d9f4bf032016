/- P40: the order of labels, at every two codes. No conditions. -/
import Derived.Test.YthimdlcbcipfbaaDrawLbl3
import Derived.Test.YthimdlcbcipfbaaLblBase2
import Derived.Deep.RegionHeld3
import Derived.Deep.DeepCutAuto
namespace Go.Proofs.Ythimdlcbcipfbaa
open Go.ChangeShapes Go.WideShapes Go.ChangeAt Go.RowKit Go.Joins Go.Deep
theorem IsRow.cap {w : World} {a : Option Addr} {len cap : Nat} {zs : List Int} (h : IsRow .u8 w a len cap zs) : len ≤ cap ∧ len ≤ maxLen := by
  rcases h with ⟨_, h, _⟩ | ⟨_, _, h, h', _⟩
  · unfold maxLen; omega
  · omega
theorem or_self16' : ∀ a : Fin 16, bits .or .i64 (a.val : Int) (a.val : Int) = (a.val : Int) := by decide +kernel
theorem or_anti16' : ∀ a b : Fin 16, bits .or .i64 (a.val : Int) (b.val : Int) = (b.val : Int) → bits .or .i64 (b.val : Int) (a.val : Int) = (a.val : Int) → a = b := by decide +kernel
theorem or_trans16' : ∀ a b c : Fin 16, bits .or .i64 (a.val : Int) (b.val : Int) = (b.val : Int) → bits .or .i64 (b.val : Int) (c.val : Int) = (c.val : Int) → bits .or .i64 (a.val : Int) (c.val : Int) = (c.val : Int) := by decide +kernel
theorem fin16 {m : Int} (a : 0 ≤ m) (b : m ≤ 15) : ∃ i : Fin 16, m = (i.val : Int) := ⟨⟨m.toNat, by omega⟩, by simp; omega⟩
theorem or_self16 {m : Int} (a : 0 ≤ m) (b : m ≤ 15) : bits .or .i64 m m = m := by
  obtain ⟨i, rfl⟩ := fin16 a b
  exact or_self16' i
theorem or_anti16 {m n : Int} (a : 0 ≤ m) (b : m ≤ 15) (c : 0 ≤ n) (d : n ≤ 15) (h : bits .or .i64 m n = n) (k : bits .or .i64 n m = m) : m = n := by
  obtain ⟨i, rfl⟩ := fin16 a b
  obtain ⟨j, rfl⟩ := fin16 c d
  rw [or_anti16' i j h k]
theorem or_trans16 {m n p : Int} (a : 0 ≤ m) (b : m ≤ 15) (c : 0 ≤ n) (d : n ≤ 15) (e : 0 ≤ p) (f : p ≤ 15) (h : bits .or .i64 m n = n) (k : bits .or .i64 n p = p) : bits .or .i64 m p = p := by
  obtain ⟨i, rfl⟩ := fin16 a b
  obtain ⟨j, rfl⟩ := fin16 c d
  obtain ⟨x, rfl⟩ := fin16 e f
  exact or_trans16' i j x h k
theorem flB_self (l m : Int) : flB l m l m = okB l m := by
  cases h : okB l m
  · simp [flB, h]
  · obtain ⟨⟨a, b⟩, c, d⟩ := okB_iff.1 h
    have := or_self16 c d
    simp [flB, h, this]
theorem flB_anti {l1 m1 l2 m2 : Int} (h : flB l1 m1 l2 m2 = true) (k : flB l2 m2 l1 m1 = true) : l1 = l2 ∧ m1 = m2 := by
  simp [flB] at h k
  obtain ⟨h1, h2, h3, h4⟩ := h
  obtain ⟨k1, k2, k3, k4⟩ := k
  obtain ⟨_, a, b⟩ := okB_iff.1 h1
  obtain ⟨_, c, d⟩ := okB_iff.1 h2
  exact ⟨by omega, or_anti16 a b c d h4 k4⟩
theorem flB_trans {l1 m1 l2 m2 l3 m3 : Int} (h : flB l1 m1 l2 m2 = true) (k : flB l2 m2 l3 m3 = true) : flB l1 m1 l3 m3 = true := by
  simp [flB] at h k
  obtain ⟨h1, h2, h3, h4⟩ := h
  obtain ⟨k1, k2, k3, k4⟩ := k
  obtain ⟨_, a, b⟩ := okB_iff.1 h1
  obtain ⟨_, c, d⟩ := okB_iff.1 h2
  obtain ⟨_, e, f⟩ := okB_iff.1 k2
  simp [flB, h1, k2]
  exact ⟨by omega, or_trans16 a b c d e f h4 k4⟩
theorem flB_ends : flB 0 0 3 15 = true := by decide +kernel
theorem keep6 {w w' w'' : World} {n b1 b2 b3 : Nat} {x0 x1 x2 x3 x4 x5 : Value}
    (h : w'.cell? ⟨b1, 0, none⟩ = some x0 ∧ w'.cell? ⟨b1, 1, none⟩ = some x1 ∧ w'.cell? ⟨b2, 0, none⟩ = some x2 ∧ w'.cell? ⟨b2, 1, none⟩ = some x3 ∧ w'.cell? ⟨b3, 0, none⟩ = some x4 ∧ w'.cell? ⟨b3, 1, none⟩ = some x5 ∧ n ≤ w'.heap.size ∧ Below n w w')
    (hb : Below w'.heap.size w' w'') :
    w''.cell? ⟨b1, 0, none⟩ = some x0 ∧ w''.cell? ⟨b1, 1, none⟩ = some x1 ∧ w''.cell? ⟨b2, 0, none⟩ = some x2 ∧ w''.cell? ⟨b2, 1, none⟩ = some x3 ∧ w''.cell? ⟨b3, 0, none⟩ = some x4 ∧ w''.cell? ⟨b3, 1, none⟩ = some x5 ∧ n ≤ w''.heap.size ∧ Below n w w'' :=
  ⟨cell_keep hb h.1, cell_keep hb h.2.1, cell_keep hb h.2.2.1, cell_keep hb h.2.2.2.1, cell_keep hb h.2.2.2.2.1, cell_keep hb h.2.2.2.2.2.1, Nat.le_trans h.2.2.2.2.2.2.1 hb.size, h.2.2.2.2.2.2.2.trans (hb.mono h.2.2.2.2.2.2.1)⟩
end Go.Proofs.Ythimdlcbcipfbaa
namespace Go.Proofs.Ythimdlcbcipfbaa.fnLblOrder
open Go.ChangeShapes Go.WideShapes Go.ChangeAt Go.RowKit Go.Joins Go.Deep
set_option linter.unusedVariables false

set_option maxHeartbeats 4000000 in
theorem walk (a0 : Option Addr) (len0 cap0 : Nat) (z0 : List Int) (a1 : Option Addr) (len1 cap1 : Nat) (z1 : List Int) (w : World) (w0 : IsRow .u8 w a0 len0 cap0 z0) (w1 : IsRow .u8 w a1 len1 cap1 z1) :
    Calls Try.prog 3 #[.slice a0 len0 cap0, .slice a1 len1 cap1] w fun e w' => e = .returned (.bool true) ∧ Below w.heap.size w w' := by
  obtain ⟨hc0, hm0⟩ := w0.cap
  obtain ⟨hc1, hm1⟩ := w1.cap
  unfold maxLen at hm0 hm1
  by_cases hl : len0 ≤ 1048576
  · by_cases hk : len1 ≤ 1048576
    · obtain ⟨xs, hx, hr⟩ := w0.rd hl
      obtain ⟨ys, hy, hs⟩ := w1.rd hk
      have HX := hid hx
      have HY := hid hy
      have HR := hid hr
      have HS := hid hs
      have h1 : decide ((1048576 : Int) < (len0 : Int)) = false := by simp; omega
      have h2 : decide ((1048576 : Int) < (len1 : Int)) = false := by simp; omega
      clear hx hy hr hs w0 w1
      go_enter Try.func3, Try.ntmps3
      go_wp2_with fail
      refine (drawFlows_any a0 len0 cap0 xs w HX.out HR.out hc0).mono ?_
      rintro e wa ⟨l1, m1, l2, m2, rfl, ba⟩
      have BA := hid ba
      have za := ba.size
      clear ba
      go_wp2_with fail
      have HS2 := hid ((HS.out.keep BA.out).keep (below_alloc2 wa (.cells #[.int .i64 l1, .int .i64 m1] 24) (.cells #[.int .i64 l2, .int .i64 m2] 24)))
      refine (drawFlows_any a1 len1 cap1 ys _ HY.out HS2.out hc1).mono ?_
      rintro e wb ⟨l3, m3, l4, m4, rfl, bb⟩
      have ca0 : wb.cell? ⟨wa.heap.size, 0, none⟩ = some (.int .i64 l1) := cell_keep bb (by go_simp)
      have ca1 : wb.cell? ⟨wa.heap.size, 1, none⟩ = some (.int .i64 m1) := cell_keep bb (by go_simp)
      have cb0 : wb.cell? ⟨wa.heap.size + 1, 0, none⟩ = some (.int .i64 l2) := cell_keep bb (by go_simp)
      have cb1 : wb.cell? ⟨wa.heap.size + 1, 1, none⟩ = some (.int .i64 m2) := cell_keep bb (by go_simp)
      have zb := bb.size
      simp at zb
      have BB := hid (Below.trans BA.out (Below.trans ((below_alloc2 wa (.cells #[.int .i64 l1, .int .i64 m1] 24) (.cells #[.int .i64 l2, .int .i64 m2] 24)).mono za) (bb.mono (by simp; omega))))
      clear bb BA HS2 HS HR h1 h2
      go_wp2_with fail
      have zw : w.heap.size ≤ wb.heap.size := BB.out.size
      clear HX HY
      go_region_held3 (fun w' => w'.cell? ⟨wa.heap.size, 0, none⟩ = some (.int .i64 l1) ∧ w'.cell? ⟨wa.heap.size, 1, none⟩ = some (.int .i64 m1) ∧ w'.cell? ⟨wa.heap.size + 1, 0, none⟩ = some (.int .i64 l2) ∧ w'.cell? ⟨wa.heap.size + 1, 1, none⟩ = some (.int .i64 m2) ∧ w'.cell? ⟨wb.heap.size, 0, none⟩ = some (.int .i64 l3) ∧ w'.cell? ⟨wb.heap.size, 1, none⟩ = some (.int .i64 m3) ∧ w.heap.size ≤ w'.heap.size ∧ Below w.heap.size w w') (first | exact keep6 (by assumption) (by assumption) | exact keep6 (by assumption) ((Below.refl _ _).drew) | (refine ⟨?_, ?_, ?_, ?_, ?_, ?_, ?_, ?_⟩ <;> first | (go_keep; done) | (simp; omega) | ((repeat' (first | exact Below.refl _ _ | assumption | exact Nat.le_refl _ | (refine Below.alloc ?_ ?_ _) | (refine Below.drew ?_) | (refine Below.setCell ?_ ?_ _) | (refine Below.trans ?_ (Below.mono (by assumption) ?_)) | (simp; done) | (simp; omega) | omega)); done)))
        (first | (go_at_call 14; refine (lblFlows_any _ _ _ _ _).mono ?_; rintro e w' ⟨rfl, hb⟩) | (go_at_call 15; refine (specFlows_any _ _ _ _ _).mono ?_; rintro e w' ⟨rfl, hb⟩) | (go_at_call 16; refine (lblOk_any _ _ _).mono ?_; rintro e w' ⟨rfl, hb⟩))
      have hself : (okB l1 m1 == flB l1 m1 l1 m1) = true := by rw [flB_self]; simp
      have hends := flB_ends
      rename_i w9 _ hS
      clear ca0 ca1 cb0 cb1 BB
      cases hab : flB l1 m1 l2 m2
      · skip
        go_wp2_with (first | (go_at_call 14; refine (lblFlows_any _ _ _ _ _).mono ?_; rintro e w' ⟨rfl, hb⟩; have hS := keep6 (by assumption) hb) | (go_at_call 15; refine (specFlows_any _ _ _ _ _).mono ?_; rintro e w' ⟨rfl, hb⟩; have hS := keep6 (by assumption) hb))
        all_goals first | (exfalso; rename_i h; simp [hself] at h; done) | skip
        all_goals
          go_ret
          exact ⟨rfl, hS.2.2.2.2.2.2.2⟩
      · cases hbc : flB l2 m2 l3 m3
        · cases hba : flB l2 m2 l1 m1
          · skip
            go_wp2_with (first | (go_at_call 14; refine (lblFlows_any _ _ _ _ _).mono ?_; rintro e w' ⟨rfl, hb⟩; have hS := keep6 (by assumption) hb) | (go_at_call 15; refine (specFlows_any _ _ _ _ _).mono ?_; rintro e w' ⟨rfl, hb⟩; have hS := keep6 (by assumption) hb))
            all_goals first | (exfalso; rename_i h; simp [hself] at h; done) | skip
            all_goals
              go_ret
              exact ⟨rfl, hS.2.2.2.2.2.2.2⟩
          · obtain ⟨rfl, rfl⟩ := flB_anti hab hba
            go_wp2_with (first | (go_at_call 14; refine (lblFlows_any _ _ _ _ _).mono ?_; rintro e w' ⟨rfl, hb⟩; have hS := keep6 (by assumption) hb) | (go_at_call 15; refine (specFlows_any _ _ _ _ _).mono ?_; rintro e w' ⟨rfl, hb⟩; have hS := keep6 (by assumption) hb))
            all_goals first | (exfalso; rename_i h; simp [hself] at h; done) | skip
            all_goals
              go_ret
              exact ⟨rfl, hS.2.2.2.2.2.2.2⟩
        · have hac := flB_trans hab hbc
          cases hba : flB l2 m2 l1 m1
          · skip
            go_wp2_with (first | (go_at_call 14; refine (lblFlows_any _ _ _ _ _).mono ?_; rintro e w' ⟨rfl, hb⟩; have hS := keep6 (by assumption) hb) | (go_at_call 15; refine (specFlows_any _ _ _ _ _).mono ?_; rintro e w' ⟨rfl, hb⟩; have hS := keep6 (by assumption) hb))
            all_goals first | (exfalso; rename_i h; simp [hself] at h; done) | skip
            all_goals
              go_ret
              exact ⟨rfl, hS.2.2.2.2.2.2.2⟩
          · obtain ⟨rfl, rfl⟩ := flB_anti hab hba
            go_wp2_with (first | (go_at_call 14; refine (lblFlows_any _ _ _ _ _).mono ?_; rintro e w' ⟨rfl, hb⟩; have hS := keep6 (by assumption) hb) | (go_at_call 15; refine (specFlows_any _ _ _ _ _).mono ?_; rintro e w' ⟨rfl, hb⟩; have hS := keep6 (by assumption) hb))
            all_goals first | (exfalso; rename_i h; simp [hself] at h; done) | skip
            all_goals
              go_ret
              exact ⟨rfl, hS.2.2.2.2.2.2.2⟩
    · have h1 : decide ((1048576 : Int) < (len0 : Int)) = false := by simp; omega
      have h2 : decide ((1048576 : Int) < (len1 : Int)) = true := by simp; omega
      clear w0 w1
      go_enter Try.func3, Try.ntmps3
      go_wp2
      go_ret
      exact ⟨rfl, Below.refl _ _⟩
  · have h1 : decide ((1048576 : Int) < (len0 : Int)) = true := by simp; omega
    clear w0 w1
    go_enter Try.func3, Try.ntmps3
    go_wp2
    go_ret
    exact ⟨rfl, Below.refl _ _⟩
theorem own : ownKnob Try.prog.godebug = none := by kernel_rfl
theorem laidOut : laidOutB Try.prog = true := by kernel_rfl
set_option maxRecDepth 100000 in
theorem lifted (os : Os) (started : os.Started) (H : Type) (enc : TypeId × Value → H) :
    ReturnsInHanded {} Try.checked os 3 .any (Rows.fnLblOrderSpec.pre6 enc Try.prog Try.f3 Rows.fnLblOrderRow.domain false) (Rows.fnLblOrderSpec.post enc Try.prog Try.f3 false true false false) := by
  refine returnsInHanded_of_change (C := Try.checked) own started (by kernel_rfl) Try.func3
    (ChangeSpec.witness6 (enc := enc) (C := Try.checked) false ⟨#[], #[.slice none 0 0, .slice none 0 0], []⟩ 8 (by kernel_rfl) (by kernel_rfl) (by kernel_rfl) (by kernel_rfl)) ?_
  intro W base args ds gs before hval0 hW hcnd _
  have hval : ∀ (j : Nat) t v, Try.f3.params[j]? = some t → args[j]? = some v → Value.okWide Try.prog W .any base t v := hval0
  have hW' := hW
  obtain ⟨p, q, hA0, hV, rfl, hfz, hnd⟩ := hW
  have hA : DataW.TrodAll enc Try.prog W 0 (fun _ => true) true Try.f3.params.toList args.toList ds p := hA0
  rw [Try.params3] at hA hval
  obtain ⟨v0, vs0, d0, ds0, p0, q0, hargs, rfl, rfl, h0, r0⟩ := trodAll_cons hA
  obtain ⟨v1, vs1, d1, ds1, p1, q1, rfl, rfl, rfl, h1, r1⟩ := trodAll_cons r0
  obtain ⟨rfl, rfl, rfl⟩ := trodAll_nil r1
  obtain rfl : args = #[v0, v1] := by cases args; simp_all
  obtain ⟨rfl, rfl⟩ := trodVars_none hV
  obtain ⟨a0, len0, cap0, rfl⟩ := okWide_slice Try.underlying22 (hval 0 22 v0 rfl rfl)
  have k0 := h0
  have lt0 : ∀ x ∈ p0, x.block < W.heap.size := by obtain ⟨m, hm⟩ := k0; exact DataW.trod_lt m _ _ _ hm
  obtain ⟨z0, w0⟩ : ∃ zs, IsRow .u8 W a0 len0 cap0 zs := by
    obtain ⟨fuel, hf⟩ := h0
    rcases open_ints Try.underlying22 Try.underlying5 (by kernel_rfl) hf with ⟨hcs, _⟩ | ⟨x, l, c, zs, hcs, _, hl, hm, hz, _, hcell, hwz⟩
    · simp [Value.cells] at hcs
      obtain ⟨rfl, rfl, rfl⟩ := hcs
      exact ⟨[], .inl ⟨rfl, rfl, rfl, rfl⟩⟩
    · simp [Value.cells] at hcs
      obtain ⟨rfl, rfl, rfl⟩ := hcs
      exact ⟨zs, .inr ⟨_, rfl, hl, hm, by simpa using hz, hcell, hwz⟩⟩
  obtain ⟨a1, len1, cap1, rfl⟩ := okWide_slice Try.underlying22 (hval 1 22 v1 rfl rfl)
  have k1 := h1
  have lt1 : ∀ x ∈ p1, x.block < W.heap.size := by obtain ⟨m, hm⟩ := k1; exact DataW.trod_lt m _ _ _ hm
  obtain ⟨z1, w1⟩ : ∃ zs, IsRow .u8 W a1 len1 cap1 zs := by
    obtain ⟨fuel, hf⟩ := h1
    rcases open_ints Try.underlying22 Try.underlying5 (by kernel_rfl) hf with ⟨hcs, _⟩ | ⟨x, l, c, zs, hcs, _, hl, hm, hz, _, hcell, hwz⟩
    · simp [Value.cells] at hcs
      obtain ⟨rfl, rfl, rfl⟩ := hcs
      exact ⟨[], .inl ⟨rfl, rfl, rfl, rfl⟩⟩
    · simp [Value.cells] at hcs
      obtain ⟨rfl, rfl, rfl⟩ := hcs
      exact ⟨zs, .inr ⟨_, rfl, hl, hm, by simpa using hz, hcell, hwz⟩⟩
  clear hA0 hval0
  refine (walk a0 len0 cap0 z0 a1 len1 cap1 z1 W w0 w1).mono fun e W' ⟨he, bel⟩ => ?_
  subst he
  exact ⟨_, rfl, _, _, _, [], _, [], hW', trodAll_mk1 (shut_bool Try.underlying4 _), (trodAll_cons_mk (Below.trod laidOut (by kernel_rfl) (of_decide_eq_true (by kernel_rfl)) k0 bel lt0) (trodAll_cons_mk (Below.trod laidOut (by kernel_rfl) (of_decide_eq_true (by kernel_rfl)) k1 bel lt1) trodAll_mk0)), rfl, bel.frame _, fun h => by cases h⟩

theorem over : Rows.fnLblOrderRow.holds Try.pinned (OpenSpec.ofChange Rows.fnLblOrderSpec) :=
  OpenClaim.holds_of_wide 3 Try.f3 rfl rfl rfl rfl rfl rfl rfl ⟨rfl, rfl, rfl, rfl, rfl⟩ rfl rfl rfl rfl rfl (by kernel_rfl) Try.func3 (by kernel_rfl)
    (of_decide_eq_true (by kernel_rfl)) (by unfold Func.isWrapper; first | (rw [if_pos (by decide +kernel)]; kernel_rfl) | (rw [if_neg (by decide +kernel)]; exact ⟨rfl, rfl⟩))
    (fun os started H enc _ => lifted os started H enc)

end Go.Proofs.Ythimdlcbcipfbaa.fnLblOrder
namespace Go.Proofs.Ythimdlcbcipfbaa
theorem fnLblOrder_holds : Rows.FnLblOrderSaid := fnLblOrder.over
#print axioms fnLblOrder_holds
end Go.Proofs.Ythimdlcbcipfbaa
