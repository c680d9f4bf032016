/- HrdHear: the contract of the specification's. Conditions: the lists read as ints. -/
import Derived.Test.YtioikijheilliaaHrdHearC
import Derived.Test.YtioikijheilliaaHrdCopy
namespace Go.Proofs.Ytioikijheilliaa
open Go.ChangeShapes Go.WideShapes Go.ChangeAt Go.RowKit Go.Joins Go.Deep
set_option linter.unusedVariables false
set_option linter.unusedSimpArgs false
set_option maxRecDepth 4000
theorem res_specHear {W : World} {b : Nat} {x0 x1 y : Value} (tmps : Array Value) (ht : tmps[8]?.getD undef = .pointer (some ⟨b, 0, none⟩)) (h0 : W.cell? ⟨b, 0, none⟩ = some x0) (h1 : W.cell? ⟨b, 1, none⟩ = some x1) (h2 : tmps[9]?.getD undef = y) :
    (results Try.f36 tmps).run Try.prog W = .ok (.tuple #[.agg #[x0, x1], y]) W := by
  simp [results, Try.results36, go_sem, ht, h0, h1, h2]
set_option maxHeartbeats 8000000 in
theorem specHear_any (u v : Value) (n m : Nat) (xs ys : List Int) (node boot seq : Int) (w : World) (hu : RdI 1 w u n xs) (hv : RdI 1 w v m ys) :
    Calls Try.prog 36 #[.agg #[u, v], .int .i64 node, .int .i64 boot, .int .i64 seq] w fun e w' => ∃ u v, e = .returned (.tuple #[.agg #[u, v], .int .i64 (hC n xs m ys node boot seq)]) ∧ OwnI 3 1 w' w.heap.size u (hK n xs m ys node boot seq) (hX n xs m ys node boot seq) ∧ OwnI 3 1 w' w.heap.size v (hK n xs m ys node boot seq) (hY n xs m ys node boot seq) ∧ (∀ j, u.ownBlock = some j → v.ownBlock ≠ some j) ∧ Below w.heap.size w w' := by
  have RX0 := hid hu
  have RY0 := hid hv
  obtain ⟨h1, h2, a1, c1, rfl, h3⟩ := hu
  obtain ⟨k1, k2, a2, c2, rfl, k3⟩ := hv
  rw [Nat.mul_one] at h1 k1
  have P0 := hid (((Below.refl w.heap.size w).alloc (Nat.le_refl _) (.cells #[.slice a1 n c1, .slice a2 m c2] 44)).alloc (by simp) (.cells #[.slice none 0 0, .slice none 0 0] 44))
  have RX := hid (RX0.out.keep P0.out)
  have RY := hid (RY0.out.keep P0.out)
  have VA := hid ((vb_new w [.slice a1 n c1, .slice a2 m c2] 44).keep (below_alloc1 _ (.cells #[.slice none 0 0, .slice none 0 0] 44)))
  have VR : Hid (VB ((w.alloc (.cells #[.slice a1 n c1, .slice a2 m c2] 44)).alloc (.cells #[.slice none 0 0, .slice none 0 0] 44)) (w.heap.size + 1) [.slice none 0 0, .slice none 0 0]) := hid (by have := vb_new (w.alloc (.cells #[.slice a1 n c1, .slice a2 m c2] 44)) [.slice none 0 0, .slice none 0 0] 44; simpa using this)
  have z0 : ((w.alloc (.cells #[.slice a1 n c1, .slice a2 m c2] 44)).alloc (.cells #[.slice none 0 0, .slice none 0 0] 44)).heap.size = w.heap.size + 1 + 1 := by simp
  have Z0 := hid z0
  have q1 : IntKind.i64.wrap ((n : Int) - 1) = (n : Int) - 1 := by rw [IntKind.wrap_i64]; omega
  clear h3 k3 z0
  cases c0 : bookB n xs m ys
  · obtain ⟨e1, e2, e3, e4⟩ := h_no (show hOk n xs m ys node boot seq = false by simp [hOk, c0])
    rw [e1, e2, e3, e4]
    clear e1 e2 e3 e4
    go_enter Try.func36, Try.ntmps36
    go_wp2_with ((first | (go_at_call 49; refine (specHrdOk_any _ _ n m xs ys _ RX.out RY.out).mono ?_; rintro e w1 ⟨rfl, hb⟩; have VA1 := hid (VA.out.keep hb); have VR1 := hid (VR.out.keep hb); have P1 := hid (P0.out.trans (hb.mono P0.out.size)); have z1 := hb.size; clear hb; obtain ⟨a0, a1⟩ := vb2 VA1.out; obtain ⟨r0, r1⟩ := vb2 VR1.out; have fr := VR1.out.2.1) | (go_at_call 56; refine (l1In_any _ _ _ _).mono ?_; rintro e w' ⟨rfl, rfl⟩)))
    obtain ⟨k0, k1⟩ := vb2 (vbset2 (.slice none 0 0) (.slice none 0 0) VR1.out)
    refine bodyPost_ret (v := .tuple #[.agg #[.slice none 0 0, .slice none 0 0], .int .i64 0]) (res_specHear _ rfl k0 k1 rfl) rfl ?_
    exact ⟨_, _, rfl, ownI_nil _, ownI_nil _, by simp [Value.ownBlock], by have := P1.out; (repeat' (first | exact Below.refl _ _ | assumption | exact Nat.le_refl _ | (refine Below.alloc ?_ ?_ _) | (refine Below.drew ?_) | (refine Below.setCell ?_ ?_ _) | (refine Below.trans ?_ (Below.mono (by assumption) ?_)) | (simp; done) | (simp; omega) | omega))⟩
  cases c1 : inB node 0 ((n : Int) - 1)
  · obtain ⟨e1, e2, e3, e4⟩ := h_no (show hOk n xs m ys node boot seq = false by simp [hOk, c0, c1])
    rw [e1, e2, e3, e4]
    clear e1 e2 e3 e4
    go_enter Try.func36, Try.ntmps36
    go_wp2_with ((first | (go_at_call 49; refine (specHrdOk_any _ _ n m xs ys _ RX.out RY.out).mono ?_; rintro e w1 ⟨rfl, hb⟩; have VA1 := hid (VA.out.keep hb); have VR1 := hid (VR.out.keep hb); have P1 := hid (P0.out.trans (hb.mono P0.out.size)); have z1 := hb.size; clear hb; obtain ⟨a0, a1⟩ := vb2 VA1.out; obtain ⟨r0, r1⟩ := vb2 VR1.out; have fr := VR1.out.2.1) | (go_at_call 56; refine (l1In_any _ _ _ _).mono ?_; rintro e w' ⟨rfl, rfl⟩)))
    obtain ⟨k0, k1⟩ := vb2 (vbset2 (.slice none 0 0) (.slice none 0 0) VR1.out)
    refine bodyPost_ret (v := .tuple #[.agg #[.slice none 0 0, .slice none 0 0], .int .i64 0]) (res_specHear _ rfl k0 k1 rfl) rfl ?_
    exact ⟨_, _, rfl, ownI_nil _, ownI_nil _, by simp [Value.ownBlock], by have := P1.out; (repeat' (first | exact Below.refl _ _ | assumption | exact Nat.le_refl _ | (refine Below.alloc ?_ ?_ _) | (refine Below.drew ?_) | (refine Below.setCell ?_ ?_ _) | (refine Below.trans ?_ (Below.mono (by assumption) ?_)) | (simp; done) | (simp; omega) | omega))⟩
  cases c2 : inB boot 1 60000
  · obtain ⟨e1, e2, e3, e4⟩ := h_no (show hOk n xs m ys node boot seq = false by simp [hOk, c0, c1, c2])
    rw [e1, e2, e3, e4]
    clear e1 e2 e3 e4
    go_enter Try.func36, Try.ntmps36
    go_wp2_with ((first | (go_at_call 49; refine (specHrdOk_any _ _ n m xs ys _ RX.out RY.out).mono ?_; rintro e w1 ⟨rfl, hb⟩; have VA1 := hid (VA.out.keep hb); have VR1 := hid (VR.out.keep hb); have P1 := hid (P0.out.trans (hb.mono P0.out.size)); have z1 := hb.size; clear hb; obtain ⟨a0, a1⟩ := vb2 VA1.out; obtain ⟨r0, r1⟩ := vb2 VR1.out; have fr := VR1.out.2.1) | (go_at_call 56; refine (l1In_any _ _ _ _).mono ?_; rintro e w' ⟨rfl, rfl⟩)))
    obtain ⟨k0, k1⟩ := vb2 (vbset2 (.slice none 0 0) (.slice none 0 0) VR1.out)
    refine bodyPost_ret (v := .tuple #[.agg #[.slice none 0 0, .slice none 0 0], .int .i64 0]) (res_specHear _ rfl k0 k1 rfl) rfl ?_
    exact ⟨_, _, rfl, ownI_nil _, ownI_nil _, by simp [Value.ownBlock], by have := P1.out; (repeat' (first | exact Below.refl _ _ | assumption | exact Nat.le_refl _ | (refine Below.alloc ?_ ?_ _) | (refine Below.drew ?_) | (refine Below.setCell ?_ ?_ _) | (refine Below.trans ?_ (Below.mono (by assumption) ?_)) | (simp; done) | (simp; omega) | omega))⟩
  cases c3 : inB seq 0 60000
  · obtain ⟨e1, e2, e3, e4⟩ := h_no (show hOk n xs m ys node boot seq = false by simp [hOk, c0, c1, c2, c3])
    rw [e1, e2, e3, e4]
    clear e1 e2 e3 e4
    go_enter Try.func36, Try.ntmps36
    go_wp2_with ((first | (go_at_call 49; refine (specHrdOk_any _ _ n m xs ys _ RX.out RY.out).mono ?_; rintro e w1 ⟨rfl, hb⟩; have VA1 := hid (VA.out.keep hb); have VR1 := hid (VR.out.keep hb); have P1 := hid (P0.out.trans (hb.mono P0.out.size)); have z1 := hb.size; clear hb; obtain ⟨a0, a1⟩ := vb2 VA1.out; obtain ⟨r0, r1⟩ := vb2 VR1.out; have fr := VR1.out.2.1) | (go_at_call 56; refine (l1In_any _ _ _ _).mono ?_; rintro e w' ⟨rfl, rfl⟩)))
    obtain ⟨k0, k1⟩ := vb2 (vbset2 (.slice none 0 0) (.slice none 0 0) VR1.out)
    refine bodyPost_ret (v := .tuple #[.agg #[.slice none 0 0, .slice none 0 0], .int .i64 0]) (res_specHear _ rfl k0 k1 rfl) rfl ?_
    exact ⟨_, _, rfl, ownI_nil _, ownI_nil _, by simp [Value.ownBlock], by have := P1.out; (repeat' (first | exact Below.refl _ _ | assumption | exact Nat.le_refl _ | (refine Below.alloc ?_ ?_ _) | (refine Below.drew ?_) | (refine Below.setCell ?_ ?_ _) | (refine Below.trans ?_ (Below.mono (by assumption) ?_)) | (simp; done) | (simp; omega) | omega))⟩
  have HO := hid (show hOk n xs m ys node boot seq = true by simp [hOk, c0, c1, c2, c3])
  obtain ⟨⟨n1, n4⟩, rfl, bx, bY⟩ := book_at h1 k1 c0
  obtain ⟨j0, j9⟩ : 0 ≤ node ∧ node ≤ (m : Int) - 1 := by simpa [inB] using c1
  obtain ⟨b0, b9⟩ : 1 ≤ boot ∧ boot ≤ 60000 := by simpa [inB] using c2
  obtain ⟨s0, s9⟩ : 0 ≤ seq ∧ seq ≤ 60000 := by simpa [inB] using c3
  obtain ⟨j, rfl⟩ := Int.eq_ofNat_of_zero_le j0
  have hj : j < m := by omega
  have HKK := hid (show hK m xs m ys (j : Int) boot seq = m by simp [hK, HO.out])
  have HCC := hid (show hC m xs m ys (j : Int) boot seq = cdH (xs.getD j 0) (ys.getD j 0) boot seq by simp [hC, HO.out])
  clear bx bY
  go_enter Try.func36, Try.ntmps36
  go_wp2_with ((first | (go_at_call 49; refine (specHrdOk_any _ _ m m xs ys _ RX.out RY.out).mono ?_; rintro e w1 ⟨rfl, hb⟩; have VA1 := hid (VA.out.keep hb); have VR1 := hid (VR.out.keep hb); have P1 := hid (P0.out.trans (hb.mono P0.out.size)); have z1 := hb.size; clear hb; obtain ⟨a0, a1⟩ := vb2 VA1.out; obtain ⟨r0, r1⟩ := vb2 VR1.out; have fr := VR1.out.2.1) | (go_at_call 56; refine (l1In_any _ _ _ _).mono ?_; rintro e w' ⟨rfl, rfl⟩)))
  refine (copyBook_any _ _ m xs ys _ (RX0.out.keep P1.out) (RY0.out.keep P1.out) (by omega) n4).mono ?_
  rintro e w2 ⟨u', v', rfl, p2, t2, ap, b2⟩
  obtain ⟨au, cu, rfl, hgu⟩ := ownI_form p2
  obtain ⟨av, cv, rfl, hgv⟩ := ownI_form t2
  rcases hgu with hgu | ⟨gu, rfl⟩
  · omega
  rcases hgv with hgv | ⟨gv, rfl⟩
  · omega
  have hlx : xs.length = m := h1
  have hly : ys.length = m := k1
  have lR := VR1.out.2.2
  have gub := p2.blk gu rfl
  have gvb := t2.blk gv rfl
  have guv : ¬ gu = gv := fun e => ap gu rfl (by simp [Value.ownBlock, e])
  have AP := hid ap
  have VR := hid ((VR1.out.keep b2).keep (below_alloc1 w2 (.cells #[.slice (some ⟨gu, 0, none⟩) m cu, .slice (some ⟨gv, 0, none⟩) m cv] 44)))
  have VX := hid (vb_new w2 [.slice (some ⟨gu, 0, none⟩) m cu, .slice (some ⟨gv, 0, none⟩) m cv] 44)
  have PU := hid (p2.keep (below_alloc1 w2 (.cells #[.slice (some ⟨gu, 0, none⟩) m cu, .slice (some ⟨gv, 0, none⟩) m cv] 44)))
  have PV := hid (t2.keep (below_alloc1 w2 (.cells #[.slice (some ⟨gu, 0, none⟩) m cu, .slice (some ⟨gv, 0, none⟩) m cv] 44)))
  have P := hid ((P1.out.trans (b2.mono P1.out.size)).alloc (P1.out.trans (b2.mono P1.out.size)).size (.cells #[.slice (some ⟨gu, 0, none⟩) m cu, .slice (some ⟨gv, 0, none⟩) m cv] 44))
  have lW : (w2.alloc (.cells #[.slice (some ⟨gu, 0, none⟩) m cu, .slice (some ⟨gv, 0, none⟩) m cv] 44)).heap.size = w2.heap.size + 1 := by simp
  have LW := hid lW
  have z2 := b2.size
  obtain ⟨hcu, _, _, _⟩ := ownI_cell PU.out (i := j) (by omega)
  obtain ⟨hcv, _, _, _⟩ := ownI_cell PV.out (i := j) (by omega)
  clear p2 t2 ap b2 a0 a1 r0 r1 fr VA1 VR1 RX RY VA P1 lW
  have lW : w2.heap.size ≤ (w2.alloc (.cells #[.slice (some ⟨gu, 0, none⟩) m cu, .slice (some ⟨gv, 0, none⟩) m cv] 44)).heap.size := by rw [LW.out]; omega
  clear LW
  obtain ⟨x, hx⟩ : ∃ x, xs.getD j 0 = x := ⟨_, rfl⟩
  obtain ⟨y, hy⟩ : ∃ y, ys.getD j 0 = y := ⟨_, rfl⟩
  rw [hx] at hcu
  rw [hy] at hcv
  by_cases d1 : x < boot
  · have hcd : cdH (xs.getD j 0) (ys.getD j 0) boot seq = 1 := by rw [hx, hy]; simp [cdH, d1]
    have HC := hid (HCC.out.trans hcd)
    have HXX := hid (show hX m xs m ys (j : Int) boot seq = xs.set j boot by simp [hX, HO.out, HC.out])
    have HYY := hid (show hY m xs m ys (j : Int) boot seq = ys.set j seq by simp [hY, HO.out, HC.out])
    clear hcd hx hy
    go_upto_region 10 with fail
    obtain ⟨W3, hW3⟩ : ∃ W3, w2.alloc (.cells #[.slice (some ⟨gu, 0, none⟩) m cu, .slice (some ⟨gv, 0, none⟩) m cv] 44) = W3 := ⟨_, rfl⟩
    rw [hW3] at VX VR PU PV P lW hcu hcv ⊢
    clear hW3 hcu hcv
    obtain ⟨x0c, x1c⟩ := vb2 VX.out
    obtain ⟨uc, uf, _, _⟩ := ownI_cell PU.out (i := j) (by omega)
    go_upto_region 11 with fail
    have PUa := hid (ownI_set PU.out (i := j) (y := boot) (by omega))
    have Ca := hid ((Chg.refl (fun i => i = gu) W3).set (p := ⟨gu, j, none⟩) rfl (.int .i64 boot))
    have PVa := hid (PV.out.chg Ca.out (fun i hi he => by have he : i = gu := he; simp [Value.ownBlock] at hi; omega))
    have VXa := hid (VX.out.off (c := gu) (i := j) (v := .int .i64 boot) (by omega))
    have VRa := hid (VR.out.off (c := gu) (i := j) (v := .int .i64 boot) (by omega))
    have Pa := hid (below_chg P.out Ca.out (by have := P.out.size; omega) (fun i hi => by have hi : i = gu := hi; omega))
    obtain ⟨W4, hW4⟩ : ∃ W4, W3.setCell ⟨gu, j, none⟩ (.int .i64 boot) = W4 := ⟨_, rfl⟩
    rw [hW4] at PUa PVa VXa VRa Pa ⊢
    clear hW4 x0c x1c uc uf Ca
    obtain ⟨x0c, x1c⟩ := vb2 VXa.out
    obtain ⟨uc, uf, _, _⟩ := ownI_cell PVa.out (i := j) (by omega)
    go_upto_region 12 with fail
    have PVb := hid (ownI_set PVa.out (i := j) (y := seq) (by omega))
    have Cb := hid ((Chg.refl (fun i => i = gv) W4).set (p := ⟨gv, j, none⟩) rfl (.int .i64 seq))
    have PUb := hid (PUa.out.chg Cb.out (fun i hi he => by have he : i = gv := he; simp [Value.ownBlock] at hi; omega))
    have VXb := hid (VXa.out.off (c := gv) (i := j) (v := .int .i64 seq) (by omega))
    have VRb := hid (VRa.out.off (c := gv) (i := j) (v := .int .i64 seq) (by omega))
    have Pb := hid (below_chg Pa.out Cb.out (by have := Pa.out.size; omega) (fun i hi => by have hi : i = gv := hi; omega))
    obtain ⟨W5, hW5⟩ : ∃ W5, W4.setCell ⟨gv, j, none⟩ (.int .i64 seq) = W5 := ⟨_, rfl⟩
    rw [hW5] at PUb PVb VXb VRb Pb ⊢
    clear hW5 x0c x1c uc uf Cb
    obtain ⟨x0c, x1c⟩ := vb2 VXb.out
    obtain ⟨r0, r1⟩ := vb2 VRb.out
    have fr := VRb.out.2.1
    have CG := hid (vbchg2 (S := fun j => j = w.heap.size + 1) (w := W5) (b := w.heap.size + 1) (.slice (some ⟨gu, 0, none⟩) m cu) (.slice (some ⟨gv, 0, none⟩) m cv) rfl)
    go_wp2_with fail
    obtain ⟨t0, t1⟩ := vb2 (vbset2 (.slice (some ⟨gu, 0, none⟩) m cu) (.slice (some ⟨gv, 0, none⟩) m cv) VRb.out)
    refine bodyPost_ret (v := .tuple #[.agg #[.slice (some ⟨gu, 0, none⟩) m cu, .slice (some ⟨gv, 0, none⟩) m cv], .int .i64 1]) (res_specHear _ rfl t0 t1 rfl) rfl ?_
    rw [HC.out, HKK.out, HXX.out, HYY.out]
    refine ⟨_, _, rfl, (PUb.out.chg CG.out ?_).low (by omega), (PVb.out.chg CG.out ?_).low (by omega), AP.out, below_chg Pb.out CG.out (by have := Pb.out.size; omega) (fun j hj => by have hj : j = w.heap.size + 1 := hj; omega)⟩
    · intro j hj he
      have he : j = w.heap.size + 1 := he
      have := (PUb.out.blk j hj).1
      omega
    · intro j hj he
      have he : j = w.heap.size + 1 := he
      have := (PVb.out.blk j hj).1
      omega
  have e1 : decide (x < boot) = false := by simpa using d1
  by_cases d2 : boot = x
  · subst d2
    by_cases d3 : y < seq
    · have hcd : cdH (xs.getD j 0) (ys.getD j 0) boot seq = 2 := by rw [hx, hy]; simp [cdH, d3]
      have HC := hid (HCC.out.trans hcd)
      have HXX := hid (show hX m xs m ys (j : Int) boot seq = xs.set j boot by simp [hX, HO.out, HC.out])
      have HYY := hid (show hY m xs m ys (j : Int) boot seq = ys.set j seq by simp [hY, HO.out, HC.out])
      clear hcd hx hy
      have e3 : decide (y < seq) = true := by simpa using d3
      go_upto_region 10 with fail
      obtain ⟨W3, hW3⟩ : ∃ W3, w2.alloc (.cells #[.slice (some ⟨gu, 0, none⟩) m cu, .slice (some ⟨gv, 0, none⟩) m cv] 44) = W3 := ⟨_, rfl⟩
      rw [hW3] at VX VR PU PV P lW hcu hcv ⊢
      clear hW3 hcu hcv
      obtain ⟨x0c, x1c⟩ := vb2 VX.out
      obtain ⟨uc, uf, _, _⟩ := ownI_cell PU.out (i := j) (by omega)
      go_upto_region 11 with fail
      have PUa := hid (ownI_set PU.out (i := j) (y := boot) (by omega))
      have Ca := hid ((Chg.refl (fun i => i = gu) W3).set (p := ⟨gu, j, none⟩) rfl (.int .i64 boot))
      have PVa := hid (PV.out.chg Ca.out (fun i hi he => by have he : i = gu := he; simp [Value.ownBlock] at hi; omega))
      have VXa := hid (VX.out.off (c := gu) (i := j) (v := .int .i64 boot) (by omega))
      have VRa := hid (VR.out.off (c := gu) (i := j) (v := .int .i64 boot) (by omega))
      have Pa := hid (below_chg P.out Ca.out (by have := P.out.size; omega) (fun i hi => by have hi : i = gu := hi; omega))
      obtain ⟨W4, hW4⟩ : ∃ W4, W3.setCell ⟨gu, j, none⟩ (.int .i64 boot) = W4 := ⟨_, rfl⟩
      rw [hW4] at PUa PVa VXa VRa Pa ⊢
      clear hW4 x0c x1c uc uf Ca
      obtain ⟨x0c, x1c⟩ := vb2 VXa.out
      obtain ⟨uc, uf, _, _⟩ := ownI_cell PVa.out (i := j) (by omega)
      go_upto_region 12 with fail
      have PVb := hid (ownI_set PVa.out (i := j) (y := seq) (by omega))
      have Cb := hid ((Chg.refl (fun i => i = gv) W4).set (p := ⟨gv, j, none⟩) rfl (.int .i64 seq))
      have PUb := hid (PUa.out.chg Cb.out (fun i hi he => by have he : i = gv := he; simp [Value.ownBlock] at hi; omega))
      have VXb := hid (VXa.out.off (c := gv) (i := j) (v := .int .i64 seq) (by omega))
      have VRb := hid (VRa.out.off (c := gv) (i := j) (v := .int .i64 seq) (by omega))
      have Pb := hid (below_chg Pa.out Cb.out (by have := Pa.out.size; omega) (fun i hi => by have hi : i = gv := hi; omega))
      obtain ⟨W5, hW5⟩ : ∃ W5, W4.setCell ⟨gv, j, none⟩ (.int .i64 seq) = W5 := ⟨_, rfl⟩
      rw [hW5] at PUb PVb VXb VRb Pb ⊢
      clear hW5 x0c x1c uc uf Cb
      obtain ⟨x0c, x1c⟩ := vb2 VXb.out
      obtain ⟨r0, r1⟩ := vb2 VRb.out
      have fr := VRb.out.2.1
      have CG := hid (vbchg2 (S := fun j => j = w.heap.size + 1) (w := W5) (b := w.heap.size + 1) (.slice (some ⟨gu, 0, none⟩) m cu) (.slice (some ⟨gv, 0, none⟩) m cv) rfl)
      go_wp2_with fail
      obtain ⟨t0, t1⟩ := vb2 (vbset2 (.slice (some ⟨gu, 0, none⟩) m cu) (.slice (some ⟨gv, 0, none⟩) m cv) VRb.out)
      refine bodyPost_ret (v := .tuple #[.agg #[.slice (some ⟨gu, 0, none⟩) m cu, .slice (some ⟨gv, 0, none⟩) m cv], .int .i64 2]) (res_specHear _ rfl t0 t1 rfl) rfl ?_
      rw [HC.out, HKK.out, HXX.out, HYY.out]
      refine ⟨_, _, rfl, (PUb.out.chg CG.out ?_).low (by omega), (PVb.out.chg CG.out ?_).low (by omega), AP.out, below_chg Pb.out CG.out (by have := Pb.out.size; omega) (fun j hj => by have hj : j = w.heap.size + 1 := hj; omega)⟩
      · intro j hj he
        have he : j = w.heap.size + 1 := he
        have := (PUb.out.blk j hj).1
        omega
      · intro j hj he
        have he : j = w.heap.size + 1 := he
        have := (PVb.out.blk j hj).1
        omega
    · have hcd : cdH (xs.getD j 0) (ys.getD j 0) boot seq = 3 := by rw [hx, hy]; simp [cdH, d3]
      have HC := hid (HCC.out.trans hcd)
      have HXX := hid (show hX m xs m ys (j : Int) boot seq = xs by simp [hX, HO.out, HC.out])
      have HYY := hid (show hY m xs m ys (j : Int) boot seq = ys by simp [hY, HO.out, HC.out])
      clear hcd hx hy
      have e3 : decide (y < seq) = false := by simpa using d3
      go_upto_region 12 with fail
      obtain ⟨W3, hW3⟩ : ∃ W3, w2.alloc (.cells #[.slice (some ⟨gu, 0, none⟩) m cu, .slice (some ⟨gv, 0, none⟩) m cv] 44) = W3 := ⟨_, rfl⟩
      rw [hW3] at VX VR PU PV P lW hcu hcv ⊢
      clear hW3 hcu hcv
      obtain ⟨x0c, x1c⟩ := vb2 VX.out
      obtain ⟨r0, r1⟩ := vb2 VR.out
      have fr := VR.out.2.1
      have CG := hid (vbchg2 (S := fun j => j = w.heap.size + 1) (w := W3) (b := w.heap.size + 1) (.slice (some ⟨gu, 0, none⟩) m cu) (.slice (some ⟨gv, 0, none⟩) m cv) rfl)
      go_wp2_with fail
      obtain ⟨t0, t1⟩ := vb2 (vbset2 (.slice (some ⟨gu, 0, none⟩) m cu) (.slice (some ⟨gv, 0, none⟩) m cv) VR.out)
      refine bodyPost_ret (v := .tuple #[.agg #[.slice (some ⟨gu, 0, none⟩) m cu, .slice (some ⟨gv, 0, none⟩) m cv], .int .i64 3]) (res_specHear _ rfl t0 t1 rfl) rfl ?_
      rw [HC.out, HKK.out, HXX.out, HYY.out]
      refine ⟨_, _, rfl, (PU.out.chg CG.out ?_).low (by omega), (PV.out.chg CG.out ?_).low (by omega), AP.out, below_chg P.out CG.out (by have := P.out.size; omega) (fun j hj => by have hj : j = w.heap.size + 1 := hj; omega)⟩
      · intro j hj he
        have he : j = w.heap.size + 1 := he
        have := (PU.out.blk j hj).1
        omega
      · intro j hj he
        have he : j = w.heap.size + 1 := he
        have := (PV.out.blk j hj).1
        omega
  · have hcd : cdH (xs.getD j 0) (ys.getD j 0) boot seq = 3 := by rw [hx, hy]; simp [cdH, d1, d2]
    have HC := hid (HCC.out.trans hcd)
    have HXX := hid (show hX m xs m ys (j : Int) boot seq = xs by simp [hX, HO.out, HC.out])
    have HYY := hid (show hY m xs m ys (j : Int) boot seq = ys by simp [hY, HO.out, HC.out])
    clear hcd hx hy
    have e2 : (boot == x) = false := by simpa using d2
    go_upto_region 12 with fail
    obtain ⟨W3, hW3⟩ : ∃ W3, w2.alloc (.cells #[.slice (some ⟨gu, 0, none⟩) m cu, .slice (some ⟨gv, 0, none⟩) m cv] 44) = W3 := ⟨_, rfl⟩
    rw [hW3] at VX VR PU PV P lW hcu hcv ⊢
    clear hW3 hcu hcv
    obtain ⟨x0c, x1c⟩ := vb2 VX.out
    obtain ⟨r0, r1⟩ := vb2 VR.out
    have fr := VR.out.2.1
    have CG := hid (vbchg2 (S := fun j => j = w.heap.size + 1) (w := W3) (b := w.heap.size + 1) (.slice (some ⟨gu, 0, none⟩) m cu) (.slice (some ⟨gv, 0, none⟩) m cv) rfl)
    go_wp2_with fail
    obtain ⟨t0, t1⟩ := vb2 (vbset2 (.slice (some ⟨gu, 0, none⟩) m cu) (.slice (some ⟨gv, 0, none⟩) m cv) VR.out)
    refine bodyPost_ret (v := .tuple #[.agg #[.slice (some ⟨gu, 0, none⟩) m cu, .slice (some ⟨gv, 0, none⟩) m cv], .int .i64 3]) (res_specHear _ rfl t0 t1 rfl) rfl ?_
    rw [HC.out, HKK.out, HXX.out, HYY.out]
    refine ⟨_, _, rfl, (PU.out.chg CG.out ?_).low (by omega), (PV.out.chg CG.out ?_).low (by omega), AP.out, below_chg P.out CG.out (by have := P.out.size; omega) (fun j hj => by have hj : j = w.heap.size + 1 := hj; omega)⟩
    · intro j hj he
      have he : j = w.heap.size + 1 := he
      have := (PU.out.blk j hj).1
      omega
    · intro j hj he
      have he : j = w.heap.size + 1 := he
      have := (PV.out.blk j hj).1
      omega
end Go.Proofs.Ytioikijheilliaa
