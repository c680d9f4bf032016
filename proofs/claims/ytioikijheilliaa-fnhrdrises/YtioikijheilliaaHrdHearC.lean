/- HrdHear: the contract of the program's. Conditions: the lists read as ints. -/
import Derived.Test.YtioikijheilliaaHrdPages
import Derived.Test.YtioikijheilliaaHrdOkC
namespace Go.Proofs.Ytioikijheilliaa
open Go.ChangeShapes Go.WideShapes Go.ChangeAt Go.RowKit Go.Joins Go.Deep
set_option linter.unusedVariables false
set_option linter.unusedSimpArgs false
set_option maxRecDepth 4000

/-- whether a hello is noted at all -/
def hOk (n : Nat) (xs : List Int) (m : Nat) (ys : List Int) (node boot seq : Int) : Bool := bookB n xs m ys && (inB node 0 ((n : Int) - 1) && (inB boot 1 60000 && inB seq 0 60000))
def hC (n : Nat) (xs : List Int) (m : Nat) (ys : List Int) (node boot seq : Int) : Int := if hOk n xs m ys node boot seq then cdH (xs.getD node.toNat 0) (ys.getD node.toNat 0) boot seq else 0
def hK (n : Nat) (xs : List Int) (m : Nat) (ys : List Int) (node boot seq : Int) : Nat := if hOk n xs m ys node boot seq then n else 0
def hX (n : Nat) (xs : List Int) (m : Nat) (ys : List Int) (node boot seq : Int) : List Int := if hOk n xs m ys node boot seq then (if hC n xs m ys node boot seq = 3 then xs else xs.set node.toNat boot) else []
def hY (n : Nat) (xs : List Int) (m : Nat) (ys : List Int) (node boot seq : Int) : List Int := if hOk n xs m ys node boot seq then (if hC n xs m ys node boot seq = 3 then ys else ys.set node.toNat seq) else []
theorem h_no {n : Nat} {xs : List Int} {m : Nat} {ys : List Int} {node boot seq : Int} (h : hOk n xs m ys node boot seq = false) : hC n xs m ys node boot seq = 0 ∧ hK n xs m ys node boot seq = 0 ∧ hX n xs m ys node boot seq = [] ∧ hY n xs m ys node boot seq = [] := by simp [hC, hK, hX, hY, h]
theorem book_at {n m : Nat} {xs ys : List Int} (h1 : xs.length = n) (h2 : ys.length = m) (h : bookB n xs m ys = true) : (1 ≤ n ∧ n ≤ 4) ∧ m = n ∧ (∀ x ∈ xs, 0 ≤ x ∧ x ≤ 60000) ∧ (∀ y ∈ ys, 0 ≤ y ∧ y ≤ 60000) := by
  rw [book_parts h1 h2] at h
  simp only [Bool.and_eq_true, beq_iff_eq, List.all_eq_true] at h
  obtain ⟨ha, hb, hc, hd, _⟩ := h
  refine ⟨by have : (1 : Int) ≤ n ∧ (n : Int) ≤ 4 := by simpa [inB] using ha
             omega, hb, fun x hx => ?_, fun y hy => ?_⟩
  · simpa [inB] using hc x hx
  · simpa [inB] using hd y hy
theorem lsP_pg0 (xs ys : List Int) (n : Nat) (h : xs.length = n) : lsP (pgF xs ys n) 0 n = xs := by
  apply List.ext_getElem
  · simp [lsP, h]
  · intro i a b
    have : i < n := by omega
    simp [lsP, pgF, this, List.getD_eq_getElem?_getD, List.getElem?_eq_getElem b]
theorem lsP_pg1 (xs ys : List Int) (n : Nat) (h : ys.length = n) : lsP (pgF xs ys n) 1 n = ys := by
  apply List.ext_getElem
  · simp [lsP, h]
  · intro i a b
    have : i < n := by omega
    simp [lsP, pgF, this, List.getD_eq_getElem?_getD, List.getElem?_eq_getElem b]
theorem lsP_up0 (xs ys : List Int) (n j : Nat) (b s : Int) (h : xs.length = n) (hj : j < n) : lsP (upP (upP (pgF xs ys n) (j : Int) 0 b) (j : Int) 1 s) 0 n = xs.set j b := by
  apply List.ext_getElem
  · simp [lsP, h]
  · intro i a b'
    have hi : i < n := by simp [lsP] at a; exact a
    by_cases e : i = j
    · subst e; simp [lsP, upP]
    · have e' : ¬ (i : Int) = (j : Int) := by omega
      have hx : i < xs.length := by omega
      simp [lsP, upP, pgF, e', hi, List.getElem_set, Ne.symm e, List.getElem?_eq_getElem hx]
theorem lsP_up1 (xs ys : List Int) (n j : Nat) (b s : Int) (h : ys.length = n) (hj : j < n) : lsP (upP (upP (pgF xs ys n) (j : Int) 0 b) (j : Int) 1 s) 1 n = ys.set j s := by
  apply List.ext_getElem
  · simp [lsP, h]
  · intro i a b'
    have hi : i < n := by simp [lsP] at a; exact a
    by_cases e : i = j
    · subst e; simp [lsP, upP]
    · have e' : ¬ (i : Int) = (j : Int) := by omega
      have hx : i < ys.length := by omega
      simp [lsP, upP, pgF, e', hi, List.getElem_set, Ne.symm e, List.getElem?_eq_getElem hx]
theorem res_hrdHear {W : World} {b : Nat} {x0 x1 y : Value} (tmps : Array Value) (ht : tmps[8]?.getD undef = .pointer (some ⟨b, 0, none⟩)) (h0 : W.cell? ⟨b, 0, none⟩ = some x0) (h1 : W.cell? ⟨b, 1, none⟩ = some x1) (h2 : tmps[9]?.getD undef = y) :
    (results Try.f35 tmps).run Try.prog W = .ok (.tuple #[.agg #[x0, x1], y]) W := by
  simp [results, Try.results35, go_sem, ht, h0, h1, h2]
set_option maxHeartbeats 8000000 in
theorem hrdHear_any (u v : Value) (n m : Nat) (xs ys : List Int) (node boot seq : Int) (w : World) (hu : RdI 1 w u n xs) (hv : RdI 1 w v m ys) :
    Calls Try.prog 35 #[.agg #[u, v], .int .i64 node, .int .i64 boot, .int .i64 seq] w fun e w' => ∃ u v, e = .returned (.tuple #[.agg #[u, v], .int .i64 (hC n xs m ys node boot seq)]) ∧ OwnI 3 1 w' w.heap.size u (hK n xs m ys node boot seq) (hX n xs m ys node boot seq) ∧ OwnI 3 1 w' w.heap.size v (hK n xs m ys node boot seq) (hY n xs m ys node boot seq) ∧ (∀ j, u.ownBlock = some j → v.ownBlock ≠ some j) ∧ Below w.heap.size w w' := by
  have RX0 := hid hu
  have RY0 := hid hv
  obtain ⟨h1, h2, a1, c1, rfl, h3⟩ := hu
  obtain ⟨k1, k2, a2, c2, rfl, k3⟩ := hv
  rw [Nat.mul_one] at h1 k1
  have P0 := hid (((Below.refl w.heap.size w).alloc (Nat.le_refl _) (.cells #[.slice a1 n c1, .slice a2 m c2] 44)).alloc (by simp) (.cells #[.slice none 0 0, .slice none 0 0] 44))
  have RX := hid (RX0.out.keep P0.out)
  have RY := hid (RY0.out.keep P0.out)
  have VA := hid ((vb_new w [.slice a1 n c1, .slice a2 m c2] 44).keep (below_alloc1 _ (.cells #[.slice none 0 0, .slice none 0 0] 44)))
  have VR : Hid (VB ((w.alloc (.cells #[.slice a1 n c1, .slice a2 m c2] 44)).alloc (.cells #[.slice none 0 0, .slice none 0 0] 44)) (w.heap.size + 1) [.slice none 0 0, .slice none 0 0]) := hid (by have := vb_new (w.alloc (.cells #[.slice a1 n c1, .slice a2 m c2] 44)) [.slice none 0 0, .slice none 0 0] 44; simpa using this)
  have z0 : ((w.alloc (.cells #[.slice a1 n c1, .slice a2 m c2] 44)).alloc (.cells #[.slice none 0 0, .slice none 0 0] 44)).heap.size = w.heap.size + 1 + 1 := by simp
  have Z0 := hid z0
  have q1 : IntKind.i64.wrap ((n : Int) - 1) = (n : Int) - 1 := by rw [IntKind.wrap_i64]; omega
  clear h3 k3 z0
  cases c0 : bookB n xs m ys
  · obtain ⟨e1, e2, e3, e4⟩ := h_no (show hOk n xs m ys node boot seq = false by simp [hOk, c0])
    rw [e1, e2, e3, e4]
    clear e1 e2 e3 e4
    go_enter Try.func35, Try.ntmps35
    go_wp2_with ((first | (go_at_call 67; refine (hrdOkm_any _ _ n m xs ys _ RX.out RY.out).mono ?_; rintro e w1 ⟨rfl, hb⟩; have VA1 := hid (VA.out.keep hb); have VR1 := hid (VR.out.keep hb); have P1 := hid (P0.out.trans (hb.mono P0.out.size)); have z1 := hb.size; clear hb; obtain ⟨a0, a1⟩ := vb2 VA1.out; obtain ⟨r0, r1⟩ := vb2 VR1.out; have fr := VR1.out.2.1) | (go_at_call 58; refine (within_any _ _ _ _).mono ?_; rintro e w' ⟨rfl, rfl⟩)))
    obtain ⟨k0, k1⟩ := vb2 (vbset2 (.slice none 0 0) (.slice none 0 0) VR1.out)
    refine bodyPost_ret (v := .tuple #[.agg #[.slice none 0 0, .slice none 0 0], .int .i64 0]) (res_hrdHear _ rfl k0 k1 rfl) rfl ?_
    exact ⟨_, _, rfl, ownI_nil _, ownI_nil _, by simp [Value.ownBlock], by have := P1.out; (repeat' (first | exact Below.refl _ _ | assumption | exact Nat.le_refl _ | (refine Below.alloc ?_ ?_ _) | (refine Below.drew ?_) | (refine Below.setCell ?_ ?_ _) | (refine Below.trans ?_ (Below.mono (by assumption) ?_)) | (simp; done) | (simp; omega) | omega))⟩
  cases c1 : inB node 0 ((n : Int) - 1)
  · obtain ⟨e1, e2, e3, e4⟩ := h_no (show hOk n xs m ys node boot seq = false by simp [hOk, c0, c1])
    rw [e1, e2, e3, e4]
    clear e1 e2 e3 e4
    go_enter Try.func35, Try.ntmps35
    go_wp2_with ((first | (go_at_call 67; refine (hrdOkm_any _ _ n m xs ys _ RX.out RY.out).mono ?_; rintro e w1 ⟨rfl, hb⟩; have VA1 := hid (VA.out.keep hb); have VR1 := hid (VR.out.keep hb); have P1 := hid (P0.out.trans (hb.mono P0.out.size)); have z1 := hb.size; clear hb; obtain ⟨a0, a1⟩ := vb2 VA1.out; obtain ⟨r0, r1⟩ := vb2 VR1.out; have fr := VR1.out.2.1) | (go_at_call 58; refine (within_any _ _ _ _).mono ?_; rintro e w' ⟨rfl, rfl⟩)))
    obtain ⟨k0, k1⟩ := vb2 (vbset2 (.slice none 0 0) (.slice none 0 0) VR1.out)
    refine bodyPost_ret (v := .tuple #[.agg #[.slice none 0 0, .slice none 0 0], .int .i64 0]) (res_hrdHear _ rfl k0 k1 rfl) rfl ?_
    exact ⟨_, _, rfl, ownI_nil _, ownI_nil _, by simp [Value.ownBlock], by have := P1.out; (repeat' (first | exact Below.refl _ _ | assumption | exact Nat.le_refl _ | (refine Below.alloc ?_ ?_ _) | (refine Below.drew ?_) | (refine Below.setCell ?_ ?_ _) | (refine Below.trans ?_ (Below.mono (by assumption) ?_)) | (simp; done) | (simp; omega) | omega))⟩
  cases c2 : inB boot 1 60000
  · obtain ⟨e1, e2, e3, e4⟩ := h_no (show hOk n xs m ys node boot seq = false by simp [hOk, c0, c1, c2])
    rw [e1, e2, e3, e4]
    clear e1 e2 e3 e4
    go_enter Try.func35, Try.ntmps35
    go_wp2_with ((first | (go_at_call 67; refine (hrdOkm_any _ _ n m xs ys _ RX.out RY.out).mono ?_; rintro e w1 ⟨rfl, hb⟩; have VA1 := hid (VA.out.keep hb); have VR1 := hid (VR.out.keep hb); have P1 := hid (P0.out.trans (hb.mono P0.out.size)); have z1 := hb.size; clear hb; obtain ⟨a0, a1⟩ := vb2 VA1.out; obtain ⟨r0, r1⟩ := vb2 VR1.out; have fr := VR1.out.2.1) | (go_at_call 58; refine (within_any _ _ _ _).mono ?_; rintro e w' ⟨rfl, rfl⟩)))
    obtain ⟨k0, k1⟩ := vb2 (vbset2 (.slice none 0 0) (.slice none 0 0) VR1.out)
    refine bodyPost_ret (v := .tuple #[.agg #[.slice none 0 0, .slice none 0 0], .int .i64 0]) (res_hrdHear _ rfl k0 k1 rfl) rfl ?_
    exact ⟨_, _, rfl, ownI_nil _, ownI_nil _, by simp [Value.ownBlock], by have := P1.out; (repeat' (first | exact Below.refl _ _ | assumption | exact Nat.le_refl _ | (refine Below.alloc ?_ ?_ _) | (refine Below.drew ?_) | (refine Below.setCell ?_ ?_ _) | (refine Below.trans ?_ (Below.mono (by assumption) ?_)) | (simp; done) | (simp; omega) | omega))⟩
  cases c3 : inB seq 0 60000
  · obtain ⟨e1, e2, e3, e4⟩ := h_no (show hOk n xs m ys node boot seq = false by simp [hOk, c0, c1, c2, c3])
    rw [e1, e2, e3, e4]
    clear e1 e2 e3 e4
    go_enter Try.func35, Try.ntmps35
    go_wp2_with ((first | (go_at_call 67; refine (hrdOkm_any _ _ n m xs ys _ RX.out RY.out).mono ?_; rintro e w1 ⟨rfl, hb⟩; have VA1 := hid (VA.out.keep hb); have VR1 := hid (VR.out.keep hb); have P1 := hid (P0.out.trans (hb.mono P0.out.size)); have z1 := hb.size; clear hb; obtain ⟨a0, a1⟩ := vb2 VA1.out; obtain ⟨r0, r1⟩ := vb2 VR1.out; have fr := VR1.out.2.1) | (go_at_call 58; refine (within_any _ _ _ _).mono ?_; rintro e w' ⟨rfl, rfl⟩)))
    obtain ⟨k0, k1⟩ := vb2 (vbset2 (.slice none 0 0) (.slice none 0 0) VR1.out)
    refine bodyPost_ret (v := .tuple #[.agg #[.slice none 0 0, .slice none 0 0], .int .i64 0]) (res_hrdHear _ rfl k0 k1 rfl) rfl ?_
    exact ⟨_, _, rfl, ownI_nil _, ownI_nil _, by simp [Value.ownBlock], by have := P1.out; (repeat' (first | exact Below.refl _ _ | assumption | exact Nat.le_refl _ | (refine Below.alloc ?_ ?_ _) | (refine Below.drew ?_) | (refine Below.setCell ?_ ?_ _) | (refine Below.trans ?_ (Below.mono (by assumption) ?_)) | (simp; done) | (simp; omega) | omega))⟩
  have HO := hid (show hOk n xs m ys node boot seq = true by simp [hOk, c0, c1, c2, c3])
  obtain ⟨⟨n1, n4⟩, rfl, bx, bY⟩ := book_at h1 k1 c0
  obtain ⟨j0, j9⟩ : 0 ≤ node ∧ node ≤ (m : Int) - 1 := by simpa [inB] using c1
  obtain ⟨b0, b9⟩ : 1 ≤ boot ∧ boot ≤ 60000 := by simpa [inB] using c2
  obtain ⟨s0, s9⟩ : 0 ≤ seq ∧ seq ≤ 60000 := by simpa [inB] using c3
  obtain ⟨j, rfl⟩ := Int.eq_ofNat_of_zero_le j0
  have hj : j < m := by omega
  have HKK := hid (show hK m xs m ys (j : Int) boot seq = m by simp [hK, HO.out])
  have HCC := hid (show hC m xs m ys (j : Int) boot seq = cdH (xs.getD j 0) (ys.getD j 0) boot seq by simp [hC, HO.out])
  have HF0 := hid (show pgF xs ys m (j : Int) 0 = xs.getD j 0 by simp [pgF, hj])
  have HF1 := hid (show pgF xs ys m (j : Int) 1 = ys.getD j 0 by simp [pgF, hj])
  have BX := hid bx
  have BY := hid bY
  clear bx bY
  go_enter Try.func35, Try.ntmps35
  go_wp2_with ((first | (go_at_call 67; refine (hrdOkm_any _ _ m m xs ys _ RX.out RY.out).mono ?_; rintro e w1 ⟨rfl, hb⟩; have VA1 := hid (VA.out.keep hb); have VR1 := hid (VR.out.keep hb); have P1 := hid (P0.out.trans (hb.mono P0.out.size)); have z1 := hb.size; clear hb; obtain ⟨a0, a1⟩ := vb2 VA1.out; obtain ⟨r0, r1⟩ := vb2 VR1.out; have fr := VR1.out.2.1) | (go_at_call 58; refine (within_any _ _ _ _).mono ?_; rintro e w' ⟨rfl, rfl⟩)))
  refine (pages_any _ _ m xs ys _ (RX0.out.keep P1.out) (RY0.out.keep P1.out) n4 BX.out BY.out).mono ?_
  rintro e w2 ⟨N, rfl, hN, pg, b2⟩
  have lA := VR1.out.2.2
  have VR := hid (VR1.out.keep b2)
  have PG := hid pg
  have P := hid (P1.out.trans (b2.mono P1.out.size))
  have z2 := b2.size
  clear pg b2 a0 a1 r0 r1 fr VA1 VR1 RX RY VA
  go_wp2_with fail
  refine (pgCode_any _ _ _ _ boot seq _ PG.out (by omega) (by omega)).mono ?_
  rw [HF0.out, HF1.out]
  rintro e w' ⟨rfl, rfl⟩
  obtain ⟨cd, hcd⟩ : ∃ cd, cdH (xs.getD j 0) (ys.getD j 0) boot seq = cd := ⟨_, rfl⟩
  rw [hcd]
  have HC := hid (HCC.out.trans hcd)
  clear hcd
  by_cases e3 : cd = 3
  · subst e3
    have HXX := hid (show hX m xs m ys (j : Int) boot seq = xs by simp [hX, HO.out, HC.out])
    have HYY := hid (show hY m xs m ys (j : Int) boot seq = ys by simp [hY, HO.out, HC.out])
    go_wp2_with fail
    refine (pgBook_any _ _ m _ _ PG.out n4).mono ?_
    rintro e w5 ⟨u, v, rfl, p5, t5, ap, b5⟩
    rw [lsP_pg0 xs ys m h1] at p5
    rw [lsP_pg1 xs ys m k1] at t5
    have VR5 := hid (VR.out.keep b5)
    have P5 := hid p5
    have T5 := hid t5
    have AP := hid ap
    have B5 := hid (P.out.trans (b5.mono P.out.size))
    have lR := VR.out.2.2
    obtain ⟨au, cu, rfl, _⟩ := ownI_form p5
    obtain ⟨av, cv, rfl, _⟩ := ownI_form t5
    clear p5 t5 ap b5
    obtain ⟨r0, r1⟩ := vb2 VR5.out
    have fr := VR5.out.2.1
    have CG := hid (vbchg2 (S := fun j => j = w.heap.size + 1) (w := w5) (b := w.heap.size + 1) (.slice au m cu) (.slice av m cv) rfl)
    go_wp2_with fail
    obtain ⟨t0, t1⟩ := vb2 (vbset2 (.slice au m cu) (.slice av m cv) VR5.out)
    refine bodyPost_ret (v := .tuple #[.agg #[.slice au m cu, .slice av m cv], .int .i64 3]) (res_hrdHear _ rfl t0 t1 rfl) rfl ?_
    rw [HC.out, HKK.out, HXX.out, HYY.out]
    refine ⟨_, _, rfl, (P5.out.chg CG.out ?_).low (by omega), (T5.out.chg CG.out ?_).low (by omega), AP.out, below_chg B5.out CG.out (by have := B5.out.size; omega) (fun j hj => by have hj : j = w.heap.size + 1 := hj; omega)⟩
    · intro j hj he
      have he : j = w.heap.size + 1 := he
      have := (P5.out.blk j hj).1
      omega
    · intro j hj he
      have he : j = w.heap.size + 1 := he
      have := (T5.out.blk j hj).1
      omega
  · have HXX := hid (show hX m xs m ys (j : Int) boot seq = xs.set j boot by simp [hX, HO.out, HC.out, e3])
    have HYY := hid (show hY m xs m ys (j : Int) boot seq = ys.set j seq by simp [hY, HO.out, HC.out, e3])
    have d3 : (cd == 3) = false := by simpa using e3
    go_wp2_with fail
    refine (pgWrite_any _ _ _ _ boot seq _ PG.out (by omega) (by omega) (by omega) (by omega) b9 s0 s9).mono ?_
    rintro e w4 ⟨rfl, p4, g4⟩
    have PG := hid p4
    have VR := hid (VR.out.grown g4 (by simp; omega))
    have P := hid (P.out.grown g4 P.out.size (by intro j hj; simp at hj; omega))
    have zw := g4.size
    clear p4 g4
    go_wp2_with fail
    refine (pgBook_any _ _ m _ _ PG.out n4).mono ?_
    rintro e w5 ⟨u, v, rfl, p5, t5, ap, b5⟩
    rw [lsP_up0 xs ys m j boot seq h1 hj] at p5
    rw [lsP_up1 xs ys m j boot seq k1 hj] at t5
    have VR5 := hid (VR.out.keep b5)
    have P5 := hid p5
    have T5 := hid t5
    have AP := hid ap
    have B5 := hid (P.out.trans (b5.mono P.out.size))
    have lR := VR.out.2.2
    obtain ⟨au, cu, rfl, _⟩ := ownI_form p5
    obtain ⟨av, cv, rfl, _⟩ := ownI_form t5
    clear p5 t5 ap b5
    obtain ⟨r0, r1⟩ := vb2 VR5.out
    have fr := VR5.out.2.1
    have CG := hid (vbchg2 (S := fun j => j = w.heap.size + 1) (w := w5) (b := w.heap.size + 1) (.slice au m cu) (.slice av m cv) rfl)
    go_wp2_with fail
    obtain ⟨t0, t1⟩ := vb2 (vbset2 (.slice au m cu) (.slice av m cv) VR5.out)
    refine bodyPost_ret (v := .tuple #[.agg #[.slice au m cu, .slice av m cv], .int .i64 cd]) (res_hrdHear _ rfl t0 t1 rfl) rfl ?_
    rw [HC.out, HKK.out, HXX.out, HYY.out]
    refine ⟨_, _, rfl, (P5.out.chg CG.out ?_).low (by omega), (T5.out.chg CG.out ?_).low (by omega), AP.out, below_chg B5.out CG.out (by have := B5.out.size; omega) (fun j hj => by have hj : j = w.heap.size + 1 := hj; omega)⟩
    · intro j hj he
      have he : j = w.heap.size + 1 := he
      have := (P5.out.blk j hj).1
      omega
    · intro j hj he
      have he : j = w.heap.size + 1 := he
      have := (T5.out.blk j hj).1
      omega
end Go.Proofs.Ytioikijheilliaa
