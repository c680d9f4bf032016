/- HrdNew: the contracts of the program's and of the specification's. No conditions. -/
import Derived.Test.YtioikijheilliaaHrdPages
import Derived.Test.YtioikijheilliaaNoughts
namespace Go.Proofs.Ytioikijheilliaa
open Go.ChangeShapes Go.WideShapes Go.ChangeAt Go.RowKit Go.Joins Go.Deep
set_option linter.unusedVariables false
set_option linter.unusedSimpArgs false
set_option maxRecDepth 4000

/-- how many nodes a new book has -/
def nwK (n : Int) : Nat := if inB n 1 4 then n.toNat else 0
theorem lsP_zero (t : Int) (n : Nat) : lsP (fun _ _ => 0) t n = List.replicate n 0 := by
  apply List.ext_getElem
  · simp [lsP]
  · intro i h1 h2; simp [lsP]
theorem res_hrdNew {W : World} {b : Nat} {x0 x1 : Value} (tmps : Array Value) (ht : tmps[2]?.getD undef = .pointer (some ⟨b, 0, none⟩)) (h0 : W.cell? ⟨b, 0, none⟩ = some x0) (h1 : W.cell? ⟨b, 1, none⟩ = some x1) :
    (results Try.f39 tmps).run Try.prog W = .ok (.agg #[x0, x1]) W := by
  simp [results, Try.results39, go_sem, ht, h0, h1]
theorem res_specHrdNew {W : World} {b : Nat} {x0 x1 : Value} (tmps : Array Value) (ht : tmps[2]?.getD undef = .pointer (some ⟨b, 0, none⟩)) (h0 : W.cell? ⟨b, 0, none⟩ = some x0) (h1 : W.cell? ⟨b, 1, none⟩ = some x1) :
    (results Try.f44 tmps).run Try.prog W = .ok (.agg #[x0, x1]) W := by
  simp [results, Try.results44, go_sem, ht, h0, h1]
set_option maxHeartbeats 4000000 in
theorem hrdNew_any (n : Int) (w : World) :
    Calls Try.prog 39 #[.int .i64 n] w fun e w' => ∃ u v, e = .returned (.agg #[u, v]) ∧ OwnI 3 1 w' w.heap.size u (nwK n) (List.replicate (nwK n) 0) ∧ OwnI 3 1 w' w.heap.size v (nwK n) (List.replicate (nwK n) 0) ∧ (∀ j, u.ownBlock = some j → v.ownBlock ≠ some j) ∧ Below w.heap.size w w' := by
  have hmm := @run_makeMap Try.prog
  cases c0 : inB n 1 4
  · have H := hid (show nwK n = 0 by simp [nwK, c0])
    go_enter Try.func39, Try.ntmps39
    go_wp2_with ((go_at_call 58; refine (within_any _ _ _ _).mono ?_; rintro e w' ⟨rfl, rfl⟩))
    go_returns
    rw [H.out]
    exact ⟨.slice none 0 0, .slice none 0 0, rfl, ownI_nil _, ownI_nil _, by simp [Value.ownBlock], below_alloc1 _ _⟩
  have hb : 1 ≤ n ∧ n ≤ 4 := by simpa [inB] using c0
  obtain ⟨k, rfl⟩ := Int.eq_ofNat_of_zero_le (by omega : 0 ≤ n)
  have HK := hid (show nwK (k : Int) = k by simp [nwK, c0])
  have hk : k ≤ 4 := by omega
  have VR := hid ((vb_new w [.slice none 0 0, .slice none 0 0] 44).keep (below_alloc1 _ (.map #[] 0)))
  have B0 := hid (((Below.refl w.heap.size w).alloc (Nat.le_refl _) (.cells #[.slice none 0 0, .slice none 0 0] 44)).alloc (by simp) (.map #[] 0))
  have PM : Hid (Pg ((w.alloc (.cells #[.slice none 0 0, .slice none 0 0] 44)).alloc (.map #[] 0)) (w.heap.size + 1) 0 (fun _ _ => 0)) := hid (by have := pg_made (w.alloc (.cells #[.slice none 0 0, .slice none 0 0] 44)); simpa using this)
  have z0 : ((w.alloc (.cells #[.slice none 0 0, .slice none 0 0] 44)).alloc (.map #[] 0)).heap.size = w.heap.size + 1 + 1 := by simp
  go_enter Try.func39, Try.ntmps39
  go_wp2_with ((go_at_call 58; refine (within_any _ _ _ _).mono ?_; rintro e w' ⟨rfl, rfl⟩))
  refine (pgBook_any _ _ k _ _ PM.out hk).mono ?_
  rintro e w1 ⟨u, v, rfl, p1, t1, ap, b1⟩
  rw [lsP_zero] at p1 t1
  have VR1 := hid (VR.out.keep b1)
  have P1 := hid p1
  have T1 := hid t1
  have AP := hid ap
  have B1 := hid (B0.out.trans (b1.mono B0.out.size))
  have z1 := b1.size
  rw [z0] at z1
  obtain ⟨a1, c1, rfl, _⟩ := ownI_form p1
  obtain ⟨a2, c2, rfl, _⟩ := ownI_form t1
  clear p1 t1 ap b1
  obtain ⟨r0, r1⟩ := vb2 VR1.out
  have fr := VR1.out.2.1
  have CG := hid (vbchg2 (S := fun j => j = w.heap.size) (w := w1) (b := w.heap.size) (.slice a1 k c1) (.slice a2 k c2) rfl)
  go_wp2_with fail
  obtain ⟨t0, t1⟩ := vb2 (vbset2 (.slice a1 k c1) (.slice a2 k c2) VR1.out)
  refine bodyPost_ret (v := .agg #[.slice a1 k c1, .slice a2 k c2]) (res_hrdNew _ rfl t0 t1) rfl ?_
  rw [HK.out]
  refine ⟨_, _, rfl, (P1.out.chg CG.out ?_).low (by omega), (T1.out.chg CG.out ?_).low (by omega), AP.out, below_chg B1.out CG.out (by have := B1.out.size; omega) (fun j hj => by have hj : j = w.heap.size := hj; omega)⟩
  · intro j hj he
    have he : j = w.heap.size := he
    have := (P1.out.blk j hj).1
    rw [z0] at this
    omega
  · intro j hj he
    have he : j = w.heap.size := he
    have := (T1.out.blk j hj).1
    rw [z0] at this
    omega
set_option maxHeartbeats 4000000 in
theorem specHrdNew_any (n : Int) (w : World) :
    Calls Try.prog 44 #[.int .i64 n] w fun e w' => ∃ u v, e = .returned (.agg #[u, v]) ∧ OwnI 3 1 w' w.heap.size u (nwK n) (List.replicate (nwK n) 0) ∧ OwnI 3 1 w' w.heap.size v (nwK n) (List.replicate (nwK n) 0) ∧ (∀ j, u.ownBlock = some j → v.ownBlock ≠ some j) ∧ Below w.heap.size w w' := by
  cases c0 : inB n 1 4
  · have H := hid (show nwK n = 0 by simp [nwK, c0])
    go_enter Try.func44, Try.ntmps44
    go_wp2_with ((go_at_call 56; refine (l1In_any _ _ _ _).mono ?_; rintro e w' ⟨rfl, rfl⟩))
    go_returns
    rw [H.out]
    exact ⟨.slice none 0 0, .slice none 0 0, rfl, ownI_nil _, ownI_nil _, by simp [Value.ownBlock], below_alloc1 _ _⟩
  have hb : 1 ≤ n ∧ n ≤ 4 := by simpa [inB] using c0
  obtain ⟨k, rfl⟩ := Int.eq_ofNat_of_zero_le (by omega : 0 ≤ n)
  have HK := hid (show nwK (k : Int) = k by simp [nwK, c0])
  have hk : k ≤ 4 := by omega
  have VR := hid (vb_new w [.slice none 0 0, .slice none 0 0] 44)
  have B0 := hid (below_alloc1 w (.cells #[.slice none 0 0, .slice none 0 0] 44))
  have z0 : (w.alloc (.cells #[.slice none 0 0, .slice none 0 0] 44)).heap.size = w.heap.size + 1 := by simp
  go_enter Try.func44, Try.ntmps44
  go_wp2_with ((go_at_call 56; refine (l1In_any _ _ _ _).mono ?_; rintro e w' ⟨rfl, rfl⟩))
  refine (noughts_any k _ (by omega)).mono ?_
  rintro e w1 ⟨u, rfl, p1, b1⟩
  have VR1 := hid (VR.out.keep b1)
  have P1 := hid p1
  have B1 := hid (B0.out.trans (b1.mono B0.out.size))
  have z1 := b1.size
  rw [z0] at z1
  obtain ⟨a1, c1, rfl, _⟩ := ownI_form p1
  clear p1 b1
  go_wp2_with fail
  refine (noughts_any k _ (by omega)).mono ?_
  rintro e w2 ⟨v, rfl, p2, b2⟩
  have VR2 := hid (VR1.out.keep b2)
  have AP := hid (ownI_apart P1.out p2 (Nat.le_refl _))
  have P2 := hid (P1.out.keep b2)
  have T2 := hid p2
  have B2 := hid (B1.out.trans (b2.mono B1.out.size))
  have z2 := b2.size
  obtain ⟨a2, c2, rfl, _⟩ := ownI_form p2
  clear p2 b2
  obtain ⟨r0, r1⟩ := vb2 VR2.out
  have fr := VR2.out.2.1
  have CG := hid (vbchg2 (S := fun j => j = w.heap.size) (w := w2) (b := w.heap.size) (.slice a1 k c1) (.slice a2 k c2) rfl)
  go_wp2_with fail
  obtain ⟨t0, t1⟩ := vb2 (vbset2 (.slice a1 k c1) (.slice a2 k c2) VR2.out)
  refine bodyPost_ret (v := .agg #[.slice a1 k c1, .slice a2 k c2]) (res_specHrdNew _ rfl t0 t1) rfl ?_
  rw [HK.out]
  refine ⟨_, _, rfl, (P2.out.chg CG.out ?_).low (by omega), (T2.out.chg CG.out ?_).low (by omega), AP.out, below_chg B2.out CG.out (by have := B2.out.size; omega) (fun j hj => by have hj : j = w.heap.size := hj; omega)⟩
  · intro j hj he
    have he : j = w.heap.size := he
    have := (P1.out.blk j hj).1
    rw [z0] at this
    omega
  · intro j hj he
    have he : j = w.heap.size := he
    have := (T2.out.blk j hj).1
    omega
end Go.Proofs.Ytioikijheilliaa
