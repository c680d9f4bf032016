/- Books: the laws' toHrdBook, eqHrdBook, markHrdBook, heldHrdBook, szHrdBook. Conditions: the lists read as ints, or are one's own, two rows in two blocks. -/
import Derived.Test.YtioikijheilliaaVBk
import Derived.Test.YtioikijheilliaaIntS
import Derived.Test.YtioikijheilliaaSzI
import Derived.Test.YtioikijheilliaaOpenI
import Derived.Test.YtioikijheilliaaInBase
namespace Go.Proofs.Ytioikijheilliaa
open Go.ChangeShapes Go.WideShapes Go.ChangeAt Go.RowKit Go.Joins Go.Deep
set_option linter.unusedVariables false
set_option linter.unusedSimpArgs false
set_option maxRecDepth 4000
theorem res_toBook {W : World} {b : Nat} {x0 x1 : Value} (tmps : Array Value) (ht : tmps[2]?.getD undef = .pointer (some ⟨b, 0, none⟩)) (h0 : W.cell? ⟨b, 0, none⟩ = some x0) (h1 : W.cell? ⟨b, 1, none⟩ = some x1) :
    (results Try.f50 tmps).run Try.prog W = .ok (.agg #[x0, x1]) W := by
  simp [results, Try.results50, go_sem, ht, h0, h1]

theorem ownI_apart {e : TypeId} {k n k' n' B C : Nat} {w w' : World} {u v : Value} {xs ys : List Int} (h : OwnI e k w B u n xs) (h' : OwnI e k' w' C v n' ys) (hc : w.heap.size ≤ C) : ∀ j, u.ownBlock = some j → v.ownBlock ≠ some j := by
  intro j hj hj'
  have := (h.blk j hj).2
  have := (h'.blk j hj').1
  omega
set_option maxHeartbeats 4000000 in
theorem toBook_any (u v : Value) (n m : Nat) (xs ys : List Int) (w : World) (hu : RdI 1 w u n xs) (hv : RdI 1 w v m ys) :
    Calls Try.prog 50 #[.agg #[u, v]] w fun e w' => ∃ u' v', e = .returned (.agg #[u', v']) ∧ OwnI 3 1 w' w.heap.size u' n xs ∧ OwnI 3 1 w' w.heap.size v' m ys ∧ (∀ j, u'.ownBlock = some j → v'.ownBlock ≠ some j) ∧ Below w.heap.size w w' := by
  have RU := hid hu
  have RV := hid hv
  obtain ⟨_, _, a1, c1, rfl, _⟩ := hu
  obtain ⟨_, _, a2, c2, rfl, _⟩ := hv
  have BB := hid ((((Below.refl w.heap.size w).alloc (Nat.le_refl _) (.cells #[.slice a1 n c1, .slice a2 m c2] 65)).alloc (by simp) (.cells #[.slice none 0 0, .slice none 0 0] 44)).alloc (by simp; omega) (.cells #[.slice none 0 0, .slice none 0 0] 44))
  have VA : Hid (VB (((w.alloc (.cells #[.slice a1 n c1, .slice a2 m c2] 65)).alloc (.cells #[.slice none 0 0, .slice none 0 0] 44)).alloc (.cells #[.slice none 0 0, .slice none 0 0] 44)) w.heap.size [.slice a1 n c1, .slice a2 m c2]) := hid (((vb_new w [.slice a1 n c1, .slice a2 m c2] 65).keep (below_alloc1 _ _)).keep (below_alloc1 _ _))
  have VR : Hid (VB (((w.alloc (.cells #[.slice a1 n c1, .slice a2 m c2] 65)).alloc (.cells #[.slice none 0 0, .slice none 0 0] 44)).alloc (.cells #[.slice none 0 0, .slice none 0 0] 44)) (w.heap.size + 1) [.slice none 0 0, .slice none 0 0]) := hid ((by have := vb_new (w.alloc (.cells #[.slice a1 n c1, .slice a2 m c2] 65)) [.slice none 0 0, .slice none 0 0] 44; simpa using this : VB ((w.alloc (.cells #[.slice a1 n c1, .slice a2 m c2] 65)).alloc (.cells #[.slice none 0 0, .slice none 0 0] 44)) (w.heap.size + 1) [.slice none 0 0, .slice none 0 0]).keep (below_alloc1 _ _))
  have VO : Hid (VB (((w.alloc (.cells #[.slice a1 n c1, .slice a2 m c2] 65)).alloc (.cells #[.slice none 0 0, .slice none 0 0] 44)).alloc (.cells #[.slice none 0 0, .slice none 0 0] 44)) (w.heap.size + 1 + 1) [.slice none 0 0, .slice none 0 0]) := hid (by have := vb_new ((w.alloc (.cells #[.slice a1 n c1, .slice a2 m c2] 65)).alloc (.cells #[.slice none 0 0, .slice none 0 0] 44)) [.slice none 0 0, .slice none 0 0] 44; simpa using this)
  have z0 : (((w.alloc (.cells #[.slice a1 n c1, .slice a2 m c2] 65)).alloc (.cells #[.slice none 0 0, .slice none 0 0] 44)).alloc (.cells #[.slice none 0 0, .slice none 0 0] 44)).heap.size = w.heap.size + 1 + 1 + 1 := by simp
  go_enter Try.func50, Try.ntmps50
  go_wp2_with fail
  refine (toInts_any _ n xs _ (RU.out.keep BB.out)).mono ?_
  rintro e w1 ⟨u', rfl, p1, b1⟩
  obtain ⟨ua, uc, rfl, _⟩ := ownI_form p1
  have z1 := b1.size
  rw [z0] at z1
  have VA := hid (VA.out.keep b1)
  have VR := hid (VR.out.keep b1)
  have VO := hid (VO.out.keep b1)
  have P1 := hid p1
  have B1 := hid (BB.out.trans (b1.mono BB.out.size))
  clear p1 b1
  obtain ⟨o0, o1⟩ := vb2 VO.out
  have fo := VO.out.2.1
  have VA' := hid (VA.out.off (c := w.heap.size + 1 + 1) (i := 0) (v := .slice ua n uc) (by omega))
  have VR' := hid (VR.out.off (c := w.heap.size + 1 + 1) (i := 0) (v := .slice ua n uc) (by omega))
  have VO' : Hid (VB (w1.setCell ⟨w.heap.size + 1 + 1, 0, none⟩ (.slice ua n uc)) (w.heap.size + 1 + 1) [.slice ua n uc, .slice none 0 0]) := hid (VO.out.set (i := 0) (by simp) (.slice ua n uc))
  have C1 := hid ((Chg.refl (fun j => j = w.heap.size + 1 + 1) w1).set (p := ⟨w.heap.size + 1 + 1, 0, none⟩) rfl (.slice ua n uc))
  have P1 := hid (P1.out.chg C1.out (fun j hj he => by have he : j = w.heap.size + 1 + 1 := he; have := (P1.out.blk j hj).1; rw [z0] at this; omega))
  have B1 := hid (below_chg B1.out C1.out (by have := B1.out.size; omega) (fun j hj => by have hj : j = w.heap.size + 1 + 1 := hj; omega))
  clear VA VR VO
  obtain ⟨a0', a1'⟩ := vb2 VA'.out
  go_wp2_with fail
  clear o0 o1 fo a0' a1'
  have zz : (w1.setCell ⟨w.heap.size + 1 + 1, 0, none⟩ (.slice ua n uc)).heap.size = w1.heap.size := by simp [World.setCell]
  refine (toInts_any _ m ys _ (RV.out.keep B1.out)).mono ?_
  rintro e w2 ⟨v', rfl, p2, b2⟩
  obtain ⟨va, vc, rfl, _⟩ := ownI_form p2
  have AP := hid (ownI_apart P1.out p2 (Nat.le_refl _))
  have VR := hid (VR'.out.keep b2)
  have VO := hid (VO'.out.keep b2)
  have P1 := hid (P1.out.keep b2)
  have P2 := hid p2
  have B2 := hid (B1.out.trans (b2.mono B1.out.size))
  clear p2 b2 VA' VR' VO'
  obtain ⟨o0, o1⟩ := vb2 VO.out
  have fo := VO.out.2.1
  have VRs := hid (VR.out.off (c := w.heap.size + 1 + 1) (i := 1) (v := .slice va m vc) (by omega))
  have VOs : Hid (VB (w2.setCell ⟨w.heap.size + 1 + 1, 1, none⟩ (.slice va m vc)) (w.heap.size + 1 + 1) [.slice ua n uc, .slice va m vc]) := hid (VO.out.set (i := 1) (by simp) (.slice va m vc))
  obtain ⟨s0, s1⟩ := vb2 VRs.out
  have fs := VRs.out.2.1
  obtain ⟨k0, k1⟩ := vb2 VOs.out
  have CG := hid (((Chg.refl (fun j => j = w.heap.size + 1 ∨ j = w.heap.size + 1 + 1) w2).set (p := ⟨w.heap.size + 1 + 1, 1, none⟩) (.inr rfl) (.slice va m vc)).trans (vbchg2 (b := w.heap.size + 1) (.slice ua n uc) (.slice va m vc) (.inl rfl)))
  go_wp2_with fail
  obtain ⟨t0, t1⟩ := vb2 (vbset2 (.slice ua n uc) (.slice va m vc) VRs.out)
  refine bodyPost_ret (v := .agg #[.slice ua n uc, .slice va m vc]) (res_toBook _ rfl t0 t1) rfl ?_
  refine ⟨_, _, rfl, (P1.out.chg CG.out ?_).low (by omega), (P2.out.chg CG.out ?_).low (by omega), AP.out, below_chg B2.out CG.out (by have := B2.out.size; omega) (fun j hj => by have hj : j = w.heap.size + 1 ∨ j = w.heap.size + 1 + 1 := hj; omega)⟩
  · intro j hj he
    have he : j = w.heap.size + 1 ∨ j = w.heap.size + 1 + 1 := he
    have := (P1.out.blk j hj).1
    rw [z0] at this
    omega
  · intro j hj he
    have he : j = w.heap.size + 1 ∨ j = w.heap.size + 1 + 1 := he
    have := (P2.out.blk j hj).1
    rw [zz] at this
    omega

set_option maxHeartbeats 1000000 in
theorem eqBook_same (u v u' v' : Value) (n m : Nat) (xs ys : List Int) (w : World) (hu : RdI 1 w u n xs) (hv : RdI 1 w v m ys) (hu' : RdI 1 w u' n xs) (hv' : RdI 1 w v' m ys) :
    Calls Try.prog 45 #[.agg #[u, v], .agg #[u', v']] w fun e w' => e = .returned (.bool true) ∧ Below w.heap.size w w' := by
  have R := hid hu
  have M := hid hv
  have R' := hid hu'
  have M' := hid hv'
  obtain ⟨_, _, a1, c1, rfl, _⟩ := hu
  obtain ⟨_, _, a2, c2, rfl, _⟩ := hv
  obtain ⟨_, _, a3, c3, rfl, _⟩ := hu'
  obtain ⟨_, _, a4, c4, rfl, _⟩ := hv'
  have P := hid (((Below.refl w.heap.size w).alloc (Nat.le_refl _) (.cells #[.slice a1 n c1, .slice a2 m c2] 44)).alloc (by simp) (.cells #[.slice a3 n c3, .slice a4 m c4] 44))
  have VA := hid ((vb_new w [.slice a1 n c1, .slice a2 m c2] 44).keep (below_alloc1 _ (.cells #[.slice a3 n c3, .slice a4 m c4] 44)))
  have VC : Hid (VB ((w.alloc (.cells #[.slice a1 n c1, .slice a2 m c2] 44)).alloc (.cells #[.slice a3 n c3, .slice a4 m c4] 44)) (w.heap.size + 1) [.slice a3 n c3, .slice a4 m c4]) := hid (by have := vb_new (w.alloc (.cells #[.slice a1 n c1, .slice a2 m c2] 44)) [.slice a3 n c3, .slice a4 m c4] 44; simpa using this)
  go_enter Try.func45, Try.ntmps45
  go_wp2_with fail
  refine (eqInts_same _ _ n xs _ (R.out.keep P.out) (R'.out.keep P.out)).mono ?_
  rintro e w1 ⟨rfl, b1⟩
  obtain ⟨_, q2⟩ := vb2 (VA.out.keep b1)
  obtain ⟨_, q4⟩ := vb2 (VC.out.keep b1)
  have P1 := hid (P.out.trans (b1.mono P.out.size))
  clear b1
  go_wp2_with fail
  refine (eqInts_same _ _ m ys _ (M.out.keep P1.out) (M'.out.keep P1.out)).mono ?_
  rintro e w2 ⟨rfl, b2⟩
  have P2 := hid (P1.out.trans (b2.mono P1.out.size))
  clear b2
  go_wp2
  go_ret
  exact ⟨rfl, P2.out⟩

set_option maxHeartbeats 1000000 in
theorem markBook_any (k : Int) (u v : Value) (n m : Nat) (xs ys : List Int) (B : Nat) (w : World) (hu : OwnI 3 1 w B u n xs) (hv : OwnI 3 1 w B v m ys) (hd : ∀ j, u.ownBlock = some j → v.ownBlock ≠ some j)
    (n1 : n ≤ 2000000) (n2 : m ≤ 2000000) (k0 : 0 ≤ k) (k1 : k ≤ 1000000000) :
    Calls Try.prog 46 #[.agg #[u, v], .int .i64 k] w fun e w' => e = .returned (.int .i64 (k + n + m)) ∧ OwnI 3 1 w' B u n (marksI k n) ∧ OwnI 3 1 w' B v m (marksI (k + n) m) ∧ Chg (fun j => u.ownBlock = some j ∨ v.ownBlock = some j) w w' := by
  have R := hid (hu.keep (below_alloc1 w (.cells #[u, v] 44)))
  have M := hid (hv.keep (below_alloc1 w (.cells #[u, v] 44)))
  have C := hid (Chg.of_below (S := fun j => u.ownBlock = some j ∨ v.ownBlock = some j) (below_alloc1 w (.cells #[u, v] 44)))
  have KR := hid (fun j hj => (hu.blk j hj).2)
  have HD := hid hd
  obtain ⟨a1, c1, rfl, _⟩ := ownI_form hu
  obtain ⟨a2, c2, rfl, _⟩ := ownI_form hv
  have VA := hid (vb_new w [.slice a1 n c1, .slice a2 m c2] 44)
  clear hu hv hd
  go_enter Try.func46, Try.ntmps46
  go_wp2_with fail
  refine (markInts_any _ n xs k B _ R.out n1 k0 (by omega)).mono ?_
  rintro e w1 ⟨rfl, o1, g1, z1⟩
  obtain ⟨_, q2⟩ := vb2 (VA.out.grown g1 (fun e => by have := KR.out _ e.symm; simp at this))
  have R1 := hid o1
  have M1 := hid (M.out.grown g1 (fun j hj => HD.out j hj))
  have C1 := hid (C.out.trans (Chg.of_grown g1 (fun j hj => .inl hj)))
  clear o1 g1 z1 R M C
  go_wp2_with fail
  refine (markInts_any _ m ys (k + n) B _ M1.out n2 (by omega) (by omega)).mono ?_
  rintro e w2 ⟨rfl, o2, g2, z2⟩
  have R2 := hid (R1.out.grown g2 (fun j hj hj' => HD.out j hj' hj))
  have M2 := hid o2
  have C2 := hid (C1.out.trans (Chg.of_grown g2 (fun j hj => .inr hj)))
  clear o2 g2 z2
  go_wp2
  go_ret
  exact ⟨rfl, R2.out, M2.out, C2.out⟩

set_option maxHeartbeats 1000000 in
theorem heldBook_any (k : Int) (u v : Value) (n m : Nat) (w : World) (hu : RdI 1 w u n (marksI k n)) (hv : RdI 1 w v m (marksI (k + n) m)) (k0 : 0 ≤ k) (k1 : k ≤ 1000000000) :
    Calls Try.prog 47 #[.agg #[u, v], .int .i64 k] w fun e w' => e = .returned (.int .i64 (k + n + m)) ∧ Below w.heap.size w w' := by
  have R := hid (hu.keep (below_alloc1 w (.cells #[u, v] 44)))
  have M := hid (hv.keep (below_alloc1 w (.cells #[u, v] 44)))
  obtain ⟨_, n1, a1, c1, rfl, _⟩ := hu
  obtain ⟨_, n2, a2, c2, rfl, _⟩ := hv
  have d1 : decide (k + (n : Int) < 0) = false := by simp; omega
  have d2 : decide (k + (n : Int) + (m : Int) < 0) = false := by simp; omega
  go_enter Try.func47, Try.ntmps47
  go_wp2_with fail
  refine (heldInts_any _ n k _ R.out k0 (by omega)).mono ?_
  rintro e w1 ⟨rfl, rfl⟩
  go_wp2_with fail
  refine (heldInts_any _ m (k + n) _ M.out (by omega) (by omega)).mono ?_
  rintro e w2 ⟨rfl, rfl⟩
  go_wp2
  go_ret
  exact ⟨rfl, below_alloc1 _ _⟩

set_option maxHeartbeats 1000000 in
theorem szBook_any (a1 a2 : Option Addr) (nr nm c1 c2 : Nat) (left : Int) (w : World) (h1 : nr ≤ 9223372036854775807) (h2 : nm ≤ 9223372036854775807) (l0 : 0 ≤ left) (l1 : left ≤ 9223372036854775807) :
    Calls Try.prog 48 #[.agg #[.slice a1 nr c1, .slice a2 nm c2], .int .i64 left] w fun e w' => e = .returned (.int .i64 (if left - nr < 0 then -1 else if left - nr - nm < 0 then -1 else left - nr - nm)) ∧ Below w.heap.size w w' := by
  by_cases h : left - (nr : Int) < 0
  · rw [if_pos h]
    go_enter Try.func48, Try.ntmps48
    go_wp2_with fail
    refine (szInts_any _ nr _ _ _ h1 l0 l1).mono ?_
    rw [if_pos h]
    rintro e w1 ⟨rfl, rfl⟩
    go_wp2
    go_ret
    exact ⟨rfl, below_alloc1 _ _⟩
  · rw [if_neg h]
    have d : decide (left - (nr : Int) < 0) = false := by simpa using h
    have H := hid h
    by_cases h' : left - (nr : Int) - (nm : Int) < 0
    · rw [if_pos h']
      have H' := hid h'
      go_enter Try.func48, Try.ntmps48
      go_wp2_with fail
      refine (szInts_any _ nr _ _ _ h1 l0 l1).mono ?_
      rw [if_neg (by have := H.out; omega)]
      rintro e w1 ⟨rfl, rfl⟩
      go_wp2_with fail
      refine (szInts_any _ nm _ _ _ h2 (by omega) (by omega)).mono ?_
      rw [if_pos (by have := H'.out; omega)]
      rintro e w1 ⟨rfl, rfl⟩
      go_wp2
      go_ret
      exact ⟨rfl, below_alloc1 _ _⟩
    · rw [if_neg h']
      have H' := hid h'
      have d' : decide (left - (nr : Int) - (nm : Int) < 0) = false := by simpa using h'
      go_enter Try.func48, Try.ntmps48
      go_wp2_with fail
      refine (szInts_any _ nr _ _ _ h1 l0 l1).mono ?_
      rw [if_neg (by have := H.out; omega)]
      rintro e w1 ⟨rfl, rfl⟩
      go_wp2_with fail
      refine (szInts_any _ nm _ _ _ h2 (by omega) (by omega)).mono ?_
      rw [if_neg (by have := H'.out; omega)]
      rintro e w1 ⟨rfl, rfl⟩
      go_wp2
      go_ret
      exact ⟨rfl, below_alloc1 _ _⟩
end Go.Proofs.Ytioikijheilliaa
