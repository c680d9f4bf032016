/- Cells: the laws' toCelCell, eqCelCell, markCelCell, heldCelCell, szCelCell. Conditions: the lists read, or are one's own, three rows in three blocks. -/
import Derived.Test.YthhgjnhfidhmpaaToVm
import Derived.Test.YthhgjnhfidhmpaaVBk
import Derived.Test.YthhgjnhfidhmpaaBytesTo
import Derived.Test.YthhgjnhfidhmpaaBytesMark2
namespace Go.Proofs.Ythhgjnhfidhmpaa
open Go.ChangeShapes Go.WideShapes Go.ChangeAt Go.RowKit Go.Joins Go.Deep
set_option linter.unusedVariables false
set_option linter.unusedSimpArgs false
set_option maxRecDepth 4000

theorem Own.chg {w w' : World} {B : Nat} {v : Value} {xs : List Int} {S : Nat → Prop} (h : Own w B v xs) (hg : Chg S w w') (hr : ∀ j, v.ownBlock = some j → ¬ S j) : Own w' B v xs := by
  obtain ⟨h1, h2, h3⟩ := h
  refine ⟨h1, h2, ?_⟩
  rcases h3 with h3 | ⟨q, cap', cur, hv, hq, hh, r⟩
  · exact .inl h3
  · refine .inr ⟨q, cap', cur, hv, hq, ?_, r⟩
    have hlt : q < w.heap.size := by
      rcases Nat.lt_or_ge q w.heap.size with h' | h'
      · exact h'
      · rw [Array.getElem?_eq_none h'] at hh; cases hh
    rw [hg.block q hlt (hr q (by rw [hv]; rfl))]; exact hh
/-- three rows of one's own in blocks from lo on, below hi, apart from each other -/
def Cl (w : World) (lo hi : Nat) (u v i : Value) (n m : Nat) (xs ys bs : List Int) : Prop :=
  OwnI 3 1 w lo u n xs ∧ OwnI 3 1 w lo v m ys ∧ Own w lo i bs ∧ (∀ j, u.ownBlock = some j → v.ownBlock ≠ some j) ∧ (∀ j, i.ownBlock = some j → u.ownBlock ≠ some j ∧ v.ownBlock ≠ some j) ∧ (∀ j, (u.ownBlock = some j ∨ v.ownBlock = some j ∨ i.ownBlock = some j) → lo ≤ j ∧ j < hi)
theorem Cl.keep {w w' : World} {lo hi n m : Nat} {u v i : Value} {xs ys bs : List Int} (h : Cl w lo hi u v i n m xs ys bs) (hb : Below w.heap.size w w') : Cl w' lo hi u v i n m xs ys bs :=
  ⟨h.1.keep hb, h.2.1.keep hb, h.2.2.1.keep hb, h.2.2.2⟩
theorem Cl.off {w w' : World} {lo hi a b n m : Nat} {u v i : Value} {xs ys bs : List Int} {S : Nat → Prop} (h : Cl w lo hi u v i n m xs ys bs) (hg : Chg S w w') (hs : ∀ j, S j → a ≤ j ∧ j < b) (hd : hi ≤ a ∨ b ≤ lo) : Cl w' lo hi u v i n m xs ys bs :=
  have key : ∀ j, (u.ownBlock = some j ∨ v.ownBlock = some j ∨ i.ownBlock = some j) → S j → False := fun j hj hS => by have := h.2.2.2.2.2 j hj; have := hs j hS; omega
  ⟨h.1.chg hg (fun j hj hS => key j (.inl hj) hS), h.2.1.chg hg (fun j hj hS => key j (.inr (.inl hj)) hS), h.2.2.1.chg hg (fun j hj hS => key j (.inr (.inr hj)) hS), h.2.2.2⟩
theorem VB.offR {w w' : World} {c a b : Nat} {vs : List Value} {S : Nat → Prop} (h : VB w c vs) (hg : Chg S w w') (hs : ∀ j, S j → a ≤ j ∧ j < b) (hd : c < a ∨ b ≤ c) : VB w' c vs :=
  h.chg hg (fun hS => by have := hs c hS; omega)
theorem below_off {w w' W : World} {n a b : Nat} {S : Nat → Prop} (h : Below n W w) (hg : Chg S w w') (hs : ∀ j, S j → a ≤ j ∧ j < b) (h1 : n ≤ a) (h2 : n ≤ w.heap.size) : Below n W w' :=
  below_chg h hg h2 (fun j hj => by have := hs j hj; omega)
theorem res_toCell {W : World} {b : Nat} {x0 x1 x2 x3 x4 : Value} (tmps : Array Value) (ht : tmps[2]?.getD undef = .pointer (some ⟨b, 0, none⟩)) (h0 : W.cell? ⟨b, 0, none⟩ = some x0) (h1 : W.cell? ⟨b, 1, none⟩ = some x1) (h2 : W.cell? ⟨b, 2, none⟩ = some x2) (h3 : W.cell? ⟨b, 3, none⟩ = some x3) (h4 : W.cell? ⟨b, 4, none⟩ = some x4) :
    (results Try.f22 tmps).run Try.prog W = .ok (.agg #[x0, x1, x2, x3, x4]) W := by
  simp [results, Try.results22, go_sem, ht, h0, h1, h2, h3, h4]
set_option maxHeartbeats 4000000 in
theorem toCell_any (pc ht : Int) (r m i : Value) (nr nm : Nat) (xs ys bs : List Int) (w : World) (hr : RdI 1 w r nr xs) (hm : RdI 1 w m nm ys) (hi : Rd w i bs) :
    Calls Try.prog 22 #[.agg #[.int .i64 pc, r, m, .int .i64 ht, i]] w fun e w' => ∃ u v i', e = .returned (.agg #[.int .i64 pc, u, v, .int .i64 ht, i']) ∧ Cl w' w.heap.size w'.heap.size u v i' nr nm xs ys bs ∧ Below w.heap.size w w' := by
  have RU := hid hr
  have RV := hid hm
  have RI := hid hi
  obtain ⟨_, _, a1, c1, rfl, _⟩ := hr
  obtain ⟨_, _, a2, c2, rfl, _⟩ := hm
  obtain ⟨_, _, a3, c3, rfl, _⟩ := hi
  obtain ⟨nb, hnb⟩ : ∃ nb, bs.length = nb := ⟨_, rfl⟩
  rw [hnb] at RI ⊢
  have HN := hid hnb
  clear hnb
  have BB := hid ((((Below.refl w.heap.size w).alloc (Nat.le_refl _) (.cells #[.int .i64 pc, .slice a1 nr c1, .slice a2 nm c2, .int .i64 ht, .slice a3 nb c3] 42)).alloc (by simp) (.cells #[.int .i64 0, .slice none 0 0, .slice none 0 0, .int .i64 0, .slice none 0 0] 27)).alloc (by simp; omega) (.cells #[.int .i64 0, .slice none 0 0, .slice none 0 0, .int .i64 0, .slice none 0 0] 27))
  have VA : Hid (VB (((w.alloc (.cells #[.int .i64 pc, .slice a1 nr c1, .slice a2 nm c2, .int .i64 ht, .slice a3 nb c3] 42)).alloc (.cells #[.int .i64 0, .slice none 0 0, .slice none 0 0, .int .i64 0, .slice none 0 0] 27)).alloc (.cells #[.int .i64 0, .slice none 0 0, .slice none 0 0, .int .i64 0, .slice none 0 0] 27)) w.heap.size [.int .i64 pc, .slice a1 nr c1, .slice a2 nm c2, .int .i64 ht, .slice a3 nb c3]) := hid (((vb_new w [.int .i64 pc, .slice a1 nr c1, .slice a2 nm c2, .int .i64 ht, .slice a3 nb c3] 42).keep (below_alloc1 _ _)).keep (below_alloc1 _ _))
  have VR : Hid (VB (((w.alloc (.cells #[.int .i64 pc, .slice a1 nr c1, .slice a2 nm c2, .int .i64 ht, .slice a3 nb c3] 42)).alloc (.cells #[.int .i64 0, .slice none 0 0, .slice none 0 0, .int .i64 0, .slice none 0 0] 27)).alloc (.cells #[.int .i64 0, .slice none 0 0, .slice none 0 0, .int .i64 0, .slice none 0 0] 27)) (w.heap.size + 1) [.int .i64 0, .slice none 0 0, .slice none 0 0, .int .i64 0, .slice none 0 0]) := hid ((by have := vb_new (w.alloc (.cells #[.int .i64 pc, .slice a1 nr c1, .slice a2 nm c2, .int .i64 ht, .slice a3 nb c3] 42)) [.int .i64 0, .slice none 0 0, .slice none 0 0, .int .i64 0, .slice none 0 0] 27; simpa using this : VB ((w.alloc (.cells #[.int .i64 pc, .slice a1 nr c1, .slice a2 nm c2, .int .i64 ht, .slice a3 nb c3] 42)).alloc (.cells #[.int .i64 0, .slice none 0 0, .slice none 0 0, .int .i64 0, .slice none 0 0] 27)) (w.heap.size + 1) [.int .i64 0, .slice none 0 0, .slice none 0 0, .int .i64 0, .slice none 0 0]).keep (below_alloc1 _ _))
  have VO : Hid (VB (((w.alloc (.cells #[.int .i64 pc, .slice a1 nr c1, .slice a2 nm c2, .int .i64 ht, .slice a3 nb c3] 42)).alloc (.cells #[.int .i64 0, .slice none 0 0, .slice none 0 0, .int .i64 0, .slice none 0 0] 27)).alloc (.cells #[.int .i64 0, .slice none 0 0, .slice none 0 0, .int .i64 0, .slice none 0 0] 27)) (w.heap.size + 1 + 1) [.int .i64 0, .slice none 0 0, .slice none 0 0, .int .i64 0, .slice none 0 0]) := hid (by have := vb_new ((w.alloc (.cells #[.int .i64 pc, .slice a1 nr c1, .slice a2 nm c2, .int .i64 ht, .slice a3 nb c3] 42)).alloc (.cells #[.int .i64 0, .slice none 0 0, .slice none 0 0, .int .i64 0, .slice none 0 0] 27)) [.int .i64 0, .slice none 0 0, .slice none 0 0, .int .i64 0, .slice none 0 0] 27; simpa using this)
  have z0 : (((w.alloc (.cells #[.int .i64 pc, .slice a1 nr c1, .slice a2 nm c2, .int .i64 ht, .slice a3 nb c3] 42)).alloc (.cells #[.int .i64 0, .slice none 0 0, .slice none 0 0, .int .i64 0, .slice none 0 0] 27)).alloc (.cells #[.int .i64 0, .slice none 0 0, .slice none 0 0, .int .i64 0, .slice none 0 0] 27)).heap.size = w.heap.size + 1 + 1 + 1 := by simp
  go_enter Try.func22, Try.ntmps22
  go_wp2_with fail
  refine (toVm_any pc ht _ _ nr nm xs ys _ (RU.out.keep BB.out) (RV.out.keep BB.out)).mono ?_
  rintro e w1 ⟨u', v', rfl, p1, t1, ap, b1⟩
  obtain ⟨ua, uc, rfl, _⟩ := ownI_form p1
  obtain ⟨va, vc, rfl, _⟩ := ownI_form t1
  have z1 := b1.size
  rw [z0] at z1
  have VA := hid (VA.out.keep b1)
  have VR := hid (VR.out.keep b1)
  have VO := hid (VO.out.keep b1)
  have P1 := hid p1
  have T1 := hid t1
  have AP := hid ap
  have B1 := hid (BB.out.trans (b1.mono BB.out.size))
  clear p1 t1 ap b1
  obtain ⟨o0, o1, o2, o3, o4⟩ := vb5 VO.out
  have fo := VO.out.2.1
  have C1 := hid (vbchg4 (S := fun j => j = w.heap.size + 1 + 1) (w := w1) (b := w.heap.size + 1 + 1) (.int .i64 pc) (.slice ua nr uc) (.slice va nm vc) (.int .i64 ht) rfl)
  have VA' := hid (VA.out.chg C1.out (by omega))
  have VR' := hid (VR.out.chg C1.out (by omega))
  have VO' : Hid (VB ((((w1.setCell ⟨w.heap.size + 1 + 1, 0, none⟩ (.int .i64 pc)).setCell ⟨w.heap.size + 1 + 1, 1, none⟩ (.slice ua nr uc)).setCell ⟨w.heap.size + 1 + 1, 2, none⟩ (.slice va nm vc)).setCell ⟨w.heap.size + 1 + 1, 3, none⟩ (.int .i64 ht)) (w.heap.size + 1 + 1) [.int .i64 pc, .slice ua nr uc, .slice va nm vc, .int .i64 ht, .slice none 0 0]) := hid ((((VO.out.set (i := 0) (by simp) (.int .i64 pc)).set (i := 1) (by simp) (.slice ua nr uc)).set (i := 2) (by simp) (.slice va nm vc)).set (i := 3) (by simp) (.int .i64 ht))
  have P1 := hid (P1.out.chg C1.out (fun j hj he => by have he : j = w.heap.size + 1 + 1 := he; have := (P1.out.blk j hj).1; rw [z0] at this; omega))
  have T1 := hid (T1.out.chg C1.out (fun j hj he => by have he : j = w.heap.size + 1 + 1 := he; have := (T1.out.blk j hj).1; rw [z0] at this; omega))
  have B1 := hid (below_chg B1.out C1.out (by have := B1.out.size; omega) (fun j hj => by have hj : j = w.heap.size + 1 + 1 := hj; omega))
  have zz : ((((w1.setCell ⟨w.heap.size + 1 + 1, 0, none⟩ (.int .i64 pc)).setCell ⟨w.heap.size + 1 + 1, 1, none⟩ (.slice ua nr uc)).setCell ⟨w.heap.size + 1 + 1, 2, none⟩ (.slice va nm vc)).setCell ⟨w.heap.size + 1 + 1, 3, none⟩ (.int .i64 ht)).heap.size = w1.heap.size := by simp [World.setCell]
  clear VA VR VO
  obtain ⟨_, _, _, _, a4'⟩ := vb5 VA'.out
  go_wp2_with fail
  clear o0 o1 o2 o3 o4 fo a4'
  refine (toBytes_any _ bs _ (RI.out.keep B1.out)).mono ?_
  rintro e w2 ⟨i', rfl, p2, b2⟩
  obtain ⟨ia, ic, rfl, _⟩ := own_form p2
  rw [HN.out]
  have AI := hid (show ∀ j, (Value.slice ia bs.length ic).ownBlock = some j → (.slice ua nr uc : Value).ownBlock ≠ some j ∧ (.slice va nm vc : Value).ownBlock ≠ some j from fun j hj => ⟨fun h => by have := (P1.out.blk j h).2; have := (p2.blk j hj).1; omega, fun h => by have := (T1.out.blk j h).2; have := (p2.blk j hj).1; omega⟩)
  rw [HN.out] at AI p2
  have VR := hid (VR'.out.keep b2)
  have VO := hid (VO'.out.keep b2)
  have P2 := hid (P1.out.keep b2)
  have T2 := hid (T1.out.keep b2)
  have I2 := hid p2
  have B2 := hid (B1.out.trans (b2.mono B1.out.size))
  have z2 := b2.size
  rw [zz] at z2
  clear p2 b2 VA' VR' VO'
  obtain ⟨o0, o1, o2, o3, o4⟩ := vb5 VO.out
  have fo := VO.out.2.1
  have VRs := hid (VR.out.off (c := w.heap.size + 1 + 1) (i := 4) (v := .slice ia nb ic) (by omega))
  have VOs : Hid (VB (w2.setCell ⟨w.heap.size + 1 + 1, 4, none⟩ (.slice ia nb ic)) (w.heap.size + 1 + 1) [.int .i64 pc, .slice ua nr uc, .slice va nm vc, .int .i64 ht, .slice ia nb ic]) := hid (VO.out.set (i := 4) (by simp) (.slice ia nb ic))
  obtain ⟨s0, s1, s2, s3, s4⟩ := vb5 VRs.out
  have fs := VRs.out.2.1
  obtain ⟨k0, k1, k2, k3, k4⟩ := vb5 VOs.out
  have CG := hid (((Chg.refl (fun j => j = w.heap.size + 1 ∨ j = w.heap.size + 1 + 1) w2).set (p := ⟨w.heap.size + 1 + 1, 4, none⟩) (.inr rfl) (.slice ia nb ic)).trans (vbchg5 (b := w.heap.size + 1) (.int .i64 pc) (.slice ua nr uc) (.slice va nm vc) (.int .i64 ht) (.slice ia nb ic) (.inl rfl)))
  go_wp2_with fail
  obtain ⟨t0, t1, t2, t3, t4⟩ := vb5 (vbset5 (.int .i64 pc) (.slice ua nr uc) (.slice va nm vc) (.int .i64 ht) (.slice ia nb ic) VRs.out)
  refine bodyPost_ret (v := .agg #[.int .i64 pc, .slice ua nr uc, .slice va nm vc, .int .i64 ht, .slice ia nb ic]) (res_toCell _ rfl t0 t1 t2 t3 t4) rfl ?_
  have L1 : ∀ j, j = w.heap.size + 1 ∨ j = w.heap.size + 1 + 1 → j < w.heap.size + 1 + 1 + 1 := fun j hj => by omega
  have Q1 := P2.out.chg CG.out (fun j hj he => by have := L1 j he; have := (P2.out.blk j hj).1; rw [z0] at this; omega)
  have Q2 := T2.out.chg CG.out (fun j hj he => by have := L1 j he; have := (T2.out.blk j hj).1; rw [z0] at this; omega)
  have Q3 := I2.out.chg CG.out (fun j hj he => by have := L1 j he; have := (I2.out.blk j hj).1; omega)
  refine ⟨_, _, _, rfl, ⟨Q1.low (by omega), Q2.low (by omega), Q3.low (by omega), AP.out, AI.out, fun j hj => ?_⟩, below_chg B2.out CG.out (by have := B2.out.size; omega) (fun j hj => by have hj : j = w.heap.size + 1 ∨ j = w.heap.size + 1 + 1 := hj; omega)⟩
  rcases hj with hj | hj | hj
  · exact (Q1.low (B' := w.heap.size) (by omega)).blk j hj
  · exact (Q2.low (B' := w.heap.size) (by omega)).blk j hj
  · exact (Q3.low (B' := w.heap.size) (by omega)).blk j hj

set_option maxHeartbeats 2000000 in
theorem eqCell_same (pc ht : Int) (r m i r' m' i' : Value) (nr nm : Nat) (xs ys bs : List Int) (w : World) (hr : RdI 1 w r nr xs) (hm : RdI 1 w m nm ys) (hi : Rd w i bs) (hr' : RdI 1 w r' nr xs) (hm' : RdI 1 w m' nm ys) (hi' : Rd w i' bs) :
    Calls Try.prog 18 #[.agg #[.int .i64 pc, r, m, .int .i64 ht, i], .agg #[.int .i64 pc, r', m', .int .i64 ht, i']] w fun e w' => e = .returned (.bool true) ∧ Below w.heap.size w w' := by
  have R := hid hr
  have M := hid hm
  have I := hid hi
  have R' := hid hr'
  have M' := hid hm'
  have I' := hid hi'
  obtain ⟨_, _, a1, c1, rfl, _⟩ := hr
  obtain ⟨_, _, a2, c2, rfl, _⟩ := hm
  obtain ⟨_, _, a3, c3, rfl, _⟩ := hi
  obtain ⟨nb, hnb⟩ : ∃ nb, bs.length = nb := ⟨_, rfl⟩
  rw [hnb] at I ⊢
  have HN := hid hnb
  clear hnb
  obtain ⟨_, _, a4, c4, rfl, _⟩ := hr'
  obtain ⟨_, _, a5, c5, rfl, _⟩ := hm'
  obtain ⟨_, _, a6, c6, rfl, _⟩ := hi'
  rw [HN.out] at I' ⊢
  have P := hid (((Below.refl w.heap.size w).alloc (Nat.le_refl _) (.cells #[.int .i64 pc, .slice a1 nr c1, .slice a2 nm c2, .int .i64 ht, .slice a3 nb c3] 27)).alloc (by simp) (.cells #[.int .i64 pc, .slice a4 nr c4, .slice a5 nm c5, .int .i64 ht, .slice a6 nb c6] 27))
  have VA := hid ((vb_new w [.int .i64 pc, .slice a1 nr c1, .slice a2 nm c2, .int .i64 ht, .slice a3 nb c3] 27).keep (below_alloc1 _ (.cells #[.int .i64 pc, .slice a4 nr c4, .slice a5 nm c5, .int .i64 ht, .slice a6 nb c6] 27)))
  have VC : Hid (VB ((w.alloc (.cells #[.int .i64 pc, .slice a1 nr c1, .slice a2 nm c2, .int .i64 ht, .slice a3 nb c3] 27)).alloc (.cells #[.int .i64 pc, .slice a4 nr c4, .slice a5 nm c5, .int .i64 ht, .slice a6 nb c6] 27)) (w.heap.size + 1) [.int .i64 pc, .slice a4 nr c4, .slice a5 nm c5, .int .i64 ht, .slice a6 nb c6]) := hid (by have := vb_new (w.alloc (.cells #[.int .i64 pc, .slice a1 nr c1, .slice a2 nm c2, .int .i64 ht, .slice a3 nb c3] 27)) [.int .i64 pc, .slice a4 nr c4, .slice a5 nm c5, .int .i64 ht, .slice a6 nb c6] 27; simpa using this)
  go_enter Try.func18, Try.ntmps18
  go_wp2_with fail
  refine (eqVm_same pc ht _ _ _ _ nr nm xs ys _ (R.out.keep P.out) (M.out.keep P.out) (R'.out.keep P.out) (M'.out.keep P.out)).mono ?_
  rintro e w1 ⟨rfl, b1⟩
  obtain ⟨_, _, _, _, q4⟩ := vb5 (VA.out.keep b1)
  obtain ⟨_, _, _, _, q9⟩ := vb5 (VC.out.keep b1)
  have P1 := hid (P.out.trans (b1.mono P.out.size))
  clear b1
  go_wp2_with fail
  refine (eqBytes_same _ _ bs _ (I.out.keep P1.out) (I'.out.keep P1.out)).mono ?_
  rintro e w2 ⟨rfl, b2⟩
  have P2 := hid (P1.out.trans (b2.mono P1.out.size))
  clear b2
  go_wp2
  go_ret
  exact ⟨rfl, P2.out⟩
end Go.Proofs.Ythhgjnhfidhmpaa
