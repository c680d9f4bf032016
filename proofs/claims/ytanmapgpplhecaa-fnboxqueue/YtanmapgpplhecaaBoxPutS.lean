/- BoxPut, BoxTake: the contracts of the specification's. Conditions: the items read as lists of bytes, the message as bytes. -/
import Derived.Test.YtanmapgpplhecaaBoxPutC
import Derived.Deep.RegionLaw
namespace Go.Proofs.Ytanmapgpplhecaa
open Go.ChangeShapes Go.WideShapes Go.ChangeAt Go.RowKit Go.Joins Go.Deep
set_option linter.unusedVariables false
set_option linter.unusedSimpArgs false
set_option maxRecDepth 4000
theorem res_sput {W : World} {b : Nat} {x0 x1 y : Value} (tmps : Array Value) (ht : tmps[4]?.getD undef = .pointer (some ⟨b, 0, none⟩)) (h0 : W.cell? ⟨b, 0, none⟩ = some x0) (h1 : W.cell? ⟨b, 1, none⟩ = some x1) (h2 : tmps[5]?.getD undef = y) :
    (results Try.f25 tmps).run Try.prog W = .ok (.tuple #[.agg #[x0, x1], y]) W := by
  simp [results, Try.results25, go_sem, ht, h0, h1, h2]
theorem res_stake {W : World} {b : Nat} {x0 x1 y z : Value} (tmps : Array Value) (ht : tmps[2]?.getD undef = .pointer (some ⟨b, 0, none⟩)) (h0 : W.cell? ⟨b, 0, none⟩ = some x0) (h1 : W.cell? ⟨b, 1, none⟩ = some x1) (h2 : tmps[3]?.getD undef = y) (h3 : tmps[4]?.getD undef = z) :
    (results Try.f45 tmps).run Try.prog W = .ok (.tuple #[.agg #[x0, x1], y, z]) W := by
  simp [results, Try.results45, go_sem, ht, h0, h1, h2, h3]
/-- a call, as one step of a region that draws -/
theorem step_call {P : Program} {ops : Array Oper} {o : Oper} {a : Act} {w : World} {K : Act → World → Prop} {Q : Exit → Act → World → Prop} {E : Prop} {f : Nat} {tys : Array TypeId} (l : List Operand) (hgd : o.guard = none) (ho : o.op = .call ⟨.value (.func f), l.toArray, tys⟩)
    (hc : ∀ (xs : Array Value) (w : World), (callFunc f xs).run P w = .ok (.enter f xs) w) (vs : List Value) (hv : l.map a.eval = vs) (h : Calls P f vs.toArray w fun e w' => ∃ v, e = .returned v ∧ K (a.put o.dst v) w') :
    if Region.wanted o (yielded ops a.tmps) = true then Oper.wp P o a w K Q else E := by
  have hw : Region.wanted o (yielded ops a.tmps) = true := by simp [Region.wanted, hgd]
  rw [if_pos hw]
  subst hv
  unfold Oper.wp
  have hr : (execOp a.eval o).run P w = .ok (.enter f (l.toArray.map a.eval)) w := by
    simp [execOp, ho, resolve, go_sem, Act.eval, hc]
  rw [hr, List.map_toArray]
  refine Calls.mono h ?_
  rintro e w' ⟨v, rfl, hk⟩
  exact hk
def SPutPost (d : Int) (yss : List (List Int)) (ms : List Int) (w : World) (e : Ending) (w' : World) : Prop :=
  ∃ u, e = .returned (.tuple #[.agg #[.int .i64 (pD d yss ms), u], .bool (pB d yss ms)]) ∧ RdS w' u (pI d yss ms) ∧ Below w.heap.size w w'
def STakePost (d : Int) (yss : List (List Int)) (w : World) (e : Ending) (w' : World) : Prop :=
  ∃ u m, e = .returned (.tuple #[.agg #[.int .i64 (tD d yss), u], m, .bool (tB d yss)]) ∧ RdS w' u (tI d yss) ∧ Rd w' m (tM d yss) ∧ Below w.heap.size w w'
theorem OwnV.chg2 {w w' : World} {B : Nat} {v : Value} {f : Nat → Value} {yss : List (List Int)} {S : Nat → Prop} (h : OwnV w B v f yss) (hc : Chg S w w') (h1 : ∀ j, v.ownBlock = some j → ¬ S j) (h2 : ∀ i, i < yss.length → ∀ j, (f i).ownBlock = some j → ¬ S j) : OwnV w' B v f yss :=
  ⟨ownsRow_chg h.1 hc h1, fun i hi => OwnR.chg (h.2 i hi) hc (h2 i hi)⟩
theorem rdS_nil (w : World) : RdS w (.slice none 0 0) [] := ⟨by simp, none, 0, rfl, .inl rfl⟩
theorem RdS.chg {w w' : World} {B : Nat} {v : Value} {f : Nat → Value} {yss : List (List Int)} (h : OwnV w B v f yss) {S : Nat → Prop} (hc : Chg S w w') (hs : ∀ j, S j → j < B) (hn : yss.length ≤ 1000) (hy : ∀ i, i < yss.length → (yss.getD i []).length ≤ 2000000) : RdS w' v yss := (h.chg hc hs).rd (by omega) hy
set_option maxHeartbeats 8000000 in
theorem specPut_any (d : Int) (v mv : Value) (yss : List (List Int)) (ms : List Int) (w : World) (hv : RdS w v yss) (hm : Rd w mv ms) :
    Calls Try.prog 25 #[.agg #[.int .i64 d, v], mv] w fun e w' => SPutPost d yss ms w e w' := by
  have RV := hid hv
  obtain ⟨h2, a, cap, rfl, h3⟩ := hv
  clear h3
  have P0 := hid (((Below.refl w.heap.size w).alloc (Nat.le_refl _) (.cells #[.int .i64 d, .slice a yss.length cap] 25)).alloc (by simp) (.cells #[.int .i64 0, .slice none 0 0] 25))
  have VA := hid ((vb_new w [.int .i64 d, .slice a yss.length cap] 25).keep (below_alloc1 _ (.cells #[.int .i64 0, .slice none 0 0] 25)))
  have VR : Hid (VB ((w.alloc (.cells #[.int .i64 d, .slice a yss.length cap] 25)).alloc (.cells #[.int .i64 0, .slice none 0 0] 25)) (w.heap.size + 1) [.int .i64 0, .slice none 0 0]) := hid (by have := vb_new (w.alloc (.cells #[.int .i64 d, .slice a yss.length cap] 25)) [.int .i64 0, .slice none 0 0] 25; simpa using this)
  have RV := hid (RV.out.keep P0.out)
  have PP := P0
  have RM := hid (hm.keep P0.out)
  obtain ⟨_, _, ma, mc, rfl, _⟩ := hm
  obtain ⟨nm, hnm⟩ : ∃ nm, ms.length = nm := ⟨_, rfl⟩
  have HNM := hid hnm
  rw [hnm] at RM ⊢
  clear hnm P0
  go_enter Try.func25, Try.ntmps25
  go_wp2_with fail
  refine (specBoxOk_any d _ yss _ RV.out).mono ?_
  rintro e w1 ⟨rfl, b1⟩
  have RV := hid (RV.out.keep b1)
  have RM := hid (RM.out.keep b1)
  have VA := hid (VA.out.keep b1)
  have VR := hid (VR.out.keep b1)
  have PP := hid (PP.out.trans (b1.mono PP.out.size))
  clear b1
  cases k0 : boxB d yss
  · have E := hid (p_no (ms := ms) (show pOk d yss ms = false by simp [pOk, k0]))
    obtain ⟨r0, r1⟩ := vb2 VR.out
    have fr := VR.out.2.1
    go_wp2_with fail
    obtain ⟨t0, t1⟩ := vb2 (vbset2 (.int .i64 0) (.slice none 0 0) VR.out)
    refine bodyPost_ret (v := .tuple #[.agg #[.int .i64 0, .slice none 0 0], .bool false]) (res_sput _ rfl t0 t1 rfl) rfl ?_
    exact ⟨.slice none 0 0, by rw [E.out.1, E.out.2.2], by rw [E.out.2.1]; exact rdS_nil _, below_chg PP.out (vbchg2 (S := fun j => j = w.heap.size + 1) (w := _) (b := w.heap.size + 1) (.int .i64 0) (.slice none 0 0) rfl) (by have := PP.out.size; omega) (fun j hj => by have hj : j = w.heap.size + 1 := hj; omega)⟩
  go_wp2_with fail
  refine (specMsg_any _ ms _ RM.out).mono ?_
  rw [HNM.out]
  rintro e w2 ⟨rfl, rfl⟩
  cases k1 : decide (nm ≤ 8)
  · have E := hid (p_no (ms := ms) (show pOk d yss ms = false by simp [pOk, k0, HNM.out, k1]))
    obtain ⟨r0, r1⟩ := vb2 VR.out
    have fr := VR.out.2.1
    go_wp2_with fail
    obtain ⟨t0, t1⟩ := vb2 (vbset2 (.int .i64 0) (.slice none 0 0) VR.out)
    refine bodyPost_ret (v := .tuple #[.agg #[.int .i64 0, .slice none 0 0], .bool false]) (res_sput _ rfl t0 t1 rfl) rfl ?_
    exact ⟨.slice none 0 0, by rw [E.out.1, E.out.2.2], by rw [E.out.2.1]; exact rdS_nil _, below_chg PP.out (vbchg2 (S := fun j => j = w.heap.size + 1) (w := _) (b := w.heap.size + 1) (.int .i64 0) (.slice none 0 0) rfl) (by have := PP.out.size; omega) (fun j hj => by have hj : j = w.heap.size + 1 := hj; omega)⟩
  obtain ⟨⟨d1, d4⟩, hnd, hy8⟩ := box_of k0
  have hok : pOk d yss ms = true := by simp [pOk, k0, HNM.out, k1]
  have HY := hid hy8
  have HM8 := hid (show nm ≤ 8 by simpa using k1)
  clear hy8
  obtain ⟨a0, a1⟩ := vb2 VA.out
  go_wp2_with fail
  clear a0 a1
  have HB3 := hid VR.out.2.2
  refine (l7Copy_any d _ yss _ RV.out (by omega)).mono ?_
  rintro e w3 ⟨u, f, rfl, ou, b3⟩
  obtain ⟨ua, uc, rfl⟩ := ou.form
  have OU := hid (ou.low (B' := w.heap.size + 2) (by have := HB3.out; omega))
  clear ou
  have RV := hid (RV.out.keep b3)
  have RM := hid (RM.out.keep b3)
  have VA := hid (VA.out.keep b3)
  have VR := hid (VR.out.keep b3)
  have PP := hid (PP.out.trans (b3.mono PP.out.size))
  clear b3
  obtain ⟨W4, hW4⟩ : ∃ W4, w3.alloc (.cells #[.int .i64 d, .slice ua yss.length uc] 25) = W4 := ⟨_, rfl⟩
  have VX := hid (show VB W4 w3.heap.size [.int .i64 d, .slice ua yss.length uc] by rw [← hW4]; exact vb_new w3 [.int .i64 d, .slice ua yss.length uc] 25)
  have b4 : Below w3.heap.size w3 W4 := by rw [← hW4]; exact below_alloc1 _ _
  obtain ⟨r, hr⟩ : ∃ r, w3.heap.size = r := ⟨_, rfl⟩
  have HR1 := hid (show w.heap.size + 1 < r by rw [← hr]; exact VR.out.2.2)
  have HUB := hid (fun j (hj : (Value.slice ua yss.length uc).ownBlock = some j) => (show j < r by rw [← hr]; exact (OU.out.1.lt j hj).2))
  have HFB := hid (fun i (hi : i < yss.length) j (hj : (f i).ownBlock = some j) => (show j < r by rw [← hr]; exact ((OU.out.2 i hi).blk j hj).2))
  have OU := hid (OU.out.keep b4)
  rw [hr] at VX
  have RV := hid (RV.out.keep b4)
  have RM := hid (RM.out.keep b4)
  have VA := hid (VA.out.keep b4)
  have VR := hid (VR.out.keep b4)
  have PP := hid (PP.out.trans (b4.mono PP.out.size))
  clear b4
  obtain ⟨x0, x1⟩ := vb2 VX.out
  have fx := VX.out.2.1
  by_cases hlt : (yss.length : Int) < d
  · have E := hid (p_yes hok hlt)
    have dn : ((yss.length : Int) == d) = false := by simp; omega
    obtain ⟨ti, hti, htz, hts, htb⟩ := infoB2
    go_upto_region 6 with fail
    try rw [hW4]
    try rw [hr]
    clear hW4 hr
    have HX0 : W4.drew.cell? ⟨r, 1, none⟩ = some (.slice ua yss.length uc) := x1
    have HRL := hid (show r < W4.heap.size from VX.out.2.2)
    have RMd := hid (show Rd W4.drew (.slice ma nm mc) ms from RM.out)
    have OUd := hid (show OwnV W4.drew (w.heap.size + 2) (.slice ua yss.length uc) f yss from OU.out.keep (Below.refl _ _).drew)
    have BD := hid ((Below.refl W4.heap.size W4).drew)
    have LOW := hid (show w.heap.size + 2 ≤ W4.heap.size by have := HR1.out; have := HRL.out; omega)
    clear x0 x1
    go_region_law ((first
      | (refine step_call (f := 66) [.tmp 27] rfl rfl (fun xs w => by go_simp) [.slice ma nm mc] rfl ?_; refine (l2Copy_any _ ms _ RMd.out).mono ?_; rintro e w5 ⟨y, rfl, oy, b5⟩; obtain ⟨ya, yc, rfl, _⟩ := own_form oy; rw [HNM.out] at oy ⊢; have OY := hid oy; have HX0 := cell_keep b5 HX0; have lr5 : r < w5.heap.size := Nat.lt_of_lt_of_le HRL.out b5.size; have B5 := hid b5; clear oy b5; refine ⟨_, rfl, ?_⟩)
      | (refine step_append_lies _ rfl (.tmp 26) (.tmp 29) 23 rfl (w.heap.size + 2) 22 ti (.slice none 0 0) 1 24 Try.underlying23 hti htz hts htb rfl (by omega) (.slice ua yss.length uc) yss.length ((List.range yss.length).map f) rfl ((OUd.out.1.kept (row := none) ⟨B5.out.os, B5.out.tape, B5.out.output, B5.out.size, fun k hk _ => B5.out.block k hk⟩ (by cases ua <;> simp [Value.ownBlock])).alloc _) ⟨w5.heap.size, 0, none⟩ 1 1 [.slice ya nm yc] rfl rfl (cell_one_new _ _ _) (by intro y hy; simp at hy; subst hy; rfl) (by omega) (by unfold maxLen; omega) (by omega) (by have := B5.out.size; have := LOW.out; simp at *; omega) (w5.heap.size + 1) (by simp) ?_; intro gg cap2 w6 ho2 hg2 hat hlt2; have O6 := hid ho2; have G6 := hid hg2; have HLT := hid hlt2; have BA := hid (below_alloc1 w5 (.cells #[.slice ya nm yc] 22)); have V6 := hid ((((VX.out.keep BD.out).keep B5.out).keep BA.out).grown hg2 (fun e => by have := HUB.out r e.symm; omega)); obtain ⟨x0, x1⟩ := vb2 V6.out; have fx := V6.out.2.1; clear ho2 hg2 hat hlt2)))
    all_goals
      have VR6 := hid ((((VR.out.keep BD.out).keep B5.out).keep BA.out).grown G6.out (fun e => by have := (OU.out.1.lt _ e.symm).1; omega))
      have OV6 := hid (((OUd.out.keep B5.out).keep BA.out).more rfl ((OY.out.low LOW.out).keep BA.out) G6.out O6.out)
      have PP := hid (((((PP.out.trans (BD.out.mono PP.out.size)).trans (B5.out.mono (PP.out.trans (BD.out.mono PP.out.size)).size)).trans (BA.out.mono ((PP.out.trans (BD.out.mono PP.out.size)).trans (B5.out.mono (PP.out.trans (BD.out.mono PP.out.size)).size)).size))).grown G6.out (by have := PP.out.size; have := BD.out.size; have := B5.out.size; simp at *; omega) (fun j hj => by have := (OU.out.1.lt j hj).1; omega))
      obtain ⟨r0, r1⟩ := vb2 VR6.out
      have fr := VR6.out.2.1
      have nRr : ¬ w.heap.size + 1 = r := by have := HR1.out; omega
      have nrR : ¬ r = w.heap.size + 1 := by have := HR1.out; omega
      have CG := hid (((Chg.refl (fun j => j = w.heap.size + 1 ∨ j = r) w6).set (p := ⟨r, 1, none⟩) (.inr rfl) (.slice (some ⟨gg, 0, none⟩) (yss.length + 1) cap2)).trans (vbchg2 (b := w.heap.size + 1) (.int .i64 d) (.slice (some ⟨gg, 0, none⟩) (yss.length + 1) cap2) (.inl rfl)))
      have T := hid (vbset2 (.int .i64 d) (.slice (some ⟨gg, 0, none⟩) (yss.length + 1) cap2) (VR6.out.off (c := r) (i := 1) (v := .slice (some ⟨gg, 0, none⟩) (yss.length + 1) cap2) nrR))
      clear RV RM VA
      go_wp2_with fail
      obtain ⟨t0, t1⟩ := vb2 T.out
      refine bodyPost_ret (v := .tuple #[.agg #[.int .i64 d, .slice (some ⟨gg, 0, none⟩) (yss.length + 1) cap2], .bool true]) (res_sput _ rfl t0 t1 rfl) rfl ?_
      refine ⟨_, by rw [E.out.1, E.out.2.2], ?_, below_chg PP.out CG.out (by have := PP.out.size; omega) (fun j hj => by have hj : j = w.heap.size + 1 ∨ j = r := hj; have := HR1.out; omega)⟩
      rw [E.out.2.1]
      have hy8' : ∀ i, i < (yss ++ [ms]).length → ((yss ++ [ms]).getD i []).length ≤ 2000000 := by
        intro i hi
        simp only [List.length_append, List.length_cons, List.length_nil] at hi
        by_cases e : i = yss.length
        · subst e
          simp only [List.getD_eq_getElem?_getD, List.getElem?_concat_length, Option.getD_some]
          have := HNM.out; have := HM8.out; omega
        · rw [List.getD_eq_getElem?_getD, List.getElem?_append_left (by omega), ← List.getD_eq_getElem?_getD]
          have := HY.out i (by omega); omega
      have ln : (yss ++ [ms]).length = yss.length + 1 := by simp
      have hrd := OV6.out.rd (by rw [ln]; omega) hy8'
      have hgr : ¬ gg = r := by
        intro e
        subst e
        obtain ⟨_, a', c', hv', h3⟩ := hrd
        rcases h3 with h3 | ⟨b, off, rfl, hc⟩
        · simp at h3
        · simp only [Value.slice.injEq, Option.some.injEq, Addr.mk.injEq, and_true] at hv'
          obtain ⟨⟨rfl, rfl⟩, _⟩ := hv'
          obtain ⟨u, hu, _, _, _, _, hsl, _⟩ := hc 0 (by rw [ln]; omega)
          rw [hsl] at hu
          have := V6.out.1 0 (by simp)
          simp only [Nat.add_zero] at hu
          rw [hu] at this
          simp at this
      have hlo := (OV6.out.1.lt gg rfl).1
      refine (OV6.out.chg2 CG.out (fun j hj => ?_) (fun i hi j hj => ?_)).rd (by rw [ln]; omega) hy8'
      · have hjg : gg = j := by simpa [Value.ownBlock] using hj
        subst hjg
        rintro (e | e)
        · omega
        · exact hgr e
      · have hj : ((fun i => if i = yss.length then (.slice ya nm yc : Value) else f i) i).ownBlock = some j := hj
        simp only at hj
        by_cases e : i = yss.length
        · rw [if_pos e] at hj
          have h1 := (OY.out.blk j hj).1
          have := HRL.out
          have := HR1.out
          have h2 : W4.drew.heap.size = W4.heap.size := rfl
          rintro (e | e) <;> omega
        · rw [if_neg e] at hj
          rw [ln] at hi
          have h1 := HFB.out i (by omega) j hj
          have h2 := ((OU.out.2 i (by omega)).blk j hj).1
          rintro (e | e) <;> omega
  · have hle : ¬ (yss.length : Int) < d := hlt
    have E := hid (p_full hok hlt)
    have dn : ((yss.length : Int) == d) = true := by simp; omega
    obtain ⟨r0, r1⟩ := vb2 VR.out
    have fr := VR.out.2.1
    have nRr : ¬ w.heap.size + 1 = r := by have := HR1.out; omega
    have nrR : ¬ r = w.heap.size + 1 := by have := HR1.out; omega
    go_upto_region 5 with fail
    try rw [hW4]
    try rw [hr]
    clear hW4 hr
    go_wp2_with fail
    obtain ⟨t0, t1⟩ := vb2 (vbset2 (.int .i64 d) (.slice ua yss.length uc) VR.out)
    have CG := hid (vbchg2 (S := fun j => j = w.heap.size + 1) (w := W4) (b := w.heap.size + 1) (.int .i64 d) (.slice ua yss.length uc) rfl)
    refine bodyPost_ret (v := .tuple #[.agg #[.int .i64 d, .slice ua yss.length uc], .bool false]) (res_sput _ rfl t0 t1 rfl) rfl ?_
    exact ⟨_, by rw [E.out.1, E.out.2.2], by rw [E.out.2.1]; exact (OU.out.chg CG.out (fun j hj => by have hj : j = w.heap.size + 1 := hj; omega)).rd (by omega) (fun i hi => by have := HY.out i hi; omega), below_chg PP.out CG.out (by have := PP.out.size; omega) (fun j hj => by have hj : j = w.heap.size + 1 := hj; omega)⟩

end Go.Proofs.Ytanmapgpplhecaa
