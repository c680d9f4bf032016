/- A row of byte lists of one's own as it grows; the contract of the specification's l7Copy. Conditions: the items read as lists of bytes, and are few. -/
import Derived.Test.YtanmapgpplhecaaBoxOk
import Derived.Test.YtanmapgpplhecaaChg
import Derived.Test.YtanmapgpplhecaaVBk
import Derived.Test.YtanmapgpplhecaaByteStrG
import Derived.Test.YtanmapgpplhecaaMarkSS
import Derived.Deep.AppendLies
import Derived.Deep.DeepMust
import Derived.Deep.DeepCutAuto
namespace Go.Proofs.Ytanmapgpplhecaa
open Go.ChangeShapes Go.WideShapes Go.ChangeAt Go.RowKit Go.Joins Go.Deep
set_option linter.unusedVariables false
set_option linter.unusedSimpArgs false
set_option maxRecDepth 4000

theorem infoB2 : ∃ i, Try.prog.info? 22 = some i ∧ i.zero = some (.slice none 0 0) ∧ i.size = 1 ∧ i.bytes = 24 := by
  obtain ⟨i, hi, hzz⟩ := Option.map_eq_some_iff.1 infoB
  simp only [Prod.mk.injEq] at hzz
  exact ⟨i, hi, hzz.1, hzz.2.1, hzz.2.2⟩
/-- rows of two types lie in two blocks -/
theorem rows_apart {w : World} {B B' : Nat} {e e' : TypeId} {z z' n n' : Nat} {v v' : Value} {xs xs' : List Value} (h : w.ownsRow B e z v n xs) (h' : w.ownsRow B' e' z' v' n' xs') (hne : ¬ e = e') : ∀ j, v.ownBlock = some j → v'.ownBlock ≠ some j := by
  intro j hj hj'
  obtain ⟨_, ⟨rfl, _⟩ | ⟨g, cap, cur, rfl, _, hh, _⟩⟩ := h
  · simp [Value.ownBlock] at hj
  obtain ⟨_, ⟨rfl, _⟩ | ⟨g', cap', cur', rfl, _, hh', _⟩⟩ := h'
  · simp [Value.ownBlock] at hj'
  simp only [Value.ownBlock, Option.some.injEq] at hj hj'
  subst hj hj'
  rw [hh] at hh'
  exact hne (by simpa using congrArg (fun o : Option Obj => match o with | some (.cells _ t _) => t | _ => 0) hh')
/-- a row of byte lists of one's own: the row, which may have room, and each list -/
def OwnV (w : World) (B : Nat) (v : Value) (f : Nat → Value) (yss : List (List Int)) : Prop :=
  w.ownsRow B 22 1 v yss.length ((List.range yss.length).map f) ∧ ∀ i, i < yss.length → Own w B (f i) (yss.getD i [])
theorem OwnV.keep {w w' : World} {B : Nat} {v : Value} {f : Nat → Value} {yss : List (List Int)} (h : OwnV w B v f yss) (hb : Below w.heap.size w w') : OwnV w' B v f yss :=
  ⟨h.1.kept (row := none) ⟨hb.os, hb.tape, hb.output, hb.size, fun k hk _ => hb.block k hk⟩ (by cases v <;> simp [Value.ownBlock] <;> split <;> simp), fun i hi => (h.2 i hi).keep hb⟩
theorem OwnV.low {w : World} {B B' : Nat} {v : Value} {f : Nat → Value} {yss : List (List Int)} (h : OwnV w B v f yss) (hb : B' ≤ B) : OwnV w B' v f yss :=
  ⟨ownsRow_le h.1 hb, fun i hi => (h.2 i hi).low hb⟩
theorem ownsRow_chgV {w w' : World} {B size n : Nat} {e : TypeId} {v : Value} {xs : List Value} {S : Nat → Prop} (h : w.ownsRow B e size v n xs) (hc : Chg S w w') (hs : ∀ j, S j → j < B) : w'.ownsRow B e size v n xs := by
  obtain ⟨h2, h3⟩ := h
  refine ⟨h2, ?_⟩
  rcases h3 with h3 | ⟨q, cap', cur, hv, hq, hh, r⟩
  · exact .inl h3
  · refine .inr ⟨q, cap', cur, hv, hq, ?_, r⟩
    have hlt : q < w.heap.size := by
      rcases Nat.lt_or_ge q w.heap.size with h' | h'
      · exact h'
      · rw [Array.getElem?_eq_none h'] at hh; cases hh
    rw [hc.block q hlt (fun e => by have := hs q e; omega)]; exact hh
theorem OwnV.chg {w w' : World} {B : Nat} {v : Value} {f : Nat → Value} {yss : List (List Int)} {S : Nat → Prop} (h : OwnV w B v f yss) (hc : Chg S w w') (hs : ∀ j, S j → j < B) : OwnV w' B v f yss :=
  ⟨ownsRow_chgV h.1 hc hs, fun i hi => ⟨(h.2 i hi).1, ownsRow_chgV (h.2 i hi).2 hc hs⟩⟩
theorem OwnV.form {w : World} {B : Nat} {v : Value} {f : Nat → Value} {yss : List (List Int)} (h : OwnV w B v f yss) : ∃ a c, v = .slice a yss.length c := by
  obtain ⟨_, ⟨rfl, h0⟩ | ⟨g, cap, cur, rfl, _⟩⟩ := h.1
  · exact ⟨none, 0, by rw [h0]⟩
  · exact ⟨_, _, rfl⟩
theorem OwnV.rd {w : World} {B : Nat} {v : Value} {f : Nat → Value} {yss : List (List Int)} (h : OwnV w B v f yss) (hn : yss.length ≤ 2000000) (hy : ∀ i, i < yss.length → (yss.getD i []).length ≤ 2000000) : RdS w v yss := by
  obtain ⟨⟨h0, h1⟩, h2⟩ := h
  rcases h1 with ⟨hv, hz⟩ | ⟨g, cap, cur, hv, hg, hh, hnc, hm, hsz, hcur⟩
  · exact ⟨hn, none, 0, by rw [hv, hz], .inl (List.length_eq_zero_iff.1 hz)⟩
  · refine ⟨hn, some ⟨g, 0, none⟩, cap, hv, .inr ⟨g, 0, rfl, fun i hi => ⟨f i, ?_, (h2 i hi).rd (hy i hi)⟩⟩⟩
    have e : cur[i]? = some (f i) := by
      have h4 : (cur.toList.take (yss.length * 1))[i]? = ((List.range yss.length).map f)[i]? := by rw [hcur]
      rw [List.getElem?_take_of_lt (by omega)] at h4
      simp only [Array.getElem?_toList] at h4
      rw [h4]; simp [hi]
    simp only [Nat.zero_add]
    simp [World.cell?, hh, e]
/-- a list more -/
theorem OwnV.more {w w' : World} {B g cap n : Nat} {v u : Value} {f : Nat → Value} {yss : List (List Int)} {ys : List Int} (h : OwnV w B v f yss) (hn : yss.length = n) (hu : Own w B u ys) (hg : w.grownBy w' v.ownBlock)
    (ho : w'.ownsRow B 22 1 (.slice (some ⟨g, 0, none⟩) (n + 1) cap) (n + 1) ((List.range n).map f ++ [u])) :
    OwnV w' B (.slice (some ⟨g, 0, none⟩) (n + 1) cap) (fun i => if i = n then u else f i) (yss ++ [ys]) := by
  subst hn
  have key : ∀ x zs, Own w B x zs → Own w' B x zs := fun x zs hx => hx.apart hg (fun k hk hk' => rows_apart h.1 hx.2 (by decide) k hk hk')
  refine ⟨?_, fun i hi => ?_⟩
  · have e : ((List.range (yss ++ [ys]).length).map fun i => if i = yss.length then u else f i) = (List.range yss.length).map f ++ [u] := by
      simp only [List.length_append, List.length_cons, List.length_nil, List.range_succ, List.map_append, List.map_cons, List.map_nil]
      simp only [Nat.zero_add, List.range_succ, List.map_append, List.map_cons, List.map_nil, if_true]
      congr 1
      apply List.map_congr_left
      intro i hi
      rw [List.mem_range] at hi
      rw [if_neg (by omega)]
    rw [e]
    simpa using ho
  · simp only [List.length_append, List.length_cons, List.length_nil] at hi
    by_cases e : i = yss.length
    · subst e
      simpa using key _ _ hu
    · simp only [e, if_false]
      have := key _ _ (h.2 i (by omega))
      rw [List.getD_eq_getElem?_getD, List.getElem?_append_left (by omega), ← List.getD_eq_getElem?_getD]
      exact this
theorem ownV_none (w : World) (f : Nat → Value) : OwnV (w.alloc (.cells #[] 22)) w.heap.size (.slice (some ⟨w.heap.size, 0, none⟩) 0 0) f [] :=
  ⟨by simpa using World.ownsRow_made (size := 1) w #[] (e := 22) (base := w.heap.size) 0 (Nat.le_refl _) (by unfold maxLen; omega) (by simp), fun i hi => by simp at hi⟩
theorem take_app (yss : List (List Int)) {k : Nat} (h : k < yss.length) : yss.take k ++ [yss.getD k []] = yss.take (k + 1) := by
  rw [List.take_succ_eq_append_getElem h]
  simp [h]
theorem res_l7Copy {W : World} {b : Nat} {x0 x1 : Value} (tmps : Array Value) (ht : tmps[2]?.getD undef = .pointer (some ⟨b, 0, none⟩)) (h0 : W.cell? ⟨b, 0, none⟩ = some x0) (h1 : W.cell? ⟨b, 1, none⟩ = some x1) :
    (results Try.f65 tmps).run Try.prog W = .ok (.agg #[x0, x1]) W := by
  simp [results, Try.results65, go_sem, ht, h0, h1]
def CopyPost (d : Int) (yss : List (List Int)) (w : World) (e : Ending) (w' : World) : Prop := ∃ u f, e = .returned (.agg #[.int .i64 d, u]) ∧ OwnV w' w.heap.size u f yss ∧ Below w.heap.size w w'
theorem VB.chgV {w w' : World} {b : Nat} {vs : List Value} {row : Option Nat} (h : VB w b vs) (hg : w.grownBy w' row) (hn : some b ≠ row) : VB w' b vs := h.grown hg hn
set_option maxHeartbeats 4000000 in
theorem l7Copy_any (d : Int) (v : Value) (yss : List (List Int)) (w : World) (hv : RdS w v yss) (hs : yss.length ≤ 1000) :
    Calls Try.prog 65 #[.agg #[.int .i64 d, v]] w fun e w' => CopyPost d yss w e w' := by
  obtain ⟨ti, hti, htz, hts, htb⟩ := infoB2
  have RV := hid hv
  obtain ⟨h2, a, cap, rfl, h3⟩ := hv
  have P0 := hid (((Below.refl w.heap.size w).alloc (Nat.le_refl _) (.cells #[.int .i64 d, .slice a yss.length cap] 25)).alloc (by simp) (.cells #[.int .i64 0, .slice none 0 0] 25))
  have VA := hid ((vb_new w [.int .i64 d, .slice a yss.length cap] 25).keep (below_alloc1 _ (.cells #[.int .i64 0, .slice none 0 0] 25)))
  have VR : Hid (VB ((w.alloc (.cells #[.int .i64 d, .slice a yss.length cap] 25)).alloc (.cells #[.int .i64 0, .slice none 0 0] 25)) (w.heap.size + 1) [.int .i64 0, .slice none 0 0]) := hid (by have := vb_new (w.alloc (.cells #[.int .i64 d, .slice a yss.length cap] 25)) [.int .i64 0, .slice none 0 0] 25; simpa using this)
  have z0 : ((w.alloc (.cells #[.int .i64 d, .slice a yss.length cap] 25)).alloc (.cells #[.int .i64 0, .slice none 0 0] 25)).heap.size = w.heap.size + 2 := by simp
  go_enter Try.func65, Try.ntmps65
  go_wp2_with fail
  obtain ⟨W0, hW0⟩ : ∃ W0, (w.alloc (.cells #[.int .i64 d, .slice a yss.length cap] 25)).alloc (.cells #[.int .i64 0, .slice none 0 0] 25) = W0 := ⟨_, rfl⟩
  rw [hW0] at P0 VA VR z0
  try rw [hW0]
  have Z0 := hid z0
  clear z0 hW0
  obtain ⟨W1, hW1⟩ : ∃ W1, W0.alloc (.cells #[] 22) = W1 := ⟨_, rfl⟩
  have N1 := hid (show OwnV W1 W0.heap.size (.slice (some ⟨W0.heap.size, 0, none⟩) 0 0) (fun _ => undef) [] by rw [← hW1]; exact ownV_none W0 _)
  have B1 := hid (show Below W0.heap.size W0 W1 by rw [← hW1]; exact below_alloc1 _ _)
  have VA := hid (VA.out.keep B1.out)
  have VR := hid (VR.out.keep B1.out)
  have P1 := hid (P0.out.trans (B1.out.mono P0.out.size))
  try rw [hW1]
  clear hW1 P0
  go_loopw [3, 4] (fun u i wr => ∃ (k : Nat) (f : Nat → Value), k ≤ yss.length ∧ i = .int .i64 (k : Int) ∧ OwnV wr W0.heap.size u f (yss.take k) ∧ VB wr w.heap.size [.int .i64 d, .slice a yss.length cap] ∧ VB wr (w.heap.size + 1) [.int .i64 0, .slice none 0 0] ∧ Below w.heap.size w wr) (fun _ i _ => yss.length - (intOf i).toNat)
  case atStart => exact ⟨0, _, Nat.zero_le _, rfl, by simpa [Z0.out] using N1.out, VA.out, VR.out, P1.out⟩
  case round =>
    clear N1 B1 VA VR P1
    obtain ⟨k, f, hk, rfl, ho, hva, hvr, hB⟩ := hrel
    have lk : (yss.take k).length = k := by rw [List.length_take]; omega
    have hfm := ho.form
    rw [lk] at hfm
    obtain ⟨au, cu, rfl⟩ := hfm
    have HO := hid ho
    have VA := hid hva
    have VR := hid hvr
    have PP := hid hB
    obtain ⟨c0, c1⟩ := vb2 hva
    clear ho hva hvr hB
    by_cases hlt : k < yss.length
    · rcases h3 with rfl | ⟨b, off, rfl, hc⟩
      · simp at hlt
      obtain ⟨x, hx, hr⟩ := hc k hlt
      obtain ⟨_, _, _, _, hsl⟩ := RV.out
      have k0 : (0 : Int) ≤ (k : Int) := by omega
      have k1 : (k : Int) < (yss.length : Int) := by omega
      have RX := hid (hr.keep PP.out)
      have hcx := cell_keep PP.out hx
      obtain ⟨nx, hnx⟩ : ∃ nx, (yss.getD k []).length = nx := ⟨_, rfl⟩
      clear hc hsl hr hx hnx
      go_wp2_with fail
      refine (l2Copy_any _ _ _ RX.out).mono ?_
      rintro e w1 ⟨y, rfl, oy, b1⟩
      obtain ⟨ay, cy, rfl, _⟩ := own_form oy
      obtain ⟨ny, hny⟩ : ∃ ny, (yss.getD k []).length = ny := ⟨_, rfl⟩
      have HS := hid (show W0.heap.size ≤ wr.heap.size by have := PP.out.size; have := VR.out.2.2; have := Z0.out; omega)
      have OY := hid (oy.low HS.out)
      rw [hny] at OY ⊢
      have HO := hid (HO.out.keep b1)
      have VA := hid (VA.out.keep b1)
      have VR := hid (VR.out.keep b1)
      have PP := hid (PP.out.trans (b1.mono PP.out.size))
      have hs1 := Nat.le_trans HS.out b1.size
      clear oy b1 c0 c1 hcx RX HS
      have HR := hid HO.out.1
      rw [lk] at HR
      have qk : IntKind.i64.wrap ((k : Int) + 1) = (k : Int) + 1 := by rw [IntKind.wrap_i64]; omega
      go_wp2_with (at_builtin; go_must (refine wpList_append_lies _ (by rfl) _ _ 23 (by rfl) W0.heap.size 22 ti (.slice none 0 0) 1 24 Try.underlying23 hti htz hts htb rfl (by omega) _ k ((List.range k).map f) (by first | rfl | (rw [lk]; rfl) | simp [lk]) (HR.out.alloc _) ⟨w1.heap.size, 0, none⟩ 1 1 [.slice ay ny cy] (by rfl) rfl (cell_one_new _ _ _) (by intro y hy; simp at hy; subst hy; rfl) (by omega) (by unfold maxLen; omega) (by omega) (by simp; omega) (w1.heap.size + 1) (by simp) ?_))
      intro gg cap2 w3 ho2 hg2 hat hlt2
      have BA := hid (below_alloc1 w1 (.cells #[.slice ay ny cy] 22))
      have O3 := hid ((HO.out.keep BA.out).more lk (OY.out.keep BA.out) hg2 ho2)
      rw [take_app yss hlt] at O3
      have hne : ∀ j, (Value.slice au k cu).ownBlock = some j → W0.heap.size ≤ j := fun j hj => (HR.out.lt j hj).1
      have hVA := (VA.out.keep BA.out).grown hg2 (fun e => by have := hne _ e.symm; have := Z0.out; omega)
      have hVR := (VR.out.keep BA.out).grown hg2 (fun e => by have := hne _ e.symm; have := Z0.out; omega)
      have PP := hid ((PP.out.trans (BA.out.mono PP.out.size)).grown hg2 (by have := PP.out.size; simp; omega) (fun j hj => by have := hne j hj; have := Z0.out; omega))
      have VA := hid hVA
      have VR := hid hVR
      obtain ⟨c0, c1⟩ := vb2 hVA
      clear ho2 hg2 hat hne hVA hVR HO OY BA
      go_wp2
      go_roundw
      case rel => exact ⟨k + 1, _, by omega, by go_num, O3.out, VA.out, VR.out, PP.out⟩
      case measure => simp [intOf]; omega
    · obtain rfl : k = yss.length := by omega
      rw [List.take_length] at HO
      obtain ⟨r0, r1⟩ := vb2 VR.out
      have fr := VR.out.2.1
      have nbr : ¬ w.heap.size = w.heap.size + 1 := by omega
      have nbr' : ¬ w.heap.size + 1 = w.heap.size := by omega
      clear h3 lk
      go_wp2_with fail
      obtain ⟨t0, t1⟩ := vb2 (vbset2 (.int .i64 d) (.slice au yss.length cu) VR.out)
      have CG := hid (vbchg2 (S := fun j => j = w.heap.size + 1) (w := wr) (b := w.heap.size + 1) (.int .i64 d) (.slice au yss.length cu) rfl)
      refine bodyPost_ret (res_l7Copy _ rfl t0 t1) rfl ?_
      exact ⟨_, f, rfl, (HO.out.chg CG.out (fun j hj => by have hj : j = w.heap.size + 1 := hj; have := Z0.out; omega)).low (by have := Z0.out; omega), below_chg PP.out CG.out (by have := PP.out.size; omega) (fun j hj => by have hj : j = w.heap.size + 1 := hj; omega)⟩
end Go.Proofs.Ytanmapgpplhecaa
