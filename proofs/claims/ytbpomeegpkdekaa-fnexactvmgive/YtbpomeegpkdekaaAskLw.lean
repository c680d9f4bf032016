/- What a law does with an ask: measured, copied, compared, marked. Conditions: its bytes read. -/
import Derived.Test.YtbpomeegpkdekaaBytesMark2
import Derived.Test.YtbpomeegpkdekaaBytesTo
import Derived.Test.YtbpomeegpkdekaaVBk
import Derived.Test.YtbpomeegpkdekaaChg
import Derived.Deep.RegionWith
import Derived.Deep.DeepCutAuto
namespace Go.Proofs.Ytbpomeegpkdekaa
open Go.ChangeShapes Go.WideShapes Go.ChangeAt Go.RowKit Go.Joins Go.Deep
set_option linter.unusedVariables false
set_option linter.unusedSimpArgs false
set_option maxRecDepth 4000
theorem vb6' {w : World} {b : Nat} {y0 y1 y2 y3 y4 y5 : Value} (h : VB w b [y0, y1, y2, y3, y4, y5]) : w.cell? ⟨b, 0, none⟩ = some y0 ∧ w.cell? ⟨b, 1, none⟩ = some y1 ∧ w.cell? ⟨b, 2, none⟩ = some y2 ∧ w.cell? ⟨b, 3, none⟩ = some y3 ∧ w.cell? ⟨b, 4, none⟩ = some y4 ∧ w.cell? ⟨b, 5, none⟩ = some y5 :=
  ⟨h.1 0 (by simp), h.1 1 (by simp), h.1 2 (by simp), h.1 3 (by simp), h.1 4 (by simp), h.1 5 (by simp)⟩
def st6 (w : World) (b : Nat) (v0 v1 v2 v3 v4 v5 : Value) : World := (((((w.setCell ⟨b, 0, none⟩ v0).setCell ⟨b, 1, none⟩ v1).setCell ⟨b, 2, none⟩ v2).setCell ⟨b, 3, none⟩ v3).setCell ⟨b, 4, none⟩ v4).setCell ⟨b, 5, none⟩ v5
theorem vbset6 {w : World} {b : Nat} {y0 y1 y2 y3 y4 y5 : Value} (v0 v1 v2 v3 v4 v5 : Value) (h : VB w b [y0, y1, y2, y3, y4, y5]) : VB (st6 w b v0 v1 v2 v3 v4 v5) b [v0, v1, v2, v3, v4, v5] :=
  (((((h.set (i := 0) (by simp) v0).set (i := 1) (by simp) v1).set (i := 2) (by simp) v2).set (i := 3) (by simp) v3).set (i := 4) (by simp) v4).set (i := 5) (by simp) v5
theorem resToAsk {W : World} {b : Nat} {x0 x1 x2 x3 x4 x5 : Value} (tmps : Array Value) (ht : tmps[2]?.getD undef = .pointer (some ⟨b, 0, none⟩)) (h : VB W b [x0, x1, x2, x3, x4, x5]) :
    (results Try.f41 tmps).run Try.prog W = .ok (.agg #[x0, x1, x2, x3, x4, x5]) W := by
  obtain ⟨h0, h1, h2, h3, h4, h5⟩ := vb6' h
  simp [results, Try.results41, go_sem, ht, h0, h1, h2, h3, h4, h5]
set_option maxHeartbeats 1000000 in
theorem szB_any (a : Option Addr) (len cap : Nat) (left : Int) (w : World) (hl : len ≤ 9223372036854775807) (l0 : 0 ≤ left) (l1 : left ≤ 1048576) :
    Calls Try.prog 86 #[.slice a len cap, .int .i64 left] w fun e w' => e = .returned (.int .i64 (if left - len < 0 then -1 else left - len)) ∧ w' = w := by
  by_cases h : left - (len : Int) < 0
  · have d : decide (left - (len : Int) < 0) = true := by simpa using h
    rw [if_pos h]
    go_enter Try.func86, Try.ntmps86
    go_wp2
    go_ret
    exact ⟨rfl, rfl⟩
  · have d : decide (left - (len : Int) < 0) = false := by simpa using h
    rw [if_neg h]
    go_enter Try.func86, Try.ntmps86
    go_wp2
    go_ret
    exact ⟨rfl, rfl⟩
set_option maxHeartbeats 1000000 in
theorem szAsk_any (k y t g f : Int) (ba : Option Addr) (bn bc : Nat) (left : Int) (w : World) (hl : bn ≤ 9223372036854775807) (l0 : 0 ≤ left) (l1 : left ≤ 1048576) :
    Calls Try.prog 40 #[.agg #[.int .i64 k, .int .i64 y, .slice ba bn bc, .int .i64 t, .int .i64 g, .int .i64 f], .int .i64 left] w fun e w' => e = .returned (.int .i64 (if left - bn < 0 then -1 else left - bn)) ∧ Below w.heap.size w w' := by
  have P := hid (below_alloc1 w (.cells #[.int .i64 k, .int .i64 y, .slice ba bn bc, .int .i64 t, .int .i64 g, .int .i64 f] 61))
  by_cases h : left - (bn : Int) < 0
  · have E := hid (show (if left - (bn : Int) < 0 then (-1 : Int) else left - bn) = -1 from if_pos h)
    rw [E.out]
    clear h
    go_enter Try.func40, Try.ntmps40
    go_wp2_with fail
    refine (szB_any ba bn bc left _ hl l0 l1).mono ?_
    rw [E.out]
    rintro e w' ⟨rfl, rfl⟩
    go_wp2
    go_ret
    exact ⟨rfl, P.out⟩
  · have E := hid (show (if left - (bn : Int) < 0 then (-1 : Int) else left - bn) = left - bn from if_neg h)
    have d : decide (left - (bn : Int) < 0) = false := by simpa using h
    rw [E.out]
    clear h
    go_enter Try.func40, Try.ntmps40
    go_wp2_with fail
    refine (szB_any ba bn bc left _ hl l0 l1).mono ?_
    rw [E.out]
    rintro e w' ⟨rfl, rfl⟩
    go_wp2
    go_ret
    exact ⟨rfl, P.out⟩
set_option maxHeartbeats 2000000 in
theorem markAsk_any (k y t g f mk : Int) (bv : Value) (bs : List Int) (B : Nat) (w : World) (hb : Own w B bv bs) (hn : bs.length ≤ 2000000) (k0 : 0 ≤ mk) (k1 : mk ≤ 1500000000) :
    Calls Try.prog 38 #[.agg #[.int .i64 k, .int .i64 y, bv, .int .i64 t, .int .i64 g, .int .i64 f], .int .i64 mk] w fun e w' => e = .returned (.int .i64 (mk + bs.length)) ∧ Own w' B bv (marks mk bs.length) ∧ Chg (fun j => bv.ownBlock = some j) w w' := by
  have H := hid hb
  obtain ⟨ba, bc, rfl, _⟩ := own_form hb
  have A0 := below_alloc1 w (.cells #[.int .i64 k, .int .i64 y, .slice ba bs.length bc, .int .i64 t, .int .i64 g, .int .i64 f] 30)
  have H := hid (H.out.keep A0)
  have C := hid (Chg.of_below (S := fun j => (Value.slice ba bs.length bc).ownBlock = some j) A0)
  clear hb A0
  go_enter Try.func38, Try.ntmps38
  go_wp2_with fail
  refine (mark_any _ bs mk B _ H.out hn k0 (by omega)).mono ?_
  rintro e w' ⟨rfl, o1, g1, _⟩
  have O := hid o1
  have C2 := hid (Chg.trans C.out (Chg.of_grown (S := fun j => (Value.slice ba bs.length bc).ownBlock = some j) g1 (fun j hj => hj)))
  clear o1 g1
  go_wp2
  go_ret
  exact ⟨rfl, O.out, C2.out⟩
set_option maxHeartbeats 2000000 in
theorem eqAsk_same (k y t g f : Int) (u v : Value) (bs : List Int) (w : World) (hu : Rd w u bs) (hv : Rd w v bs) :
    Calls Try.prog 36 #[.agg #[.int .i64 k, .int .i64 y, u, .int .i64 t, .int .i64 g, .int .i64 f], .agg #[.int .i64 k, .int .i64 y, v, .int .i64 t, .int .i64 g, .int .i64 f]] w fun e w' => e = .returned (.bool true) ∧ Below w.heap.size w w' := by
  have RU := hid hu
  have RV := hid hv
  obtain ⟨_, _, a1, c1, rfl, _⟩ := hu
  obtain ⟨_, _, a2, c2, rfl, _⟩ := hv
  have P := hid (((Below.refl w.heap.size w).alloc (Nat.le_refl _) (.cells #[.int .i64 k, .int .i64 y, .slice a1 bs.length c1, .int .i64 t, .int .i64 g, .int .i64 f] 30)).alloc (by simp) (.cells #[.int .i64 k, .int .i64 y, .slice a2 bs.length c2, .int .i64 t, .int .i64 g, .int .i64 f] 30))
  have V1 := hid ((vb_new w [.int .i64 k, .int .i64 y, .slice a1 bs.length c1, .int .i64 t, .int .i64 g, .int .i64 f] 30).keep (below_alloc1 _ (.cells #[.int .i64 k, .int .i64 y, .slice a2 bs.length c2, .int .i64 t, .int .i64 g, .int .i64 f] 30)))
  have V2 := hid (vb_new (w.alloc (.cells #[.int .i64 k, .int .i64 y, .slice a1 bs.length c1, .int .i64 t, .int .i64 g, .int .i64 f] 30)) [.int .i64 k, .int .i64 y, .slice a2 bs.length c2, .int .i64 t, .int .i64 g, .int .i64 f] 30)
  go_enter Try.func36, Try.ntmps36
  go_wp2_with fail
  refine (eqBytes_same _ _ bs _ (RU.out.keep P.out) (RV.out.keep P.out)).mono ?_
  rintro e w1 ⟨rfl, b1⟩
  have P := hid (P.out.trans (b1.mono P.out.size))
  have V1 := hid (V1.out.keep b1)
  have V2 := hid (V2.out.keep b1)
  clear b1
  obtain ⟨x0, x1, x2, x3, x4, x5⟩ := vb6' V1.out
  obtain ⟨y0, y1, y2, y3, y4, y5⟩ := vb6' V2.out
  simp only [World.size_alloc] at y0 y1 y2 y3 y4 y5
  go_wp2
  go_ret
  exact ⟨rfl, P.out⟩
theorem own_chgA {w w' : World} {B : Nat} {v : Value} {xs : List Int} {S : Nat → Prop} (h : Own w B v xs) (hg : Chg S w w') (hr : ∀ j, v.ownBlock = some j → ¬ S j) : Own w' B v xs := by
  obtain ⟨h0, h1, h2⟩ := h
  refine ⟨h0, h1, ?_⟩
  rcases h2 with h2 | ⟨g, cap, cur, hv, hgB, hh, hn⟩
  · exact .inl h2
  · have hl : g < w.heap.size := by
      rcases Nat.lt_or_ge g w.heap.size with h | h
      · exact h
      · rw [Array.getElem?_eq_none h] at hh; cases hh
    exact .inr ⟨g, cap, cur, hv, hgB, (hg.block g hl (hr g (by rw [hv]; rfl))).trans hh, hn⟩
theorem rd_old0 {w : World} {a : Option Addr} {n c : Nat} {xs : List Int} (h : Rd w (.slice a n c) xs) : 0 < xs.length → ∀ j, (Value.slice a n c).ownBlock = some j → j < w.heap.size := by
  intro hl j hj
  obtain ⟨h1, h2, a', c', hv, h3⟩ := h
  rcases h3 with h3 | ⟨b, off, ha, hc⟩
  · rw [h3] at hl; simp at hl
  · subst ha
    simp only [Value.slice.injEq] at hv
    rw [hv.1] at hj
    simp [Value.ownBlock] at hj
    subst hj
    exact World.block_lt_of_cell? w _ (hc 0 hl)
theorem rd_chgN {w w' : World} {a : Option Addr} {n c N : Nat} {xs : List Int} (h : Rd w (.slice a n c) xs) (hg : Chg (fun j => j = N + 2) w w') (hs : 0 < xs.length → ∀ j, (Value.slice a n c).ownBlock = some j → j < N) : Rd w' (.slice a n c) xs := by
  obtain ⟨h1, h2, a', c', hv, h3⟩ := h
  refine ⟨h1, h2, a', c', hv, ?_⟩
  rcases h3 with h3 | ⟨b, off, ha, hc⟩
  · exact .inl h3
  · refine .inr ⟨b, off, ha, fun i hi => hg.cell (p := ⟨b, off + i, none⟩) (fun e => ?_) (hc i hi)⟩
    subst ha
    simp only [Value.slice.injEq] at hv
    have e : b = N + 2 := e
    have := hs (by omega) b (by rw [hv.1]; rfl)
    omega
set_option maxHeartbeats 4000000 in
theorem toAsk_any (k y t g f : Int) (bv : Value) (bs : List Int) (w : World) (hb : Rd w bv bs) :
    Calls Try.prog 41 #[.agg #[.int .i64 k, .int .i64 y, bv, .int .i64 t, .int .i64 g, .int .i64 f]] w fun e w' => ∃ v, e = .returned (.agg #[.int .i64 k, .int .i64 y, v, .int .i64 t, .int .i64 g, .int .i64 f]) ∧ Own w' w.heap.size v bs ∧ Below w.heap.size w w' := by
  have RB := hid hb
  obtain ⟨_, _, ba, bc, rfl, _⟩ := hb
  have PP := hid (Below.refl w.heap.size w)
  have HRB := hid (rd_old0 RB.out)
  go_enter Try.func41, Try.ntmps41
  go_upto_region 2 with fail
  have A := below_alloc1 w (.cells #[.int .i64 k, .int .i64 y, .slice ba bs.length bc, .int .i64 t, .int .i64 g, .int .i64 f] 61)
  replace RB := hid (RB.out.keep A)
  replace PP := hid (PP.out.trans (A.mono PP.out.size))
  have VA := hid (vb_new w [.int .i64 k, .int .i64 y, .slice ba bs.length bc, .int .i64 t, .int .i64 g, .int .i64 f] 61)
  have z0 : (w.alloc (.cells #[.int .i64 k, .int .i64 y, .slice ba bs.length bc, .int .i64 t, .int .i64 g, .int .i64 f] 61)).heap.size = w.heap.size + 1 := by simp
  obtain ⟨U0, hU0⟩ : ∃ X, w.alloc (.cells #[.int .i64 k, .int .i64 y, .slice ba bs.length bc, .int .i64 t, .int .i64 g, .int .i64 f] 61) = X := ⟨_, rfl⟩
  rw [hU0] at z0 RB VA PP
  try rw [hU0]
  clear A hU0
  have A := below_alloc1 U0 (.cells #[.int .i64 0, .int .i64 0, .slice none 0 0, .int .i64 0, .int .i64 0, .int .i64 0] 30)
  replace RB := hid (RB.out.keep A)
  replace VA := hid (VA.out.keep A)
  replace PP := hid (PP.out.trans (A.mono PP.out.size))
  have VR := hid (vb_new U0 [.int .i64 0, .int .i64 0, .slice none 0 0, .int .i64 0, .int .i64 0, .int .i64 0] 30)
  have z1 : (U0.alloc (.cells #[.int .i64 0, .int .i64 0, .slice none 0 0, .int .i64 0, .int .i64 0, .int .i64 0] 30)).heap.size = w.heap.size + 2 := by simp [z0]
  rw [z0] at VR
  obtain ⟨U1, hU1⟩ : ∃ X, U0.alloc (.cells #[.int .i64 0, .int .i64 0, .slice none 0 0, .int .i64 0, .int .i64 0, .int .i64 0] 30) = X := ⟨_, rfl⟩
  rw [hU1] at z1 RB VA VR PP
  try rw [hU1]
  clear A hU1
  have A := below_alloc1 U1 (.cells #[.int .i64 0, .int .i64 0, .slice none 0 0, .int .i64 0, .int .i64 0, .int .i64 0] 30)
  replace RB := hid (RB.out.keep A)
  replace VA := hid (VA.out.keep A)
  replace VR := hid (VR.out.keep A)
  replace PP := hid (PP.out.trans (A.mono PP.out.size))
  have VO := hid (vb_new U1 [.int .i64 0, .int .i64 0, .slice none 0 0, .int .i64 0, .int .i64 0, .int .i64 0] 30)
  have z2 : (U1.alloc (.cells #[.int .i64 0, .int .i64 0, .slice none 0 0, .int .i64 0, .int .i64 0, .int .i64 0] 30)).heap.size = w.heap.size + 3 := by simp [z1]
  rw [z1] at VO
  obtain ⟨U2, hU2⟩ : ∃ X, U1.alloc (.cells #[.int .i64 0, .int .i64 0, .slice none 0 0, .int .i64 0, .int .i64 0, .int .i64 0] 30) = X := ⟨_, rfl⟩
  rw [hU2] at z2 RB VA VR VO PP
  try rw [hU2]
  clear A hU2
  obtain ⟨p0, p1, p2, p3, p4, p5⟩ := vb6' VA.out
  obtain ⟨q0, q1, q2, q3, q4, q5⟩ := vb6' VO.out
  have fo := VO.out.2.1
  go_upto_region 4 with fail
  clear p0 p1 p2 p3 p4 p5 q0 q1 q2 q3 q4 q5 fo
  have CC := (((Chg.refl (fun j => j = w.heap.size + 2) U2).set (p := ⟨w.heap.size + 2, 0, none⟩) rfl (.int .i64 k)).set (p := ⟨w.heap.size + 2, 1, none⟩) rfl (.int .i64 y))
  replace VO := hid ((VO.out.set (i := 0) (by simp) (.int .i64 k)).set (i := 1) (by simp) (.int .i64 y))
  replace VA := hid (VA.out.chg CC (fun e => by have e : w.heap.size = w.heap.size + 2 := e; omega))
  replace VR := hid (VR.out.chg CC (fun e => by have e : w.heap.size + 1 = w.heap.size + 2 := e; omega))
  replace RB := hid (rd_chgN RB.out CC HRB.out)
  replace PP := hid (below_chg PP.out CC PP.out.size (fun j hj => by have hj : j = w.heap.size + 2 := hj; omega))
  obtain ⟨W3, hW3⟩ : ∃ X, ((U2.setCell ⟨w.heap.size + 2, 0, none⟩ (.int .i64 k)).setCell ⟨w.heap.size + 2, 1, none⟩ (.int .i64 y)) = X := ⟨_, rfl⟩
  rw [hW3] at CC PP VO VA VR RB
  try rw [hW3]
  clear hW3 CC
  simp only [List.set_cons_zero, List.set_cons_succ] at VO
  obtain ⟨p0, p1, p2, p3, p4, p5⟩ := vb6' VA.out
  go_wp2_with fail
  clear p0 p1 p2 p3 p4 p5
  refine (toBytes_any _ bs _ RB.out).mono ?_
  rintro e w4 ⟨v, rfl, ov, bb⟩
  obtain ⟨va, vc, rfl, _⟩ := own_form ov
  have OV := hid (ov.low (B' := w.heap.size + 3) (by have := VO.out.2.2; omega))
  clear RB ov
  replace VA := hid (VA.out.keep bb)
  replace VR := hid (VR.out.keep bb)
  replace VO := hid (VO.out.keep bb)
  replace PP := hid (PP.out.trans (bb.mono PP.out.size))
  clear bb
  obtain ⟨p0, p1, p2, p3, p4, p5⟩ := vb6' VA.out
  obtain ⟨q0, q1, q2, q3, q4, q5⟩ := vb6' VO.out
  have fo := VO.out.2.1
  go_upto_region 8 with fail
  clear p0 p1 p2 p3 p4 p5 q0 q1 q2 q3 q4 q5 fo
  have CC := (((((Chg.refl (fun j => j = w.heap.size + 2) w4).set (p := ⟨w.heap.size + 2, 2, none⟩) rfl (.slice va bs.length vc)).set (p := ⟨w.heap.size + 2, 3, none⟩) rfl (.int .i64 t)).set (p := ⟨w.heap.size + 2, 4, none⟩) rfl (.int .i64 g)).set (p := ⟨w.heap.size + 2, 5, none⟩) rfl (.int .i64 f))
  replace VO := hid ((((VO.out.set (i := 2) (by simp) (.slice va bs.length vc)).set (i := 3) (by simp) (.int .i64 t)).set (i := 4) (by simp) (.int .i64 g)).set (i := 5) (by simp) (.int .i64 f))
  replace VA := hid (VA.out.chg CC (fun e => by have e : w.heap.size = w.heap.size + 2 := e; omega))
  replace VR := hid (VR.out.chg CC (fun e => by have e : w.heap.size + 1 = w.heap.size + 2 := e; omega))
  replace OV := hid (own_chgA OV.out CC (fun j hj e => by have e : j = w.heap.size + 2 := e; have := (OV.out.blk j hj).1; omega))
  replace PP := hid (below_chg PP.out CC PP.out.size (fun j hj => by have hj : j = w.heap.size + 2 := hj; omega))
  obtain ⟨W5, hW5⟩ : ∃ X, ((((w4.setCell ⟨w.heap.size + 2, 2, none⟩ (.slice va bs.length vc)).setCell ⟨w.heap.size + 2, 3, none⟩ (.int .i64 t)).setCell ⟨w.heap.size + 2, 4, none⟩ (.int .i64 g)).setCell ⟨w.heap.size + 2, 5, none⟩ (.int .i64 f)) = X := ⟨_, rfl⟩
  rw [hW5] at CC PP VO VA VR OV
  try rw [hW5]
  clear hW5 CC
  simp only [List.set_cons_zero, List.set_cons_succ] at VO
  obtain ⟨q0, q1, q2, q3, q4, q5⟩ := vb6' VO.out
  obtain ⟨r0, r1, r2, r3, r4, r5⟩ := vb6' VR.out
  have fr := VR.out.2.1
  have FV := hid (vbset6 (.int .i64 k) (.int .i64 y) (.slice va bs.length vc) (.int .i64 t) (.int .i64 g) (.int .i64 f) VR.out)
  have CR : Chg (fun j => j = w.heap.size + 1) W5 (st6 W5 (w.heap.size + 1) (.int .i64 k) (.int .i64 y) (.slice va bs.length vc) (.int .i64 t) (.int .i64 g) (.int .i64 f)) := (((((((Chg.refl (fun j => j = w.heap.size + 1) W5).set (p := ⟨w.heap.size + 1, 0, none⟩) rfl _).set (p := ⟨w.heap.size + 1, 1, none⟩) rfl _).set (p := ⟨w.heap.size + 1, 2, none⟩) rfl _).set (p := ⟨w.heap.size + 1, 3, none⟩) rfl _).set (p := ⟨w.heap.size + 1, 4, none⟩) rfl _).set (p := ⟨w.heap.size + 1, 5, none⟩) rfl _)
  have FO := hid (own_chgA OV.out CR (fun j hj e => by have e : j = w.heap.size + 1 := e; have := (OV.out.blk j hj).1; omega))
  have FP := hid (below_chg PP.out CR PP.out.size (fun j hj => by have hj : j = w.heap.size + 1 := hj; omega))
  unfold st6 at FV FO FP
  clear CR VR VO VA PP OV
  go_wp2_with fail
  refine bodyPost_ret (resToAsk _ rfl FV.out) rfl ?_
  exact ⟨_, rfl, FO.out.low (by omega), FP.out⟩
end Go.Proofs.Ytbpomeegpkdekaa
