/- BoxPut, BoxTake: the contracts of the program's. Conditions: the items read as lists of bytes, the message as bytes. -/
import Derived.Test.YtanmapgpplhecaaBoxCopy
import Derived.Test.YtanmapgpplhecaaBoxRest
import Derived.Test.YtanmapgpplhecaaBytMsg
namespace Go.Proofs.Ytanmapgpplhecaa
open Go.ChangeShapes Go.WideShapes Go.ChangeAt Go.RowKit Go.Joins Go.Deep
set_option linter.unusedVariables false
set_option linter.unusedSimpArgs false
set_option maxRecDepth 4000
/-- what BoxPut and BoxTake make -/
def pOk (d : Int) (yss : List (List Int)) (ms : List Int) : Bool := boxB d yss && decide (ms.length ≤ 8)
def pD (d : Int) (yss : List (List Int)) (ms : List Int) : Int := if pOk d yss ms then d else 0
def pI (d : Int) (yss : List (List Int)) (ms : List Int) : List (List Int) := if pOk d yss ms then (if (yss.length : Int) < d then yss ++ [ms] else yss) else []
def pB (d : Int) (yss : List (List Int)) (ms : List Int) : Bool := pOk d yss ms && decide ((yss.length : Int) < d)
def tD (d : Int) (yss : List (List Int)) : Int := if boxB d yss then d else 0
def tI (d : Int) (yss : List (List Int)) : List (List Int) := if boxB d yss then yss.drop 1 else []
def tM (d : Int) (yss : List (List Int)) : List Int := if boxB d yss then yss.getD 0 [] else []
def tB (d : Int) (yss : List (List Int)) : Bool := boxB d yss && decide (0 < yss.length)
theorem p_no {d : Int} {yss : List (List Int)} {ms : List Int} (h : pOk d yss ms = false) : pD d yss ms = 0 ∧ pI d yss ms = [] ∧ pB d yss ms = false := by simp [pD, pI, pB, h]
theorem p_full {d : Int} {yss : List (List Int)} {ms : List Int} (h : pOk d yss ms = true) (h2 : ¬ (yss.length : Int) < d) : pD d yss ms = d ∧ pI d yss ms = yss ∧ pB d yss ms = false := by simp [pD, pI, pB, h, h2]
theorem p_yes {d : Int} {yss : List (List Int)} {ms : List Int} (h : pOk d yss ms = true) (h2 : (yss.length : Int) < d) : pD d yss ms = d ∧ pI d yss ms = yss ++ [ms] ∧ pB d yss ms = true := by simp [pD, pI, pB, h, h2]
theorem t_no {d : Int} {yss : List (List Int)} (h : boxB d yss = false) : tD d yss = 0 ∧ tI d yss = [] ∧ tM d yss = [] ∧ tB d yss = false := by simp [tD, tI, tM, tB, h]
theorem box_of {d : Int} {yss : List (List Int)} (h : boxB d yss = true) : (1 ≤ d ∧ d ≤ 4) ∧ (yss.length : Int) ≤ d ∧ ∀ i, i < yss.length → (yss.getD i []).length ≤ 8 := by
  simp only [boxB, Bool.and_eq_true, Bool.not_eq_true', decide_eq_false_iff_not, List.all_eq_true, decide_eq_true_eq, List.mem_range] at h
  exact ⟨by simpa [inB] using h.1, by omega, fun i hi => h.2.2 i hi⟩
/-- a box's items of one's own: none, or a row in a block of its own size -/
def OwnA (w : World) (B : Nat) (u : Value) (f : Nat → Value) (yss : List (List Int)) : Prop :=
  (u = .slice none 0 0 ∧ yss = []) ∨ ∃ g, u = .slice (some ⟨g, 0, none⟩) yss.length yss.length ∧ OwnU w B g f yss
theorem OwnA.keep {w w' : World} {B : Nat} {u : Value} {f : Nat → Value} {yss : List (List Int)} (h : OwnA w B u f yss) (hb : Below w.heap.size w w') : OwnA w' B u f yss := by
  rcases h with h | ⟨g, hu, h⟩
  · exact .inl h
  · exact .inr ⟨g, hu, h.keep hb⟩
theorem OwnA.form {w : World} {B : Nat} {u : Value} {f : Nat → Value} {yss : List (List Int)} (h : OwnA w B u f yss) : ∃ a c, u = .slice a yss.length c := by
  rcases h with ⟨rfl, rfl⟩ | ⟨g, rfl, _⟩
  · exact ⟨none, 0, rfl⟩
  · exact ⟨_, _, rfl⟩
theorem OwnA.rd {w : World} {B : Nat} {u : Value} {f : Nat → Value} {yss : List (List Int)} (h : OwnA w B u f yss) (hn : yss.length ≤ 2000000) (hy : ∀ i, i < yss.length → (yss.getD i []).length ≤ 2000000) : RdS w u yss := by
  rcases h with ⟨rfl, rfl⟩ | ⟨g, rfl, h⟩
  · exact ⟨hn, none, 0, rfl, .inl rfl⟩
  · exact h.rd _ hn hy
theorem row_is {w : World} {B g n : Nat} {e : TypeId} {f : Nat → Value} (h : w.ownsRow B e 1 (.slice (some ⟨g, 0, none⟩) n n) n ((List.range n).map f)) : w.rowIs g e n f := by
  obtain ⟨h0, ⟨h1, _⟩ | ⟨q, cap, cur, h1, hq, hh, hnc, hm, hsz, hcur⟩⟩ := h
  · simp at h1
  · simp only [Value.slice.injEq, Option.some.injEq, Addr.mk.injEq, and_true, true_and] at h1
    obtain ⟨rfl, rfl⟩ := h1
    refine ⟨cur, hh, by omega, fun i hi => ?_⟩
    have h4 : (cur.toList.take (n * 1))[i]? = ((List.range n).map f)[i]? := by rw [hcur]
    rw [List.getElem?_take_of_lt (by omega)] at h4
    simp only [Array.getElem?_toList] at h4
    rw [h4]; simp [hi]
theorem res_put {W : World} {b : Nat} {x0 x1 y : Value} (tmps : Array Value) (ht : tmps[4]?.getD undef = .pointer (some ⟨b, 0, none⟩)) (h0 : W.cell? ⟨b, 0, none⟩ = some x0) (h1 : W.cell? ⟨b, 1, none⟩ = some x1) (h2 : tmps[5]?.getD undef = y) :
    (results Try.f19 tmps).run Try.prog W = .ok (.tuple #[.agg #[x0, x1], y]) W := by
  simp [results, Try.results19, go_sem, ht, h0, h1, h2]
theorem res_take {W : World} {b : Nat} {x0 x1 y z : Value} (tmps : Array Value) (ht : tmps[2]?.getD undef = .pointer (some ⟨b, 0, none⟩)) (h0 : W.cell? ⟨b, 0, none⟩ = some x0) (h1 : W.cell? ⟨b, 1, none⟩ = some x1) (h2 : tmps[3]?.getD undef = y) (h3 : tmps[4]?.getD undef = z) :
    (results Try.f20 tmps).run Try.prog W = .ok (.tuple #[.agg #[x0, x1], y, z]) W := by
  simp [results, Try.results20, go_sem, ht, h0, h1, h2, h3]
theorem OwnR.chg {w w' : World} {B : Nat} {v : Value} {xs : List Int} {S : Nat → Prop} (h : Own w B v xs) (hc : Chg S w w') (hs : ∀ j, v.ownBlock = some j → ¬ S j) : Own w' B v xs := ⟨h.1, ownsRow_chg h.2 hc hs⟩
def PutPost (d : Int) (yss : List (List Int)) (ms : List Int) (w : World) (e : Ending) (w' : World) : Prop :=
  ∃ u f, e = .returned (.tuple #[.agg #[.int .i64 (pD d yss ms), u], .bool (pB d yss ms)]) ∧ OwnA w' w.heap.size u f (pI d yss ms) ∧ Below w.heap.size w w'
def TakePost (d : Int) (yss : List (List Int)) (w : World) (e : Ending) (w' : World) : Prop :=
  ∃ u f m, e = .returned (.tuple #[.agg #[.int .i64 (tD d yss), u], m, .bool (tB d yss)]) ∧ OwnA w' w.heap.size u f (tI d yss) ∧ Own w' w.heap.size m (tM d yss) ∧ (∀ i, i < (tI d yss).length → ∀ j, m.ownBlock = some j → (f i).ownBlock ≠ some j) ∧ (∀ j, m.ownBlock = some j → u.ownBlock ≠ some j) ∧ Below w.heap.size w w'
theorem ring_new {w : World} {h : Nat → Value} {d s : Nat} {p0 p1 p2 p3 : Option Addr} {l0 l1 l2 l3 c0 c1 c2 c3 : Nat} (e0 : h 0 = .slice p0 l0 c0) (e1 : h 1 = .slice p1 l1 c1) (e2 : h 2 = .slice p2 l2 c2) (e3 : h 3 = .slice p3 l3 c3) (O : World) (hO : O = w.alloc (.cells #[.slice p0 l0 c0, .slice p1 l1 c1, .slice p2 l2 c2, .slice p3 l3 c3, .int .i64 (d : Int), .int .i64 0, .int .i64 (s : Int)] 72)) : Ring O w.heap.size h d 0 s := by
  subst hO
  refine ⟨fun i hi => ?_, by go_simp, by go_simp, by go_simp, fun i => by go_simp⟩
  have hi' : i = 0 ∨ i = 1 ∨ i = 2 ∨ i = 3 := by omega
  rcases hi' with rfl | rfl | rfl | rfl
  · rw [e0]; go_simp
  · rw [e1]; go_simp
  · rw [e2]; go_simp
  · rw [e3]; go_simp
set_option maxHeartbeats 8000000 in
theorem boxPut_any (d : Int) (v mv : Value) (yss : List (List Int)) (ms : List Int) (w : World) (hv : RdS w v yss) (hm : Rd w mv ms) :
    Calls Try.prog 19 #[.agg #[.int .i64 d, v], mv] w fun e w' => PutPost d yss ms w e w' := by
  have RV := hid hv
  obtain ⟨h2, a, cap, rfl, h3⟩ := hv
  clear h3
  have P0 := hid (((Below.refl w.heap.size w).alloc (Nat.le_refl _) (.cells #[.int .i64 d, .slice a yss.length cap] 25)).alloc (by simp) (.cells #[.int .i64 0, .slice none 0 0] 25))
  have VA := hid ((vb_new w [.int .i64 d, .slice a yss.length cap] 25).keep (below_alloc1 _ (.cells #[.int .i64 0, .slice none 0 0] 25)))
  have VR : Hid (VB ((w.alloc (.cells #[.int .i64 d, .slice a yss.length cap] 25)).alloc (.cells #[.int .i64 0, .slice none 0 0] 25)) (w.heap.size + 1) [.int .i64 0, .slice none 0 0]) := hid (by have := vb_new (w.alloc (.cells #[.int .i64 d, .slice a yss.length cap] 25)) [.int .i64 0, .slice none 0 0] 25; simpa using this)
  have RM := hid hm
  obtain ⟨_, _, ma, mc, rfl, _⟩ := hm
  obtain ⟨nm, hnm⟩ : ∃ nm, ms.length = nm := ⟨_, rfl⟩
  have HNM := hid hnm
  rw [hnm] at RM ⊢
  clear hnm
  have RV := hid (RV.out.keep P0.out)
  have RM := hid (RM.out.keep P0.out)
  have PP := P0
  clear P0
  go_enter Try.func19, Try.ntmps19
  go_wp2_with fail
  refine (boxOk_any d _ yss _ RV.out).mono ?_
  rintro e w1 ⟨rfl, b1⟩
  have RV := hid (RV.out.keep b1)
  have RM := hid (RM.out.keep b1)
  have VA := hid (VA.out.keep b1)
  have VR := hid (VR.out.keep b1)
  have PP := hid (PP.out.trans (b1.mono PP.out.size))
  clear b1
  cases k0 : boxB d yss
  · have E := hid (p_no (ms := ms) (show pOk d yss ms = false by simp [pOk, k0]))
    obtain ⟨r0, r1⟩ := vb2 VR.out
    have fr := VR.out.2.1
    go_wp2_with fail
    obtain ⟨t0, t1⟩ := vb2 (vbset2 (.int .i64 0) (.slice none 0 0) VR.out)
    refine bodyPost_ret (v := .tuple #[.agg #[.int .i64 0, .slice none 0 0], .bool false]) (res_put _ rfl t0 t1 rfl) rfl ?_
    refine ⟨.slice none 0 0, fun _ => undef, by rw [E.out.1, E.out.2.2], by rw [E.out.2.1]; exact .inl ⟨rfl, rfl⟩, below_chg PP.out (vbchg2 (S := fun j => j = w.heap.size + 1) (b := w.heap.size + 1) (.int .i64 0) (.slice none 0 0) rfl) (by have := PP.out.size; omega) (fun j hj => by have hj : j = w.heap.size + 1 := hj; omega)⟩
  go_wp2_with fail
  refine (implMsg_any _ ms _ RM.out).mono ?_
  rw [HNM.out]
  rintro e w2 ⟨rfl, rfl⟩
  cases k1 : decide (nm ≤ 8)
  · have E := hid (p_no (ms := ms) (show pOk d yss ms = false by simp [pOk, k0, HNM.out, k1]))
    obtain ⟨r0, r1⟩ := vb2 VR.out
    have fr := VR.out.2.1
    go_wp2_with fail
    obtain ⟨t0, t1⟩ := vb2 (vbset2 (.int .i64 0) (.slice none 0 0) VR.out)
    refine bodyPost_ret (v := .tuple #[.agg #[.int .i64 0, .slice none 0 0], .bool false]) (res_put _ rfl t0 t1 rfl) rfl ?_
    refine ⟨.slice none 0 0, fun _ => undef, by rw [E.out.1, E.out.2.2], by rw [E.out.2.1]; exact .inl ⟨rfl, rfl⟩, below_chg PP.out (vbchg2 (S := fun j => j = w.heap.size + 1) (b := w.heap.size + 1) (.int .i64 0) (.slice none 0 0) rfl) (by have := PP.out.size; omega) (fun j hj => by have hj : j = w.heap.size + 1 := hj; omega)⟩
  obtain ⟨⟨d1, d4⟩, hnd, hy8⟩ := box_of k0
  have RVs := RV
  have RMs := RM
  have VAs := VA
  have VRs := VR
  have PPs := PP
  obtain ⟨D, rfl⟩ := Int.eq_ofNat_of_zero_le (show 0 ≤ d by omega)
  have RV := RVs
  have RM := RMs
  have VA := VAs
  have VR := VRs
  have PP := PPs
  clear RVs RMs VAs VRs PPs
  have hok : pOk (D : Int) yss ms = true := by simp [pOk, k0, HNM.out, k1]
  have HY := hid hy8
  clear hy8
  obtain ⟨a0, a1⟩ := vb2 VA.out
  go_wp2_with fail
  clear a0 a1
  refine (boxOpen_any D _ yss _ RV.out (by omega) (by omega)).mono ?_
  rintro e w3 ⟨h, rfl, hsl, hou, hap, b3⟩
  have HB3 := hid VR.out.2.2
  have HOU := hid (fun i hi => (hou i hi).low (B' := w.heap.size + 2) (by have := HB3.out; omega))
  have HAP := hid hap
  have HSL := hid hsl
  have RV := hid (RV.out.keep b3)
  have RM := hid (RM.out.keep b3)
  have VA := hid (VA.out.keep b3)
  have VR := hid (VR.out.keep b3)
  have PP := hid (PP.out.trans (b3.mono PP.out.size))
  clear b3
  clear hou hap
  obtain ⟨p0, l0, c0, e0⟩ := hsl 0 (by omega)
  obtain ⟨p1, l1, c1, e1⟩ := hsl 1 (by omega)
  obtain ⟨p2, l2, c2, e2⟩ := hsl 2 (by omega)
  obtain ⟨p3, l3, c3, e3⟩ := hsl 3 (by omega)
  rw [e0, e1, e2, e3]
  obtain ⟨W4, hW4⟩ : ∃ W4, w3.alloc (.cells #[.slice p0 l0 c0, .slice p1 l1 c1, .slice p2 l2 c2, .slice p3 l3 c3, .int .i64 (D : Int), .int .i64 0, .int .i64 (yss.length : Int)] 72) = W4 := ⟨_, rfl⟩
  have KR := hid (ring_new (s := yss.length) e0 e1 e2 e3 W4 hW4.symm)
  have b4 : Below w3.heap.size w3 W4 := by rw [← hW4]; exact below_alloc1 _ _
  obtain ⟨r, hr⟩ : ∃ r, w3.heap.size = r := ⟨_, rfl⟩
  have HR1 := hid (show w.heap.size + 1 < r by rw [← hr]; exact VR.out.2.2)
  have HRL := hid (show r < W4.heap.size by rw [← hr, ← hW4]; simp)
  have HOB := hid (fun i (hi : i < yss.length) j hj => (show j < r by rw [← hr]; exact ((HOU.out i hi).blk j hj).2))
  have HOU := hid (fun i (hi : i < yss.length) => (HOU.out i hi).keep b4)
  rw [hr] at KR
  clear hsl e0 e1 e2 e3
  have RV := hid (RV.out.keep b4)
  have RM := hid (RM.out.keep b4)
  have VA := hid (VA.out.keep b4)
  have VR := hid (VR.out.keep b4)
  have PP := hid (PP.out.trans (b4.mono PP.out.size))
  clear b4
  go_wp2_with fail
  try rw [hW4]
  try rw [hr]
  clear hW4 hr
  refine (clone_any _ ms _ RM.out).mono ?_
  rintro e w5 ⟨x, rfl, ox, b5⟩
  obtain ⟨xa, xc, rfl, _⟩ := own_form ox
  rw [HNM.out]
  rw [HNM.out] at ox
  have OXB := hid (fun j hj => (ox.blk j hj).1)
  have OX := hid ox
  have KR := hid (KR.out.keep b5)
  have HOU := hid (fun i (hi : i < yss.length) => (HOU.out i hi).keep b5)
  have Z5 := hid b5.size
  clear ox
  have RV := hid (RV.out.keep b5)
  have RM := hid (RM.out.keep b5)
  have VA := hid (VA.out.keep b5)
  have VR := hid (VR.out.keep b5)
  have PP := hid (PP.out.trans (b5.mono PP.out.size))
  clear b5
  by_cases hlt : (yss.length : Int) < (D : Int)
  · have hlt' : yss.length < D := by omega
    have E := hid (p_yes hok hlt)
    go_wp2_with fail
    refine (put_any r h D 0 yss.length xa nm xc _ KR.out (by omega) hlt' (by omega)).mono ?_
    rintro e w6 ⟨rfl, kr, c6⟩
    rw [show (0 + yss.length) % 4 = yss.length by omega] at kr
    obtain ⟨h', hh'⟩ : ∃ h' : Nat → Value, (fun i => if i = yss.length then .slice xa nm xc else h i) = h' := ⟨_, rfl⟩
    rw [hh'] at kr
    have HH := hid hh'
    have hsl' : ∀ i, i < 4 → ∃ p l c, h' i = .slice p l c := by
      intro i hi
      rw [← hh']
      dsimp only
      split
      · exact ⟨_, _, _, rfl⟩
      · exact HSL.out i hi
    have KR := hid kr
    have ns : ∀ j, j = r → w.heap.size ≤ j := fun j hj => by have := HR1.out; omega
    have OX := hid (OX.out.chg (S := fun j => j = r) c6 (fun j hj e => by have e : j = r := e; have := HRL.out; omega))
    have HOU := hid (fun i (hi : i < yss.length) => OwnR.chg (HOU.out i hi) c6 (fun j hj e => by have := HOB.out i hi j hj; omega))
    have VR := hid (VR.out.chg c6 (fun e => by have e : w.heap.size + 1 = r := e; have := HR1.out; omega))
    have PP := hid (below_chg PP.out c6 (by have := PP.out.size; omega) ns)
    have Z6 := hid c6.size
    have HXB := hid (fun j hj => (OX.out.blk j hj).2)
    clear kr c6 hh' RV RM VA
    obtain ⟨k1', k2', k3', k4', k5'⟩ := KR.out
    obtain ⟨p0, l0, c0, e0⟩ := hsl' 0 (by omega)
    have q0 := k1' 0 (by omega)
    rw [e0] at q0
    obtain ⟨p1, l1, c1, e1⟩ := hsl' 1 (by omega)
    have q1 := k1' 1 (by omega)
    rw [e1] at q1
    obtain ⟨p2, l2, c2, e2⟩ := hsl' 2 (by omega)
    have q2 := k1' 2 (by omega)
    rw [e2] at q2
    obtain ⟨p3, l3, c3, e3⟩ := hsl' 3 (by omega)
    have q3 := k1' 3 (by omega)
    rw [e3] at q3
    clear k1' k5'
    go_wp2_with fail
    have SH := hid (boxShut_any h' D 0 (yss.length + 1) w6 (by omega) (by omega) hsl')
    rw [e0, e1, e2, e3] at SH
    clear k2' k3' k4' q0 q1 q2 q3 e0 e1 e2 e3
    refine SH.out.mono ?_
    rintro e w7 ⟨g, rfl, hg, o7, b7⟩
    clear SH
    have O7 := hid o7
    have VR := hid (VR.out.keep b7)
    have HG := hid (show r < g by have := HRL.out; have := Z5.out; have := Z6.out; omega)
    have HG6 := hid hg
    have OX := hid (OX.out.keep b7)
    have HOU := hid (fun i (hi : i < yss.length) => (HOU.out i hi).keep b7)
    have OB := hid (fun i (hi : i < yss.length) j (hj : (h i).ownBlock = some j) => (show j < r from HOB.out i hi j hj))
    have PP := hid (PP.out.trans (b7.mono PP.out.size))
    clear o7 b7 hg KR
    obtain ⟨r0, r1⟩ := vb2 VR.out
    have fr := VR.out.2.1
    go_wp2_with fail
    obtain ⟨t0, t1⟩ := vb2 (vbset2 (.int .i64 (D : Int)) (.slice (some ⟨g, 0, none⟩) (yss.length + 1) (yss.length + 1)) VR.out)
    have CG := hid (vbchg2 (S := fun j => j = w.heap.size + 1) (w := w7) (b := w.heap.size + 1) (.int .i64 (D : Int)) (.slice (some ⟨g, 0, none⟩) (yss.length + 1) (yss.length + 1)) rfl)
    refine bodyPost_ret (v := .tuple #[.agg #[.int .i64 (D : Int), .slice (some ⟨g, 0, none⟩) (yss.length + 1) (yss.length + 1)], .bool true]) (res_put _ rfl t0 t1 rfl) rfl ?_
    refine ⟨_, h', by rw [E.out.1, E.out.2.2], ?_, below_chg PP.out CG.out (by have := PP.out.size; omega) (fun j hj => by have hj : j = w.heap.size + 1 := hj; omega)⟩
    rw [E.out.2.1]
    have ln : (yss ++ [ms]).length = yss.length + 1 := by simp
    refine .inr ⟨g, by rw [ln], by have := HG.out; have := HR1.out; omega, ?_, ?_, ?_, ?_⟩
    · rw [ln]
      have hm4 : (List.range (yss.length + 1)).map (fun i => h' ((0 + i) % 4)) = (List.range (yss.length + 1)).map h' := by
        apply List.map_congr_left
        intro i hi
        rw [List.mem_range] at hi
        rw [show (0 + i) % 4 = i by omega]
      have o7 := O7.out
      rw [hm4] at o7
      exact row_is (ownsRow_chgV o7 CG.out (fun j hj => by have hj : j = w.heap.size + 1 := hj; have := HG.out; have := HR1.out; omega))
    · intro i hi
      rw [ln] at hi
      rw [← HH.out]
      dsimp only
      by_cases e : i = yss.length
      · subst e
        rw [if_pos rfl]
        simp only [List.getD_eq_getElem?_getD, List.getElem?_concat_length, Option.getD_some]
        exact (OwnR.chg OX.out CG.out (fun j hj e => by have e : j = w.heap.size + 1 := e; have := OXB.out j hj; have := HRL.out; have := HR1.out; omega)).low (by have := HRL.out; have := HR1.out; omega)
      · rw [if_neg e, List.getD_eq_getElem?_getD, List.getElem?_append_left (by omega), ← List.getD_eq_getElem?_getD]
        exact OwnR.chg (HOU.out i (by omega)) CG.out (fun j hj e' => by have e' : j = w.heap.size + 1 := e'; have := ((HOU.out i (by omega)).blk j hj).1; omega) |>.low (by omega)
    · intro i j hi hj hij b hb hb'
      rw [ln] at hi hj
      rw [← HH.out] at hb hb'
      dsimp only at hb hb'
      by_cases ei : i = yss.length
      · by_cases ej : j = yss.length
        · omega
        · rw [if_pos ei] at hb
          rw [if_neg ej] at hb'
          have := OXB.out b hb
          have := OB.out j (by omega) b hb'
          have := HRL.out
          omega
      · by_cases ej : j = yss.length
        · rw [if_neg ei] at hb
          rw [if_pos ej] at hb'
          have := OXB.out b hb'
          have := OB.out i (by omega) b hb
          have := HRL.out
          omega
        · rw [if_neg ei] at hb
          rw [if_neg ej] at hb'
          exact HAP.out i j (by omega) (by omega) hij b hb hb'
    · intro i hi hb
      rw [ln] at hi
      rw [← HH.out] at hb
      dsimp only at hb
      by_cases e : i = yss.length
      · rw [if_pos e] at hb
        have := HXB.out g hb
        have := HG6.out
        omega
      · rw [if_neg e] at hb
        have := OB.out i (by omega) g hb
        have := HG.out
        omega
  · have HND := hid (show yss.length = D by omega)
    have E := hid (p_full hok hlt)
    go_wp2_with fail
    refine (put_full r h D 0 (.slice xa nm xc) _ (by have := KR.out; rw [HND.out] at this; exact this) (by omega)).mono ?_
    rintro e w6 ⟨rfl, kr, b6⟩
    have KR := hid (show Ring w6 r h D 0 yss.length by rw [HND.out]; exact kr)
    have HOU := hid (fun i (hi : i < yss.length) => (HOU.out i hi).keep b6)
    have VR := hid (VR.out.keep b6)
    have PP := hid (PP.out.trans (b6.mono PP.out.size))
    have Z6 := hid b6.size
    clear kr b6 RV RM VA
    obtain ⟨k1', k2', k3', k4', k5'⟩ := KR.out
    obtain ⟨p0, l0, c0, e0⟩ := HSL.out 0 (by omega)
    have q0 := k1' 0 (by omega)
    rw [e0] at q0
    obtain ⟨p1, l1, c1, e1⟩ := HSL.out 1 (by omega)
    have q1 := k1' 1 (by omega)
    rw [e1] at q1
    obtain ⟨p2, l2, c2, e2⟩ := HSL.out 2 (by omega)
    have q2 := k1' 2 (by omega)
    rw [e2] at q2
    obtain ⟨p3, l3, c3, e3⟩ := HSL.out 3 (by omega)
    have q3 := k1' 3 (by omega)
    rw [e3] at q3
    clear k1' k5'
    go_wp2_with fail
    have SH := hid (boxShut_any h D 0 yss.length w6 (by omega) (by omega) HSL.out)
    rw [e0, e1, e2, e3] at SH
    clear k2' k3' k4' q0 q1 q2 q3 e0 e1 e2 e3
    refine SH.out.mono ?_
    rintro e w7 ⟨g, rfl, hg, o7, b7⟩
    clear SH
    have O7 := hid o7
    have VR := hid (VR.out.keep b7)
    have HG6 := hid hg
    have HOU := hid (fun i (hi : i < yss.length) => (HOU.out i hi).keep b7)
    have PP := hid (PP.out.trans (b7.mono PP.out.size))
    have HG := hid (show r < g by have := HRL.out; have := Z5.out; have := Z6.out; have := HG6.out; omega)
    clear o7 b7 hg KR
    obtain ⟨r0, r1⟩ := vb2 VR.out
    have fr := VR.out.2.1
    go_wp2_with fail
    obtain ⟨t0, t1⟩ := vb2 (vbset2 (.int .i64 (D : Int)) (.slice (some ⟨g, 0, none⟩) yss.length yss.length) VR.out)
    have CG := hid (vbchg2 (S := fun j => j = w.heap.size + 1) (w := w7) (b := w.heap.size + 1) (.int .i64 (D : Int)) (.slice (some ⟨g, 0, none⟩) yss.length yss.length) rfl)
    refine bodyPost_ret (v := .tuple #[.agg #[.int .i64 (D : Int), .slice (some ⟨g, 0, none⟩) yss.length yss.length], .bool false]) (res_put _ rfl t0 t1 rfl) rfl ?_
    refine ⟨_, h, by rw [E.out.1, E.out.2.2], ?_, below_chg PP.out CG.out (by have := PP.out.size; omega) (fun j hj => by have hj : j = w.heap.size + 1 := hj; omega)⟩
    rw [E.out.2.1]
    refine .inr ⟨g, rfl, by have := HG.out; have := HR1.out; omega, ?_, ?_, ?_, ?_⟩
    · have hm4 : (List.range yss.length).map (fun i => h ((0 + i) % 4)) = (List.range yss.length).map h := by
        apply List.map_congr_left
        intro i hi
        rw [List.mem_range] at hi
        rw [show (0 + i) % 4 = i by omega]
      have o7 := O7.out
      rw [hm4] at o7
      exact row_is (ownsRow_chgV o7 CG.out (fun j hj => by have hj : j = w.heap.size + 1 := hj; have := HG.out; have := HR1.out; omega))
    · intro i hi
      exact (OwnR.chg (HOU.out i hi) CG.out (fun j hj e' => by have e' : j = w.heap.size + 1 := e'; have := ((HOU.out i hi).blk j hj).1; omega)).low (by omega)
    · exact HAP.out
    · intro i hi hb
      have := HOB.out i hi g hb
      have := HG.out
      omega

end Go.Proofs.Ytanmapgpplhecaa
