/- The draw of a box: whatever is drawn is a row of lists of bytes of one's own; the reader goes on. Conditions: the reader lies as it was opened. -/
import Derived.Test.YtanmapgpplhecaaBoxPutS
import Derived.Test.YtanmapgpplhecaaBoxNew
import Derived.Test.YtanmapgpplhecaaDrawG
import Derived.Test.YtanmapgpplhecaaRegX
namespace Go.Proofs.Ytanmapgpplhecaa
open Go.ChangeShapes Go.WideShapes Go.ChangeAt Go.RowKit Go.Joins Go.Deep
set_option linter.unusedVariables false
set_option linter.unusedSimpArgs false
set_option maxRecDepth 4000
theorem rdr_row {W w w' : World} {g q : Nat} {row : Option Nat} (h : Rdr W w g q) (hg : w.grownBy w' row) (hr : ∀ j, row = some j → ¬ j = g ∧ W.heap.size ≤ j) : Rdr W w' g q := by
  obtain ⟨v, xs, e2, e3, e4, e5, e6, e7⟩ := h
  have hne : some g ≠ row := fun e => (hr g e.symm).1 rfl
  have hlt := World.block_lt_of_cell? w ⟨g, 0, none⟩ e5
  exact ⟨v, xs, e2, e3.grown hg e3.size (fun k hk => (hr k hk).2), e4, hg.cell e5 hne, hg.cell e6 hne, (World.frozen?_of_block (hg.block g hlt hne)).trans e7⟩
theorem grown_row {a b c : World} {g : Nat} {row : Option Nat} (h : a.grownBy b (some g)) (k : b.grownBy c row) (hr : ∀ j, row = some j → a.heap.size ≤ j) : a.grownBy c (some g) :=
  ⟨k.os.trans h.os, k.tape.trans h.tape, k.output.trans h.output, Nat.le_trans h.size k.size, fun i hi hne => (k.block i (Nat.lt_of_lt_of_le hi h.size) (fun e => by have := hr i e.symm; omega)).trans (h.block i hi hne)⟩
theorem grown_below {a b c : World} {g : Nat} (h : a.grownBy b (some g)) (k : Below b.heap.size b c) : a.grownBy c (some g) :=
  ⟨k.os.trans h.os, k.tape.trans h.tape, k.output.trans h.output, Nat.le_trans h.size k.size, fun i hi hne => (k.block i (Nat.lt_of_lt_of_le hi h.size)).trans (h.block i hi hne)⟩
theorem OwnV.grownG {w w' : World} {B g : Nat} {v : Value} {f : Nat → Value} {yss : List (List Int)} (h : OwnV w B v f yss) (hg : w.grownBy w' (some g)) (hB : g < B) : OwnV w' B v f yss :=
  h.chg (S := fun j => j = g) (Chg.of_grown hg (fun j hj => by simpa using hj.symm)) (fun j hj => by have hj : j = g := hj; omega)
theorem own_grownG {w w' : World} {B g : Nat} {v : Value} {xs : List Int} (h : Own w B v xs) (hg : w.grownBy w' (some g)) (hB : g < B) : Own w' B v xs :=
  OwnR.chg h (S := fun j => j = g) (Chg.of_grown hg (fun j hj => by simpa using hj.symm)) (fun j hj e => by have e : j = g := e; have := (h.blk j hj).1; omega)
theorem res_box {W : World} {b : Nat} {x0 x1 : Value} (tmps : Array Value) (ht : tmps[2]?.getD undef = .pointer (some ⟨b, 0, none⟩)) (h0 : W.cell? ⟨b, 0, none⟩ = some x0) (h1 : W.cell? ⟨b, 1, none⟩ = some x1) :
    (results Try.f63 tmps).run Try.prog W = .ok (.agg #[x0, x1]) W := by
  simp [results, Try.results63, go_sem, ht, h0, h1]
/-- where the draw of a box stands: the reader, the result's block, the box's, its items -/
def BxAt (W w : World) (g B : Nat) (d : Int) (u : Value) (f : Nat → Value) (yss : List (List Int)) (q : Nat) (wr : World) : Prop :=
  Rdr W wr g q ∧ w.grownBy wr (some g) ∧ VB wr w.heap.size [.int .i64 0, .slice none 0 0] ∧ VB wr B [.int .i64 d, u] ∧ OwnV wr (B + 1) u f yss ∧ (∀ i, i < yss.length → (yss.getD i []).length ≤ 9)
def BoxDrawn (W w : World) (g p : Nat) (e : Ending) (w' : World) : Prop :=
  ∃ (d : Int) (u : Value) (f : Nat → Value) (yss : List (List Int)), e = .returned (.agg #[.int .i64 d, u]) ∧ OwnV w' w.heap.size u f yss ∧ yss.length ≤ 20 ∧ (∀ i, i < yss.length → (yss.getD i []).length ≤ 9) ∧ (∃ q, q ≤ p + 300 ∧ Rdr W w' g q) ∧ w.grownBy w' (some g)
theorem getD_app {yss : List (List Int)} {ys : List Int} {n : Nat} (h : ∀ i, i < yss.length → (yss.getD i []).length ≤ n) (hy : ys.length ≤ n) : ∀ i, i < (yss ++ [ys]).length → ((yss ++ [ys]).getD i []).length ≤ n := by
  intro i hi
  simp only [List.length_append, List.length_cons, List.length_nil] at hi
  by_cases e : i = yss.length
  · subst e
    simp only [List.getD_eq_getElem?_getD, List.getElem?_concat_length, Option.getD_some]
    exact hy
  · rw [List.getD_eq_getElem?_getD, List.getElem?_append_left (by omega), ← List.getD_eq_getElem?_getD]
    exact h i (by omega)
theorem bx_store {W w w6 : World} {g B q : Nat} {d : Int} {u u' : Value} {f' : Nat → Value} {yss' : List (List Int)} (hgl : g < w.heap.size) (hWl : W.heap.size ≤ w.heap.size) (hB : w.heap.size < B) (hr : Rdr W w6 g q) (hg : w.grownBy w6 (some g)) (h1 : VB w6 w.heap.size [.int .i64 0, .slice none 0 0]) (h2 : VB w6 B [.int .i64 d, u]) (ho : OwnV w6 (B + 1) u' f' yss') (hl : ∀ i, i < yss'.length → (yss'.getD i []).length ≤ 9) :
    BxAt W w g B d u' f' yss' q (w6.setCell ⟨B, 1, none⟩ u') :=
  ⟨rdr_setN hr (by omega) (by omega) _, gset hg (by simp; omega) _, h1.off (by omega), h2.set (i := 1) (by simp) u', ho.chg ((Chg.refl (fun j => j = B) w6).set (p := ⟨B, 1, none⟩) rfl _) (fun j hj => by have hj : j = B := hj; omega), hl⟩
theorem BxAt.dw {W w wr : World} {g B q K : Nat} {d : Int} {u : Value} {f : Nat → Value} {yss : List (List Int)} (h : BxAt W w g B d u f yss q wr) (hWl : W.heap.size ≤ w.heap.size) : DW W w g w.heap.size q K [] 0 wr :=
  ⟨⟨q, by omega, h.1⟩, h.2.1, Nat.le_refl _, h.2.1.size, fun x hx => (by cases hx), hWl⟩
/-- the box's cells -/
def BX2 (R B : Nat) (u : Value) (f : Nat → Value) (yss : List (List Int)) (w : World) : Prop := VB w R [.int .i64 0, .slice none 0 0] ∧ (∃ d : Int, VB w B [.int .i64 d, u]) ∧ OwnV w (B + 1) u f yss
theorem bx2_stands {R B g : Nat} {u : Value} {f : Nat → Value} {yss : List (List Int)} (hR : ¬ R = g) (hB : ¬ B = g) (hg : g < B) : Stands g (BX2 R B u f yss) := by
  rintro w w' hb ⟨h1, ⟨d, h2⟩, h3⟩
  exact ⟨h1.grown hb (by simpa using hR), ⟨d, h2.grown hb (by simpa using hB)⟩, h3.grownG hb (by omega)⟩
theorem bx2_store {R B : Nat} {u : Value} {f : Nat → Value} {yss : List (List Int)} (hR : ¬ B = R) (w : World) (y : Int) (h : BX2 R B u f yss w) : (Instr.storeAt 3 (.pointer (some ⟨B, 0, none⟩)) (.int .i64 y)).run Try.prog w = .ok () (w.setCell ⟨B, 0, none⟩ (.int .i64 y)) ∧ BX2 R B u f yss (w.setCell ⟨B, 0, none⟩ (.int .i64 y)) := by
  obtain ⟨h1, ⟨d, h2⟩, h3⟩ := h
  obtain ⟨c0, c1⟩ := vb2 h2
  have ff := h2.2.1
  refine ⟨?_, h1.off hR, ⟨y, h2.set (i := 0) (by simp) _⟩, h3.chg ((Chg.refl (fun j => j = B) w).set (p := ⟨B, 0, none⟩) rfl _) (fun j hj => by have hj : j = B := hj; omega)⟩
  clear h1 h2 h3
  go_simp
def boxLen (w : World) (B : Nat) : Nat := match w.cell? ⟨B, 1, none⟩ with | some v => slen v | none => 0
theorem boxLen_at {w : World} {B n c : Nat} {a : Option Addr} (h : w.cell? ⟨B, 1, none⟩ = some (.slice a n c)) : boxLen w B = n := by
  unfold boxLen
  rw [h]
  rfl
set_option maxHeartbeats 16000000 in
theorem drawBox_any (W w : World) (g p : Nat) (hr : Rdr W w g p) (hp : p + 300 < 900000) :
    Calls Try.prog 63 #[.pointer (some ⟨g, 0, none⟩)] w fun e w' => BoxDrawn W w g p e w' := by
  obtain ⟨ti, hti, htz, hts, htb⟩ := infoB2
  have hgl : g < w.heap.size := (DW.start (K := 1) hr).rd_lt
  have hWl : W.heap.size ≤ w.heap.size := (DW.start (K := 1) hr).2.2.2.2.2
  have HGL := hid hgl
  have HWL := hid hWl
  have D0 := hid (hr.keep (below_alloc1 w (.cells #[.int .i64 0, .slice none 0 0] 25)))
  have G0 := hid (galloc (grefl w g) (.cells #[.int .i64 0, .slice none 0 0] 25))
  have V0 := hid (vb_new w [.int .i64 0, .slice none 0 0] 25)
  clear hr hgl hWl
  go_enter Try.func63, Try.ntmps63
  go_wp2_with fail
  refine (pick_any 4 W _ g p D0.out (by omega) (by omega) (by omega)).mono ?_
  rintro e wp ⟨x, rfl, lx, ux, rp, -, -, hzp, gp⟩
  obtain ⟨j, rfl⟩ := Int.eq_ofNat_of_zero_le lx
  obtain ⟨d, hd⟩ : ∃ d : Nat, 1 + j = d := ⟨_, rfl⟩
  have q1 : IntKind.i64.wrap (1 + (j : Int)) = (d : Int) := by rw [IntKind.wrap_i64]; omega
  have d1 : 1 ≤ d := by omega
  have d4 : d ≤ 4 := by omega
  have HND := hid (show newD (d : Int) = d by simp [newD, inB]; omega)
  have R1 := hid rp
  have G1 := hid (gtrans G0.out gp)
  have V1 := hid (V0.out.grown gp (by have := HGL.out; simp; omega))
  clear lx ux rp gp hd D0 G0 V0 hzp
  go_wp2_with fail
  refine (specBoxNew_any (d : Int) _).mono ?_
  rw [HND.out]
  rintro e w2 ⟨rfl, b2⟩
  obtain ⟨B, hB⟩ : ∃ B, w2.heap.size = B := ⟨_, rfl⟩
  have HRB := hid (show w.heap.size < B by rw [← hB]; exact (V1.out.keep b2).2.2)
  have S2 : Hid (BxAt W w g B (d : Int) (.slice none 0 0) (fun _ => undef) [] (p + 1) (w2.alloc (.cells #[.int .i64 (d : Int), .slice none 0 0] 25))) := hid ⟨(R1.out.keep b2).keep (below_alloc1 _ _), galloc (grown_below G1.out b2) _, (V1.out.keep b2).keep (below_alloc1 _ _), by rw [← hB]; exact vb_new w2 [.int .i64 (d : Int), .slice none 0 0] 25, ⟨⟨by simp, .inl ⟨rfl, rfl⟩⟩, fun i hi => by simp at hi⟩, fun i hi => by simp at hi⟩
  clear b2 R1 G1 V1
  go_wp2_with fail
  obtain ⟨W3, hW3⟩ : ∃ W3, w2.alloc (.cells #[.int .i64 (d : Int), .slice none 0 0] 25) = W3 := ⟨_, rfl⟩
  rw [hW3] at S2
  try rw [hW3]
  try rw [hB]
  clear hW3 hB
  refine (pick_any 5 W _ g (p + 1) S2.out.1 (by omega) (by omega) (by omega)).mono ?_
  rintro e w4 ⟨x, rfl, lx, ux, rp, -, -, hzp, gp⟩
  obtain ⟨m, rfl⟩ := Int.eq_ofNat_of_zero_le lx
  have hm : m ≤ 4 := by omega
  have S4 : Hid (BxAt W w g B (d : Int) (.slice none 0 0) (fun _ => undef) [] (p + 2) w4) := hid ⟨rp, gtrans S2.out.2.1 gp, S2.out.2.2.1.grown gp (by have := HGL.out; simp; omega), S2.out.2.2.2.1.grown gp (by have := HGL.out; have := HRB.out; simp; omega), S2.out.2.2.2.2.1.grownG gp (by have := HGL.out; have := HRB.out; omega), fun i hi => by simp at hi⟩
  clear lx ux rp gp hzp S2
  go_wp2_with fail
  go_loopw [4] (fun i wr => ∃ (k : Nat) (u : Value) (f : Nat → Value) (yss : List (List Int)) (q : Nat), i = .int .i64 (k : Int) ∧ yss.length + k ≤ 4 ∧ yss.length ≤ d ∧ q + 20 * k ≤ p + 2 + 80 ∧ BxAt W w g B (d : Int) u f yss q wr) (fun i _ => (intOf i).toNat)
  case atStart => exact ⟨m, _, _, [], p + 2, rfl, by simpa using hm, by simp, by omega, S4.out⟩
  case round =>
    clear S4
    obtain ⟨k, u, f, yss, q, rfl, hk, hyd, hq, hS⟩ := hrel
    have SS := hid hS
    obtain ⟨ua, uc, rfl⟩ := hS.2.2.2.2.1.form
    obtain ⟨c0, c1⟩ := vb2 hS.2.2.2.1
    obtain ⟨n, hn⟩ : ∃ n, yss.length = n := ⟨_, rfl⟩
    have HN := hid hn
    rw [hn] at c1 hk hyd SS
    try rw [hn]
    clear hS hn
    have fB := SS.out.2.2.2.1.2.1 1
    have lB := SS.out.2.2.2.1.2.2
    by_cases hc : 0 < k ∧ n < d
    · obtain ⟨h0, h1⟩ := hc
      have h0' : (0 : Int) < (k : Int) := by omega
      · have h1' : (n : Int) < (d : Int) := by omega
        have HX0 : wr.drew.cell? ⟨B, 1, none⟩ = some (.slice ua n uc) := c1
        have lB0 : B < wr.drew.heap.size := lB
        have RDd := hid (rdr_drew SS.out.1)
        have nBg : ¬ B = g := by have := HGL.out; have := HRB.out; omega
        have k0 : IntKind.i64.wrap ((k : Int) - 1) = ((k - 1 : Nat) : Int) := by rw [IntKind.wrap_i64]; omega
        go_upto_region 5 with fail
        clear c0 c1 fB
        go_region_law ((first
          | (refine step_call (f := 81) [.tmp 26, .const (.int .i64 5)] rfl rfl (fun xs w => by go_simp) [.pointer (some ⟨g, 0, none⟩), .int .i64 5] rfl ?_; refine (pick_any 5 W _ g q RDd.out (by omega) (by omega) (by omega)).mono ?_; rintro e wp ⟨x, rfl, lx, ux, rp, -, -, -, gp⟩; obtain ⟨xn, rfl⟩ := Int.eq_ofNat_of_zero_le lx; have hxn : xn < 5 := (by omega); have HX0 := gp.cell HX0 (fun e => nBg (by simpa using e)); have lB0 : B < wp.heap.size := Nat.lt_of_lt_of_le lB0 gp.size; have RP := hid rp; have GPP := hid (gtrans (gdrew SS.out.2.1) gp); have VPP := hid ((SS.out.2.2.1.drew).grown gp (by have := HGL.out; simp; omega)); have XPP := hid ((SS.out.2.2.2.1.drew).grown gp (by have := HGL.out; have := HRB.out; simp; omega)); have OPP := hid ((SS.out.2.2.2.2.1.keep (Below.refl _ _).drew).grownG gp (by have := HGL.out; have := HRB.out; omega)); clear lx ux rp gp; refine ⟨_, rfl, ?_⟩)
          | (refine step_call (f := 82) [.tmp 25, .tmp 27] rfl rfl (fun xs w => by go_simp) [.pointer (some ⟨g, 0, none⟩), .int .i64 (xn : Int)] rfl ?_; refine (drawBytes_any xn W _ g (q + 1) RP.out (by omega) (by omega)).mono ?_; rintro e w5 ⟨y, ys, rfl, hys, oy, ry, gy⟩; obtain ⟨ya, yc, rfl, _⟩ := own_form oy; rw [hys] at oy ⊢; have HYS := hid hys; clear hys; have HX0 := gy.cell HX0 (fun e => nBg (by simpa using e)); have lB5 : B < w5.heap.size := Nat.lt_of_lt_of_le lB0 gy.size; have R5 := hid ry; have G5 := hid (gtrans GPP.out gy); have V5 := hid (VPP.out.grown gy (by have := HGL.out; simp; omega)); have X5 := hid (XPP.out.grown gy (by have := HGL.out; have := HRB.out; simp; omega)); have O5 := hid (OPP.out.grownG gy (by have := HGL.out; have := HRB.out; omega)); have OY := hid (oy.low (B' := B + 1) (by omega)); clear oy ry gy; refine ⟨_, rfl, ?_⟩)
          | (refine step_append_lies _ rfl (.tmp 24) (.tmp 29) 23 rfl (B + 1) 22 ti (.slice none 0 0) 1 24 Try.underlying23 hti htz hts htb rfl (by omega) (.slice ua n uc) n ((List.range n).map f) rfl (by have h := O5.out.1; rw [HN.out] at h; exact h.alloc _) ⟨w5.heap.size, 0, none⟩ 1 1 [.slice ya xn yc] rfl rfl (cell_one_new _ _ _) (by intro y hy; simp at hy; subst hy; rfl) (by omega) (by unfold maxLen; omega) (by omega) (by have := lB5; simp; omega) (w5.heap.size + 1) (by simp) ?_; intro gg cap2 w6 ho2 hg2 hat hlt2; have HGR := hid (fun j (hj : (Value.slice ua n uc).ownBlock = some j) => (show B + 1 ≤ j from (O5.out.1.lt j hj).1)); have BA := below_alloc1 w5 (.cells #[.slice ya xn yc] 22); have O6 := hid ((O5.out.keep BA).more HN.out (OY.out.keep BA) hg2 ho2); have R6 := hid (rdr_row (R5.out.keep BA) hg2 (fun j hj => by have := HGR.out j hj; have := HGL.out; have := HRB.out; have := HWL.out; omega)); have G6 := hid (grown_row (galloc G5.out _) hg2 (fun j hj => by have := HGR.out j hj; have := HRB.out; omega)); have V6 := hid ((V5.out.keep BA).grown hg2 (fun e => by have := HGR.out _ e.symm; have := HRB.out; omega)); have X6 := hid ((X5.out.keep BA).grown hg2 (fun e => by have := HGR.out _ e.symm; omega)); obtain ⟨c0, c1⟩ := vb2 X6.out; have fB := X6.out.2.1 1; clear ho2 hg2 hat hlt2 BA)))
        all_goals
          have ST := hid (bx_store (u' := .slice (some ⟨gg, 0, none⟩) (n + 1) cap2) HGL.out HWL.out HRB.out R6.out G6.out V6.out X6.out O6.out (getD_app SS.out.2.2.2.2.2 (by have := HYS.out; omega)))
          go_wp2_with fail
          go_roundw
          case rel => exact ⟨k - 1, _, _, yss ++ [ys], q + 1 + xn, by first | rfl | (congr 1; omega), by have := HN.out; simp; omega, by have := HN.out; simp; omega, by omega, ST.out⟩
          case measure => simp [intOf]; omega
    · rcases Nat.eq_zero_or_pos k with h0 | h0
      all_goals
        first
        | (have h1' : ¬ (n : Int) < (d : Int) := by omega
           have h0' : (0 : Int) < (k : Int) := by omega
           clear hc h0
           go_wp2_with fail)
        | (have h0' : ¬ (0 : Int) < (k : Int) := by omega
           clear hc h0
           go_wp2_with fail)
        refine (pick_any 16 W _ g q SS.out.1 (by omega) (by omega) (by omega)).mono ?_
        rintro e wq ⟨t, rfl, lt, ut, rq, -, -, -, gq⟩
        have nBg : ¬ B = g := by have := HGL.out; have := HRB.out; omega
        have SS := hid (show BxAt W w g B (d : Int) (.slice ua n uc) f yss (q + 1) wq from ⟨rq, gtrans SS.out.2.1 gq, SS.out.2.2.1.grown gq (by have := HGL.out; simp; omega), SS.out.2.2.2.1.grown gq (by simp; omega), SS.out.2.2.2.2.1.grownG gq (by have := HGL.out; have := HRB.out; omega), SS.out.2.2.2.2.2⟩)
        have FIN : ∀ (w' : World) (d' : Int) (u' : Value) (f' : Nat → Value) (yss' : List (List Int)) (q' : Nat), q' ≤ p + 300 → yss'.length ≤ 20 → BxAt W w g B d' u' f' yss' q' w' → VB ((w'.setCell ⟨w.heap.size, 0, none⟩ (.int .i64 d')).setCell ⟨w.heap.size, 1, none⟩ u') w.heap.size [.int .i64 d', u'] ∧ BoxDrawn W w g p (.returned (.agg #[.int .i64 d', u'])) ((w'.setCell ⟨w.heap.size, 0, none⟩ (.int .i64 d')).setCell ⟨w.heap.size, 1, none⟩ u') := by
          intro w' d' u' f' yss' q' hq' hl' hS
          obtain ⟨h1, h2, h3, h4, h5, h6⟩ := hS
          refine ⟨vbset2 _ _ h3, d', u', f', yss', rfl, (h5.chg (vbchg2 (S := fun j => j = w.heap.size) (b := w.heap.size) (.int .i64 d') u' rfl) (fun j hj => by have hj : j = w.heap.size := hj; have := HRB.out; omega)).low (by have := HRB.out; omega), hl', h6, ⟨q', hq', rdr_setN (rdr_setN h1 (by have := HGL.out; omega) HWL.out _) (by have := HGL.out; omega) HWL.out _⟩, gset (gset h2 (by simp) _) (by simp) _⟩
        clear rq gq c0 c1 fB lB
        by_cases e0 : t = 0
        · subst e0
          go_upto_region 8 with fail
          have HX : Stands g (BX2 w.heap.size B (.slice ua n uc) f yss) := bx2_stands (by have := HGL.out; omega) nBg (by have := HGL.out; have := HRB.out; omega)
          have DD : Hid (DV W w g w.heap.size (q + 1) 1 [] (BX2 w.heap.size B (.slice ua n uc) f yss) 0 wq) := hid ⟨SS.out.dw HWL.out, SS.out.2.2.1, ⟨_, SS.out.2.2.2.1⟩, SS.out.2.2.2.2.1⟩
          refine region_plain (Fs g w.heap.size [.row 3, .is (.pointer (some ⟨g, 0, none⟩)), .rng 3, .at, .int, .is (.pointer (some ⟨B, 0, none⟩)), .any]) (DV W w g w.heap.size (q + 1) 1 [] (BX2 w.heap.size B (.slice ua n uc) f yss)) (by kernel_rfl) DD.out ⟨?_, ?_, ?_, ?_, ?_, ?_, ?_, trivial⟩ ?_
          · exact ob_un (dv_lift HX fun _ HLO => rt_row (E := 3) (fun f w => by go_simp) rfl ⟨oi_const 0, oi_const 5, oi_const (-1), trivial⟩ rfl)
          · exact ob_un (dv_lift HX fun _ HLO => rt_move (.pointer (some ⟨g, 0, none⟩)) rfl rfl rfl)
          · exact ob_un (dv_lift HX fun _ HLO => rt_pick (m := 3) 1 (by omega) (by simp <;> omega) (by omega) (by omega) rfl rfl rfl rfl)
          · exact ob_un (dv_lift HX fun _ HLO => rt_idx 0 2 (by omega) (by omega) rfl rfl rfl rfl rfl rfl rfl)
          · exact ob_un (dv_lift HX fun _ HLO => rt_load 3 rfl rfl rfl rfl)
          · exact ob_un (rx_field (fun w => by go_simp) rfl rfl rfl)
          · exact ob_un (rx_store 5 nBg (by have := HRB.out; omega) (by have := HRB.out; omega) (fun w y h => bx2_store (by have := HRB.out; omega) w y h) rfl rfl rfl (oi_in 4 rfl rfl rfl) rfl)
          intro u8 w8 hI hF
          obtain ⟨f0, f1, f2, f3, f4, f5, f6, -⟩ := hF
          obtain ⟨hD, hvr, ⟨d', hvb⟩, hov⟩ := hI
          clear f0 f1 f2 f3 f4 f5 f6
          simp only [outTmps, List.setIfInBounds_toArray, List.set_cons_zero, List.set_cons_succ]
          obtain ⟨q', hq', hrd⟩ := hD.1
          obtain ⟨c0, c1⟩ := vb2 hvb
          obtain ⟨r0, r1⟩ := vb2 hvr
          have fr := hvr.2.1
          have ST := hid (FIN _ _ _ _ _ q' (by simp at hq'; omega) (by have := HN.out; omega) ⟨hrd, hD.2.1, hvr, hvb, hov, SS.out.2.2.2.2.2⟩)
          clear FIN hD hvr hvb hov hrd hq'
          go_wp2_with fail
          obtain ⟨t0, t1⟩ := vb2 ST.out.1
          refine bodyPost_ret (res_box _ rfl t0 t1) rfl ?_
          exact ST.out.2
        have d0 : (t == 0) = false := by simpa using e0
        by_cases e1 : t = 1
        · subst e1
          obtain ⟨c0, c1⟩ := vb2 SS.out.2.2.2.1
          have lB := SS.out.2.2.2.1.2.2
          have HX0 : wq.drew.cell? ⟨B, 1, none⟩ = some (.slice ua n uc) := c1
          have lB0 : B < wq.drew.heap.size := lB
          have RP := hid (rdr_drew SS.out.1)
          have GPP := hid (gdrew SS.out.2.1)
          have VPP := hid SS.out.2.2.1.drew
          have XPP := hid SS.out.2.2.2.1.drew
          have OPP := hid (SS.out.2.2.2.2.1.keep (Below.refl _ _).drew)
          go_upto_region 10 with fail
          clear c0 c1 lB
          go_region_law ((first
            | (refine step_call (f := 82) [.tmp 46, .const (.int .i64 9)] rfl rfl (fun xs w => by go_simp) [.pointer (some ⟨g, 0, none⟩), .int .i64 9] rfl ?_; refine (drawBytes_any 9 W _ g (q + 1) RP.out (by omega) (by omega)).mono ?_; rintro e w5 ⟨y, ys, rfl, hys, oy, ry, gy⟩; obtain ⟨ya, yc, rfl, _⟩ := own_form oy; rw [hys] at oy ⊢; have HYS := hid hys; clear hys; have HX0 := gy.cell HX0 (fun e => nBg (by simpa using e)); have lB5 : B < w5.heap.size := Nat.lt_of_lt_of_le lB0 gy.size; have R5 := hid ry; have G5 := hid (gtrans GPP.out gy); have V5 := hid (VPP.out.grown gy (by have := HGL.out; simp; omega)); have X5 := hid (XPP.out.grown gy (by have := HGL.out; have := HRB.out; simp; omega)); have O5 := hid (OPP.out.grownG gy (by have := HGL.out; have := HRB.out; omega)); have OY := hid (oy.low (B' := B + 1) (by omega)); clear oy ry gy; refine ⟨_, rfl, ?_⟩)
            | (refine step_append_lies _ rfl (.tmp 45) (.tmp 48) 23 rfl (B + 1) 22 ti (.slice none 0 0) 1 24 Try.underlying23 hti htz hts htb rfl (by omega) (.slice ua n uc) n ((List.range n).map f) rfl (by have h := O5.out.1; rw [HN.out] at h; exact h.alloc _) ⟨w5.heap.size, 0, none⟩ 1 1 [.slice ya 9 yc] rfl rfl (cell_one_new _ _ _) (by intro y hy; simp at hy; subst hy; rfl) (by omega) (by unfold maxLen; omega) (by omega) (by have := lB5; simp; omega) (w5.heap.size + 1) (by simp) ?_; intro gg cap2 w6 ho2 hg2 hat hlt2; have HGR := hid (fun j (hj : (Value.slice ua n uc).ownBlock = some j) => (show B + 1 ≤ j from (O5.out.1.lt j hj).1)); have BA := below_alloc1 w5 (.cells #[.slice ya 9 yc] 22); have O6 := hid ((O5.out.keep BA).more HN.out (OY.out.keep BA) hg2 ho2); have R6 := hid (rdr_row (R5.out.keep BA) hg2 (fun j hj => by have := HGR.out j hj; have := HGL.out; have := HRB.out; have := HWL.out; omega)); have G6 := hid (grown_row (galloc G5.out _) hg2 (fun j hj => by have := HGR.out j hj; have := HRB.out; omega)); have V6 := hid ((V5.out.keep BA).grown hg2 (fun e => by have := HGR.out _ e.symm; have := HRB.out; omega)); have X6 := hid ((X5.out.keep BA).grown hg2 (fun e => by have := HGR.out _ e.symm; omega)); obtain ⟨c0, c1⟩ := vb2 X6.out; have fB := X6.out.2.1 1; clear ho2 hg2 hat hlt2 BA)))
          all_goals
            obtain ⟨r0, r1⟩ := vb2 V6.out
            have fr := V6.out.2.1
            have nRB : ¬ w.heap.size = B := by have := HRB.out; omega
            have nBR : ¬ B = w.heap.size := by have := HRB.out; omega
            have ST := hid (FIN _ _ _ _ _ (q + 1 + 9) (by omega) (by have := HN.out; simp; omega) (bx_store (u' := .slice (some ⟨gg, 0, none⟩) (n + 1) cap2) HGL.out HWL.out HRB.out R6.out G6.out V6.out X6.out O6.out (getD_app SS.out.2.2.2.2.2 (by have := HYS.out; omega))))
            clear FIN
            go_wp2_with fail
            obtain ⟨t0, t1⟩ := vb2 ST.out.1
            refine bodyPost_ret (res_box _ rfl t0 t1) rfl ?_
            exact ST.out.2
        have d1' : (t == 1) = false := by simpa using e1
        by_cases e2 : t = 2
        · subst e2
          go_wp2_with fail
          go_loopw [] (fun wr => ∃ (u : Value) (f : Nat → Value) (yss : List (List Int)), yss.length ≤ d + 1 ∧ BxAt W w g B (d : Int) u f yss (q + 1) wr) (fun wr => d + 1 - boxLen wr B)
          case atStart => exact ⟨_, f, yss, by have := HN.out; omega, SS.out⟩
          case round =>
            obtain ⟨u2, f2, yss2, hl2, hS2⟩ := hrel
            have SS2 := hid hS2
            obtain ⟨ub, ubc, rfl⟩ := hS2.2.2.2.2.1.form
            obtain ⟨c0, c1⟩ := vb2 hS2.2.2.2.1
            obtain ⟨n2, hn2⟩ : ∃ n2, yss2.length = n2 := ⟨_, rfl⟩
            have HN2 := hid hn2
            rw [hn2] at c1 hl2 SS2
            clear hS2 hn2
            have fB := SS2.out.2.2.2.1.2.1 1
            have lB := SS2.out.2.2.2.1.2.2
            have HBL := hid (boxLen_at c1)
            by_cases hlt : n2 ≤ d
            · have hlt' : (n2 : Int) ≤ (d : Int) := by omega
              have HR : wr.ownsRow (B + 1) 22 1 (.slice ub n2 ubc) n2 ((List.range n2).map f2) := by have h := SS2.out.2.2.2.2.1.1; rw [HN2.out] at h; exact h
              have HRR := hid HR
              clear HR
              go_wp2_with (at_builtin; go_must (refine wpList_append_lies _ (by rfl) _ _ 23 (by rfl) (B + 1) 22 ti (.slice none 0 0) 1 24 Try.underlying23 hti htz hts htb rfl (by omega) _ n2 ((List.range n2).map f2) (by rfl) ((HRR.out.alloc _).alloc _) ⟨wr.heap.size + 1, 0, none⟩ 1 1 [.slice (some ⟨wr.heap.size, 0, none⟩) 0 0] (by rfl) rfl ?_ (by intro y hy; simp at hy; subst hy; rfl) (by omega) (by unfold maxLen; omega) (by omega) (by simp; omega) (wr.heap.size + 1 + 1) (by simp) ?_))
              · have := cell_one_new (wr.alloc (.cells #[] 5)) (.slice (some ⟨wr.heap.size, 0, none⟩) 0 0) 22
                simpa using this
              · intro gg cap2 w6 ho2 hg2 hat hlt2
                have HGR := hid (fun j (hj : (Value.slice ub n2 ubc).ownBlock = some j) => (show B + 1 ≤ j from (SS2.out.2.2.2.2.1.1.lt j hj).1))
                have BA := hid (((Below.refl wr.heap.size wr).alloc (Nat.le_refl _) (.cells #[] 5)).alloc (by simp) (.cells #[.slice (some ⟨wr.heap.size, 0, none⟩) 0 0] 22))
                have OE := hid (((own_none wr).keep (below_alloc1 (wr.alloc (.cells #[] 5)) (.cells #[.slice (some ⟨wr.heap.size, 0, none⟩) 0 0] 22))).low (B' := B + 1) (by omega))
                have O6 := hid ((SS2.out.2.2.2.2.1.keep BA.out).more HN2.out OE.out hg2 ho2)
                have R6 := hid (rdr_row (SS2.out.1.keep BA.out) hg2 (fun j hj => by have := HGR.out j hj; have := HGL.out; have := HRB.out; have := HWL.out; omega))
                have G6 := hid (grown_row (galloc (galloc SS2.out.2.1 _) _) hg2 (fun j hj => by have := HGR.out j hj; have := HRB.out; omega))
                have V6 := hid ((SS2.out.2.2.1.keep BA.out).grown hg2 (fun e => by have := HGR.out _ e.symm; have := HRB.out; omega))
                have X6 := hid ((SS2.out.2.2.2.1.keep BA.out).grown hg2 (fun e => by have := HGR.out _ e.symm; omega))
                obtain ⟨c0, c1⟩ := vb2 X6.out
                have fB := X6.out.2.1 1
                have ST := hid (bx_store (u' := .slice (some ⟨gg, 0, none⟩) (n2 + 1) cap2) HGL.out HWL.out HRB.out R6.out G6.out V6.out X6.out O6.out (getD_app SS2.out.2.2.2.2.2 (by simp)))
                have HBN := hid (boxLen_at (vb2 ST.out.2.2.2.1).2)
                clear ho2 hg2 hat hlt2
                go_wp2_with fail
                go_roundw
                case rel => exact ⟨_, _, yss2 ++ [[]], by have := HN2.out; simp; omega, ST.out⟩
                case measure => have h1 := HBN.out; have h2 := HBL.out; rw [h1, h2]; omega
            · have hlt' : ¬ (n2 : Int) ≤ (d : Int) := by omega
              obtain ⟨r0, r1⟩ := vb2 SS2.out.2.2.1
              have fr := SS2.out.2.2.1.2.1
              have nRB : ¬ w.heap.size = B := by have := HRB.out; omega
              have nBR : ¬ B = w.heap.size := by have := HRB.out; omega
              have ST := hid (FIN _ _ _ _ _ (q + 1) (by omega) (by have := HN2.out; omega) SS2.out)
              clear FIN
              go_wp2_with fail
              obtain ⟨t0, t1⟩ := vb2 ST.out.1
              refine bodyPost_ret (res_box _ rfl t0 t1) rfl ?_
              exact ST.out.2
        have d2' : (t == 2) = false := by simpa using e2
        obtain ⟨c0, c1⟩ := vb2 SS.out.2.2.2.1
        obtain ⟨r0, r1⟩ := vb2 SS.out.2.2.1
        have fr := SS.out.2.2.1.2.1
        have ST := hid (FIN _ _ _ _ _ (q + 1) (by omega) (by have := HN.out; omega) SS.out)
        clear FIN
        go_wp2_with fail
        obtain ⟨t0, t1⟩ := vb2 ST.out.1
        refine bodyPost_ret (res_box _ rfl t0 t1) rfl ?_
        exact ST.out.2
end Go.Proofs.Ytanmapgpplhecaa
