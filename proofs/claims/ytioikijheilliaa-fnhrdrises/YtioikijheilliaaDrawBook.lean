/- The draw of a book, and of a hello: whatever is drawn reads as two lists; the reader goes on. Conditions: the reader lies as it was opened. -/
import Derived.Test.YtioikijheilliaaRegX
import Derived.Test.YtioikijheilliaaHrdNewC
import Derived.Test.YtioikijheilliaaVBk
import Derived.Deep.DeepCutAuto
import Derived.Deep.AppendLies
import Derived.Maps.AppendAt
namespace Go.Proofs.Ytioikijheilliaa
open Go.ChangeShapes Go.WideShapes Go.ChangeAt Go.RowKit Go.Joins Go.Deep
set_option linter.unusedVariables false
set_option linter.unusedSimpArgs false
set_option maxRecDepth 4000
theorem DW.keep {W w0 w w' : World} {g lo p K n : Nat} {Rs : List (Nat × Nat)} (h : DW W w0 g lo p K Rs n w) (hb : Below w.heap.size w w') : DW W w0 g lo p K Rs n w' := by
  obtain ⟨⟨q, h1, h2⟩, h3, h4, h5, h6, h7⟩ := h
  have hg : w.grownBy w' (some g) := ⟨hb.os, hb.tape, hb.output, hb.size, fun k hk _ => hb.block k hk⟩
  exact ⟨⟨q, h1, h2.keep hb⟩, gtrans h3 hg, h4, Nat.le_trans h5 hb.size, fun x hx => ext_grown hg _ _ (h6 x hx), h7⟩
/-- another row has been written -/
theorem DW.row {W w0 w w' : World} {g lo p K n c : Nat} (h : DW W w0 g lo p K [] n w) (hg : w.grownBy w' (some c)) (h1 : ¬ c = g) (h2 : lo ≤ c) (h0 : w0.heap.size ≤ c) : DW W w0 g lo p K [] n w' := by
  have hlt := h.rd_lt
  obtain ⟨⟨q, e1, v, xs, e2, e3, e4, e5, e6, e7⟩, h3, h4, h5, h6, h7⟩ := h
  have hne : some g ≠ some c := fun e => h1 (by simpa using e.symm)
  refine ⟨⟨q, e1, v, xs, e2, e3.grown hg (by omega) (fun k hk => by simp at hk; omega), e4, hg.cell e5 hne, hg.cell e6 hne, (World.frozen?_of_block (hg.block g hlt hne)).trans e7⟩, ⟨hg.os.trans h3.os, hg.tape.trans h3.tape, hg.output.trans h3.output, Nat.le_trans h3.size hg.size, fun k hk hn => (hg.block k (by omega) (by simp; omega)).trans (h3.block k hk hn)⟩, h4, Nat.le_trans h5 hg.size, fun x hx => (by cases hx), h7⟩
theorem DW.setV {W w0 w : World} {g lo p K n b i : Nat} (h : DW W w0 g lo p K [] n w) (v : Value) (hg : ¬ b = g) (hl : lo ≤ b) (hc : w0.heap.size ≤ b) : DW W w0 g lo p K [] n (w.setCell ⟨b, i, none⟩ v) := by
  obtain ⟨⟨q, h1, h2⟩, h3, h4, h5, h6, h7⟩ := h
  exact ⟨⟨q, h1, rdr_setN h2 hg (by omega) _⟩, gset h3 hc _, h4, by simpa [World.setCell] using h5, fun x hx => (by cases hx), h7⟩
/-- a book that is being drawn: the result's block, its own, its two rows -/
def BkX (lo R B : Nat) (u v : Value) (n : Nat) (w : World) : Prop :=
  VB w R [.slice none 0 0, .slice none 0 0] ∧ VB w B [u, v] ∧ ∃ xs ys, OwnI 3 1 w lo u n xs ∧ OwnI 3 1 w lo v n ys
theorem bkx_stands {lo R B n g : Nat} {u v : Value} (hg : g < lo) (hR : ¬ R = g) (hB : ¬ B = g) : Stands g (BkX lo R B u v n) := by
  rintro w w' hb ⟨h1, h2, xs, ys, h3, h4⟩
  refine ⟨h1.grown hb (by simpa using hR), h2.grown hb (by simpa using hB), xs, ys, h3.grown hb ?_, h4.grown hb ?_⟩
  · rintro j hj he
    have := (h3.blk j he).1
    simp at hj; omega
  · rintro j hj he
    have := (h4.blk j he).1
    simp at hj; omega
theorem ownI_setOff {e : TypeId} {k n B c i : Nat} {w : World} {u x : Value} {xs : List Int} (h : OwnI e k w B u n xs) (hc : u.ownBlock ≠ some c) : OwnI e k (w.setCell ⟨c, i, none⟩ x) B u n xs :=
  ownsRow_setCell_other h (a := ⟨c, i, none⟩) hc x
theorem bkx_store1 {lo R B n gu gv cu cv k : Nat} (hu : ¬ R = gu ∧ ¬ B = gu ∧ ¬ gv = gu) (hk : k < n) (w : World) (y : Int) (h : BkX lo R B (.slice (some ⟨gu, 0, none⟩) n cu) (.slice (some ⟨gv, 0, none⟩) n cv) n w) :
    (Instr.storeAt 3 (.pointer (some ⟨gu, k, none⟩)) (.int .i64 y)).run Try.prog w = .ok () (w.setCell ⟨gu, k, none⟩ (.int .i64 y)) ∧ BkX lo R B (.slice (some ⟨gu, 0, none⟩) n cu) (.slice (some ⟨gv, 0, none⟩) n cv) n (w.setCell ⟨gu, k, none⟩ (.int .i64 y)) := by
  obtain ⟨h1, h2, xs, ys, h3, h4⟩ := h
  have hl := h3.len
  obtain ⟨c1, c2, _, _⟩ := ownI_cell h3 (i := k) (by omega)
  refine ⟨?_, h1.off (by omega), h2.off (by omega), xs.set k y, ys, ownI_set h3 (by omega), ownI_setOff h4 (by simp [Value.ownBlock]; omega)⟩
  clear h1 h2 h3 h4
  go_simp
theorem bkx_store2 {lo R B n gu gv cu cv k : Nat} (hu : ¬ R = gv ∧ ¬ B = gv ∧ ¬ gv = gu) (hk : k < n) (w : World) (y : Int) (h : BkX lo R B (.slice (some ⟨gu, 0, none⟩) n cu) (.slice (some ⟨gv, 0, none⟩) n cv) n w) :
    (Instr.storeAt 3 (.pointer (some ⟨gv, k, none⟩)) (.int .i64 y)).run Try.prog w = .ok () (w.setCell ⟨gv, k, none⟩ (.int .i64 y)) ∧ BkX lo R B (.slice (some ⟨gu, 0, none⟩) n cu) (.slice (some ⟨gv, 0, none⟩) n cv) n (w.setCell ⟨gv, k, none⟩ (.int .i64 y)) := by
  obtain ⟨h1, h2, xs, ys, h3, h4⟩ := h
  have hl := h4.len
  obtain ⟨c1, c2, _, _⟩ := ownI_cell h4 (i := k) (by omega)
  refine ⟨?_, h1.off (by omega), h2.off (by omega), xs, ys.set k y, ownI_setOff h3 (by simp [Value.ownBlock]; omega), ownI_set h4 (by omega)⟩
  clear h1 h2 h3 h4
  go_simp
theorem bkx_load1 {lo R B n : Nat} {u v : Value} (w : World) (h : BkX lo R B u v n w) : (Instr.loadAt 42 (.pointer (some ⟨B, 0, none⟩))).run Try.prog w = .ok u w := by
  obtain ⟨c0, c1⟩ := vb2 h.2.1
  clear h
  go_simp
theorem bkx_load2 {lo R B n : Nat} {u v : Value} (w : World) (h : BkX lo R B u v n w) : (Instr.loadAt 42 (.pointer (some ⟨B, 1, none⟩))).run Try.prog w = .ok v w := by
  obtain ⟨c0, c1⟩ := vb2 h.2.1
  clear h
  go_simp
theorem idx_row {q n c k : Nat} (hk : k < n) (w : World) : (Instr.indexAt 42 (.slice (some ⟨q, 0, none⟩) n c) (.int .i64 (k : Int))).run Try.prog w = .ok (.pointer (some ⟨q, k, none⟩)) w := by
  have h0 : (0 : Int) ≤ (k : Int) := by omega
  have h1 : (k : Int) < (n : Int) := by omega
  go_simp
theorem res_book {W : World} {b : Nat} {x0 x1 : Value} (tmps : Array Value) (ht : tmps[2]?.getD undef = .pointer (some ⟨b, 0, none⟩)) (h0 : W.cell? ⟨b, 0, none⟩ = some x0) (h1 : W.cell? ⟨b, 1, none⟩ = some x1) :
    (results Try.f66 tmps).run Try.prog W = .ok (.agg #[x0, x1]) W := by
  simp [results, Try.results66, go_sem, ht, h0, h1]
/-- what a draw of a book leaves -/
def BookDrawn (W w : World) (g p : Nat) (u v : Value) (w' : World) : Prop :=
  ∃ n m xs ys, OwnI 3 1 w' w.heap.size u n xs ∧ OwnI 3 1 w' w.heap.size v m ys ∧ n ≤ 4 ∧ m ≤ 5 ∧ (∃ q, q ≤ p + 200 ∧ Rdr W w' g q) ∧ w.grownBy w' (some g)
set_option maxHeartbeats 8000000 in
theorem drawBook_any (W w : World) (g q : Nat) (hr : Rdr W w g q) (hq : q + 200 < 1000000) :
    Calls Try.prog 66 #[.pointer (some ⟨g, 0, none⟩)] w fun e w' => ∃ u v, e = .returned (.agg #[u, v]) ∧ BookDrawn W w g q u v w' := by
  have hgl := (DW.start (K := 1) hr).rd_lt
  have HGL := hid hgl
  have HX0 : Stands g (fun w' => VB w' w.heap.size [.slice none 0 0, .slice none 0 0]) := fun a b hb h => h.grown hb (by simp; omega)
  have D0 : Hid (DV W w g w.heap.size q 1 [] (fun w' => VB w' w.heap.size [.slice none 0 0, .slice none 0 0]) 0 (w.alloc (.cells #[.slice none 0 0, .slice none 0 0] 44))) := hid ⟨(DW.start (K := 1) hr).keep (below_alloc1 w (.cells #[.slice none 0 0, .slice none 0 0] 44)), vb_new w [.slice none 0 0, .slice none 0 0] 44⟩
  clear hr hgl
  go_enter Try.func66, Try.ntmps66
  go_wp2_with fail
  refine (pick_dv 4 D0.out HX0 (by omega) (by omega) (by omega)).mono ?_
  rintro e wp ⟨x, rfl, lx, ux, D1⟩
  obtain ⟨j, rfl⟩ := Int.eq_ofNat_of_zero_le lx
  have hj : j < 4 := by omega
  obtain ⟨N, hN⟩ : ∃ N, 1 + j = N := ⟨_, rfl⟩
  have q1 : IntKind.i64.wrap (1 + (j : Int)) = (N : Int) := by rw [IntKind.wrap_i64]; omega
  have n1 : 1 ≤ N := by omega
  have n4 : N ≤ 4 := by omega
  have HK := hid (show nwK (N : Int) = N by simp [nwK, inB]; omega)
  clear lx ux hj hN D0
  go_wp2_with fail
  refine (specHrdNew_any (N : Int) _).mono ?_
  rintro e w2 ⟨u, v, rfl, o1, o2, ap, b2⟩
  rw [HK.out] at o1 o2
  obtain ⟨a1, cu, rfl, e1⟩ := ownI_form o1
  obtain ⟨a2, cv, rfl, e2⟩ := ownI_form o2
  obtain ⟨gu, rfl⟩ : ∃ gu, a1 = some ⟨gu, 0, none⟩ := by rcases e1 with e1 | e1; omega; exact e1
  obtain ⟨gv, rfl⟩ : ∃ gv, a2 = some ⟨gv, 0, none⟩ := by rcases e2 with e2 | e2; omega; exact e2
  have k1 := o1.blk gu rfl
  have k2 := o2.blk gv rfl
  have k3 : ¬ gv = gu := fun e => by subst e; exact ap gv rfl rfl
  have k4 := D1.out.2.2.2
  have k5 := D1.out.1.2.2.2.1
  have Z2 := hid b2.size
  obtain ⟨B, hB⟩ : ∃ B, w2.heap.size = B := ⟨_, rfl⟩
  have HG0 := hid (show ¬ gu = g ∧ w.heap.size ≤ gu from ⟨by have := HGL.out; omega, by omega⟩)
  have HG1 := hid (show ¬ gv = g ∧ w.heap.size ≤ gv from ⟨by have := HGL.out; omega, by omega⟩)
  have HN0 := hid (show ¬ w.heap.size = gu ∧ ¬ B = gu ∧ ¬ gv = gu from ⟨by omega, by omega, k3⟩)
  have HN1 := hid (show ¬ w.heap.size = gv ∧ ¬ B = gv ∧ ¬ gv = gu from ⟨by omega, by omega, k3⟩)
  have HRB := hid (show w.heap.size < B by omega)
  have D2 : Hid (DV W w g w.heap.size (q + 1) 1 [] (BkX w.heap.size w.heap.size B (.slice (some ⟨gu, 0, none⟩) N cu) (.slice (some ⟨gv, 0, none⟩) N cv) N) 0 (w2.alloc (.cells #[.slice (some ⟨gu, 0, none⟩) N cu, .slice (some ⟨gv, 0, none⟩) N cv] 44))) := hid ⟨(D1.out.1.keep b2).keep (below_alloc1 _ _), (D1.out.2.keep b2).keep (below_alloc1 _ _), by rw [← hB]; exact vb_new w2 [.slice (some ⟨gu, 0, none⟩) N cu, .slice (some ⟨gv, 0, none⟩) N cv] 44, _, _, (o1.low (by omega)).keep (below_alloc1 _ _), (o2.low (by omega)).keep (below_alloc1 _ _)⟩
  have HX : Stands g (BkX w.heap.size w.heap.size B (.slice (some ⟨gu, 0, none⟩) N cu) (.slice (some ⟨gv, 0, none⟩) N cv) N) := bkx_stands HGL.out (by have := HGL.out; omega) (by have := HGL.out; omega)
  clear o1 o2 ap b2 e1 e2 k1 k2 k3 k4 k5 D1 HX0
  go_wp2_with fail
  obtain ⟨W3, hW3⟩ : ∃ W3, w2.alloc (.cells #[.slice (some ⟨gu, 0, none⟩) N cu, .slice (some ⟨gv, 0, none⟩) N cv] 44) = W3 := ⟨_, rfl⟩
  rw [hW3] at D2
  try rw [hW3]
  try rw [hB]
  clear hW3 hB Z2
  go_loopw [4] (fun i wr => ∃ k : Nat, k ≤ N ∧ i = .int .i64 (k : Int) ∧ DV W w g w.heap.size (q + 1 + 20 * k) 1 [] (BkX w.heap.size w.heap.size B (.slice (some ⟨gu, 0, none⟩) N cu) (.slice (some ⟨gv, 0, none⟩) N cv) N) 0 wr) (fun i _ => N - (intOf i).toNat)
  case atStart => exact ⟨0, by omega, rfl, D2.out⟩
  case round =>
    clear D2
    obtain ⟨k, hk, rfl, hD⟩ := hrel
    have DD := hid hD
    clear hD
    obtain ⟨_, hvb, xs, ys, o1, o2⟩ := DD.out.2
    obtain ⟨c0, c1⟩ := vb2 hvb
    clear hvb
    by_cases hlt : k < N
    · have HK := hid hlt
      clear o1 o2
      have hlt' : (k : Int) < (N : Int) := by omega
      go_upto_region 5 with fail
      clear c0 c1
      refine region_facts (Fs g w.heap.size [.is (.pointer (some ⟨B, 0, none⟩)), .is (.slice (some ⟨gu, 0, none⟩) N cu), .is (.int .i64 (k : Int)), .is (.pointer (some ⟨g, 0, none⟩)), .rng 4, .is (.pointer (some ⟨gu, k, none⟩)), .any]) (DV W w g w.heap.size (q + 1 + 20 * k) 1 [] (BkX w.heap.size w.heap.size B (.slice (some ⟨gu, 0, none⟩) N cu) (.slice (some ⟨gv, 0, none⟩) N cv) N)) (by kernel_rfl) (by kernel_rfl) (DD.out.drew HX) ⟨?_, ?_, ?_, ?_, ?_, ?_, ?_, trivial⟩ ?_
      · exact ob_un (rx_field (fun w => by go_simp) rfl rfl rfl)
      · exact ob_un (rx_load 0 (fun w h => bkx_load1 w h) rfl rfl rfl rfl)
      · exact ob_un (dv_lift HX fun _ HLO => rt_move (.int .i64 (k : Int)) rfl rfl rfl)
      · exact ob_un (dv_lift HX fun _ HLO => rt_move (.pointer (some ⟨g, 0, none⟩)) rfl rfl rfl)
      · exact ob_un (dv_lift HX fun _ HLO => rt_pick (m := 4) 3 (by omega) (by simp <;> omega) (by omega) (by omega) rfl rfl rfl rfl)
      · exact ob_un (rx_idx 1 2 (fun w _ => idx_row HK.out w) rfl rfl rfl rfl rfl rfl rfl)
      · exact ob_un (rx_store 5 HG0.out.1 HG0.out.2 HG0.out.2 (fun w y h => bkx_store1 HN0.out HK.out w y h) rfl rfl rfl (oi_rng 4 4 rfl rfl rfl) rfl)
      intro u5 w5 hI hF
      obtain ⟨f0, f1, f2, f3, f4, f5, f6, -⟩ := hF
      have DD := hid (hI.re (K' := 1) (p' := q + 1 + 20 * k + 7) (by simp))
      clear f0 f1 f2 f3 f4 f5 f6 hI
      simp only [outTmps, List.setIfInBounds_toArray, List.set_cons_zero, List.set_cons_succ]
      obtain ⟨_, hvb, xs, ys, o1, o2⟩ := DD.out.2
      obtain ⟨c0, c1⟩ := vb2 hvb
      obtain ⟨d0, _, _, _⟩ := ownI_cell o1 (i := k) (by have := o1.len; omega)
      clear hvb o1 o2
      obtain ⟨z, hz⟩ : ∃ z, xs.getD k 0 = z := ⟨_, rfl⟩
      rw [hz] at d0
      clear hz
      have k0 : (0 : Int) ≤ (k : Int) := by omega
      have qk : IntKind.i64.wrap ((k : Int) + 1) = ((k + 1 : Nat) : Int) := by rw [IntKind.wrap_i64]; omega
      by_cases hp : 0 < z
      · go_upto_region 7 with fail
        clear c0 c1 d0 hp
        refine region_facts (Fs g w.heap.size [.is (.pointer (some ⟨B, 1, none⟩)), .is (.slice (some ⟨gv, 0, none⟩) N cv), .is (.int .i64 (k : Int)), .row 5, .is (.pointer (some ⟨g, 0, none⟩)), .rng 5, .at, .int, .is (.pointer (some ⟨gv, k, none⟩)), .any]) (DV W w g w.heap.size (q + 1 + 20 * k + 7) 1 [] (BkX w.heap.size w.heap.size B (.slice (some ⟨gu, 0, none⟩) N cu) (.slice (some ⟨gv, 0, none⟩) N cv) N)) (by kernel_rfl) (by kernel_rfl) (DD.out.drew HX) ⟨?_, ?_, ?_, ?_, ?_, ?_, ?_, ?_, ?_, ?_, trivial⟩ ?_
        · exact ob_un (rx_field (fun w => by go_simp) rfl rfl rfl)
        · exact ob_un (rx_load 0 (fun w h => bkx_load2 w h) rfl rfl rfl rfl)
        · exact ob_un (dv_lift HX fun _ HLO => rt_move (.int .i64 (k : Int)) rfl rfl rfl)
        · exact ob_un (dv_lift HX fun _ HLO => rt_row (E := 3) (fun f w => by go_simp) rfl ⟨oi_const 0, oi_const 1, oi_const 2, oi_const 30, oi_const 60000, trivial⟩ rfl)
        · exact ob_un (dv_lift HX fun _ HLO => rt_move (.pointer (some ⟨g, 0, none⟩)) rfl rfl rfl)
        · exact ob_un (dv_lift HX fun _ HLO => rt_pick (m := 5) 4 (by omega) (by simp <;> omega) (by omega) (by omega) rfl rfl rfl rfl)
        · exact ob_un (dv_lift HX fun _ HLO => rt_idx 3 5 (by omega) (by omega) rfl rfl rfl rfl rfl rfl rfl)
        · exact ob_un (dv_lift HX fun _ HLO => rt_load 6 rfl rfl rfl rfl)
        · exact ob_un (rx_idx 1 2 (fun w _ => idx_row HK.out w) rfl rfl rfl rfl rfl rfl rfl)
        · exact ob_un (rx_store 8 HG1.out.1 HG1.out.2 HG1.out.2 (fun w y h => bkx_store2 HN1.out HK.out w y h) rfl rfl rfl (oi_in 7 rfl rfl rfl) rfl)
        intro u7 w7 hI hF
        obtain ⟨f0, f1, f2, f3, f4, f5, f6, f7, f8, f9, -⟩ := hF
        have DD := hid (hI.re (K' := 1) (p' := q + 1 + 20 * (k + 1)) (by simp; omega))
        clear f0 f1 f2 f3 f4 f5 f6 f7 f8 f9 hI
        simp only [outTmps, List.setIfInBounds_toArray, List.set_cons_zero, List.set_cons_succ]
        go_wp2_with fail
        go_roundw
        case rel => exact ⟨k + 1, by omega, rfl, DD.out⟩
        case measure => simp [intOf]; omega
      · go_wp2_with fail
        go_roundw
        case rel => exact ⟨k + 1, by omega, rfl, (DD.out.re (p' := q + 1 + 20 * (k + 1)) (by simp; omega))⟩
        case measure => simp [intOf]; omega
    · obtain rfl : N = k := by omega
      clear o1 o2 hlt
      go_wp2_with fail
      clear c0 c1
      refine (pick_dv (N : Int) DD.out HX (by omega) (by omega) (by omega)).mono ?_
      rintro e wa ⟨x, rfl, lx, ux, DD⟩
      obtain ⟨s, rfl⟩ := Int.eq_ofNat_of_zero_le lx
      have hs : s < N := by omega
      have HK := hid hs
      clear lx ux
      go_wp2_with fail
      refine (pick_dv 16 DD.out HX (by omega) (by omega) (by omega)).mono ?_
      rintro e wb ⟨t, rfl, lt, ut, DD⟩
      have FIN : ∀ (w' : World) (u' v' : Value) (n' m' : Nat) (p' : Nat), p' ≤ q + 200 → n' ≤ 4 → m' ≤ 5 → DW W w g w.heap.size p' 1 [] 0 w' → VB w' w.heap.size [.slice none 0 0, .slice none 0 0] → (∃ xs ys, OwnI 3 1 w' w.heap.size u' n' xs ∧ OwnI 3 1 w' w.heap.size v' m' ys ∧ u'.ownBlock ≠ some w.heap.size ∧ v'.ownBlock ≠ some w.heap.size) →
          VB ((w'.setCell ⟨w.heap.size, 0, none⟩ u').setCell ⟨w.heap.size, 1, none⟩ v') w.heap.size [u', v'] ∧ BookDrawn W w g q u' v' ((w'.setCell ⟨w.heap.size, 0, none⟩ u').setCell ⟨w.heap.size, 1, none⟩ v') := by
        intro w' u' v' n' m' p' hp' hn' hm' hD hV hO
        obtain ⟨xs, ys, o1, o2, a1, a2⟩ := hO
        refine ⟨vbset2 u' v' hV, n', m', xs, ys, ownI_setOff (ownI_setOff o1 a1) a1, ownI_setOff (ownI_setOff o2 a2) a2, hn', hm', ?_, gset (gset hD.2.1 (by simp) _) (by simp) _⟩
        obtain ⟨qq, hq1, hrd⟩ := hD.1
        exact ⟨qq, by omega, rdr_setN (rdr_setN hrd (by have := HGL.out; omega) hD.2.2.2.2.2 _) (by have := HGL.out; omega) hD.2.2.2.2.2 _⟩
      by_cases e0 : t = 0
      · subst e0
        go_upto_region 11 with fail
        refine region_facts (Fs g w.heap.size [.is (.pointer (some ⟨B, 0, none⟩)), .is (.slice (some ⟨gu, 0, none⟩) N cu), .is (.int .i64 (s : Int)), .row 4, .is (.pointer (some ⟨g, 0, none⟩)), .rng 4, .at, .int, .is (.pointer (some ⟨gu, s, none⟩)), .any]) (DV W w g w.heap.size (q + 1 + 20 * N + 1 + 1) 1 [] (BkX w.heap.size w.heap.size B (.slice (some ⟨gu, 0, none⟩) N cu) (.slice (some ⟨gv, 0, none⟩) N cv) N)) (by kernel_rfl) (by kernel_rfl) (DD.out.drew HX) ⟨?_, ?_, ?_, ?_, ?_, ?_, ?_, ?_, ?_, ?_, trivial⟩ ?_
        · exact ob_un (rx_field (fun w => by go_simp) rfl rfl rfl)
        · exact ob_un (rx_load 0 (fun w h => bkx_load1 w h) rfl rfl rfl rfl)
        · exact ob_un (dv_lift HX fun _ HLO => rt_move (.int .i64 (s : Int)) rfl rfl rfl)
        · exact ob_un (dv_lift HX fun _ HLO => rt_row (E := 3) (fun f w => by go_simp) rfl ⟨oi_const (-1), oi_const 60000, oi_const 60001, oi_const 0, trivial⟩ rfl)
        · exact ob_un (dv_lift HX fun _ HLO => rt_move (.pointer (some ⟨g, 0, none⟩)) rfl rfl rfl)
        · exact ob_un (dv_lift HX fun _ HLO => rt_pick (m := 4) 4 (by omega) (by simp <;> omega) (by omega) (by omega) rfl rfl rfl rfl)
        · exact ob_un (dv_lift HX fun _ HLO => rt_idx 3 5 (by omega) (by omega) rfl rfl rfl rfl rfl rfl rfl)
        · exact ob_un (dv_lift HX fun _ HLO => rt_load 6 rfl rfl rfl rfl)
        · exact ob_un (rx_idx 1 2 (fun w _ => idx_row HK.out w) rfl rfl rfl rfl rfl rfl rfl)
        · exact ob_un (rx_store 8 HG0.out.1 HG0.out.2 HG0.out.2 (fun w y h => bkx_store1 HN0.out HK.out w y h) rfl rfl rfl (oi_in 7 rfl rfl rfl) rfl)
        intro u11 w11 hI hF
        obtain ⟨f0, f1, f2, f3, f4, f5, f6, f7, f8, f9, -⟩ := hF
        have DD := hid (hI.re (K' := 1) (p' := q + 1 + 20 * N + 1 + 1 + 10) (by simp))
        clear f0 f1 f2 f3 f4 f5 f6 f7 f8 f9 hI
        simp only [outTmps, List.setIfInBounds_toArray, List.set_cons_zero, List.set_cons_succ]
        obtain ⟨hvr, hvb, xs, ys, o1, o2⟩ := DD.out.2
        obtain ⟨c0, c1⟩ := vb2 hvb
        obtain ⟨r0, r1⟩ := vb2 hvr
        have fr := hvr.2.1
        have FF := hid (FIN _ (.slice (some ⟨gu, 0, none⟩) N cu) (.slice (some ⟨gv, 0, none⟩) N cv) N N ((q + 1 + 20 * N + 1 + 1) + 10) (by omega) (by omega) (by omega) DD.out.1 hvr ⟨xs, ys, o1, o2, by simp [Value.ownBlock]; have := HN0.out; omega, by simp [Value.ownBlock]; have := HN1.out; omega⟩)
        clear hvr hvb o1 o2 FIN
        go_wp2_with fail
        obtain ⟨t0, t1⟩ := vb2 FF.out.1
        refine bodyPost_ret (res_book _ rfl t0 t1) rfl ?_
        exact ⟨_, _, rfl, FF.out.2⟩
      have d0 : (t == 0) = false := by simpa using e0
      by_cases e1 : t = 1
      · subst e1
        go_upto_region 13 with fail
        refine region_facts (Fs g w.heap.size [.is (.pointer (some ⟨B, 1, none⟩)), .is (.slice (some ⟨gv, 0, none⟩) N cv), .is (.int .i64 (s : Int)), .row 3, .is (.pointer (some ⟨g, 0, none⟩)), .rng 3, .at, .int, .is (.pointer (some ⟨gv, s, none⟩)), .any]) (DV W w g w.heap.size (q + 1 + 20 * N + 1 + 1) 1 [] (BkX w.heap.size w.heap.size B (.slice (some ⟨gu, 0, none⟩) N cu) (.slice (some ⟨gv, 0, none⟩) N cv) N)) (by kernel_rfl) (by kernel_rfl) (DD.out.drew HX) ⟨?_, ?_, ?_, ?_, ?_, ?_, ?_, ?_, ?_, ?_, trivial⟩ ?_
        · exact ob_un (rx_field (fun w => by go_simp) rfl rfl rfl)
        · exact ob_un (rx_load 0 (fun w h => bkx_load2 w h) rfl rfl rfl rfl)
        · exact ob_un (dv_lift HX fun _ HLO => rt_move (.int .i64 (s : Int)) rfl rfl rfl)
        · exact ob_un (dv_lift HX fun _ HLO => rt_row (E := 3) (fun f w => by go_simp) rfl ⟨oi_const (-1), oi_const 60001, oi_const 5, trivial⟩ rfl)
        · exact ob_un (dv_lift HX fun _ HLO => rt_move (.pointer (some ⟨g, 0, none⟩)) rfl rfl rfl)
        · exact ob_un (dv_lift HX fun _ HLO => rt_pick (m := 3) 4 (by omega) (by simp <;> omega) (by omega) (by omega) rfl rfl rfl rfl)
        · exact ob_un (dv_lift HX fun _ HLO => rt_idx 3 5 (by omega) (by omega) rfl rfl rfl rfl rfl rfl rfl)
        · exact ob_un (dv_lift HX fun _ HLO => rt_load 6 rfl rfl rfl rfl)
        · exact ob_un (rx_idx 1 2 (fun w _ => idx_row HK.out w) rfl rfl rfl rfl rfl rfl rfl)
        · exact ob_un (rx_store 8 HG1.out.1 HG1.out.2 HG1.out.2 (fun w y h => bkx_store2 HN1.out HK.out w y h) rfl rfl rfl (oi_in 7 rfl rfl rfl) rfl)
        intro u13 w13 hI hF
        obtain ⟨f0, f1, f2, f3, f4, f5, f6, f7, f8, f9, -⟩ := hF
        have DD := hid (hI.re (K' := 1) (p' := q + 1 + 20 * N + 1 + 1 + 10) (by simp))
        clear f0 f1 f2 f3 f4 f5 f6 f7 f8 f9 hI
        simp only [outTmps, List.setIfInBounds_toArray, List.set_cons_zero, List.set_cons_succ]
        obtain ⟨hvr, hvb, xs, ys, o1, o2⟩ := DD.out.2
        obtain ⟨c0, c1⟩ := vb2 hvb
        obtain ⟨r0, r1⟩ := vb2 hvr
        have fr := hvr.2.1
        have FF := hid (FIN _ (.slice (some ⟨gu, 0, none⟩) N cu) (.slice (some ⟨gv, 0, none⟩) N cv) N N ((q + 1 + 20 * N + 1 + 1) + 10) (by omega) (by omega) (by omega) DD.out.1 hvr ⟨xs, ys, o1, o2, by simp [Value.ownBlock]; have := HN0.out; omega, by simp [Value.ownBlock]; have := HN1.out; omega⟩)
        clear hvr hvb o1 o2 FIN
        go_wp2_with fail
        obtain ⟨t0, t1⟩ := vb2 FF.out.1
        refine bodyPost_ret (res_book _ rfl t0 t1) rfl ?_
        exact ⟨_, _, rfl, FF.out.2⟩
      have d1 : (t == 1) = false := by simpa using e1
      by_cases e2 : t = 2
      · subst e2
        obtain ⟨hvr, hvb, xs, ys, o1, o2⟩ := DD.out.2
        have HD := hid DD.out.1
        have HVR := hid hvr
        have HVB := hid hvb
        have HO1 := hid o1
        have HO2 := hid o2
        obtain ⟨ti, hti, htz, hts, htb⟩ := infoI'
        obtain ⟨c0, c1⟩ := vb2 hvb
        have fb := hvb.2.1
        have hB' := hvb.2.2
        have hs1 := DD.out.1.2.2.2.1
        clear hvr hvb o1 o2 DD
        go_wp2_with (at_builtin; go_must (refine wpList_append_lies _ (by rfl) _ _ 42 (by rfl) w.heap.size 3 ti (.int .i64 0) 1 8 Try.underlying42 hti htz hts htb rfl (by omega) _ N (ys.map (Value.int .i64)) (by rfl) (HO2.out.alloc _) ⟨wb.heap.size, 0, none⟩ 1 1 [.int .i64 0] (by rfl) rfl (cell_one_new _ _ _) (by intro y hy; simp at hy; subst hy; rfl) (by omega) (by unfold maxLen; omega) (by omega) (by simp; omega) (wb.heap.size + 1) (by simp) ?_))
        intro gg cap2 w3 ho2 hg2 hat hlt2
        have O3 := hid (ownI_more ho2)
        have B0 := hid (below_alloc1 wb (.cells #[.int .i64 0] 3))
        have D3 := hid ((HD.out.keep B0.out).row hg2 HG1.out.1 HG1.out.2 HG1.out.2)
        have R3 := hid ((HVR.out.keep B0.out).grown hg2 (by have := HN1.out; simp [Value.ownBlock]; omega))
        have V3 := hid ((HVB.out.keep B0.out).grown hg2 (by have := HN1.out; simp [Value.ownBlock]; omega))
        have P3 := hid ((HO1.out.keep B0.out).grown hg2 (by have := HN1.out; simp [Value.ownBlock]; omega))
        clear ho2 hg2 hat hlt2 c0 c1 fb hB' hs1 HVB HVR HO1 HO2 HD B0
        obtain ⟨c0, c1⟩ := vb2 V3.out
        have fb := V3.out.2.1
        have i0 := (ownI_cell O3.out (i := 0) (by simp)).1
        have gB : ¬ gg = B := fun e => by subst e; rw [c0] at i0; simp at i0
        obtain ⟨r0, r1⟩ := vb2 R3.out
        have gR : ¬ gg = w.heap.size := fun e => by subst e; rw [r0] at i0; simp at i0
        have fr := R3.out.2.1
        clear i0
        have FF := hid (FIN _ (.slice (some ⟨gu, 0, none⟩) N cu) (.slice (some ⟨gg, 0, none⟩) (N + 1) cap2) N (N + 1) (q + 1 + 20 * N + 1 + 1) (by omega) (by omega) (by omega) (D3.out.setV (b := B) (i := 1) (.slice (some ⟨gg, 0, none⟩) (N + 1) cap2) (by have := HGL.out; have := HRB.out; omega) (by have := HRB.out; omega) (by have := HRB.out; omega)) (R3.out.off (by have := HRB.out; omega)) ⟨xs, ys ++ [0], ownI_setOff P3.out (by have := HN0.out; simp [Value.ownBlock]; omega), ownI_setOff O3.out (by simp [Value.ownBlock]; exact gB), by have := HN0.out; simp [Value.ownBlock]; omega, by simp [Value.ownBlock]; exact gR⟩)
        clear FIN
        have nRB : ¬ B = w.heap.size := by have := HRB.out; omega
        have nBR : ¬ w.heap.size = B := by have := HRB.out; omega
        go_wp2_with fail
        obtain ⟨t0, t1⟩ := vb2 FF.out.1
        refine bodyPost_ret (res_book _ rfl t0 t1) rfl ?_
        exact ⟨_, _, rfl, FF.out.2⟩
      have d2 : (t == 2) = false := by simpa using e2
      by_cases e3 : t = 3
      · subst e3
        obtain ⟨hvr, hvb, xs, ys, o1, o2⟩ := DD.out.2
        have hs := hvb.2.2
        obtain ⟨W4, hW4⟩ : ∃ W4, wb.alloc (.cells #[] 3) = W4 := ⟨_, rfl⟩
        have B4 : Below wb.heap.size wb W4 := by rw [← hW4]; exact below_alloc1 wb (.cells #[] 3)
        have N4 := hid (show OwnI 3 1 W4 wb.heap.size (.slice (some ⟨wb.heap.size, 0, none⟩) 0 0) 0 [] by rw [← hW4]; exact ownI_none wb)
        have hz := DD.out.1.2.2.2.1
        have VB0 := hid hvb
        have VR0 := hid hvr
        have V4 := hid (hvb.keep B4)
        have R4 := hid (hvr.keep B4)
        have O4 := hid (o2.keep B4)
        have D4 := hid (DD.out.1.keep B4)
        clear hvr hvb o1 o2 B4 DD
        have FF := hid (FIN _ (.slice (some ⟨wb.heap.size, 0, none⟩) 0 0) (.slice (some ⟨gv, 0, none⟩) N cv) 0 N (q + 1 + 20 * N + 1 + 1) (by omega) (by omega) (by omega) (D4.out.setV (b := B) (i := 0) (.slice (some ⟨wb.heap.size, 0, none⟩) 0 0) (by have := HGL.out; have := HRB.out; omega) (by have := HRB.out; omega) (by have := HRB.out; omega)) (R4.out.off (by have := HRB.out; omega)) ⟨[], ys, (ownI_setOff N4.out (by simp [Value.ownBlock]; omega)).low (by omega), ownI_setOff O4.out (by have := HN1.out; simp [Value.ownBlock]; omega), by have := HRB.out; simp [Value.ownBlock]; omega, by have := HN1.out; simp [Value.ownBlock]; omega⟩)
        clear FIN
        obtain ⟨c0, c1⟩ := vb2 VB0.out
        have fb := VB0.out.2.1
        have hBw := VB0.out.2.2
        obtain ⟨r0, r1⟩ := vb2 VR0.out
        have fr := VR0.out.2.1
        have hRw := VR0.out.2.2
        have nRB : ¬ B = w.heap.size := by have := HRB.out; omega
        have nBR : ¬ w.heap.size = B := by have := HRB.out; omega
        have HW4 := hid hW4
        clear hW4 N4 V4 R4 O4 D4
        go_wp2_with fail
        have F2 := FF.out
        rw [← HW4.out, World.setCell_alloc_past _ _ _ _ hBw, World.setCell_alloc_past _ _ _ _ (by simpa [World.setCell] using hRw), World.setCell_alloc_past _ _ _ _ (by simpa [World.setCell] using hRw)] at F2
        obtain ⟨t0, t1⟩ := vb2 F2.1
        refine bodyPost_ret (res_book _ rfl t0 t1) rfl ?_
        exact ⟨_, _, rfl, F2.2⟩
      have d3 : (t == 3) = false := by simpa using e3
      obtain ⟨hvr, hvb, xs, ys, o1, o2⟩ := DD.out.2
      obtain ⟨c0, c1⟩ := vb2 hvb
      obtain ⟨r0, r1⟩ := vb2 hvr
      have fr := hvr.2.1
      have FF := hid (FIN _ (.slice (some ⟨gu, 0, none⟩) N cu) (.slice (some ⟨gv, 0, none⟩) N cv) N N (q + 1 + 20 * N + 1 + 1) (by omega) (by omega) (by omega) DD.out.1 hvr ⟨xs, ys, o1, o2, by simp [Value.ownBlock]; have := HN0.out; omega, by simp [Value.ownBlock]; have := HN1.out; omega⟩)
      clear hvr hvb o1 o2 FIN
      go_wp2_with fail
      obtain ⟨t0, t1⟩ := vb2 FF.out.1
      refine bodyPost_ret (res_book _ rfl t0 t1) rfl ?_
      exact ⟨_, _, rfl, FF.out.2⟩
end Go.Proofs.Ytioikijheilliaa
