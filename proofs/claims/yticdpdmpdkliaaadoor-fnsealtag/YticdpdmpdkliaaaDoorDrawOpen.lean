/- What draws sealed bytes, one in two turned in something: within bounds, in memory of its own. -/
import Derived.Test.YticdpdmpdkliaaaDoorSealBack1
import Derived.Test.YticdpdmpdkliaaaDoorSealShut
namespace Go.Proofs.YticdpdmpdkliaaaDoor
open Go.ChangeShapes Go.WideShapes Go.ChangeAt Go.RowKit Go.Joins Go.Deep
set_option linter.unusedVariables false
set_option linter.unusedSimpArgs false
set_option maxRecDepth 4000

theorem Own.kept {w w' : World} {B : Nat} {v : Value} {xs : List Int} {row : Option Nat} (h : Own w B v xs) (hg : w.grownBy w' row) (hne : v.ownBlock = none ∨ v.ownBlock ≠ row) : Own w' B v xs := ⟨h.1, h.2.kept hg hne⟩
theorem ob_ne {v u : Value} {n : Nat} (h : ∀ k, v.ownBlock = some k → k < n) (h' : ∀ k, u.ownBlock = some k → n ≤ k) : v.ownBlock = none ∨ v.ownBlock ≠ u.ownBlock := by
  cases hv : v.ownBlock with
  | none => exact .inl rfl
  | some k =>
    refine .inr fun e => ?_
    have := h k hv; have := h' k e.symm; omega
theorem own_setOff {w : World} {B g i : Nat} {x : Value} {v : Value} {xs : List Int} (h : Own w B v xs) (hg : ∀ k, v.ownBlock = some k → k < g) : Own (w.setCell ⟨g, i, none⟩ x) B v xs :=
  h.kept (row := some g) ⟨rfl, rfl, rfl, by simp, fun j hj hne => Below.heap_setCell _ _ _ _ (by simp at hne; exact hne)⟩ (by
    cases hv : v.ownBlock with
    | none => exact .inl rfl
    | some k => right; intro e; have := hg k hv; simp at e; omega)
theorem own_storeO {w : World} {B g n cap i : Nat} {xs : List Int} {y : Int} (h : Own w B (.slice (some ⟨g, 0, none⟩) n cap) xs) (hi : i < xs.length) (y0 : 0 ≤ y) (y1 : y ≤ 255) {W : World} (hW : Below W.heap.size W w) (hB : W.heap.size ≤ B) :
    Own (w.setCell ⟨g, i, none⟩ (.int .u8 y)) W.heap.size (.slice (some ⟨g, 0, none⟩) n cap) (xs.set i y) ∧ Below W.heap.size W (w.setCell ⟨g, i, none⟩ (.int .u8 y)) :=
  ⟨(own_set h hi y0 y1).low hB, hW.setCell (by have := (own_cell h hi).2.2.1; simp; omega) _⟩

set_option maxHeartbeats 8000000 in
theorem drawOpen_any (a : Option Addr) (len cap : Nat) (zs : List Int) (w : World) (hn : zs.length = len) (hv : Rd w (.slice a len cap) zs) (hcap : len ≤ cap) :
    Calls Tryd.prog 20 #[.slice a len cap] w fun e w' => ∃ (key seq : Int) (v u : Value) (hs xs : List Int), e = .returned (.tuple #[.int .i64 key, .int .i64 seq, v, u]) ∧ (-1 ≤ key ∧ key ≤ 4294967297) ∧ (-1 ≤ seq ∧ seq ≤ 65537) ∧ hs.length ≤ 66 ∧ xs.length ≤ 69 ∧ Own w' w.heap.size v hs ∧ Own w' w.heap.size u xs ∧ Below w.heap.size w w' := by
  obtain ⟨ti, hti, htz, hts, htb⟩ := info8'
  have HV := hid hv
  clear hv
  go_enter Tryd.func20, Tryd.ntmps20
  go_wp2_with fail
  refine (open_any a len cap zs _ hn HV.out hcap).mono ?_
  rintro e w0 ⟨rfl, rd, bl, hz⟩
  have RD0 := hid rd
  have B0 := hid bl
  have z0 : w.heap.size < w0.heap.size := by omega
  clear rd bl HV hz
  go_wp2_with fail
  refine (drawKey_any _ _ _ 0 RD0.out (by omega)).mono ?_
  rintro e w1 ⟨key, rfl, hk, rd, gr⟩
  have RD1 := hid rd
  have B1 := hid (B0.out.trans (below_grown (n := w.heap.size) gr (by omega) (by omega)))
  have z1 : w.heap.size < w1.heap.size := Nat.lt_of_lt_of_le z0 gr.size
  clear rd gr RD0 B0
  go_wp2_with fail
  refine (drawSeq_any _ _ _ _ RD1.out (by omega)).mono ?_
  rintro e w2 ⟨seq, rfl, hq, rd, gr⟩
  have RD2 := hid rd
  have B2 := hid (B1.out.trans (below_grown (n := w.heap.size) gr (by omega) (by omega)))
  have z2 : w.heap.size < w2.heap.size := Nat.lt_of_lt_of_le z1 gr.size
  clear rd gr RD1 B1
  go_wp2_with fail
  refine (drawRaw_any _ _ _ _ RD2.out (by omega)).mono ?_
  rintro e w3 ⟨v, hs, rfl, hhs, o3, ⟨q3, hq3, rd⟩, gr⟩
  have RD3 := hid rd
  have B3 := hid (B2.out.trans (below_grown (n := w.heap.size) gr (by omega) (by omega)))
  have O3 := hid o3
  have z3 : w.heap.size < w3.heap.size := Nat.lt_of_lt_of_le z2 gr.size
  have y3 := gr.size
  clear rd gr RD2 B2 o3
  go_wp2_with fail
  refine (drawRaw_any _ _ _ _ RD3.out (by omega)).mono ?_
  rintro e w4 ⟨u, ys, rfl, hys, o4, ⟨q4, hq4, rd⟩, gr⟩
  have RD4 := hid rd
  have B4 := hid (B3.out.trans (below_grown (n := w.heap.size) gr (by omega) (by omega)))
  have O3 := hid (O3.out.grown gr (fun k hk => by simp at hk; omega))
  have O4 := hid o4
  have z4 : w.heap.size < w4.heap.size := Nat.lt_of_lt_of_le z3 gr.size
  have y4 := Nat.le_trans y3 gr.size
  clear rd gr RD3 B3 o4
  go_wp2_with fail
  refine (specShut_any key seq _ _ hs ys _ (O3.out.rd (by omega)) (O4.out.rd (by omega))).mono ?_
  rintro e w5 ⟨s5, rfl, o5, b5⟩
  have HL := shutL_len key seq hs ys
  obtain ⟨F, hF⟩ : ∃ F, shutL key seq hs ys = F := ⟨_, rfl⟩
  rw [hF] at o5 HL
  obtain ⟨a5, c5, rfl, hc5⟩ := own_cap o5
  have O5 := hid o5
  have hd3 : ∀ k, v.ownBlock = some k → k < w4.heap.size := fun k hk => (own_ints O3.out |>.lt k hk).2
  obtain ⟨n4, hn4⟩ : ∃ n4, w4.heap.size = n4 := ⟨_, rfl⟩
  have O3 := hid (O3.out.keep b5)
  have RD5 := hid (RD4.out.keep b5)
  have B5 := hid (B4.out.trans (b5.mono B4.out.size))
  have z5 : w.heap.size < w5.heap.size := by have := b5.size; omega
  obtain ⟨F0, hF0⟩ : ∃ n, F.length = n := ⟨_, rfl⟩
  rw [hF0] at HL hc5 ⊢
  rw [hn4] at O5 hd3 z4 y4
  obtain ⟨n2, hn2⟩ : ∃ n2, w2.heap.size = n2 := ⟨_, rfl⟩
  rw [hn2] at O3 z2 y4
  have z45 : n4 ≤ w5.heap.size := by have := b5.size; omega
  clear b5 o5 RD4 B4 O4 hF hys hn4 hn2
  obtain ⟨av, cv, rfl, hcv⟩ := own_cap O3.out
  obtain ⟨NH, hNH⟩ : ∃ n, hs.length = n := ⟨_, rfl⟩
  rw [hNH] at hcv hd3 ⊢
  have O3 : Hid (Own w5 n2 (.slice av NH cv) hs) := hid (by have h := O3.out; rw [hNH] at h; exact h)
  have O5 : Hid (Own w5 n4 (.slice a5 F0 c5) F) := hid (by have h := O5.out; rw [hF0] at h; exact h)
  have hh : NH ≤ 65 := by omega
  have LH := hid hNH
  have LF := hid hF0
  clear hNH hF0 hhs
  go_wp2_with fail
  refine (pick_any 10 _ _ _ _ RD5.out (by omega) (by omega) (by omega)).mono ?_
  rintro e w6 ⟨x6, rfl, l6, u6, rd, hc6, hf6, hz6, gr⟩
  have RD6 := hid rd
  have B6 := hid (B5.out.trans (below_grown (n := w.heap.size) gr (by omega) (by omega)))
  have z6 : w.heap.size < w6.heap.size := Nat.lt_of_lt_of_le z5 gr.size
  have z46 : n4 ≤ w6.heap.size := Nat.le_trans z45 gr.size
  have O3 := hid (O3.out.grown gr (fun k hk => by simp at hk; omega))
  have O5 := hid (O5.out.grown gr (fun k hk => by simp at hk; omega))
  clear rd gr RD5 B5 hc6 hf6 hz6
  have LO3 : Hid (Own w6 w.heap.size (.slice av NH cv) hs) := hid (O3.out.low (by omega))
  have LO5 : Hid (Own w6 w.heap.size (.slice a5 F0 c5) F) := hid (O5.out.low (by omega))
  by_cases e0 : x6 = 0
  · subst e0
    clear RD6
    go_wp2
    refine bodyPost_ret (v := .tuple #[.int .i64 (key + 1), .int .i64 seq, .slice av NH cv, .slice a5 F0 c5]) (by simp [results, Tryd.results20, go_sem]) rfl ?_
    exact ⟨key + 1, seq, _, _, hs, F, rfl, by omega, by omega, by rw [LH.out]; omega, by rw [LF.out]; omega, LO3.out, LO5.out, B6.out⟩
  by_cases e1 : x6 = 1
  · subst e1
    clear RD6
    go_wp2
    refine bodyPost_ret (v := .tuple #[.int .i64 key, .int .i64 (seq + 1), .slice av NH cv, .slice a5 F0 c5]) (by simp [results, Tryd.results20, go_sem]) rfl ?_
    exact ⟨key, seq + 1, _, _, hs, F, rfl, by omega, by omega, by rw [LH.out]; omega, by rw [LF.out]; omega, LO3.out, LO5.out, B6.out⟩
  by_cases e2 : x6 = 2
  · subst e2
    have HR : Hid (w6.ownsRow n2 5 1 (.slice av NH cv) NH (hs.map (Value.int .u8))) := hid (by have h := own_ints O3.out; rw [LH.out] at h; exact h)
    go_wp2_with (at_builtin; go_must (refine wpList_append_lies _ (by rfl) _ _ 22 (by rfl) n2 5 ti (.int .u8 0) 1 1 Tryd.underlying22 hti htz hts htb rfl (by omega) _ NH (hs.map (Value.int .u8)) (by rfl) (HR.out.alloc _) ⟨w6.heap.size, 0, none⟩ 1 1 [.int .u8 0] (by rfl) rfl (cell_one_new _ _ _) (by intro y hy; simp at hy; subst hy; rfl) (by omega) (by unfold maxLen; omega) (by omega) (by simp; omega) (w6.heap.size + 1) (by simp) ?_))
    intro gg cap2 w8 ho2 hg2 hat hlt2
    have hown : ∀ k, (Value.slice av NH cv).ownBlock = some k → n2 ≤ k := fun k hk => (HR.out.lt k hk).1
    have O8 := hid ((own_more O3.out LH.out (Z := 0) (by omega) (by omega) ho2).low (B' := w.heap.size) (by omega))
    have F8 := hid (((O5.out.keep (below_alloc1 w6 (.cells #[.int .u8 0] 5))).grown hg2 (fun k hk => hd3 k hk)).low (B' := w.heap.size) (by omega))
    have B8 := hid ((B6.out.alloc (by omega) (.cells #[.int .u8 0] 5)).grown hg2 (by simp; omega) (fun k hk => by have := hown k hk; omega))
    clear ho2 hg2 hat hlt2 RD6
    go_wp2
    refine bodyPost_ret (v := .tuple #[.int .i64 key, .int .i64 seq, .slice (some ⟨gg, 0, none⟩) (NH + 1) cap2, .slice a5 F0 c5]) (by simp [results, Tryd.results20, go_sem]) rfl ?_
    exact ⟨key, seq, _, _, hs ++ [0], F, rfl, by omega, by omega, by simp [LH.out]; omega, by rw [LF.out]; omega, O8.out, F8.out, B8.out⟩
  by_cases e3 : x6 = 3
  · subst e3
    by_cases hF : F0 = 0
    · subst hF
      clear RD6
      go_wp2
      refine bodyPost_ret (v := .tuple #[.int .i64 key, .int .i64 seq, .slice av NH cv, .slice a5 0 c5]) (by simp [results, Tryd.results20, go_sem]) rfl ?_
      exact ⟨key, seq, _, _, hs, F, rfl, by omega, by omega, by rw [LH.out]; omega, by rw [LF.out]; omega, LO3.out, LO5.out, B6.out⟩
    obtain ⟨g5, rfl⟩ : ∃ g5, a5 = some ⟨g5, 0, none⟩ := by
      obtain ⟨a6, c6, h5, h6⟩ := own_form O5.out
      simp at h5
      rcases h6 with h6 | ⟨g, h6⟩
      · have := LF.out; rw [h6] at this; simp at this; omega
      · exact ⟨g, h5.1.trans h6⟩
    go_wp2_with fail
    refine (pick_any F0 _ _ _ _ RD6.out (by omega) (by omega) (by omega)).mono ?_
    rintro e w7 ⟨x7, rfl, l7, u7, rd, hc7, hf7, hz7, gr⟩
    obtain ⟨i7, rfl⟩ := Int.eq_ofNat_of_zero_le l7
    have B7 := hid (B6.out.trans (below_grown (n := w.heap.size) gr (by omega) (by omega)))
    have O3 := hid (O3.out.grown gr (fun k hk => by simp at hk; omega))
    have O5 := hid (O5.out.grown gr (fun k hk => by simp at hk; omega))
    have hcc := own_cell O5.out (i := i7) (by rw [LF.out]; omega)
    have hb := O5.out.1 (F.getD i7 0) (by have := LF.out; simp [List.getD_eq_getElem?_getD, List.getElem?_eq_getElem (show i7 < F.length by omega)])
    obtain ⟨Z, hZ⟩ : ∃ Z, F.getD i7 0 = Z := ⟨_, rfl⟩
    rw [hZ] at hcc hb
    have hy0 : 0 ≤ (Z + 1) % 256 := by omega
    have hy1 : (Z + 1) % 256 ≤ 255 := by omega
    have HS := hid (own_storeO O5.out (i := i7) (by rw [LF.out]; omega) hy0 hy1 B7.out (by omega))
    have HO := hid (own_setOff (g := g5) (i := i7) (x := .int .u8 ((Z + 1) % 256)) (O3.out.low (B' := w.heap.size) (by omega)) (fun k hk => by have := hd3 k hk; have := hcc.2.2.1; omega))
    have hc0 := hcc.1
    have hf0 := hcc.2.1
    clear rd gr RD6 O5 B6 hc7 hf7 hz7 hZ hcc hy0 hy1
    go_wp2
    refine bodyPost_ret (v := .tuple #[.int .i64 key, .int .i64 seq, .slice av NH cv, .slice (some ⟨g5, 0, none⟩) F0 c5]) (by simp [results, Tryd.results20, go_sem]) rfl ?_
    exact ⟨key, seq, _, _, hs, F.set i7 ((Z + 1) % 256), rfl, by omega, by omega, by rw [LH.out]; omega, by rw [List.length_set, LF.out]; omega, HO.out, HS.out.1, HS.out.2⟩
  by_cases e4 : x6 = 4
  · subst e4
    go_wp2_with fail
    refine (pick_any 256 _ _ _ _ RD6.out (by omega) (by omega) (by omega)).mono ?_
    rintro e w7 ⟨x7, rfl, l7, u7, rd, hc7, hf7, hz7, gr⟩
    have u7 : x7 ≤ 255 := by omega
    have B7 := hid (B6.out.trans (below_grown (n := w.heap.size) gr (by omega) (by omega)))
    have z7 : w.heap.size < w7.heap.size := Nat.lt_of_lt_of_le z6 gr.size
    have z74 : n4 ≤ w7.heap.size := by have := gr.size; omega
    have O3 := hid (O3.out.grown gr (fun k hk => by simp at hk; omega))
    have O5 := hid (O5.out.grown gr (fun k hk => by simp at hk; omega))
    clear rd gr RD6 B6 hc7 hf7 hz7
    have HR : Hid (w7.ownsRow n4 5 1 (.slice a5 F0 c5) F0 (F.map (Value.int .u8))) := hid (by have h := own_ints O5.out; rw [LF.out] at h; exact h)
    go_wp2_with (at_builtin; go_must (refine wpList_append_lies _ (by rfl) _ _ 22 (by rfl) n4 5 ti (.int .u8 0) 1 1 Tryd.underlying22 hti htz hts htb rfl (by omega) _ F0 (F.map (Value.int .u8)) (by rfl) (HR.out.alloc _) ⟨w7.heap.size, 0, none⟩ 1 1 [.int .u8 x7] (by rfl) rfl (cell_one_new _ _ _) (by intro y hy; simp at hy; subst hy; rfl) (by omega) (by unfold maxLen; omega) (by omega) (by simp; omega) (w7.heap.size + 1) (by simp) ?_))
    intro gg cap2 w8 ho2 hg2 hat hlt2
    have hown : ∀ k, (Value.slice a5 F0 c5).ownBlock = some k → n4 ≤ k := fun k hk => (HR.out.lt k hk).1
    have O8 := hid ((own_more O5.out LF.out (Z := x7) (by omega) (by omega) ho2).low (B' := w.heap.size) (by omega))
    have F8 := hid (((O3.out.low (B' := w.heap.size) (by omega)).keep (below_alloc1 w7 (.cells #[.int .u8 x7] 5))).kept hg2 (ob_ne hd3 hown))
    have B8 := hid ((B7.out.alloc (by omega) (.cells #[.int .u8 x7] 5)).grown hg2 (by simp; omega) (fun k hk => by have := hown k hk; omega))
    clear ho2 hg2 hat hlt2
    go_wp2
    refine bodyPost_ret (v := .tuple #[.int .i64 key, .int .i64 seq, .slice av NH cv, .slice (some ⟨gg, 0, none⟩) (F0 + 1) cap2]) (by simp [results, Tryd.results20, go_sem]) rfl ?_
    exact ⟨key, seq, _, _, hs, F ++ [x7], rfl, by omega, by omega, by rw [LH.out]; omega, by simp [LF.out]; omega, F8.out, O8.out, B8.out⟩
  by_cases e5 : x6 = 5
  · subst e5
    go_wp2_with fail
    refine (pick_any 20 _ _ _ _ RD6.out (by omega) (by omega) (by omega)).mono ?_
    rintro e w7 ⟨x7, rfl, l7, u7, rd, hc7, hf7, hz7, gr⟩
    obtain ⟨i7, rfl⟩ := Int.eq_ofNat_of_zero_le l7
    have RD7 := hid rd
    have B7 := hid (B6.out.trans (below_grown (n := w.heap.size) gr (by omega) (by omega)))
    have z7 : w.heap.size < w7.heap.size := Nat.lt_of_lt_of_le z6 gr.size
    have O3 := hid (O3.out.grown gr (fun k hk => by simp at hk; omega))
    clear rd gr RD6 B6 hc7 hf7 hz7
    go_wp2_with fail
    refine (drawBytes_any i7 _ _ _ _ RD7.out (by omega) (by omega)).mono ?_
    rintro e w8 ⟨u8, xs, rfl, hxs, o8, _, gr⟩
    have B8 := hid (B7.out.trans (below_grown (n := w.heap.size) gr (by omega) (by omega)))
    have O8 := hid (o8.low (B' := w.heap.size) (by omega))
    have O3 := hid ((O3.out.grown gr (fun k hk => by simp at hk; omega)).low (B' := w.heap.size) (by omega))
    clear gr o8
    go_wp2
    refine bodyPost_ret (v := .tuple #[.int .i64 key, .int .i64 seq, .slice av NH cv, u8]) (by simp [results, Tryd.results20, go_sem]) rfl ?_
    exact ⟨key, seq, _, _, hs, xs, rfl, by omega, by omega, by rw [LH.out]; omega, by omega, O3.out, O8.out, B8.out⟩
  clear RD6
  go_wp2
  refine bodyPost_ret (v := .tuple #[.int .i64 key, .int .i64 seq, .slice av NH cv, .slice a5 F0 c5]) (by simp [results, Tryd.results20, go_sem]) rfl ?_
  exact ⟨key, seq, _, _, hs, F, rfl, by omega, by omega, by rw [LH.out]; omega, by rw [LF.out]; omega, LO3.out, LO5.out, B6.out⟩
end Go.Proofs.YticdpdmpdkliaaaDoor
