/- The draws of a head with bytes, and of a frame: ints and bytes, in memory of their own. -/
import Derived.Test.YtpfelnkdimbhkaaDoorFrmHd
import Derived.Test.YtpfelnkdimbhkaaDoorFrmMath
namespace Go.Proofs.YtpfelnkdimbhkaaDoor
open Go.ChangeShapes Go.WideShapes Go.ChangeAt Go.RowKit Go.Joins Go.Deep
set_option linter.unusedVariables false
set_option linter.unusedSimpArgs false
set_option maxRecDepth 4000
theorem below_gF {a b : World} {n g : Nat} (h : a.grownBy b (some g)) (hg : n ≤ g) (hn : n ≤ a.heap.size) : Below n a b :=
  (Below.refl n a).grown h hn (fun k hk => by simp at hk; omega)
theorem own_capF {w : World} {B : Nat} {v : Value} {zs : List Int} (h : Own w B v zs) : ∃ a cap, v = .slice a zs.length cap ∧ zs.length ≤ cap := by
  obtain ⟨h1, h2, h3⟩ := h
  rcases h3 with ⟨hv, h0⟩ | ⟨g, cap, cur, hv, hg, hh, hnc, hm, hsz, hcur⟩
  · exact ⟨none, 0, by rw [hv, h0], by omega⟩
  · exact ⟨_, cap, hv, by omega⟩
theorem own_storeF {w : World} {B g n cap i : Nat} {xs : List Int} {y : Int} (h : Own w B (.slice (some ⟨g, 0, none⟩) n cap) xs) (hi : i < xs.length) (y0 : 0 ≤ y) (y1 : y ≤ 255) {W : World} (hW : Below W.heap.size W w) (hB : W.heap.size ≤ B) :
    Own (w.setCell ⟨g, i, none⟩ (.int .u8 y)) W.heap.size (.slice (some ⟨g, 0, none⟩) n cap) (xs.set i y) ∧ Below W.heap.size W (w.setCell ⟨g, i, none⟩ (.int .u8 y)) :=
  ⟨(own_set h hi y0 y1).low hB, hW.setCell (by have := (own_cell h hi).2.2.1; simp; omega) _⟩
theorem eightB {n : Nat} {a w : World} {b : Nat} (y0 y1 y2 y3 y4 y5 y6 y7 : Value) (h : Below n a w) (hb : n ≤ b) : Below n a ((((((((w.setCell ⟨b, 0, none⟩ y0).setCell ⟨b, 1, none⟩ y1).setCell ⟨b, 2, none⟩ y2).setCell ⟨b, 3, none⟩ y3).setCell ⟨b, 4, none⟩ y4).setCell ⟨b, 5, none⟩ y5).setCell ⟨b, 6, none⟩ y6).setCell ⟨b, 7, none⟩ y7) :=
  (((((((h.setCell (p := ⟨b, 0, none⟩) hb _).setCell (p := ⟨b, 1, none⟩) hb _).setCell (p := ⟨b, 2, none⟩) hb _).setCell (p := ⟨b, 3, none⟩) hb _).setCell (p := ⟨b, 4, none⟩) hb _).setCell (p := ⟨b, 5, none⟩) hb _).setCell (p := ⟨b, 6, none⟩) hb _).setCell (p := ⟨b, 7, none⟩) hb _
theorem eightOwn {w : World} {B b : Nat} {v : Value} {zs : List Int} (y0 y1 y2 y3 y4 y5 y6 y7 : Value) (h : Own w B v zs) (hb : b < B) : Own ((((((((w.setCell ⟨b, 0, none⟩ y0).setCell ⟨b, 1, none⟩ y1).setCell ⟨b, 2, none⟩ y2).setCell ⟨b, 3, none⟩ y3).setCell ⟨b, 4, none⟩ y4).setCell ⟨b, 5, none⟩ y5).setCell ⟨b, 6, none⟩ y6).setCell ⟨b, 7, none⟩ y7) B v zs :=
  own_set1 (own_set1 (own_set1 (own_set1 (own_set1 (own_set1 (own_set1 (own_set1 h hb) hb) hb) hb) hb) hb) hb) hb
theorem res_frmput {W : World} {b : Nat} {x0 x1 x2 x3 x4 x5 x6 x7 u : Value} (tmps : Array Value) (ht : tmps[2]?.getD undef = .pointer (some ⟨b, 0, none⟩)) (t3 : tmps[3]?.getD undef = u) (e0 : W.cell? ⟨b, 0, none⟩ = some x0) (e1 : W.cell? ⟨b, 1, none⟩ = some x1) (e2 : W.cell? ⟨b, 2, none⟩ = some x2) (e3 : W.cell? ⟨b, 3, none⟩ = some x3) (e4 : W.cell? ⟨b, 4, none⟩ = some x4) (e5 : W.cell? ⟨b, 5, none⟩ = some x5) (e6 : W.cell? ⟨b, 6, none⟩ = some x6) (e7 : W.cell? ⟨b, 7, none⟩ = some x7) :
    (results Tryd.f23 tmps).run Tryd.prog W = .ok (.tuple #[.agg #[x0, x1, x2, x3, x4, x5, x6, x7], u]) W := by
  simp [results, Tryd.results23, go_sem, ht, t3, e0, e1, e2, e3, e4, e5, e6, e7]

set_option maxHeartbeats 4000000 in
theorem drawFPut_any (a : Option Addr) (len cap : Nat) (zs : List Int) (w : World) (hn : zs.length = len) (hv : Rd w (.slice a len cap) zs) (hcap : len ≤ cap) :
    Calls Tryd.prog 23 #[.slice a len cap] w fun e w' => ∃ (h0 h1 h2 h3 h4 h5 h6 h7 : Int) (u : Value) (xs : List Int), e = .returned (.tuple #[.agg #[.int .i64 h0, .int .i64 h1, .int .i64 h2, .int .i64 h3, .int .i64 h4, .int .i64 h5, .int .i64 h6, .int .i64 h7], u]) ∧ xs.length ≤ 14 ∧ Own w' w.heap.size u xs ∧ Below w.heap.size w w' := by
  have HV := hid (hv.keep (below_alloc1 w (.cells #[.int .i64 0, .int .i64 0, .int .i64 0, .int .i64 0, .int .i64 0, .int .i64 0, .int .i64 0, .int .i64 0] 37)))
  have RB : Hid (IB (w.alloc (.cells #[.int .i64 0, .int .i64 0, .int .i64 0, .int .i64 0, .int .i64 0, .int .i64 0, .int .i64 0, .int .i64 0] 37)) w.heap.size [0, 0, 0, 0, 0, 0, 0, 0]) := hid (ib_new w [0, 0, 0, 0, 0, 0, 0, 0] 37)
  clear hv
  go_enter Tryd.func23, Tryd.ntmps23
  go_wp2_with fail
  refine (open_any a len cap zs _ hn HV.out hcap).mono ?_
  rintro e w0 ⟨rfl, rd, bl, hz⟩
  have hs1 : (w.alloc (.cells #[.int .i64 0, .int .i64 0, .int .i64 0, .int .i64 0, .int .i64 0, .int .i64 0, .int .i64 0, .int .i64 0] 37)).heap.size = w.heap.size + 1 := by simp
  rw [hs1] at hz
  have RD := hid rd
  have RB := hid (RB.out.keep bl)
  have B0 : Hid (Below w.heap.size w w0) := hid ((below_alloc1 w (.cells #[.int .i64 0, .int .i64 0, .int .i64 0, .int .i64 0, .int .i64 0, .int .i64 0, .int .i64 0, .int .i64 0] 37)).trans (bl.mono (by rw [hs1]; omega)))
  have z0 : w.heap.size + 1 < w0.heap.size := by omega
  clear rd bl HV hz
  rw [hs1] at RD
  clear hs1
  go_wp2_with fail
  refine (drawHead_any (w.alloc (.cells #[.int .i64 0, .int .i64 0, .int .i64 0, .int .i64 0, .int .i64 0, .int .i64 0, .int .i64 0, .int .i64 0] 37)) _ (w.heap.size + 1) 0 RD.out (by omega)).mono ?_
  rintro e w1 ⟨h0, h1, h2, h3, h4, h5, h6, h7, rfl, ⟨q, hq, rd⟩, gr⟩
  have RD := hid (rd.keep (below_alloc1 w1 (.cells #[.int .i64 13, .int .i64 13, .int .i64 13, .int .i64 13, .int .i64 12, .int .i64 14, .int .i64 0] 3)))
  have RB := hid ((RB.out.grown gr (by simp)).keep (below_alloc1 w1 (.cells #[.int .i64 13, .int .i64 13, .int .i64 13, .int .i64 13, .int .i64 12, .int .i64 14, .int .i64 0] 3)))
  have z1 : w.heap.size + 1 < w1.heap.size := Nat.lt_of_lt_of_le z0 gr.size
  have B1 := hid ((B0.out.trans (below_gF (n := w.heap.size) gr (by omega) (by omega))).alloc (by omega) (.cells #[.int .i64 13, .int .i64 13, .int .i64 13, .int .i64 13, .int .i64 12, .int .i64 14, .int .i64 0] 3))
  have nV : ¬ w1.heap.size = w.heap.size + 1 := by omega
  clear rd gr B0
  go_wp2_with fail
  refine (pick_h 7 (w.alloc (.cells #[.int .i64 0, .int .i64 0, .int .i64 0, .int .i64 0, .int .i64 0, .int .i64 0, .int .i64 0, .int .i64 0] 37)) _ (w.heap.size + 1) q RD.out (by omega) (by omega) (by omega)).mono ?_
  rintro e w2 ⟨x2, rfl, l2, u2, RD, HC, HZ, HG⟩
  obtain ⟨m, hm, hcm⟩ := at_pick [13, 13, 13, 13, 12, 14, 0] 3 x2 l2 (by simpa using u2) nV HC.out
  have hb : 0 ≤ m ∧ m ≤ 14 := by simp at hm; omega
  obtain ⟨n, rfl⟩ := Int.eq_ofNat_of_zero_le hb.1
  have RB := hid (RB.out.grown HG.out (by simp))
  have z2 : w.heap.size + 1 < w2.heap.size := by have := HZ.out; simp at this; omega
  have B2 := hid (B1.out.trans (below_gF (n := w.heap.size) HG.out (by omega) (by simp; omega)))
  clear HC HZ HG hm B1 nV
  go_wp2_with fail
  refine (drawBytes_any n (w.alloc (.cells #[.int .i64 0, .int .i64 0, .int .i64 0, .int .i64 0, .int .i64 0, .int .i64 0, .int .i64 0, .int .i64 0] 37)) _ (w.heap.size + 1) (q + 1) RD.out (by omega) (by omega)).mono ?_
  rintro e w3 ⟨u, xs, rfl, hxs, o3, _, gr⟩
  have RB := hid (RB.out.grown gr (by simp))
  have B3 := hid (B2.out.trans (below_gF (n := w.heap.size) gr (by omega) (by omega)))
  have O3 := hid (o3.low (B' := w.heap.size + 1) (by omega))
  clear gr o3 B2 hcm
  obtain ⟨s0, s1, s2, s3, s4, s5, s6, s7⟩ := ib8 RB.out
  have ff := RB.out.2.1
  have G := hid (ib8 (eight_ib rfl RB.out h0 h1 h2 h3 h4 h5 h6 h7))
  go_wp2_with fail
  refine bodyPost_ret (res_frmput _ rfl rfl G.out.1 G.out.2.1 G.out.2.2.1 G.out.2.2.2.1 G.out.2.2.2.2.1 G.out.2.2.2.2.2.1 G.out.2.2.2.2.2.2.1 G.out.2.2.2.2.2.2.2) rfl ?_
  exact ⟨h0, h1, h2, h3, h4, h5, h6, h7, u, xs, rfl, by omega, (eightOwn (.int .i64 h0) (.int .i64 h1) (.int .i64 h2) (.int .i64 h3) (.int .i64 h4) (.int .i64 h5) (.int .i64 h6) (.int .i64 h7) O3.out (by omega)).low (by omega), eightB (.int .i64 h0) (.int .i64 h1) (.int .i64 h2) (.int .i64 h3) (.int .i64 h4) (.int .i64 h5) (.int .i64 h6) (.int .i64 h7) B3.out (Nat.le_refl _)⟩

set_option maxHeartbeats 4000000 in
theorem drawFTake_any (a : Option Addr) (len cap : Nat) (zs : List Int) (w : World) (hn : zs.length = len) (hv : Rd w (.slice a len cap) zs) (hcap : len ≤ cap) :
    Calls Tryd.prog 29 #[.slice a len cap] w fun e w' => ∃ (u : Value) (xs : List Int), e = .returned u ∧ xs.length ≤ 25 ∧ Own w' w.heap.size u xs ∧ Below w.heap.size w w' := by
  obtain ⟨ti, hti, htz, hts, htb⟩ := info8'
  have HV := hid hv
  clear hv
  go_enter Tryd.func29, Tryd.ntmps29
  go_wp2_with fail
  refine (open_any a len cap zs _ hn HV.out hcap).mono ?_
  rintro e w0 ⟨rfl, rd, bl, hz⟩
  have RD := hid rd
  have B := hid bl
  have z0 : w.heap.size < w0.heap.size := by omega
  clear rd bl HV hz
  go_wp2_with fail
  refine (drawHead_any w _ w.heap.size 0 RD.out (by omega)).mono ?_
  rintro e w1 ⟨h0, h1, h2, h3, h4, h5, h6, h7, rfl, ⟨q, hq, rd⟩, gr⟩
  have RD := hid rd
  have B := hid (B.out.trans (below_gF (n := w.heap.size) gr (by omega) (by omega)))
  have z1 : w.heap.size < w1.heap.size := Nat.lt_of_lt_of_le z0 gr.size
  clear rd gr
  go_wp2_with fail
  refine (drawBytes_any 13 w _ w.heap.size q RD.out (by omega) (by omega)).mono ?_
  rintro e w2 ⟨u2, ms, rfl, hms, o2, rd, gr⟩
  have RD := hid rd
  have B := hid (B.out.trans (below_gF (n := w.heap.size) gr (by omega) (by omega)))
  have z2 : w.heap.size < w2.heap.size := Nat.lt_of_lt_of_le z1 gr.size
  have R2 := hid (o2.rd (by omega))
  clear rd gr o2
  go_wp2_with fail
  refine (specPutF_any h0 h1 h2 h3 h4 h5 h6 h7 _ ms _ R2.out).mono ?_
  rintro e w3 ⟨u3, rfl, o3, b3⟩
  have RD := hid (RD.out.keep b3)
  have B := hid (B.out.trans (b3.mono B.out.size))
  have z3 : w.heap.size < w3.heap.size := Nat.lt_of_lt_of_le z2 b3.size
  have Z23 : w2.heap.size ≤ w3.heap.size := b3.size
  have HP : ptL h0 h1 h2 h3 h4 h5 h6 h7 ms = [] ∨ (ptL h0 h1 h2 h3 h4 h5 h6 h7 ms).length = 24 := by
    unfold ptL
    split
    · rename_i h
      rw [Bool.and_eq_true] at h
      right
      rw [List.length_append, hdL_yes h.1, hms]
    · left; rfl
  obtain ⟨F, hF⟩ : ∃ F, ptL h0 h1 h2 h3 h4 h5 h6 h7 ms = F := ⟨_, rfl⟩
  rw [hF] at HP o3
  have O := hid o3
  obtain ⟨a3, c3, h3, hc3⟩ := own_capF o3
  subst h3
  clear hF b3 R2 o3
  rcases HP with rfl | hF
  · have RD := hid RD.out
    have e0 : (([] : List Int).length : Int) = 0 := rfl
    clear O
    go_wp2_with fail
    have RD := hid (RD.out.keep (below_alloc1 w3 (.cells #[.int .i64 24, .int .i64 24, .int .i64 23, .int .i64 25, .int .i64 0] 3)))
    have nV : ¬ w3.heap.size = w.heap.size := by omega
    refine (pick_h 5 w _ w.heap.size (q + 13) RD.out (by omega) (by omega) (by omega)).mono ?_
    rintro e w4 ⟨x4, rfl, l4, u4, RD, HC, HZ, HG⟩
    obtain ⟨m, hm, hcm⟩ := at_pick [24, 24, 23, 25, 0] 3 x4 l4 (by simpa using u4) nV HC.out
    have hb : 0 ≤ m ∧ m ≤ 25 := by simp at hm; omega
    obtain ⟨n, rfl⟩ := Int.eq_ofNat_of_zero_le hb.1
    have B := hid ((B.out.alloc (by omega) (.cells #[.int .i64 24, .int .i64 24, .int .i64 23, .int .i64 25, .int .i64 0] 3)).trans (below_gF (n := w.heap.size) HG.out (by omega) (by simp; omega)))
    have z4 : w.heap.size < w4.heap.size := by have := HZ.out; simp at this; omega
    clear HC HZ HG hm nV
    go_wp2_with fail
    refine (drawBytes_any n w _ w.heap.size (q + 13 + 1) RD.out (by omega) (by omega)).mono ?_
    rintro e w5 ⟨u5, xs, rfl, hxs, o5, _, gr⟩
    have B := hid (B.out.trans (below_gF (n := w.heap.size) gr (by omega) (by omega)))
    have O := hid (o5.low (B' := w.heap.size) (by omega))
    clear gr o5
    go_wp2
    go_ret
    exact ⟨_, xs, rfl, by omega, O.out, B.out⟩
  · rw [hF] at hc3 ⊢
    obtain ⟨g4, rfl⟩ : ∃ g4, a3 = some ⟨g4, 0, none⟩ := by
      obtain ⟨a5, c5, h5, h6⟩ := own_form O.out
      simp at h5
      rcases h6 with h6 | ⟨g, h6⟩
      · rw [h6] at hF; simp at hF
      · exact ⟨g, h5.1.trans h6⟩
    have O : Hid (Own w3 w2.heap.size (.slice (some ⟨g4, 0, none⟩) 24 c3) F) := hid (by have h := O.out; rw [hF] at h; exact h)
    go_wp2_with fail
    refine (pick_h 12 w _ w.heap.size (q + 13) RD.out (by omega) (by omega) (by omega)).mono ?_
    rintro e w4 ⟨x4, rfl, l4, u4, RD, HC, HZ, HG⟩
    have B := hid (B.out.trans (below_gF (n := w.heap.size) HG.out (by omega) (by omega)))
    have z4 : w.heap.size < w4.heap.size := by have := HZ.out; omega
    have Z24 : w2.heap.size ≤ w4.heap.size := by have := HZ.out; omega
    have O := hid (O.out.grown HG.out (fun k hk => by simp at hk; omega))
    clear HC HZ HG
    by_cases e4 : x4 = 0
    · subst e4
      have RD := hid (RD.out.keep (below_alloc1 w4 (.cells #[.int .i64 24, .int .i64 24, .int .i64 23, .int .i64 25, .int .i64 0] 3)))
      have nV : ¬ w4.heap.size = w.heap.size := by omega
      clear O
      go_wp2_with fail
      refine (pick_h 5 w _ w.heap.size (q + 13 + 1) RD.out (by omega) (by omega) (by omega)).mono ?_
      rintro e w5 ⟨x5, rfl, l5, u5, RD, HC, HZ, HG⟩
      obtain ⟨m, hm, hcm⟩ := at_pick [24, 24, 23, 25, 0] 3 x5 l5 (by simpa using u5) nV HC.out
      have hb : 0 ≤ m ∧ m ≤ 25 := by simp at hm; omega
      obtain ⟨n, rfl⟩ := Int.eq_ofNat_of_zero_le hb.1
      have B := hid ((B.out.alloc (by omega) (.cells #[.int .i64 24, .int .i64 24, .int .i64 23, .int .i64 25, .int .i64 0] 3)).trans (below_gF (n := w.heap.size) HG.out (by omega) (by simp; omega)))
      have z5 : w.heap.size < w5.heap.size := by have := HZ.out; simp at this; omega
      clear HC HZ HG hm nV
      go_wp2_with fail
      refine (drawBytes_any n w _ w.heap.size (q + 13 + 1 + 1) RD.out (by omega) (by omega)).mono ?_
      rintro e w6 ⟨u6, xs, rfl, hxs, o6, _, gr⟩
      have B := hid (B.out.trans (below_gF (n := w.heap.size) gr (by omega) (by omega)))
      have O := hid (o6.low (B' := w.heap.size) (by omega))
      clear gr o6
      go_wp2
      go_ret
      exact ⟨_, xs, rfl, by omega, O.out, B.out⟩
    · have d4 : (x4 == 0) = false := by simpa using e4
      go_wp2_with fail
      refine (pick_h 5 w _ w.heap.size (q + 13 + 1) RD.out (by omega) (by omega) (by omega)).mono ?_
      rintro e w5 ⟨x5, rfl, l5, u5, RD, HC, HZ, HG⟩
      have B := hid (B.out.trans (below_gF (n := w.heap.size) HG.out (by omega) (by omega)))
      have z5 : w.heap.size < w5.heap.size := by have := HZ.out; omega
      have Z25 : w2.heap.size ≤ w5.heap.size := by have := HZ.out; omega
      have O := hid (O.out.grown HG.out (fun k hk => by simp at hk; omega))
      clear HC HZ HG
      by_cases e0 : x5 = 0
      · subst e0
        go_wp2_with fail
        refine (pick_h 24 w _ w.heap.size (q + 13 + 1 + 1) RD.out (by omega) (by omega) (by omega)).mono ?_
        rintro e w6 ⟨x6, rfl, l6, u6, RD, HC, HZ, HG⟩
        have B := hid (B.out.trans (below_gF (n := w.heap.size) HG.out (by omega) (by omega)))
        have z6 : w.heap.size < w6.heap.size := by have := HZ.out; omega
        have O := hid ((O.out.grown HG.out (fun k hk => by simp at hk; omega)).keep (below_alloc1 w6 (.cells #[.int .i64 0, .int .i64 1, .int .i64 255, .int .i64 3, .int .i64 4] 3)))
        have RD := hid (RD.out.keep (below_alloc1 w6 (.cells #[.int .i64 0, .int .i64 1, .int .i64 255, .int .i64 3, .int .i64 4] 3)))
        have nV : ¬ w6.heap.size = w.heap.size := by omega
        clear HC HZ HG
        go_wp2_with fail
        refine (pick_h 5 w _ w.heap.size (q + 13 + 1 + 1 + 1) RD.out (by omega) (by omega) (by omega)).mono ?_
        rintro e w7 ⟨x7, rfl, l7, u7, RD, HC, HZ, HG⟩
        obtain ⟨Y, hm, hcm⟩ := at_pick [0, 1, 255, 3, 4] 3 x7 l7 (by simpa using u7) nV HC.out
        have zz : 0 ≤ Y ∧ Y ≤ 255 := by simp at hm; omega
        have B := hid ((B.out.alloc (by omega) (.cells #[.int .i64 0, .int .i64 1, .int .i64 255, .int .i64 3, .int .i64 4] 3)).trans (below_gF (n := w.heap.size) HG.out (by omega) (by simp; omega)))
        have O := hid (O.out.grown HG.out (fun k hk => by simp at hk; omega))
        obtain ⟨I, rfl⟩ := Int.eq_ofNat_of_zero_le l6
        have hI : I < 24 := by omega
        have hcc := own_cell O.out (i := I) (by omega)
        have HS := hid (own_storeF O.out (i := I) (y := Y) (by omega) zz.1 zz.2 B.out (by omega))
        have hc0 := hcc.1
        have hf0 := hcc.2.1
        clear HC HZ HG hm nV hcc
        go_wp2
        go_ret
        exact ⟨_, F.set I Y, rfl, by simp; omega, HS.out.1, HS.out.2⟩
      · by_cases e1 : x5 = 1
        · subst e1
          have HR := own_ints O.out
          rw [hF] at HR
          have HR := hid HR
          have ZW : Hid (w2.heap.size ≤ w5.heap.size) := hid Z25
          go_wp2_with (at_builtin; go_must (refine wpList_append_lies _ (by rfl) _ _ 22 (by rfl) w2.heap.size 5 ti (.int .u8 0) 1 1 Tryd.underlying22 hti htz hts htb rfl (by omega) _ 24 (F.map (Value.int .u8)) (by rfl) (HR.out.alloc _) ⟨w5.heap.size, 0, none⟩ 1 1 [.int .u8 0] (by rfl) rfl (cell_one_new _ _ _) (by intro y hy; simp at hy; subst hy; rfl) (by omega) (by unfold maxLen; omega) (by omega) (by have := B.out.size; have := ZW.out; simp; omega) (w5.heap.size + 1) (by simp) ?_))
          intro gg cap2 w6 ho2 hg2 hat hlt2
          have O4 := hid ((own_more O.out hF (by omega : (0 : Int) ≤ 0) (by omega : (0 : Int) ≤ 255) ho2).low (B' := w.heap.size) (by omega))
          have B6 := hid ((B.out.alloc (by omega) (.cells #[.int .u8 0] 5)).grown hg2 (by simp; omega) (fun k hk => by have := (HR.out.lt k hk).1; omega))
          clear ho2 hg2 hat hlt2
          go_wp2
          go_ret
          exact ⟨_, F ++ [0], rfl, by simp; omega, O4.out, B6.out⟩
        · go_wp2
          go_ret
          exact ⟨_, F, rfl, by omega, O.out.low (B' := w.heap.size) (by omega), B.out⟩
end Go.Proofs.YtpfelnkdimbhkaaDoor
