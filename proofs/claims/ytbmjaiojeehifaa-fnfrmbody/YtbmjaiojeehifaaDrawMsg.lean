/- What draws messages and bodies: some bytes, in memory of its own. -/
import Derived.Test.YtbmjaiojeehifaaDrawRaw
import Derived.Test.YtbmjaiojeehifaaFrmSpillSpec
import Derived.Test.YtbmjaiojeehifaaBytesMark2
namespace Go.Proofs.Ytbmjaiojeehifaa
open Go.ChangeShapes Go.WideShapes Go.ChangeAt Go.RowKit Go.Joins Go.Deep
set_option linter.unusedVariables false

theorem below_grown' {a b : World} {n g : Nat} (h : a.grownBy b (some g)) (hg : n ≤ g) (hn : n ≤ a.heap.size) : Below n a b :=
  (Below.refl n a).grown h hn (fun k hk => by simp at hk; omega)

set_option maxHeartbeats 4000000 in
theorem drawMessage_any (W w : World) (g p : Nat) (hr : Rdr W w g p) (hp : p < 990000) :
    Calls Try.prog 53 #[.pointer (some ⟨g, 0, none⟩)] w fun e w' => ∃ u xs, e = .returned u ∧ xs.length ≤ 9 ∧ Own w' w.heap.size u xs ∧ (∃ q, q ≤ p + 19 ∧ Rdr W w' g q) ∧ w.grownBy w' (some g) := by
  obtain ⟨ti, hti, htz, hts, htb⟩ := info8'
  have RD := hid hr
  have hg : g < w.heap.size := by
    obtain ⟨v, xs, _, _, _, h, _⟩ := hr
    exact World.block_lt_of_cell? w ⟨g, 0, none⟩ h
  have hWg : W.heap.size ≤ g := by obtain ⟨v, xs, _, _, h, _⟩ := hr; exact h
  clear hr
  go_enter Try.func53, Try.ntmps53
  have RD1 := hid ((RD.out.keep (below_alloc1 w (.cells #[] 5))).keep (below_alloc1 _ (.cells #[.int .i64 0, .int .i64 1, .int .i64 2, .int .i64 3, .int .i64 4, .int .i64 8, .int .i64 8, .int .i64 9] 3)))
  go_wp2_with fail
  refine (pick_any 8 W _ g p RD1.out (by omega) (by omega) (by omega)).mono ?_
  rintro e w1 ⟨x1, rfl, l1, u1, rd, hc1, hf1, hz1, gr1⟩
  obtain ⟨m, hm, hcm⟩ := at_pick (w := w.alloc (.cells #[] 5)) [0, 1, 2, 3, 4, 8, 8, 9] 3 x1 l1 (by simpa using u1) (by simp; omega) hc1
  simp at hcm
  have hb : 0 ≤ m ∧ m ≤ 9 := by simp at hm; omega
  have O1 := hid ((((own_none w).keep (below_alloc1 _ (.cells #[.int .i64 0, .int .i64 1, .int .i64 2, .int .i64 3, .int .i64 4, .int .i64 8, .int .i64 8, .int .i64 9] 3)))).grown gr1 (fun k hk => by simp at hk; omega))
  have G1 := hid (gtrans (galloc (galloc (grefl w g) _) _) gr1)
  have RD1 := hid rd
  have z1 : w.heap.size < w1.heap.size := by simp at hz1; omega
  obtain ⟨n, rfl⟩ := Int.eq_ofNat_of_zero_le hb.1
  clear rd gr1 hc1 hf1 hz1 hm RD
  go_wp2_with fail
  go_loopw [3, 4] (fun u i wr => ∃ j : Nat, j ≤ n ∧ i = .int .i64 ((n : Int) - j) ∧ (∃ xs, xs.length = j ∧ Own wr w.heap.size u xs) ∧ Rdr W wr g (p + 1 + 2 * j) ∧ w.grownBy wr (some g) ∧ w.heap.size < wr.heap.size) (fun _ i _ => (intOf i).toNat)
  case atStart => exact ⟨0, by omega, by simp, ⟨[], rfl, O1.out⟩, RD1.out, G1.out, z1⟩
  case round =>
    obtain ⟨j, hj, rfl, ⟨xs, hxs, hou⟩, hrd, hgr, hzr⟩ := hrel
    have HO := hid hou
    have HRD := hid hrd
    have HG := hid hgr
    clear hou hrd hgr O1 RD1 G1 hcm
    by_cases hlt : j < n
    · have hd : ((n : Int) - j > 0) := by omega
      go_wp2_with fail
      refine (pick_any 256 W _ g _ HRD.out (by omega) (by omega) (by omega)).mono ?_
      rintro e w2 ⟨x2, rfl, l2, u2, rd, hc2, hf2, hz2, gr2⟩
      have RD2 := hid (rd.keep (below_alloc1 w2 (.cells #[.int .i64 0, .int .i64 1, .int .i64 7, .int .i64 255, .int .i64 x2] 3)))
      have G2 := hid (gtrans HG.out gr2)
      have O2 := hid (HO.out.grown gr2 (fun k hk => by simp at hk; omega))
      have z2 : w.heap.size < w2.heap.size := by omega
      clear rd gr2 hc2 hf2 HG HO HRD hz2
      go_wp2_with fail
      refine (pick_any 5 W _ g _ RD2.out (by omega) (by omega) (by omega)).mono ?_
      rintro e w3 ⟨x3, rfl, l3, u3, rd, hc3, hf3, hz3, gr3⟩
      obtain ⟨Z, hZ, hcZ⟩ := at_pick [0, 1, 7, 255, x2] 3 x3 l3 (by simpa using u3) (by omega) hc3
      have zz : 0 ≤ Z ∧ Z ≤ 255 := by simp at hZ; omega
      have RD3 := hid rd
      have G3 := hid (gtrans (galloc G2.out _) gr3)
      have O3 := hid ((O2.out.keep (below_alloc1 w2 _)).grown gr3 (fun k hk => by simp at hk; omega))
      have z3 : w.heap.size < w3.heap.size := by simp at hz3; omega
      obtain ⟨a, cap, hu, _⟩ := own_form O3.out
      subst hu
      have HR := own_ints O3.out
      rw [hxs] at HR ⊢
      have HR := hid HR
      clear rd gr3 hc3 hf3 G2 O2 RD2 hz3 hZ
      go_wp2_with (at_builtin; go_must (refine wpList_append_lies _ (by rfl) _ _ 22 (by rfl) w.heap.size 5 ti (.int .u8 0) 1 1 Try.underlying22 hti htz hts htb rfl (by omega) _ j (xs.map (Value.int .u8)) (by rfl) (HR.out.alloc _) ⟨w3.heap.size, 0, none⟩ 1 1 [.int .u8 Z] (by rfl) rfl (cell_one_new _ _ _) (by intro y hy; simp at hy; subst hy; rfl) (by omega) (by unfold maxLen; omega) (by omega) (by simp; omega) (w3.heap.size + 1) (by simp) ?_))
      intro gg cap2 w4 ho2 hg2 hat hlt2
      have hown : ∀ k, (Value.slice a j cap).ownBlock = some k → w.heap.size ≤ k := fun k hk => (HR.out.lt k hk).1
      have G4 := hid (gown (galloc G3.out (.cells #[.int .u8 Z] 5)) hg2 (fun k hk => hown k hk))
      have RD4 := hid ((RD3.out.keep (below_alloc1 w3 (.cells #[.int .u8 Z] 5))).grown hg2 (fun k hk => by have := hown k hk; omega))
      have z4 : w.heap.size < w4.heap.size := by have := hg2.size; simp at this; omega
      have O4 := hid (own_more O3.out hxs zz.1 zz.2 ho2)
      clear ho2 hg2 hat hlt2 G3 RD3
      go_wp2
      go_roundw
      case rel => exact ⟨j + 1, by omega, by go_num, ⟨xs ++ [Z], by simp [hxs], O4.out⟩, RD4.out, G4.out, z4⟩
      case measure => simp [intOf]; omega
    · obtain rfl : j = n := by omega
      go_wp2
      go_ret
      exact ⟨_, xs, rfl, by omega, HO.out, ⟨_, by omega, HRD.out⟩, HG.out⟩

set_option maxHeartbeats 4000000 in
theorem drawFill_any (a : Option Addr) (len cap : Nat) (zs : List Int) (w : World) (hn : zs.length = len) (hv : Rd w (.slice a len cap) zs) (hcap : len ≤ cap) :
    Calls Try.prog 19 #[.slice a len cap] w fun e w' => ∃ (u : Value) (r : Bool) (xs : List Int), e = .returned (.tuple #[u, .bool r]) ∧ xs.length ≤ 9 ∧ Own w' w.heap.size u xs ∧ Below w.heap.size w w' := by
  have HV := hid hv
  clear hv
  go_enter Try.func19, Try.ntmps19
  go_wp2_with fail
  refine (open_any a len cap zs _ hn HV.out hcap).mono ?_
  rintro e w0 ⟨rfl, rd, bl, hz⟩
  have RD0 := hid rd
  have B0 := hid bl
  have z0 : w.heap.size < w0.heap.size := by omega
  clear rd bl HV hz
  go_wp2_with fail
  refine (pick_any 3 _ _ _ 0 RD0.out (by omega) (by omega) (by omega)).mono ?_
  rintro e w1 ⟨x1, rfl, l1, u1, rd, hc1, hf1, hz1, gr⟩
  have RD1 := hid rd
  have B1 := hid (B0.out.trans (below_grown' (n := w.heap.size) gr (by omega) (by omega)))
  have z1 : w.heap.size < w1.heap.size := Nat.lt_of_lt_of_le z0 gr.size
  clear rd gr RD0 B0 hc1 hf1 hz1
  by_cases h1 : 0 < x1
  · go_wp2_with fail
    refine (drawMessage_any _ _ _ _ RD1.out (by omega)).mono ?_
    rintro e w2 ⟨u, xs, rfl, hxs, o2, _, gr⟩
    have B2 := hid (B1.out.trans (below_grown' (n := w.heap.size) gr (by omega) (by omega)))
    have O2 := hid (o2.low (B' := w.heap.size) (by omega))
    clear gr o2
    go_wp2
    refine bodyPost_ret (v := .tuple #[u, .bool true]) (by simp [results, Try.results19, go_sem]) rfl ?_
    exact ⟨u, true, xs, rfl, hxs, O2.out, B2.out⟩
  · obtain rfl : x1 = 0 := by omega
    go_wp2_with fail
    refine (pick_any 2 _ _ _ 1 RD1.out (by omega) (by omega) (by omega)).mono ?_
    rintro e w2 ⟨x2, rfl, l2, u2, rd, hc2, hf2, hz2, gr⟩
    have RD2 := hid rd
    have B2 := hid (B1.out.trans (below_grown' (n := w.heap.size) gr (by omega) (by omega)))
    have z2 : w.heap.size < w2.heap.size := Nat.lt_of_lt_of_le z1 gr.size
    clear rd gr RD1 B1 hc2 hf2 hz2
    by_cases h2 : x2 = 0
    · subst h2
      go_wp2
      refine bodyPost_ret (v := .tuple #[.slice (some ⟨w2.heap.size, 0, none⟩) 0 0, .bool false]) (by simp [results, Try.results19, go_sem]) rfl ?_
      exact ⟨_, false, [], rfl, by simp, (own_none w2).low (B' := w.heap.size) (by omega), B2.out.alloc (by omega) _⟩
    · go_wp2_with fail
      refine (drawMessage_any _ _ _ _ RD2.out (by omega)).mono ?_
      rintro e w3 ⟨u, xs, rfl, hxs, o3, _, gr⟩
      have B3 := hid (B2.out.trans (below_grown' (n := w.heap.size) gr (by omega) (by omega)))
      have O3 := hid (o3.low (B' := w.heap.size) (by omega))
      clear gr o3
      go_wp2
      refine bodyPost_ret (v := .tuple #[u, .bool false]) (by simp [results, Try.results19, go_sem]) rfl ?_
      exact ⟨u, false, xs, rfl, hxs, O3.out, B3.out⟩

theorem rd_empty' (w : World) (a : Option Addr) (cap : Nat) : Rd w (.slice a 0 cap) [] := ⟨by simp, by simp, a, cap, rfl, .inl rfl⟩
theorem own_cap' {w : World} {B : Nat} {v : Value} {xs : List Int} (h : Own w B v xs) : ∃ a cap, v = .slice a xs.length cap ∧ xs.length ≤ cap := by
  obtain ⟨h1, h2, h3⟩ := h
  rcases h3 with ⟨hv, h0⟩ | ⟨g, cap, cur, hv, hg, hh, hnc, hm, hsz, hcur⟩
  · exact ⟨none, 0, by rw [hv, h0], by omega⟩
  · exact ⟨_, cap, hv, by omega⟩
/-- what a store into one's own row of bytes leaves -/
theorem own_store {w : World} {B g n cap i : Nat} {xs : List Int} {y : Int} (h : Own w B (.slice (some ⟨g, 0, none⟩) n cap) xs) (hi : i < xs.length) (y0 : 0 ≤ y) (y1 : y ≤ 255) {W : World} (hW : Below W.heap.size W w) (hB : W.heap.size ≤ B) :
    Own (w.setCell ⟨g, i, none⟩ (.int .u8 y)) W.heap.size (.slice (some ⟨g, 0, none⟩) n cap) (xs.set i y) ∧ Below W.heap.size W (w.setCell ⟨g, i, none⟩ (.int .u8 y)) :=
  ⟨(own_set h hi y0 y1).low hB, hW.setCell (by have := (own_cell h hi).2.2.1; simp; omega) _⟩

set_option maxHeartbeats 4000000 in
theorem drawSpill_any (a : Option Addr) (len cap : Nat) (zs : List Int) (w : World) (hn : zs.length = len) (hv : Rd w (.slice a len cap) zs) (hcap : len ≤ cap) :
    Calls Try.prog 21 #[.slice a len cap] w fun e w' => ∃ (u : Value) (xs : List Int), e = .returned u ∧ xs.length ≤ 10 ∧ Own w' w.heap.size u xs ∧ Below w.heap.size w w' := by
  have HV := hid hv
  clear hv
  go_enter Try.func21, Try.ntmps21
  go_wp2_with fail
  refine (open_any a len cap zs _ hn HV.out hcap).mono ?_
  rintro e w0 ⟨rfl, rd, bl, hz⟩
  have RD0 := hid rd
  have B0 := hid bl
  have z0 : w.heap.size < w0.heap.size := by omega
  clear rd bl HV hz
  go_wp2_with fail
  refine (drawMessage_any _ _ _ _ RD0.out (by omega)).mono ?_
  rintro e w1 ⟨u, ms, rfl, hms, o1, ⟨q1, hq1, rd⟩, gr⟩
  have RD1 := hid rd
  have B1 := hid (B0.out.trans (below_grown' (n := w.heap.size) gr (by omega) (by omega)))
  have z1 : w.heap.size < w1.heap.size := Nat.lt_of_lt_of_le z0 gr.size
  have O1 := hid o1
  clear rd gr o1 RD0 B0
  go_wp2_with fail
  refine (pick_any 4 _ _ _ _ RD1.out (by omega) (by omega) (by omega)).mono ?_
  rintro e w2 ⟨x2, rfl, l2, u2, rd, hc2, hf2, hz2, gr⟩
  have RD2 := hid rd
  have B2 := hid (B1.out.trans (below_grown' (n := w.heap.size) gr (by omega) (by omega)))
  have z2 : w.heap.size < w2.heap.size := Nat.lt_of_lt_of_le z1 gr.size
  have O2 := hid (O1.out.grown gr (fun k hk => by simp at hk; omega))
  clear rd gr RD1 B1 O1 hc2 hf2 hz2
  by_cases h2 : 0 < x2
  · have O2 := hid (O2.out.rd (by omega))
    have hd2 : decide (0 < x2) = true := by simp [h2]
    go_wp2_with fail
    try rw [hd2]
    refine (specFill_any _ ms true _ O2.out).mono ?_
    rintro e w4 ⟨v4, rfl, o4, b4⟩
    have RD4 := hid ((RD2.out).keep b4)
    have B4 := hid ((B2.out).trans (b4.mono (by first | omega | (simp; omega))))
    have z4 : w.heap.size < w4.heap.size := by have := b4.size; first | omega | (simp at this; omega)
    have z4' : w.heap.size < w2.heap.size := by first | omega | (simp; omega)
    have O4 := hid o4
    have HL := hid (fillL_len ms true)
    clear o4 b4
    obtain ⟨a4, c4, rfl, hc4⟩ := own_cap' O4.out
    obtain ⟨F, hF⟩ : ∃ F, fillL ms true = F := ⟨_, rfl⟩
    have hF9 : F = [] ∨ F.length = 9 := by
      rw [← hF]; unfold fillL; split
      · rename_i h; right; simp [fillOk] at h; simp; omega
      · left; rfl
    rw [hF] at O4 hc4 ⊢
    clear HL hF
    rcases hF9 with rfl | hF9
    · go_wp2_with fail
      refine (pick_any 3 _ _ _ _ RD4.out (by omega) (by omega) (by omega)).mono ?_
      rintro e w5 ⟨x5, rfl, l5, u5, rd, hc5, hf5, hz5, gr⟩
      have RD5 := hid rd
      have B5 := hid (B4.out.trans (below_grown' (n := w.heap.size) gr (by omega) (by omega)))
      have z5 : w.heap.size < w5.heap.size := Nat.lt_of_lt_of_le z4 gr.size
      clear rd gr RD4 B4 hc5 hf5 hz5
      obtain ⟨n5, hn5⟩ : ∃ n5 : Nat, 8 + x5 = n5 := ⟨(8 + x5).toNat, by omega⟩
      go_wp2_with fail
      refine (drawBytes_any n5 _ _ _ _ RD5.out (by omega) (by omega)).mono ?_
      rintro e w6 ⟨u6, xs, rfl, hxs, o6, _, gr⟩
      have B6 := hid (B5.out.trans (below_grown' (n := w.heap.size) gr (by omega) (by omega)))
      have O6 := hid (o6.low (B' := w.heap.size) (by omega))
      clear gr o6
      go_wp2
      go_ret
      exact ⟨_, xs, rfl, by omega, O6.out, B6.out⟩
    · rw [hF9] at hc4 ⊢
      obtain ⟨g4, rfl⟩ : ∃ g4, a4 = some ⟨g4, 0, none⟩ := by
        obtain ⟨a5, c5, h5, h6⟩ := own_form O4.out
        simp at h5
        rcases h6 with h6 | ⟨g, h6⟩
        · rw [h6] at hF9; simp at hF9
        · exact ⟨g, h5.1.trans h6⟩
      have O4 : Hid (Own w4 w2.heap.size (.slice (some ⟨g4, 0, none⟩) 9 c4) F) := hid (by have h := O4.out; rw [hF9] at h; exact h)
      go_wp2_with fail
      refine (pick_any 6 _ _ _ _ RD4.out (by omega) (by omega) (by omega)).mono ?_
      rintro e w5 ⟨x5, rfl, l5, u5, rd, hc5, hf5, hz5, gr⟩
      have RD5 := hid rd
      have B5 := hid (B4.out.trans (below_grown' (n := w.heap.size) gr (by omega) (by omega)))
      have z5 : w.heap.size < w5.heap.size := Nat.lt_of_lt_of_le z4 gr.size
      have O5 := hid (O4.out.grown gr (fun k hk => by simp at hk; omega))
      clear rd gr RD4 B4 O4 hc5 hf5 hz5
      by_cases e0 : x5 = 0
      · subst e0
        have RD5 := hid (RD5.out.keep (below_alloc1 w5 (.cells #[.int .i64 0, .int .i64 1, .int .i64 9, .int .i64 10, .int .i64 255] 3)))
        have O5 := hid (O5.out.keep (below_alloc1 w5 (.cells #[.int .i64 0, .int .i64 1, .int .i64 9, .int .i64 10, .int .i64 255] 3)))
        go_wp2_with fail
        refine (pick_any 5 _ _ _ _ RD5.out (by omega) (by omega) (by omega)).mono ?_
        rintro e w6 ⟨x6, rfl, l6, u6, rd, hc6, hf6, hz6, gr⟩
        obtain ⟨Z, hZ, hcZ⟩ := at_pick [0, 1, 9, 10, 255] 3 x6 l6 (by simpa using u6) (by omega) hc6
        have zz : 0 ≤ Z ∧ Z ≤ 255 := by simp at hZ; omega
        have B6 := hid ((B5.out.alloc (by omega) _).trans (below_grown' (n := w.heap.size) gr (by omega) (by simp; omega)))
        have O6 := hid (O5.out.grown gr (fun k hk => by simp at hk; omega))
        have hcc := own_cell O6.out (i := 0) (by omega)
        have hs := own_store O6.out (i := 0) (by omega) zz.1 zz.2 B6.out (by omega)
        have HS := hid hs
        have hc0 := hcc.1
        have hf0 := hcc.2.1
        clear rd gr RD5 O5 B5 hc6 hf6 hz6 hZ hcc hs
        go_wp2
        go_ret
        exact ⟨_, F.set 0 Z, rfl, by simp; omega, HS.out.1, HS.out.2⟩
      · by_cases e1 : x5 = 1
        · subst e1
          go_wp2_with fail
          refine (pick_any 9 _ _ _ _ RD5.out (by omega) (by omega) (by omega)).mono ?_
          rintro e w6 ⟨x6, rfl, l6, u6, rd, hc6, hf6, hz6, gr⟩
          have RD6 := hid rd
          have B6 := hid (B5.out.trans (below_grown' (n := w.heap.size) gr (by omega) (by omega)))
          have z6 : w.heap.size < w6.heap.size := Nat.lt_of_lt_of_le z5 gr.size
          have O6 := hid (O5.out.grown gr (fun k hk => by simp at hk; omega))
          clear rd gr RD5 O5 B5 hc6 hf6 hz6
          go_wp2_with fail
          refine (pick_any 3 _ _ _ _ RD6.out (by omega) (by omega) (by omega)).mono ?_
          rintro e w7 ⟨x7, rfl, l7, u7, rd, hc7, hf7, hz7, gr⟩
          have B7 := hid (B6.out.trans (below_grown' (n := w.heap.size) gr (by omega) (by omega)))
          have O7 := hid (O6.out.grown gr (fun k hk => by simp at hk; omega))
          obtain ⟨I, rfl⟩ := Int.eq_ofNat_of_zero_le l6
          have hI : I < 9 := by omega
          have hcc := own_cell O7.out (i := I) (by omega)
          have hs := own_store O7.out (i := I) (y := x7) (by omega) l7 (by omega) B7.out (by omega)
          have HS := hid hs
          have hc0 := hcc.1
          have hf0 := hcc.2.1
          clear rd gr RD6 O6 B6 hc7 hf7 hz7 hcc hs
          go_wp2
          go_ret
          exact ⟨_, F.set I x7, rfl, by simp; omega, HS.out.1, HS.out.2⟩
        · go_wp2
          go_ret
          exact ⟨_, F, rfl, by omega, O5.out.low (B' := w.heap.size) (by omega), B5.out⟩
  · obtain rfl : x2 = 0 := by omega
    clear O2
    go_wp2_with fail
    refine (specFill_any _ [] false _ (rd_empty' _ _ _)).mono ?_
    rintro e w4 ⟨v4, rfl, o4, b4⟩
    have RD4 := hid ((RD2.out.keep (below_alloc1 w2 (.cells #[] 5))).keep b4)
    have B4 := hid ((B2.out.alloc (by omega) (.cells #[] 5)).trans (b4.mono (by first | omega | (simp; omega))))
    have z4 : w.heap.size < w4.heap.size := by have := b4.size; first | omega | (simp at this; omega)
    have z4' : w.heap.size < (w2.alloc (.cells #[] 5)).heap.size := by first | omega | (simp; omega)
    have O4 := hid o4
    have HL := hid (fillL_len [] false)
    clear o4 b4
    obtain ⟨a4, c4, rfl, hc4⟩ := own_cap' O4.out
    obtain ⟨F, hF⟩ : ∃ F, fillL [] false = F := ⟨_, rfl⟩
    have hF9 : F = [] ∨ F.length = 9 := by
      rw [← hF]; unfold fillL; split
      · rename_i h; right; first | (simp [fillOk] at h; done) | (simp [fillOk] at h; simp; done) | (simp [fillOk] at h; simp; omega) | simp
      · left; rfl
    rw [hF] at O4 hc4 ⊢
    clear HL hF
    rcases hF9 with rfl | hF9
    · go_wp2_with fail
      refine (pick_any 3 _ _ _ _ RD4.out (by omega) (by omega) (by omega)).mono ?_
      rintro e w5 ⟨x5, rfl, l5, u5, rd, hc5, hf5, hz5, gr⟩
      have RD5 := hid rd
      have B5 := hid (B4.out.trans (below_grown' (n := w.heap.size) gr (by omega) (by omega)))
      have z5 : w.heap.size < w5.heap.size := Nat.lt_of_lt_of_le z4 gr.size
      clear rd gr RD4 B4 hc5 hf5 hz5
      obtain ⟨n5, hn5⟩ : ∃ n5 : Nat, 8 + x5 = n5 := ⟨(8 + x5).toNat, by omega⟩
      go_wp2_with fail
      refine (drawBytes_any n5 _ _ _ _ RD5.out (by omega) (by omega)).mono ?_
      rintro e w6 ⟨u6, xs, rfl, hxs, o6, _, gr⟩
      have B6 := hid (B5.out.trans (below_grown' (n := w.heap.size) gr (by omega) (by omega)))
      have O6 := hid (o6.low (B' := w.heap.size) (by omega))
      clear gr o6
      go_wp2
      go_ret
      exact ⟨_, xs, rfl, by omega, O6.out, B6.out⟩
    · rw [hF9] at hc4 ⊢
      obtain ⟨g4, rfl⟩ : ∃ g4, a4 = some ⟨g4, 0, none⟩ := by
        obtain ⟨a5, c5, h5, h6⟩ := own_form O4.out
        simp at h5
        rcases h6 with h6 | ⟨g, h6⟩
        · rw [h6] at hF9; simp at hF9
        · exact ⟨g, h5.1.trans h6⟩
      have O4 : Hid (Own w4 (w2.alloc (.cells #[] 5)).heap.size (.slice (some ⟨g4, 0, none⟩) 9 c4) F) := hid (by have h := O4.out; rw [hF9] at h; exact h)
      go_wp2_with fail
      refine (pick_any 6 _ _ _ _ RD4.out (by omega) (by omega) (by omega)).mono ?_
      rintro e w5 ⟨x5, rfl, l5, u5, rd, hc5, hf5, hz5, gr⟩
      have RD5 := hid rd
      have B5 := hid (B4.out.trans (below_grown' (n := w.heap.size) gr (by omega) (by omega)))
      have z5 : w.heap.size < w5.heap.size := Nat.lt_of_lt_of_le z4 gr.size
      have O5 := hid (O4.out.grown gr (fun k hk => by simp at hk; omega))
      clear rd gr RD4 B4 O4 hc5 hf5 hz5
      by_cases e0 : x5 = 0
      · subst e0
        have RD5 := hid (RD5.out.keep (below_alloc1 w5 (.cells #[.int .i64 0, .int .i64 1, .int .i64 9, .int .i64 10, .int .i64 255] 3)))
        have O5 := hid (O5.out.keep (below_alloc1 w5 (.cells #[.int .i64 0, .int .i64 1, .int .i64 9, .int .i64 10, .int .i64 255] 3)))
        go_wp2_with fail
        refine (pick_any 5 _ _ _ _ RD5.out (by omega) (by omega) (by omega)).mono ?_
        rintro e w6 ⟨x6, rfl, l6, u6, rd, hc6, hf6, hz6, gr⟩
        obtain ⟨Z, hZ, hcZ⟩ := at_pick [0, 1, 9, 10, 255] 3 x6 l6 (by simpa using u6) (by omega) hc6
        have zz : 0 ≤ Z ∧ Z ≤ 255 := by simp at hZ; omega
        have B6 := hid ((B5.out.alloc (by omega) _).trans (below_grown' (n := w.heap.size) gr (by omega) (by simp; omega)))
        have O6 := hid (O5.out.grown gr (fun k hk => by simp at hk; omega))
        have hcc := own_cell O6.out (i := 0) (by omega)
        have hs := own_store O6.out (i := 0) (by omega) zz.1 zz.2 B6.out (by omega)
        have HS := hid hs
        have hc0 := hcc.1
        have hf0 := hcc.2.1
        clear rd gr RD5 O5 B5 hc6 hf6 hz6 hZ hcc hs
        go_wp2
        go_ret
        exact ⟨_, F.set 0 Z, rfl, by simp; omega, HS.out.1, HS.out.2⟩
      · by_cases e1 : x5 = 1
        · subst e1
          go_wp2_with fail
          refine (pick_any 9 _ _ _ _ RD5.out (by omega) (by omega) (by omega)).mono ?_
          rintro e w6 ⟨x6, rfl, l6, u6, rd, hc6, hf6, hz6, gr⟩
          have RD6 := hid rd
          have B6 := hid (B5.out.trans (below_grown' (n := w.heap.size) gr (by omega) (by omega)))
          have z6 : w.heap.size < w6.heap.size := Nat.lt_of_lt_of_le z5 gr.size
          have O6 := hid (O5.out.grown gr (fun k hk => by simp at hk; omega))
          clear rd gr RD5 O5 B5 hc6 hf6 hz6
          go_wp2_with fail
          refine (pick_any 3 _ _ _ _ RD6.out (by omega) (by omega) (by omega)).mono ?_
          rintro e w7 ⟨x7, rfl, l7, u7, rd, hc7, hf7, hz7, gr⟩
          have B7 := hid (B6.out.trans (below_grown' (n := w.heap.size) gr (by omega) (by omega)))
          have O7 := hid (O6.out.grown gr (fun k hk => by simp at hk; omega))
          obtain ⟨I, rfl⟩ := Int.eq_ofNat_of_zero_le l6
          have hI : I < 9 := by omega
          have hcc := own_cell O7.out (i := I) (by omega)
          have hs := own_store O7.out (i := I) (y := x7) (by omega) l7 (by omega) B7.out (by omega)
          have HS := hid hs
          have hc0 := hcc.1
          have hf0 := hcc.2.1
          clear rd gr RD6 O6 B6 hc7 hf7 hz7 hcc hs
          go_wp2
          go_ret
          exact ⟨_, F.set I x7, rfl, by simp; omega, HS.out.1, HS.out.2⟩
        · go_wp2
          go_ret
          exact ⟨_, F, rfl, by omega, O5.out.low (B' := w.heap.size) (by omega), B5.out⟩
end Go.Proofs.Ytbmjaiojeehifaa
