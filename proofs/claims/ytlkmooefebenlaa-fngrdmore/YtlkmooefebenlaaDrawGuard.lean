/- The draws of a guard, and of a guard and a message: rules of any ints, some bytes, in memory of their own. -/
import Derived.Test.YtlkmooefebenlaaDrawBad
import Derived.Test.YtlkmooefebenlaaGrdRuleS
namespace Go.Proofs.Ytlkmooefebenlaa
open Go.ChangeShapes Go.WideShapes Go.ChangeAt Go.RowKit Go.Joins Go.Deep
set_option linter.unusedVariables false
set_option linter.unusedSimpArgs false
set_option maxRecDepth 4000

theorem infoG : ∃ i, Try.prog.info? 46 = some i ∧ i.zero = some (.agg #[.int .i64 0, .int .i64 0, .int .i64 0, .int .i64 0, .int .i64 0, .int .i64 0, .int .i64 0]) ∧ i.size = 7 ∧ i.bytes = 56 := by
  obtain ⟨i, hi, hzz⟩ := Option.map_eq_some_iff.1 infoGrdRule
  simp only [Prod.mk.injEq] at hzz
  exact ⟨i, hi, hzz.1, hzz.2.1, hzz.2.2⟩
theorem ownI_more {e : TypeId} {w : World} {B n cap g : Nat} {xs ys : List Int} (h : w.ownsRow B e 7 (.slice (some ⟨g, 0, none⟩) (n + 1) cap) (n + 1) (xs.map (Value.int .i64) ++ ys.map (Value.int .i64))) :
    OwnI e 7 w B (.slice (some ⟨g, 0, none⟩) (n + 1) cap) (n + 1) (xs ++ ys) := by
  unfold OwnI
  rw [List.map_append]; exact h
theorem news7 (w : World) (ys : List Int) (t : TypeId) : ∀ j u, (ys.map (Value.int .i64))[j]? = some u → (w.alloc (.cells (ys.map (Value.int .i64)).toArray t)).cell? ((⟨w.heap.size, 0, none⟩ : Addr).add j) = some u := by
  intro j u hu
  have ea : (⟨w.heap.size, 0, none⟩ : Addr).add j = ⟨w.heap.size, j, none⟩ := by
    unfold Addr.add
    split
    · rename_i e; subst e; rfl
    · simp
  rw [ea]
  simp only [World.cell?_alloc_new]
  simpa using hu

def slen : Value → Nat
  | .slice _ n _ => n
  | _ => 0
set_option maxHeartbeats 4000000 in
theorem drawGuard_any (W w : World) (g p : Nat) (hr : Rdr W w g p) (hp : p < 980000) :
    Calls Try.prog 83 #[.pointer (some ⟨g, 0, none⟩)] w fun e w' => ∃ u n xs, e = .returned u ∧ n ≤ 3 ∧ OwnI 46 7 w' w.heap.size u n xs ∧ (∃ q, q ≤ p + 25 ∧ Rdr W w' g q) ∧ w.grownBy w' (some g) := by
  obtain ⟨ti, hti, htz, hts, htb⟩ := infoG
  have hg : g < w.heap.size := by
    obtain ⟨v, xs, _, _, _, h, _⟩ := hr
    exact World.block_lt_of_cell? w ⟨g, 0, none⟩ h
  have hWg : W.heap.size ≤ g := by obtain ⟨v, xs, _, _, h, _⟩ := hr; exact h
  have RD := hid (hr.keep (below_alloc1 w (.cells #[] 46)))
  have GR := hid (galloc (grefl w g) (.cells #[] 46))
  have OW : Hid (OwnI 46 7 (w.alloc (.cells #[] 46)) w.heap.size (.slice (some ⟨w.heap.size, 0, none⟩) 0 0) 0 []) := hid (ownI_none w)
  clear hr
  go_enter Try.func83, Try.ntmps83
  go_wp2_with fail
  refine (pick_h 4 W _ g p RD.out (by omega) (by omega) (by omega)).mono ?_
  rintro e w1 ⟨x1, rfl, l1, u1, RD, HC, HZ, HG⟩
  have GR := hid (gtrans GR.out HG.out)
  have OW := hid (OW.out.grown HG.out (fun k hk => by simp at hk; subst hk; simp [Value.ownBlock]; omega))
  have z1 : w.heap.size < w1.heap.size := by have := HZ.out; simp at this; omega
  clear HC HZ HG
  obtain ⟨n, rfl⟩ := Int.eq_ofNat_of_zero_le l1
  go_wp2_with fail
  go_loopw [3, 4] (fun u i wr => ∃ j : Nat, j ≤ n ∧ i = .int .i64 ((n : Int) - j) ∧ (∃ xs, OwnI 46 7 wr w.heap.size u j xs) ∧ (∃ q, q ≤ p + 1 + 8 * j ∧ Rdr W wr g q) ∧ w.grownBy wr (some g) ∧ w.heap.size < wr.heap.size) (fun _ i _ => (intOf i).toNat)
  case atStart => exact ⟨0, by omega, by simp, ⟨[], OW.out⟩, ⟨_, by omega, RD.out⟩, GR.out, z1⟩
  case round =>
    obtain ⟨j, hj, rfl, ⟨xs, hou⟩, ⟨q, hq, hrd⟩, hgr, hzr⟩ := hrel
    have OW := hid hou
    have RD := hid hrd
    have GR := hid hgr
    clear hou hrd hgr
    by_cases hlt : j < n
    · have hd : ((n : Int) - j > 0) := by omega
      go_wp2_with fail
      refine (drawRule_any W _ g q RD.out (by omega)).mono ?_
      rintro e w2 ⟨y0, y1, y2, y3, y4, y5, y6, rfl, ⟨q2, hq2, rd⟩, gr⟩
      have RD := hid rd
      have GR := hid (gtrans GR.out gr)
      have OW := hid (OW.out.grown gr (fun k hk => by simp at hk; subst hk; intro h; have := (OW.out.blk _ h).1; omega))
      have z2 : w.heap.size < w2.heap.size := Nat.lt_of_lt_of_le hzr gr.size
      clear rd gr
      obtain ⟨a, cap, hu, _⟩ := ownI_form OW.out
      subst hu
      go_wp2_with (at_builtin; go_must (refine wpList_append_lies _ (by rfl) _ _ 38 (by rfl) w.heap.size 46 ti (.agg #[.int .i64 0, .int .i64 0, .int .i64 0, .int .i64 0, .int .i64 0, .int .i64 0, .int .i64 0]) 7 56 Try.underlying38 hti htz hts htb rfl (by omega) _ j (xs.map (Value.int .i64)) (by rfl) (OW.out.alloc _) ⟨w2.heap.size, 0, none⟩ 1 1 ([y0, y1, y2, y3, y4, y5, y6].map (Value.int .i64)) (by rfl) rfl (news7 w2 [y0, y1, y2, y3, y4, y5, y6] 46) (by intro y hy; simp at hy; rcases hy with rfl | rfl | rfl | rfl | rfl | rfl | rfl <;> rfl) (by omega) (by unfold maxLen; omega) (by omega) (by simp; omega) (w2.heap.size + 1) (by simp) ?_))
      intro gg cap2 w4 ho2 hg2 hat hlt2
      have hown : ∀ k, (Value.slice a j cap).ownBlock = some k → w.heap.size ≤ k := fun k hk => (OW.out.blk k hk).1
      have G4 := hid (gown (galloc GR.out (.cells #[.int .i64 y0, .int .i64 y1, .int .i64 y2, .int .i64 y3, .int .i64 y4, .int .i64 y5, .int .i64 y6] 46)) hg2 (fun k hk => hown k hk))
      have RD4 := hid ((RD.out.keep (below_alloc1 w2 (.cells #[.int .i64 y0, .int .i64 y1, .int .i64 y2, .int .i64 y3, .int .i64 y4, .int .i64 y5, .int .i64 y6] 46))).grown hg2 (fun k hk => by have := hown k hk; omega))
      have z4 : w.heap.size < w4.heap.size := by have := hg2.size; simp at this; omega
      have O4 := hid (ownI_more (ys := [y0, y1, y2, y3, y4, y5, y6]) ho2)
      clear ho2 hg2 hat hlt2 GR RD OW
      go_wp2
      go_roundw
      case rel => exact ⟨j + 1, by omega, by go_num, ⟨_, O4.out⟩, ⟨q2, by omega, RD4.out⟩, G4.out, z4⟩
      case measure => simp [intOf]; omega
    · obtain rfl : j = n := by omega
      go_wp2
      go_ret
      exact ⟨_, j, xs, rfl, by omega, OW.out, ⟨q, by omega, RD.out⟩, GR.out⟩

set_option maxHeartbeats 4000000 in
theorem drawGuards_any (W w : World) (g p : Nat) (hr : Rdr W w g p) (hp : p < 970000) :
    Calls Try.prog 67 #[.pointer (some ⟨g, 0, none⟩)] w fun e w' => ∃ u n xs, e = .returned u ∧ n ≤ 5 ∧ OwnI 46 7 w' w.heap.size u n xs ∧ (∃ q, q ≤ p + 80 ∧ Rdr W w' g q) ∧ w.grownBy w' (some g) := by
  obtain ⟨ti, hti, htz, hts, htb⟩ := infoG
  have hg : g < w.heap.size := by
    obtain ⟨v, xs, _, _, _, h, _⟩ := hr
    exact World.block_lt_of_cell? w ⟨g, 0, none⟩ h
  have hWg : W.heap.size ≤ g := by obtain ⟨v, xs, _, _, h, _⟩ := hr; exact h
  have RD := hid hr
  clear hr
  go_enter Try.func67, Try.ntmps67
  go_wp2_with fail
  refine (drawGuard_any W _ g p RD.out (by omega)).mono ?_
  rintro e w1 ⟨u1, n1, xs1, rfl, hn1, ow, ⟨q1, hq1, rd⟩, gr⟩
  have RD := hid rd
  have GR := hid gr
  have OW := hid ow
  have z1 : w.heap.size ≤ w1.heap.size := gr.size
  clear rd gr ow
  go_wp2_with fail
  refine (pick_h 12 W _ g q1 RD.out (by omega) (by omega) (by omega)).mono ?_
  rintro e w2 ⟨x2, rfl, l2, u2, RD, HC, HZ, HG⟩
  have GR := hid (gtrans GR.out HG.out)
  have OW := hid (OW.out.grown HG.out (fun k hk => by simp at hk; subst hk; intro h; have := (OW.out.blk _ h).1; omega))
  have z2 : w.heap.size ≤ w2.heap.size := by have := HZ.out; omega
  clear HC HZ HG
  go_upto_if 8 with fail
  go_cut [3] (fun u wx => ∃ n xs, n ≤ 5 ∧ OwnI 46 7 wx w.heap.size u n xs ∧ (∃ q, q ≤ p + 70 ∧ Rdr W wx g q) ∧ w.grownBy wx (some g))
  case first =>
    by_cases e2 : x2 = 0
    · subst e2
      go_wp2_with fail
      go_loopw [3] (fun u wr => ∃ j xs, j ≤ 5 ∧ OwnI 46 7 wr w.heap.size u j xs ∧ (∃ q, q ≤ p + 26 + 8 * j ∧ Rdr W wr g q) ∧ w.grownBy wr (some g) ∧ w.heap.size ≤ wr.heap.size) (fun u _ => 5 - slen u)
      case atStart => exact ⟨n1, xs1, by omega, OW.out, ⟨_, by omega, RD.out⟩, GR.out, z2⟩
      case round =>
        obtain ⟨j, xs, hj, hou, ⟨q, hq, hrd⟩, hgr, hzr⟩ := hrel
        clear OW RD GR
        have OW := hid hou
        have RD := hid hrd
        have GR := hid hgr
        clear hou hrd hgr
        obtain ⟨a, cap, hu, _⟩ := ownI_form OW.out
        subst hu
        by_cases hlt : j ≤ 4
        · go_wp2_with fail
          refine (drawRule_any W _ g q RD.out (by omega)).mono ?_
          rintro e w3 ⟨y0, y1, y2, y3, y4, y5, y6, rfl, ⟨q2, hq2, rd⟩, gr⟩
          have RD := hid rd
          have GR := hid (gtrans GR.out gr)
          have OW := hid (OW.out.grown gr (fun k hk => by simp at hk; subst hk; intro h; have := (OW.out.blk _ h).1; omega))
          have z3 : w.heap.size ≤ w3.heap.size := Nat.le_trans hzr gr.size
          clear rd gr
          go_wp2_with (at_builtin; go_must (refine wpList_append_lies _ (by rfl) _ _ 38 (by rfl) w.heap.size 46 ti (.agg #[.int .i64 0, .int .i64 0, .int .i64 0, .int .i64 0, .int .i64 0, .int .i64 0, .int .i64 0]) 7 56 Try.underlying38 hti htz hts htb rfl (by omega) _ j (xs.map (Value.int .i64)) (by rfl) (OW.out.alloc _) ⟨w3.heap.size, 0, none⟩ 1 1 ([y0, y1, y2, y3, y4, y5, y6].map (Value.int .i64)) (by rfl) rfl (news7 w3 [y0, y1, y2, y3, y4, y5, y6] 46) (by intro y hy; simp at hy; rcases hy with rfl | rfl | rfl | rfl | rfl | rfl | rfl <;> rfl) (by omega) (by unfold maxLen; omega) (by omega) (by simp; omega) (w3.heap.size + 1) (by simp) ?_))
          intro gg cap2 w4 ho2 hg2 hat hlt2
          have hown : ∀ k, (Value.slice a j cap).ownBlock = some k → w.heap.size ≤ k := fun k hk => (OW.out.blk k hk).1
          have G4 := hid (gown (galloc GR.out (.cells #[.int .i64 y0, .int .i64 y1, .int .i64 y2, .int .i64 y3, .int .i64 y4, .int .i64 y5, .int .i64 y6] 46)) hg2 (fun k hk => hown k hk))
          have RD4 := hid ((RD.out.keep (below_alloc1 w3 (.cells #[.int .i64 y0, .int .i64 y1, .int .i64 y2, .int .i64 y3, .int .i64 y4, .int .i64 y5, .int .i64 y6] 46))).grown hg2 (fun k hk => by have := hown k hk; omega))
          have z4 : w.heap.size ≤ w4.heap.size := by have := hg2.size; simp at this; omega
          have O4 := hid (ownI_more (ys := [y0, y1, y2, y3, y4, y5, y6]) ho2)
          clear ho2 hg2 hat hlt2 GR RD OW
          go_wp2
          go_roundw
          case rel => exact ⟨_, _, _, _, _, _, _, _, _, ⟨j + 1, _, by omega, O4.out, ⟨q2, by omega, RD4.out⟩, G4.out, z4⟩, rfl⟩
          case measure => simp [slen]; omega
        · go_wp2_with fail
          go_meet
          case rel => exact ⟨j, xs, by omega, OW.out, ⟨q, by omega, RD.out⟩, GR.out⟩
    · have d2 : (x2 == 0) = false := by simpa using e2
      go_wp2_with fail
      go_meet
      case rel => exact ⟨n1, xs1, by omega, OW.out, ⟨_, by omega, RD.out⟩, GR.out⟩
  case rest =>
    obtain ⟨n, xs, hn, ow, ⟨q, hq, rd⟩, gr⟩ := hcut
    clear OW RD GR
    have OW := hid ow
    have RD := hid rd
    have GR := hid gr
    have zc : w.heap.size ≤ wc.heap.size := gr.size
    obtain ⟨a, cap, hu, hz⟩ := ownI_form ow
    subst hu
    have hl := ow.len
    clear ow rd gr
    by_cases h0 : n = 0
    · subst h0
      clear hl hz
      go_wp2
      go_ret
      exact ⟨_, 0, xs, rfl, by omega, OW.out, ⟨q, by omega, RD.out⟩, GR.out⟩
    · obtain ⟨gb, rfl⟩ : ∃ gb, a = some ⟨gb, 0, none⟩ := by
        rcases hz with h | h
        · exact absurd h h0
        · exact h
      clear hz
      have hl' : 7 ≤ xs.length := by omega
      have hgb : w.heap.size ≤ gb := (ownI_cell OW.out (i := 0) (by omega)).2.2.1
      have hgbg : g < gb := by omega

      obtain ⟨c0, f0, _, _⟩ := ownI_cell OW.out (i := 0) (by omega)
      generalize xs.getD 0 0 = y0 at c0
      obtain ⟨c1, f1, _, _⟩ := ownI_cell OW.out (i := 1) (by omega)
      generalize xs.getD 1 0 = y1 at c1
      obtain ⟨c2, f2, _, _⟩ := ownI_cell OW.out (i := 2) (by omega)
      generalize xs.getD 2 0 = y2 at c2
      obtain ⟨c3, f3, _, _⟩ := ownI_cell OW.out (i := 3) (by omega)
      generalize xs.getD 3 0 = y3 at c3
      obtain ⟨c4, f4, _, _⟩ := ownI_cell OW.out (i := 4) (by omega)
      generalize xs.getD 4 0 = y4 at c4
      obtain ⟨c5, f5, _, _⟩ := ownI_cell OW.out (i := 5) (by omega)
      generalize xs.getD 5 0 = y5 at c5
      obtain ⟨c6, f6, _, _⟩ := ownI_cell OW.out (i := 6) (by omega)
      generalize xs.getD 6 0 = y6 at c6
      have hn0 : (0 : Int) < (n : Int) := by omega
      clear hl
      go_wp2_with fail
      refine (drawBad_any W _ g q y0 y1 y2 y3 y4 y5 y6 RD.out (by omega)).mono ?_
      rintro e w5 ⟨z0, z1, z2, z3, z4, z5, z6, rfl, ⟨q5, hq5, rd⟩, gr⟩
      have RD := hid rd
      have GR := hid (gtrans GR.out gr)
      have OW := hid (OW.out.grown gr (fun k hk => by simp at hk; subst hk; simp [Value.ownBlock]; omega))
      clear rd gr c0 c1 c2 c3 c4 c5 c6 f0 f1 f2 f3 f4 f5 f6
      obtain ⟨c0, f0, _, _⟩ := ownI_cell OW.out (i := 0) (by omega)
      generalize xs.getD 0 0 = v0 at c0
      obtain ⟨c1, f1, _, _⟩ := ownI_cell OW.out (i := 1) (by omega)
      generalize xs.getD 1 0 = v1 at c1
      obtain ⟨c2, f2, _, _⟩ := ownI_cell OW.out (i := 2) (by omega)
      generalize xs.getD 2 0 = v2 at c2
      obtain ⟨c3, f3, _, _⟩ := ownI_cell OW.out (i := 3) (by omega)
      generalize xs.getD 3 0 = v3 at c3
      obtain ⟨c4, f4, _, _⟩ := ownI_cell OW.out (i := 4) (by omega)
      generalize xs.getD 4 0 = v4 at c4
      obtain ⟨c5, f5, _, _⟩ := ownI_cell OW.out (i := 5) (by omega)
      generalize xs.getD 5 0 = v5 at c5
      obtain ⟨c6, f6, _, _⟩ := ownI_cell OW.out (i := 6) (by omega)
      generalize xs.getD 6 0 = v6 at c6
      have O5 := hid (ownI_set (ownI_set (ownI_set (ownI_set (ownI_set (ownI_set (ownI_set OW.out (i := 0) (y := z0) (by first | omega | (simp; omega))) (i := 1) (y := z1) (by first | omega | (simp; omega))) (i := 2) (y := z2) (by first | omega | (simp; omega))) (i := 3) (y := z3) (by first | omega | (simp; omega))) (i := 4) (y := z4) (by first | omega | (simp; omega))) (i := 5) (y := z5) (by first | omega | (simp; omega))) (i := 6) (y := z6) (by first | omega | (simp; omega)))
      have G5 := hid (seven_gset (.int .i64 z0) (.int .i64 z1) (.int .i64 z2) (.int .i64 z3) (.int .i64 z4) (.int .i64 z5) (.int .i64 z6) GR.out hgb)
      have R5 := hid (seven_rdr (.int .i64 z0) (.int .i64 z1) (.int .i64 z2) (.int .i64 z3) (.int .i64 z4) (.int .i64 z5) (.int .i64 z6) RD.out hgbg)
      clear OW
      go_wp2
      go_ret
      exact ⟨_, n, _, rfl, by omega, O5.out, ⟨q5, by omega, R5.out⟩, G5.out⟩

set_option maxHeartbeats 4000000 in
theorem drawGrdDo_any (a : Option Addr) (len cap : Nat) (zs : List Int) (w : World) (hn : zs.length = len) (hv : Rd w (.slice a len cap) zs) (hcap : len ≤ cap) :
    Calls Try.prog 28 #[.slice a len cap] w fun e w' => ∃ (u v : Value) (n : Nat) (xs ms : List Int), e = .returned (.tuple #[u, v]) ∧ n ≤ 5 ∧ ms.length ≤ 9 ∧ OwnI 46 7 w' w.heap.size u n xs ∧ Own w' w.heap.size v ms ∧ Below w.heap.size w w' := by
  have HV := hid hv
  clear hv
  go_enter Try.func28, Try.ntmps28
  go_wp2_with fail
  refine (open_any a len cap zs _ hn HV.out hcap).mono ?_
  rintro e w0 ⟨rfl, rd, bl, hz⟩
  have RD := hid rd
  have B0 := hid bl
  have z0 : w.heap.size < w0.heap.size := by omega
  clear rd bl HV hz
  go_wp2_with fail
  refine (drawGuards_any w _ w.heap.size 0 RD.out (by omega)).mono ?_
  rintro e w1 ⟨u, n, xs, rfl, hn5, ow, ⟨q, hq, rd⟩, gr⟩
  have RD := hid rd
  have OW := hid ow
  have B1 := hid (B0.out.trans (below_grown' (n := w.heap.size) gr (by omega) (by omega)))
  have z1 : w.heap.size < w1.heap.size := Nat.lt_of_lt_of_le z0 gr.size
  clear rd ow gr B0
  go_wp2_with fail
  refine (drawMessage_any w _ w.heap.size q RD.out (by omega)).mono ?_
  rintro e w2 ⟨v, ms, rfl, hms, o2, _, gr⟩
  have B2 := hid (B1.out.trans (below_grown' (n := w.heap.size) gr (by omega) (by omega)))
  have O2 := hid (o2.low (B' := w.heap.size) (by omega))
  have OW := hid ((OW.out.grown gr (fun k hk => by simp at hk; subst hk; intro h; have := (OW.out.blk _ h).1; omega)).low (B' := w.heap.size) (by omega))
  clear o2 gr B1
  go_wp2
  refine bodyPost_ret (v := .tuple #[u, v]) (by simp [results, Try.results28, go_sem]) rfl ?_
  exact ⟨u, v, n, xs, ms, rfl, hn5, hms, OW.out, O2.out, B2.out⟩

end Go.Proofs.Ytlkmooefebenlaa
