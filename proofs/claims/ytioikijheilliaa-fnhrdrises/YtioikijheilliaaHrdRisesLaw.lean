/- Of each node the latest life, whatever the order: two drawn hellos leave the same in either order, and nothing earlier than was there. No conditions. -/
import Derived.Test.YtioikijheilliaaDrawHear
import Derived.Test.YtioikijheilliaaHrdPure
import Derived.Test.YtioikijheilliaaHrdHearS
import Derived.Test.YtioikijheilliaaHrdNewC
import Derived.Test.YtioikijheilliaaRegBw
import Derived.Deep.DeepCutAuto
namespace Go.Proofs.Ytioikijheilliaa.fnHrdRises
open Go.ChangeShapes Go.WideShapes Go.ChangeAt Go.RowKit Go.Joins Go.Deep
set_option linter.unusedVariables false
set_option maxRecDepth 4000
theorem cap_ofR {w : World} {a : Option Addr} {len cap : Nat} {zs : List Int} (h : IsRow .u8 w a len cap zs) : len ≤ cap := by
  rcases h with ⟨_, rfl, rfl, _⟩ | ⟨_, _, h1, _⟩
  · exact Nat.le_refl _
  · exact h1
theorem maxR {w : World} {a : Option Addr} {len cap : Nat} {zs : List Int} (h : IsRow .u8 w a len cap zs) : (len : Int) ≤ 9223372036854775807 := by
  rcases h with ⟨_, h, _⟩ | ⟨_, _, h, h', _⟩
  · omega
  · unfold maxLen at h'; omega
theorem ldS {b o : Nat} {a : Option Addr} {l c : Nat} (w : World) (h : w.cell? ⟨b, o, none⟩ = some (.slice a l c)) : (Instr.loadAt 42 (.pointer (some ⟨b, o, none⟩))).run Try.prog w = .ok (.slice a l c) w := by
  go_simp
theorem ldI {b o : Nat} {x : Int} (w : World) (h : w.cell? ⟨b, o, none⟩ = some (.int .i64 x)) : (Instr.loadAt 3 (.pointer (some ⟨b, o, none⟩))).run Try.prog w = .ok (.int .i64 x) w := by
  go_simp
theorem ixS {b f n c i : Nat} (h0 : (0 : Int) ≤ (i : Int)) (h1 : (i : Int) < (n : Int)) (w : World) : (Instr.indexAt 42 (.slice (some ⟨b, f, none⟩) n c) (.int .i64 (i : Int))).run Try.prog w = .ok (.pointer (some ⟨b, f + i, none⟩)) w := by
  go_simp
set_option maxHeartbeats 16000000 in
theorem walk (a0 : Option Addr) (len0 cap0 : Nat) (z0 : List Int) (a1 : Option Addr) (len1 cap1 : Nat) (z1 : List Int) (w : World) (k0 : IsRow .u8 w a0 len0 cap0 z0) (k1 : IsRow .u8 w a1 len1 cap1 z1) :
    Calls Try.prog 6 #[.slice a0 len0 cap0, .slice a1 len1 cap1] w fun e w' => e = .returned (.bool true) ∧ Below w.heap.size w w' := by
  have m0 := maxR k0
  have m1 := maxR k1
  by_cases hl0 : len0 ≤ 1048576
  · by_cases hl1 : len1 ≤ 1048576
    · have hl0' : (len0 : Int) ≤ 1048576 := by omega
      have hl1' : (len1 : Int) ≤ 1048576 := by omega
      have d0 : decide ((1048576 : Int) < (len0 : Int)) = false := by simp; omega
      have d1 : decide ((1048576 : Int) < (len1 : Int)) = false := by simp; omega
      obtain ⟨xs0, hx0, r0⟩ := k0.rd hl0
      obtain ⟨xs1, hx1, r1⟩ := k1.rd hl1
      have hc0 := cap_ofR k0
      have hc1 := cap_ofR k1
      have R1 := hid r1
      clear k0 k1 r1
      go_enter Try.func6, Try.ntmps6
      go_wp2_with fail
      refine (drawHrdHear_any a0 len0 cap0 xs0 w hx0 r0 hc0).mono ?_
      rintro e w1 ⟨u, v, n, m, xs, ys, node, boot, seq, rfl, ru, rv, b1⟩
      have RU := hid ru
      have RV := hid rv
      obtain ⟨lx, nn, p1, cp1, rfl, _⟩ := ru
      obtain ⟨ly, mm, p2, cp2, rfl, _⟩ := rv
      rw [Nat.mul_one] at lx ly
      have PP := hid b1
      have R1 := hid (R1.out.keep b1)
      clear b1 r0 hc0 hx0
      have RU := hid (RU.out.keep (below_alloc1 w1 (.cells #[.slice p1 n cp1, .slice p2 m cp2] 44)))
      have RV := hid (RV.out.keep (below_alloc1 w1 (.cells #[.slice p1 n cp1, .slice p2 m cp2] 44)))
      have R1 := hid (R1.out.keep (below_alloc1 w1 (.cells #[.slice p1 n cp1, .slice p2 m cp2] 44)))
      have PP := hid (PP.out.alloc PP.out.size (.cells #[.slice p1 n cp1, .slice p2 m cp2] 44))
      have V5 := hid (vb_new w1 [.slice p1 n cp1, .slice p2 m cp2] 44)
      go_wp2_with fail
      refine (drawHrdHear_any a1 len1 cap1 xs1 _ hx1 R1.out hc1).mono ?_
      rintro e w2 ⟨u', v', n', m', xs', ys', other, life, num, rfl, ru, rv, b2⟩
      obtain ⟨_, _, p3, cp3, rfl, _⟩ := ru
      obtain ⟨_, _, p4, cp4, rfl, _⟩ := rv
      have RU := hid (RU.out.keep b2)
      have RV := hid (RV.out.keep b2)
      have R1 := hid (R1.out.keep b2)
      have V5 := hid (V5.out.keep b2)
      have PP := hid (PP.out.trans (b2.mono PP.out.size))
      clear b2
      clear R1 hc1 hx1
      have RU := hid (RU.out.keep (below_alloc1 w2 (.cells #[.slice p3 n' cp3, .slice p4 m' cp4] 44)))
      have RV := hid (RV.out.keep (below_alloc1 w2 (.cells #[.slice p3 n' cp3, .slice p4 m' cp4] 44)))
      have V5 := hid (V5.out.keep (below_alloc1 w2 (.cells #[.slice p3 n' cp3, .slice p4 m' cp4] 44)))
      have PP := hid (PP.out.alloc PP.out.size (.cells #[.slice p3 n' cp3, .slice p4 m' cp4] 44))
      have V9 := hid (vb_new w2 [.slice p3 n' cp3, .slice p4 m' cp4] 44)
      clear V9
      obtain ⟨x0a, x0b⟩ := vb2 V5.out
      go_wp2_with fail
      clear x0a x0b
      cases hok : hOk n xs m ys node boot seq
      · obtain ⟨e1, e2, e3, e4⟩ := h_no hok
        have E1 := hid (And.intro e1 (And.intro e2 (And.intro e3 e4)))
        clear e1 e2 e3 e4 hok
        refine (hrdHear_any _ _ n m xs ys node boot seq _ RU.out RV.out).mono ?_
        rw [E1.out.1, E1.out.2.1, E1.out.2.2.1, E1.out.2.2.2]
        rintro e w3 ⟨u, v, rfl, o1, o2, _, b3⟩
        obtain ⟨a13, ca13, rfl, _⟩ := ownI_form o1
        obtain ⟨d13, cd13, rfl, _⟩ := ownI_form o2
        have RX13 := hid (o1.rd (by omega))
        have RY13 := hid (o2.rd (by omega))
        clear o1 o2
        have RU := hid (RU.out.keep b3)
        have RV := hid (RV.out.keep b3)
        have V5 := hid (V5.out.keep b3)
        have PP := hid (PP.out.trans (b3.mono PP.out.size))
        clear b3
        have RU := hid (RU.out.keep (below_alloc1 w3 (.cells #[.slice a13 0 ca13, .slice d13 0 cd13] 44)))
        have RV := hid (RV.out.keep (below_alloc1 w3 (.cells #[.slice a13 0 ca13, .slice d13 0 cd13] 44)))
        have V5 := hid (V5.out.keep (below_alloc1 w3 (.cells #[.slice a13 0 ca13, .slice d13 0 cd13] 44)))
        have RX13 := hid (RX13.out.keep (below_alloc1 w3 (.cells #[.slice a13 0 ca13, .slice d13 0 cd13] 44)))
        have RY13 := hid (RY13.out.keep (below_alloc1 w3 (.cells #[.slice a13 0 ca13, .slice d13 0 cd13] 44)))
        have PP := hid (PP.out.alloc PP.out.size (.cells #[.slice a13 0 ca13, .slice d13 0 cd13] 44))
        have V13 := hid (vb_new w3 [.slice a13 0 ca13, .slice d13 0 cd13] 44)
        obtain ⟨x0a, x0b⟩ := vb2 V5.out
        go_wp2_with fail
        clear x0a x0b
        refine (specHear_any _ _ n m xs ys node boot seq _ RU.out RV.out).mono ?_
        rw [E1.out.1, E1.out.2.1, E1.out.2.2.1, E1.out.2.2.2]
        rintro e w4 ⟨u, v, rfl, o1, o2, _, b4⟩
        obtain ⟨a15, ca15, rfl, _⟩ := ownI_form o1
        obtain ⟨d15, cd15, rfl, _⟩ := ownI_form o2
        have RX15 := hid (o1.rd (by omega))
        have RY15 := hid (o2.rd (by omega))
        clear o1 o2
        have RU := hid (RU.out.keep b4)
        have RV := hid (RV.out.keep b4)
        have V5 := hid (V5.out.keep b4)
        have RX13 := hid (RX13.out.keep b4)
        have RY13 := hid (RY13.out.keep b4)
        have V13 := hid (V13.out.keep b4)
        have PP := hid (PP.out.trans (b4.mono PP.out.size))
        clear b4
        have RU := hid (RU.out.keep (below_alloc1 w4 (.cells #[.slice a15 0 ca15, .slice d15 0 cd15] 44)))
        have RV := hid (RV.out.keep (below_alloc1 w4 (.cells #[.slice a15 0 ca15, .slice d15 0 cd15] 44)))
        have V5 := hid (V5.out.keep (below_alloc1 w4 (.cells #[.slice a15 0 ca15, .slice d15 0 cd15] 44)))
        have RX13 := hid (RX13.out.keep (below_alloc1 w4 (.cells #[.slice a15 0 ca15, .slice d15 0 cd15] 44)))
        have RY13 := hid (RY13.out.keep (below_alloc1 w4 (.cells #[.slice a15 0 ca15, .slice d15 0 cd15] 44)))
        have V13 := hid (V13.out.keep (below_alloc1 w4 (.cells #[.slice a15 0 ca15, .slice d15 0 cd15] 44)))
        have RX15 := hid (RX15.out.keep (below_alloc1 w4 (.cells #[.slice a15 0 ca15, .slice d15 0 cd15] 44)))
        have RY15 := hid (RY15.out.keep (below_alloc1 w4 (.cells #[.slice a15 0 ca15, .slice d15 0 cd15] 44)))
        have PP := hid (PP.out.alloc PP.out.size (.cells #[.slice a15 0 ca15, .slice d15 0 cd15] 44))
        have V15 := hid (vb_new w4 [.slice a15 0 ca15, .slice d15 0 cd15] 44)
        obtain ⟨x0a, x0b⟩ := vb2 V13.out
        obtain ⟨x1a, x1b⟩ := vb2 V15.out
        go_wp2_with fail
        clear x0a x0b x1a x1b
        refine (caInts_same _ _ 0 _ _ RX13.out RX15.out).mono ?_
        rintro e w5 ⟨rfl, b5⟩
        have RU := hid (RU.out.keep b5)
        have RV := hid (RV.out.keep b5)
        have V5 := hid (V5.out.keep b5)
        have RX13 := hid (RX13.out.keep b5)
        have RY13 := hid (RY13.out.keep b5)
        have V13 := hid (V13.out.keep b5)
        have RX15 := hid (RX15.out.keep b5)
        have RY15 := hid (RY15.out.keep b5)
        have V15 := hid (V15.out.keep b5)
        have PP := hid (PP.out.trans (b5.mono PP.out.size))
        clear b5
        obtain ⟨x0a, x0b⟩ := vb2 V13.out
        obtain ⟨x1a, x1b⟩ := vb2 V15.out
        go_wp2_with fail
        clear x0a x0b x1a x1b
        refine (caInts_same _ _ 0 _ _ RY13.out RY15.out).mono ?_
        rintro e w6 ⟨rfl, b6⟩
        have RU := hid (RU.out.keep b6)
        have RV := hid (RV.out.keep b6)
        have V5 := hid (V5.out.keep b6)
        have RX13 := hid (RX13.out.keep b6)
        have RY13 := hid (RY13.out.keep b6)
        have V13 := hid (V13.out.keep b6)
        have RX15 := hid (RX15.out.keep b6)
        have RY15 := hid (RY15.out.keep b6)
        have V15 := hid (V15.out.keep b6)
        have PP := hid (PP.out.trans (b6.mono PP.out.size))
        clear b6
        have HN := hid (show nwK 2 = 2 by decide)
        obtain ⟨x0a, x0b⟩ := vb2 V13.out
        go_wp2_with fail
        clear x0a x0b
        refine (hrdNew_any 2 _).mono ?_
        rw [HN.out]
        rintro e w7 ⟨u, v, rfl, o1, o2, _, b7⟩
        have RU := hid (RU.out.keep b7)
        have RV := hid (RV.out.keep b7)
        have V5 := hid (V5.out.keep b7)
        have RX13 := hid (RX13.out.keep b7)
        have RY13 := hid (RY13.out.keep b7)
        have V13 := hid (V13.out.keep b7)
        have RX15 := hid (RX15.out.keep b7)
        have RY15 := hid (RY15.out.keep b7)
        have V15 := hid (V15.out.keep b7)
        have PP := hid (PP.out.trans (b7.mono PP.out.size))
        clear b7
        go_wp2_with fail
        refine (hrdOk_any _ _ 2 2 _ _ _ (o1.rd (by omega)) (o2.rd (by omega))).mono ?_
        rw [show bookB 2 (List.replicate 2 0) 2 (List.replicate 2 0) = true by decide]
        rintro e w8 ⟨rfl, b8⟩
        have RU := hid (RU.out.keep b8)
        have RV := hid (RV.out.keep b8)
        have V5 := hid (V5.out.keep b8)
        have RX13 := hid (RX13.out.keep b8)
        have RY13 := hid (RY13.out.keep b8)
        have V13 := hid (V13.out.keep b8)
        have RX15 := hid (RX15.out.keep b8)
        have RY15 := hid (RY15.out.keep b8)
        have V15 := hid (V15.out.keep b8)
        have PP := hid (PP.out.trans (b8.mono PP.out.size))
        clear b8
        go_wp2
        go_ret
        exact ⟨rfl, PP.out⟩
      · have hk2 := hok
        simp only [hOk, Bool.and_eq_true] at hk2
        obtain ⟨⟨n1, n4⟩, hmn, _, _⟩ := book_at lx ly hk2.1
        have RUs := RU
        have RVs := RV
        have V5s := V5
        have PPs := PP
        obtain rfl : n = m := hmn.symm
        have RU := RUs
        have RV := RVs
        have V5 := V5s
        have PP := PPs
        clear RUs RVs V5s PPs
        have hnode : 0 ≤ node ∧ node ≤ (n : Int) - 1 := by simpa [inB] using hk2.2.1
        have HBK := hid hk2.1
        obtain ⟨i, rfl⟩ := Int.eq_ofNat_of_zero_le hnode.1
        obtain ⟨hi, y1, y2, y3, y4⟩ := h_yes lx ly hok
        have hbk := book_heard lx ly hok
        have HOK := hid hok
        obtain ⟨X, hX⟩ : ∃ X, xs.set i (Hb (xs.getD i 0) (ys.getD i 0) boot seq) = X := ⟨_, rfl⟩
        obtain ⟨Y, hY⟩ : ∃ Y, ys.set i (Hs (xs.getD i 0) (ys.getD i 0) boot seq) = Y := ⟨_, rfl⟩
        rw [hX] at y3 hbk
        rw [hY] at y4 hbk
        have HXY := hid (And.intro hX hY)
        obtain ⟨c, hc⟩ : ∃ c, cdH (xs.getD i 0) (ys.getD i 0) boot seq = c := ⟨_, rfl⟩
        rw [hc] at y2
        have c3 := cd_cases (xs.getD i 0) (ys.getD i 0) boot seq
        rw [hc] at c3
        have dc : (c == 0) = false := by simp; omega
        have dcc : (c != c) = false := by simp
        have HB2 := hid hbk
        have lX : X.length = n := by rw [← hX]; simpa using lx
        have lY : Y.length = n := by rw [← hY]; simpa using ly
        have E1 := hid (And.intro y2 (And.intro y1 (And.intro y3 y4)))
        have HH := hid (show Hb (xs.getD i 0) (ys.getD i 0) boot seq = X.getD i 0 ∧ Hs (xs.getD i 0) (ys.getD i 0) boot seq = Y.getD i 0 from ⟨by rw [← hX]; simp [lx, hi], by rw [← hY]; simp [ly, hi]⟩)
        clear hX hY hc c3 hbk y1 y2 y3 y4 hk2 hok hmn hnode
        refine (hrdHear_any _ _ n n xs ys (i : Int) boot seq _ RU.out RV.out).mono ?_
        rw [E1.out.1, E1.out.2.1, E1.out.2.2.1, E1.out.2.2.2]
        rintro e w3 ⟨u, v, rfl, o1, o2, _, b3⟩
        obtain ⟨a13, ca13, rfl, _⟩ := ownI_form o1
        obtain ⟨d13, cd13, rfl, _⟩ := ownI_form o2
        have RX13 := hid (o1.rd (by omega))
        have RY13 := hid (o2.rd (by omega))
        clear o1 o2
        have RU := hid (RU.out.keep b3)
        have RV := hid (RV.out.keep b3)
        have V5 := hid (V5.out.keep b3)
        have PP := hid (PP.out.trans (b3.mono PP.out.size))
        clear b3
        have RU := hid (RU.out.keep (below_alloc1 w3 (.cells #[.slice a13 n ca13, .slice d13 n cd13] 44)))
        have RV := hid (RV.out.keep (below_alloc1 w3 (.cells #[.slice a13 n ca13, .slice d13 n cd13] 44)))
        have V5 := hid (V5.out.keep (below_alloc1 w3 (.cells #[.slice a13 n ca13, .slice d13 n cd13] 44)))
        have RX13 := hid (RX13.out.keep (below_alloc1 w3 (.cells #[.slice a13 n ca13, .slice d13 n cd13] 44)))
        have RY13 := hid (RY13.out.keep (below_alloc1 w3 (.cells #[.slice a13 n ca13, .slice d13 n cd13] 44)))
        have PP := hid (PP.out.alloc PP.out.size (.cells #[.slice a13 n ca13, .slice d13 n cd13] 44))
        have V13 := hid (vb_new w3 [.slice a13 n ca13, .slice d13 n cd13] 44)
        obtain ⟨x0a, x0b⟩ := vb2 V5.out
        go_wp2_with fail
        clear x0a x0b
        refine (specHear_any _ _ n n xs ys (i : Int) boot seq _ RU.out RV.out).mono ?_
        rw [E1.out.1, E1.out.2.1, E1.out.2.2.1, E1.out.2.2.2]
        rintro e w4 ⟨u, v, rfl, o1, o2, _, b4⟩
        obtain ⟨a15, ca15, rfl, _⟩ := ownI_form o1
        obtain ⟨d15, cd15, rfl, _⟩ := ownI_form o2
        have RX15 := hid (o1.rd (by omega))
        have RY15 := hid (o2.rd (by omega))
        clear o1 o2
        have RU := hid (RU.out.keep b4)
        have RV := hid (RV.out.keep b4)
        have V5 := hid (V5.out.keep b4)
        have RX13 := hid (RX13.out.keep b4)
        have RY13 := hid (RY13.out.keep b4)
        have V13 := hid (V13.out.keep b4)
        have PP := hid (PP.out.trans (b4.mono PP.out.size))
        clear b4
        have RU := hid (RU.out.keep (below_alloc1 w4 (.cells #[.slice a15 n ca15, .slice d15 n cd15] 44)))
        have RV := hid (RV.out.keep (below_alloc1 w4 (.cells #[.slice a15 n ca15, .slice d15 n cd15] 44)))
        have V5 := hid (V5.out.keep (below_alloc1 w4 (.cells #[.slice a15 n ca15, .slice d15 n cd15] 44)))
        have RX13 := hid (RX13.out.keep (below_alloc1 w4 (.cells #[.slice a15 n ca15, .slice d15 n cd15] 44)))
        have RY13 := hid (RY13.out.keep (below_alloc1 w4 (.cells #[.slice a15 n ca15, .slice d15 n cd15] 44)))
        have V13 := hid (V13.out.keep (below_alloc1 w4 (.cells #[.slice a15 n ca15, .slice d15 n cd15] 44)))
        have RX15 := hid (RX15.out.keep (below_alloc1 w4 (.cells #[.slice a15 n ca15, .slice d15 n cd15] 44)))
        have RY15 := hid (RY15.out.keep (below_alloc1 w4 (.cells #[.slice a15 n ca15, .slice d15 n cd15] 44)))
        have PP := hid (PP.out.alloc PP.out.size (.cells #[.slice a15 n ca15, .slice d15 n cd15] 44))
        have V15 := hid (vb_new w4 [.slice a15 n ca15, .slice d15 n cd15] 44)
        obtain ⟨x0a, x0b⟩ := vb2 V13.out
        obtain ⟨x1a, x1b⟩ := vb2 V15.out
        go_wp2_with fail
        clear x0a x0b x1a x1b
        refine (caInts_same _ _ n _ _ RX13.out RX15.out).mono ?_
        rintro e w5 ⟨rfl, b5⟩
        have RU := hid (RU.out.keep b5)
        have RV := hid (RV.out.keep b5)
        have V5 := hid (V5.out.keep b5)
        have RX13 := hid (RX13.out.keep b5)
        have RY13 := hid (RY13.out.keep b5)
        have V13 := hid (V13.out.keep b5)
        have RX15 := hid (RX15.out.keep b5)
        have RY15 := hid (RY15.out.keep b5)
        have V15 := hid (V15.out.keep b5)
        have PP := hid (PP.out.trans (b5.mono PP.out.size))
        clear b5
        obtain ⟨x0a, x0b⟩ := vb2 V13.out
        obtain ⟨x1a, x1b⟩ := vb2 V15.out
        go_wp2_with fail
        clear x0a x0b x1a x1b
        refine (caInts_same _ _ n _ _ RY13.out RY15.out).mono ?_
        rintro e w6 ⟨rfl, b6⟩
        have RU := hid (RU.out.keep b6)
        have RV := hid (RV.out.keep b6)
        have V5 := hid (V5.out.keep b6)
        have RX13 := hid (RX13.out.keep b6)
        have RY13 := hid (RY13.out.keep b6)
        have V13 := hid (V13.out.keep b6)
        have RX15 := hid (RX15.out.keep b6)
        have RY15 := hid (RY15.out.keep b6)
        have V15 := hid (V15.out.keep b6)
        have PP := hid (PP.out.trans (b6.mono PP.out.size))
        clear b6
        go_upto_region 11 with fail
        go_cut [128] (fun t wx => t = .bool false ∧ Below w6.heap.size w6 wx)
        case first =>
          have RX13z := RX13
          have RY13z := RY13
          have RUz := RU
          have RVz := RV
          have V13z := V13
          have V5z := V5
          obtain ⟨_, _, _, _, hgx, jgx⟩ := RX13z.out
          simp only [Value.slice.injEq, true_and] at hgx
          obtain ⟨rfl, rfl⟩ := hgx
          rcases jgx with jgx | ⟨bgx, fgx, rfl, jgx⟩
          · omega
          have kgx := jgx i (by omega)
          clear jgx
          obtain ⟨_, _, _, _, hgy, jgy⟩ := RY13z.out
          simp only [Value.slice.injEq, true_and] at hgy
          obtain ⟨rfl, rfl⟩ := hgy
          rcases jgy with jgy | ⟨bgy, fgy, rfl, jgy⟩
          · omega
          have kgy := jgy i (by omega)
          clear jgy
          obtain ⟨_, _, _, _, hgu, jgu⟩ := RUz.out
          simp only [Value.slice.injEq, true_and] at hgu
          obtain ⟨rfl, rfl⟩ := hgu
          rcases jgu with jgu | ⟨bgu, fgu, rfl, jgu⟩
          · omega
          have kgu := jgu i (by omega)
          clear jgu
          obtain ⟨_, _, _, _, hgv, jgv⟩ := RVz.out
          simp only [Value.slice.injEq, true_and] at hgv
          obtain ⟨rfl, rfl⟩ := hgv
          rcases jgv with jgv | ⟨bgv, fgv, rfl, jgv⟩
          · omega
          have kgv := jgv i (by omega)
          clear jgv
          obtain ⟨hx1, hy1⟩ := HH.out
          generalize X.getD i 0 = BX at *
          generalize Y.getD i 0 = BY at *
          generalize xs.getD i 0 = bx at *
          generalize ys.getD i 0 = by' at *
          have i0 : (0 : Int) ≤ (i : Int) := by omega
          have i1 : (i : Int) < (n : Int) := by omega
          have d1 : decide (BX < bx) = false := by simp only [decide_eq_false_iff_not]; rw [← hx1]; unfold Hb; split <;> omega
          obtain ⟨x0a, x0b⟩ := vb2 V13z.out
          obtain ⟨x1a, x1b⟩ := vb2 V5z.out
          clear HH HXY HB2 HBK HOK E1
          have ld : ∀ (b : Nat) (o : Nat) (v : Value), w6.cell? ⟨b, o, none⟩ = some v → True := fun _ _ _ _ => trivial
          clear ld
          by_cases he : BX = bx
          · have d2 : (BX == bx) = true := by simpa using he
            have d3 : decide (BY < by') = false := by simp only [decide_eq_false_iff_not]; rw [← hy1]; unfold Hs; unfold Hb at hx1; split at hx1 <;> (repeat' split) <;> omega
            clear hx1 hy1 he
            refine region_bw [(fun u _ => u = .pointer (some ⟨w3.heap.size, 0, none⟩)), (fun u _ => u = .slice (some ⟨bgx, fgx, none⟩) n ca13), (fun u _ => u = .int .i64 (i : Int)), (fun u _ => u = .pointer (some ⟨bgx, fgx + i, none⟩)), (fun u _ => u = .int .i64 BX), (fun u _ => u = .pointer (some ⟨w1.heap.size, 0, none⟩)), (fun u _ => u = .slice (some ⟨bgu, fgu, none⟩) n cp1), (fun u _ => u = .int .i64 (i : Int)), (fun u _ => u = .pointer (some ⟨bgu, fgu + i, none⟩)), (fun u _ => u = .int .i64 bx), (fun u _ => u = .bool false), (fun u _ => u = .bool false), (fun u _ => u = .pointer (some ⟨w3.heap.size, 0, none⟩)), (fun u _ => u = .slice (some ⟨bgx, fgx, none⟩) n ca13), (fun u _ => u = .int .i64 (i : Int)), (fun u _ => u = .pointer (some ⟨bgx, fgx + i, none⟩)), (fun u _ => u = .int .i64 BX), (fun u _ => u = .pointer (some ⟨w1.heap.size, 0, none⟩)), (fun u _ => u = .slice (some ⟨bgu, fgu, none⟩) n cp1), (fun u _ => u = .int .i64 (i : Int)), (fun u _ => u = .pointer (some ⟨bgu, fgu + i, none⟩)), (fun u _ => u = .int .i64 bx), (fun u _ => u = .bool true), (fun u _ => u = .bool true), (fun u _ => u = .pointer (some ⟨w3.heap.size, 1, none⟩)), (fun u _ => u = .slice (some ⟨bgy, fgy, none⟩) n cd13), (fun u _ => u = .int .i64 (i : Int)), (fun u _ => u = .pointer (some ⟨bgy, fgy + i, none⟩)), (fun u _ => u = .int .i64 BY), (fun u _ => u = .pointer (some ⟨w1.heap.size, 1, none⟩)), (fun u _ => u = .slice (some ⟨bgv, fgv, none⟩) n cp2), (fun u _ => u = .int .i64 (i : Int)), (fun u _ => u = .pointer (some ⟨bgv, fgv + i, none⟩)), (fun u _ => u = .int .i64 by'), (fun u _ => u = .bool false), (fun u _ => u = .bool false), (fun u _ => u = .bool false)] (by kernel_rfl) (by kernel_rfl) ⟨?_, ?_, ?_, ?_, ?_, ?_, ?_, ?_, ?_, ?_, ?_, ?_, ?_, ?_, ?_, ?_, ?_, ?_, ?_, ?_, ?_, ?_, ?_, ?_, ?_, ?_, ?_, ?_, ?_, ?_, ?_, ?_, ?_, ?_, ?_, ?_, ?_, trivial⟩ ?_
            · exact ob_un (bw_fieldAddr (fun w => by go_simp) (ok_out rfl rfl) rfl)
            · exact ob_un (bw_load (fun w hb => ldS w (cell_keep hb x0a)) (ok_in 0 rfl rfl rfl) rfl)
            · exact ob_un (bw_move rfl (ok_out rfl rfl))
            · exact ob_un (bw_idx (fun w => ixS i0 i1 w) (ok_in 1 rfl rfl rfl) (ok_in 2 rfl rfl rfl) rfl)
            · exact ob_un (bw_load (fun w hb => ldI w (cell_keep hb kgx)) (ok_in 3 rfl rfl rfl) rfl)
            · exact ob_un (bw_fieldAddr (fun w => by go_simp) (ok_out rfl rfl) rfl)
            · exact ob_un (bw_load (fun w hb => ldS w (cell_keep hb x1a)) (ok_in 5 rfl rfl rfl) rfl)
            · exact ob_un (bw_move rfl (ok_out rfl rfl))
            · exact ob_un (bw_idx (fun w => ixS i0 i1 w) (ok_in 6 rfl rfl rfl) (ok_in 7 rfl rfl rfl) rfl)
            · exact ob_un (bw_load (fun w hb => ldI w (cell_keep hb kgu)) (ok_in 8 rfl rfl rfl) rfl)
            · exact ob_un (bw_bin (fun w => by go_simp) (ok_in 4 rfl rfl rfl) (ok_in 9 rfl rfl rfl) rfl)
            · exact ob_un (bw_move rfl (ok_in 10 rfl rfl rfl))
            · exact bw_on 11 false rfl rfl (bw_fieldAddr (fun w => by go_simp) (ok_out rfl rfl) rfl)
            · exact bw_on 11 false rfl rfl (bw_load (fun w hb => ldS w (cell_keep hb x0a)) (ok_in 12 rfl rfl rfl) rfl)
            · exact bw_on 11 false rfl rfl (bw_move rfl (ok_out rfl rfl))
            · exact bw_on 11 false rfl rfl (bw_idx (fun w => ixS i0 i1 w) (ok_in 13 rfl rfl rfl) (ok_in 14 rfl rfl rfl) rfl)
            · exact bw_on 11 false rfl rfl (bw_load (fun w hb => ldI w (cell_keep hb kgx)) (ok_in 15 rfl rfl rfl) rfl)
            · exact bw_on 11 false rfl rfl (bw_fieldAddr (fun w => by go_simp) (ok_out rfl rfl) rfl)
            · exact bw_on 11 false rfl rfl (bw_load (fun w hb => ldS w (cell_keep hb x1a)) (ok_in 17 rfl rfl rfl) rfl)
            · exact bw_on 11 false rfl rfl (bw_move rfl (ok_out rfl rfl))
            · exact bw_on 11 false rfl rfl (bw_idx (fun w => ixS i0 i1 w) (ok_in 18 rfl rfl rfl) (ok_in 19 rfl rfl rfl) rfl)
            · exact bw_on 11 false rfl rfl (bw_load (fun w hb => ldI w (cell_keep hb kgu)) (ok_in 20 rfl rfl rfl) rfl)
            · exact bw_on 11 false rfl rfl (bw_bin (fun w => by go_simp) (ok_in 16 rfl rfl rfl) (ok_in 21 rfl rfl rfl) rfl)
            · exact bw_on 11 false rfl rfl (bw_move rfl (ok_in 22 rfl rfl rfl))
            · exact bw_on 23 true rfl rfl (bw_fieldAddr (fun w => by go_simp) (ok_out rfl rfl) rfl)
            · exact bw_on 23 true rfl rfl (bw_load (fun w hb => ldS w (cell_keep hb x0b)) (ok_in 24 rfl rfl rfl) rfl)
            · exact bw_on 23 true rfl rfl (bw_move rfl (ok_out rfl rfl))
            · exact bw_on 23 true rfl rfl (bw_idx (fun w => ixS i0 i1 w) (ok_in 25 rfl rfl rfl) (ok_in 26 rfl rfl rfl) rfl)
            · exact bw_on 23 true rfl rfl (bw_load (fun w hb => ldI w (cell_keep hb kgy)) (ok_in 27 rfl rfl rfl) rfl)
            · exact bw_on 23 true rfl rfl (bw_fieldAddr (fun w => by go_simp) (ok_out rfl rfl) rfl)
            · exact bw_on 23 true rfl rfl (bw_load (fun w hb => ldS w (cell_keep hb x1b)) (ok_in 29 rfl rfl rfl) rfl)
            · exact bw_on 23 true rfl rfl (bw_move rfl (ok_out rfl rfl))
            · exact bw_on 23 true rfl rfl (bw_idx (fun w => ixS i0 i1 w) (ok_in 30 rfl rfl rfl) (ok_in 31 rfl rfl rfl) rfl)
            · exact bw_on 23 true rfl rfl (bw_load (fun w hb => ldI w (cell_keep hb kgv)) (ok_in 32 rfl rfl rfl) rfl)
            · exact bw_on 23 true rfl rfl (bw_bin (fun w => by go_simp) (ok_in 28 rfl rfl rfl) (ok_in 33 rfl rfl rfl) rfl)
            · exact bw_on 11 false rfl rfl (bw_pick true (ok_in 23 rfl rfl rfl) (ok_in 34 rfl rfl rfl) rfl)
            · exact ob_un (bw_pick false (ok_in 11 rfl rfl rfl) (ok_in 35 rfl rfl rfl) rfl)
            intro u wz Bz hF
            obtain ⟨-, -, -, -, -, -, -, -, -, -, -, -, -, -, -, -, -, -, -, -, -, -, -, -, -, -, -, -, -, -, -, -, -, -, -, -, f36, -⟩ := hF
            have hn : u 128 = .bool false := f36
            simp only [outTmps, List.setIfInBounds_toArray, List.set_cons_zero, List.set_cons_succ, hn]
            clear f36
            go_wp2_with fail
            go_meet
            case rel => exact ⟨rfl, Bz⟩
          · have d2 : (BX == bx) = false := by simpa using he
            clear hx1 hy1 he
            refine region_bw [(fun u _ => u = .pointer (some ⟨w3.heap.size, 0, none⟩)), (fun u _ => u = .slice (some ⟨bgx, fgx, none⟩) n ca13), (fun u _ => u = .int .i64 (i : Int)), (fun u _ => u = .pointer (some ⟨bgx, fgx + i, none⟩)), (fun u _ => u = .int .i64 BX), (fun u _ => u = .pointer (some ⟨w1.heap.size, 0, none⟩)), (fun u _ => u = .slice (some ⟨bgu, fgu, none⟩) n cp1), (fun u _ => u = .int .i64 (i : Int)), (fun u _ => u = .pointer (some ⟨bgu, fgu + i, none⟩)), (fun u _ => u = .int .i64 bx), (fun u _ => u = .bool false), (fun u _ => u = .bool false), (fun u _ => u = .pointer (some ⟨w3.heap.size, 0, none⟩)), (fun u _ => u = .slice (some ⟨bgx, fgx, none⟩) n ca13), (fun u _ => u = .int .i64 (i : Int)), (fun u _ => u = .pointer (some ⟨bgx, fgx + i, none⟩)), (fun u _ => u = .int .i64 BX), (fun u _ => u = .pointer (some ⟨w1.heap.size, 0, none⟩)), (fun u _ => u = .slice (some ⟨bgu, fgu, none⟩) n cp1), (fun u _ => u = .int .i64 (i : Int)), (fun u _ => u = .pointer (some ⟨bgu, fgu + i, none⟩)), (fun u _ => u = .int .i64 bx), (fun u _ => u = .bool false), (fun u _ => u = .bool false), (fun _ _ => True), (fun _ _ => True), (fun _ _ => True), (fun _ _ => True), (fun _ _ => True), (fun _ _ => True), (fun _ _ => True), (fun _ _ => True), (fun _ _ => True), (fun _ _ => True), (fun _ _ => True), (fun u _ => u = .bool false), (fun u _ => u = .bool false)] (by kernel_rfl) (by kernel_rfl) ⟨?_, ?_, ?_, ?_, ?_, ?_, ?_, ?_, ?_, ?_, ?_, ?_, ?_, ?_, ?_, ?_, ?_, ?_, ?_, ?_, ?_, ?_, ?_, ?_, ?_, ?_, ?_, ?_, ?_, ?_, ?_, ?_, ?_, ?_, ?_, ?_, ?_, trivial⟩ ?_
            · exact ob_un (bw_fieldAddr (fun w => by go_simp) (ok_out rfl rfl) rfl)
            · exact ob_un (bw_load (fun w hb => ldS w (cell_keep hb x0a)) (ok_in 0 rfl rfl rfl) rfl)
            · exact ob_un (bw_move rfl (ok_out rfl rfl))
            · exact ob_un (bw_idx (fun w => ixS i0 i1 w) (ok_in 1 rfl rfl rfl) (ok_in 2 rfl rfl rfl) rfl)
            · exact ob_un (bw_load (fun w hb => ldI w (cell_keep hb kgx)) (ok_in 3 rfl rfl rfl) rfl)
            · exact ob_un (bw_fieldAddr (fun w => by go_simp) (ok_out rfl rfl) rfl)
            · exact ob_un (bw_load (fun w hb => ldS w (cell_keep hb x1a)) (ok_in 5 rfl rfl rfl) rfl)
            · exact ob_un (bw_move rfl (ok_out rfl rfl))
            · exact ob_un (bw_idx (fun w => ixS i0 i1 w) (ok_in 6 rfl rfl rfl) (ok_in 7 rfl rfl rfl) rfl)
            · exact ob_un (bw_load (fun w hb => ldI w (cell_keep hb kgu)) (ok_in 8 rfl rfl rfl) rfl)
            · exact ob_un (bw_bin (fun w => by go_simp) (ok_in 4 rfl rfl rfl) (ok_in 9 rfl rfl rfl) rfl)
            · exact ob_un (bw_move rfl (ok_in 10 rfl rfl rfl))
            · exact bw_on 11 false rfl rfl (bw_fieldAddr (fun w => by go_simp) (ok_out rfl rfl) rfl)
            · exact bw_on 11 false rfl rfl (bw_load (fun w hb => ldS w (cell_keep hb x0a)) (ok_in 12 rfl rfl rfl) rfl)
            · exact bw_on 11 false rfl rfl (bw_move rfl (ok_out rfl rfl))
            · exact bw_on 11 false rfl rfl (bw_idx (fun w => ixS i0 i1 w) (ok_in 13 rfl rfl rfl) (ok_in 14 rfl rfl rfl) rfl)
            · exact bw_on 11 false rfl rfl (bw_load (fun w hb => ldI w (cell_keep hb kgx)) (ok_in 15 rfl rfl rfl) rfl)
            · exact bw_on 11 false rfl rfl (bw_fieldAddr (fun w => by go_simp) (ok_out rfl rfl) rfl)
            · exact bw_on 11 false rfl rfl (bw_load (fun w hb => ldS w (cell_keep hb x1a)) (ok_in 17 rfl rfl rfl) rfl)
            · exact bw_on 11 false rfl rfl (bw_move rfl (ok_out rfl rfl))
            · exact bw_on 11 false rfl rfl (bw_idx (fun w => ixS i0 i1 w) (ok_in 18 rfl rfl rfl) (ok_in 19 rfl rfl rfl) rfl)
            · exact bw_on 11 false rfl rfl (bw_load (fun w hb => ldI w (cell_keep hb kgu)) (ok_in 20 rfl rfl rfl) rfl)
            · exact bw_on 11 false rfl rfl (bw_bin (fun w => by go_simp) (ok_in 16 rfl rfl rfl) (ok_in 21 rfl rfl rfl) rfl)
            · exact bw_on 11 false rfl rfl (bw_move rfl (ok_in 22 rfl rfl rfl))
            · exact bw_off 23 true rfl rfl rfl
            · exact bw_off 23 true rfl rfl rfl
            · exact bw_off 23 true rfl rfl rfl
            · exact bw_off 23 true rfl rfl rfl
            · exact bw_off 23 true rfl rfl rfl
            · exact bw_off 23 true rfl rfl rfl
            · exact bw_off 23 true rfl rfl rfl
            · exact bw_off 23 true rfl rfl rfl
            · exact bw_off 23 true rfl rfl rfl
            · exact bw_off 23 true rfl rfl rfl
            · exact bw_off 23 true rfl rfl rfl
            · exact bw_on 11 false rfl rfl (bw_pick false (ok_in 23 rfl rfl rfl) (ok_const _) rfl)
            · exact ob_un (bw_pick false (ok_in 11 rfl rfl rfl) (ok_in 35 rfl rfl rfl) rfl)
            intro u wz Bz hF
            obtain ⟨-, -, -, -, -, -, -, -, -, -, -, -, -, -, -, -, -, -, -, -, -, -, -, -, -, -, -, -, -, -, -, -, -, -, -, -, f36, -⟩ := hF
            have hn : u 128 = .bool false := f36
            simp only [outTmps, List.setIfInBounds_toArray, List.set_cons_zero, List.set_cons_succ, hn]
            clear f36
            go_wp2_with fail
            go_meet
            case rel => exact ⟨rfl, Bz⟩
        case rest =>
          obtain ⟨rfl, bx⟩ := hcut
          have RU := hid (RU.out.keep bx)
          have RV := hid (RV.out.keep bx)
          have V5 := hid (V5.out.keep bx)
          have RX13 := hid (RX13.out.keep bx)
          have RY13 := hid (RY13.out.keep bx)
          have V13 := hid (V13.out.keep bx)
          have RX15 := hid (RX15.out.keep bx)
          have RY15 := hid (RY15.out.keep bx)
          have V15 := hid (V15.out.keep bx)
          have PP := hid (PP.out.trans (bx.mono PP.out.size))
          clear bx
          have PQ := PP
          obtain ⟨x0a, x0b⟩ := vb2 V13.out
          go_wp2_with fail
          clear x0a x0b
          have hsame := hok_same HBK.out HB2.out other life num
          cases hok2 : hOk n xs n ys other life num
          · rw [hok2] at hsame
            obtain ⟨e1, e2, e3, e4⟩ := h_no hsame
            obtain ⟨g1, g2, g3, g4⟩ := h_no hok2
            have E2 := hid (And.intro e1 (And.intro e2 (And.intro e3 e4)))
            have E3 := hid (And.intro g1 (And.intro g2 (And.intro g3 g4)))
            clear e1 e2 e3 e4 g1 g2 g3 g4 hsame hok2
            refine (hrdHear_any _ _ n n X Y other life num _ RX13.out RY13.out).mono ?_
            rw [E2.out.1, E2.out.2.1, E2.out.2.2.1, E2.out.2.2.2]
            rintro e w8 ⟨u, v, rfl, o1, o2, _, b8⟩
            obtain ⟨a17, ca17, rfl, _⟩ := ownI_form o1
            obtain ⟨d17, cd17, rfl, _⟩ := ownI_form o2
            have RX17 := hid (o1.rd (by omega))
            have RY17 := hid (o2.rd (by omega))
            clear o1 o2
            have RU := hid (RU.out.keep b8)
            have RV := hid (RV.out.keep b8)
            have V5 := hid (V5.out.keep b8)
            have RX13 := hid (RX13.out.keep b8)
            have RY13 := hid (RY13.out.keep b8)
            have V13 := hid (V13.out.keep b8)
            have RX15 := hid (RX15.out.keep b8)
            have RY15 := hid (RY15.out.keep b8)
            have V15 := hid (V15.out.keep b8)
            have PP := hid (PP.out.trans (b8.mono PP.out.size))
            clear b8
            have RU := hid (RU.out.keep (below_alloc1 w8 (.cells #[.slice a17 0 ca17, .slice d17 0 cd17] 44)))
            have RV := hid (RV.out.keep (below_alloc1 w8 (.cells #[.slice a17 0 ca17, .slice d17 0 cd17] 44)))
            have V5 := hid (V5.out.keep (below_alloc1 w8 (.cells #[.slice a17 0 ca17, .slice d17 0 cd17] 44)))
            have RX13 := hid (RX13.out.keep (below_alloc1 w8 (.cells #[.slice a17 0 ca17, .slice d17 0 cd17] 44)))
            have RY13 := hid (RY13.out.keep (below_alloc1 w8 (.cells #[.slice a17 0 ca17, .slice d17 0 cd17] 44)))
            have V13 := hid (V13.out.keep (below_alloc1 w8 (.cells #[.slice a17 0 ca17, .slice d17 0 cd17] 44)))
            have RX15 := hid (RX15.out.keep (below_alloc1 w8 (.cells #[.slice a17 0 ca17, .slice d17 0 cd17] 44)))
            have RY15 := hid (RY15.out.keep (below_alloc1 w8 (.cells #[.slice a17 0 ca17, .slice d17 0 cd17] 44)))
            have V15 := hid (V15.out.keep (below_alloc1 w8 (.cells #[.slice a17 0 ca17, .slice d17 0 cd17] 44)))
            have RX17 := hid (RX17.out.keep (below_alloc1 w8 (.cells #[.slice a17 0 ca17, .slice d17 0 cd17] 44)))
            have RY17 := hid (RY17.out.keep (below_alloc1 w8 (.cells #[.slice a17 0 ca17, .slice d17 0 cd17] 44)))
            have PP := hid (PP.out.alloc PP.out.size (.cells #[.slice a17 0 ca17, .slice d17 0 cd17] 44))
            have V17 := hid (vb_new w8 [.slice a17 0 ca17, .slice d17 0 cd17] 44)
            obtain ⟨x0a, x0b⟩ := vb2 V5.out
            go_wp2_with fail
            clear x0a x0b
            refine (hrdHear_any _ _ n n xs ys other life num _ RU.out RV.out).mono ?_
            rw [E3.out.1, E3.out.2.1, E3.out.2.2.1, E3.out.2.2.2]
            rintro e w9 ⟨u, v, rfl, o1, o2, _, b9⟩
            obtain ⟨a19, ca19, rfl, _⟩ := ownI_form o1
            obtain ⟨d19, cd19, rfl, _⟩ := ownI_form o2
            have RX19 := hid (o1.rd (by omega))
            have RY19 := hid (o2.rd (by omega))
            clear o1 o2
            have RU := hid (RU.out.keep b9)
            have RV := hid (RV.out.keep b9)
            have V5 := hid (V5.out.keep b9)
            have RX13 := hid (RX13.out.keep b9)
            have RY13 := hid (RY13.out.keep b9)
            have V13 := hid (V13.out.keep b9)
            have RX15 := hid (RX15.out.keep b9)
            have RY15 := hid (RY15.out.keep b9)
            have V15 := hid (V15.out.keep b9)
            have RX17 := hid (RX17.out.keep b9)
            have RY17 := hid (RY17.out.keep b9)
            have V17 := hid (V17.out.keep b9)
            have PP := hid (PP.out.trans (b9.mono PP.out.size))
            clear b9
            have RU := hid (RU.out.keep (below_alloc1 w9 (.cells #[.slice a19 0 ca19, .slice d19 0 cd19] 44)))
            have RV := hid (RV.out.keep (below_alloc1 w9 (.cells #[.slice a19 0 ca19, .slice d19 0 cd19] 44)))
            have V5 := hid (V5.out.keep (below_alloc1 w9 (.cells #[.slice a19 0 ca19, .slice d19 0 cd19] 44)))
            have RX13 := hid (RX13.out.keep (below_alloc1 w9 (.cells #[.slice a19 0 ca19, .slice d19 0 cd19] 44)))
            have RY13 := hid (RY13.out.keep (below_alloc1 w9 (.cells #[.slice a19 0 ca19, .slice d19 0 cd19] 44)))
            have V13 := hid (V13.out.keep (below_alloc1 w9 (.cells #[.slice a19 0 ca19, .slice d19 0 cd19] 44)))
            have RX15 := hid (RX15.out.keep (below_alloc1 w9 (.cells #[.slice a19 0 ca19, .slice d19 0 cd19] 44)))
            have RY15 := hid (RY15.out.keep (below_alloc1 w9 (.cells #[.slice a19 0 ca19, .slice d19 0 cd19] 44)))
            have V15 := hid (V15.out.keep (below_alloc1 w9 (.cells #[.slice a19 0 ca19, .slice d19 0 cd19] 44)))
            have RX17 := hid (RX17.out.keep (below_alloc1 w9 (.cells #[.slice a19 0 ca19, .slice d19 0 cd19] 44)))
            have RY17 := hid (RY17.out.keep (below_alloc1 w9 (.cells #[.slice a19 0 ca19, .slice d19 0 cd19] 44)))
            have V17 := hid (V17.out.keep (below_alloc1 w9 (.cells #[.slice a19 0 ca19, .slice d19 0 cd19] 44)))
            have RX19 := hid (RX19.out.keep (below_alloc1 w9 (.cells #[.slice a19 0 ca19, .slice d19 0 cd19] 44)))
            have RY19 := hid (RY19.out.keep (below_alloc1 w9 (.cells #[.slice a19 0 ca19, .slice d19 0 cd19] 44)))
            have PP := hid (PP.out.alloc PP.out.size (.cells #[.slice a19 0 ca19, .slice d19 0 cd19] 44))
            have V19 := hid (vb_new w9 [.slice a19 0 ca19, .slice d19 0 cd19] 44)
            go_wp2
            go_ret
            exact ⟨rfl, PP.out⟩
          · rw [hok2] at hsame
            have ho : 0 ≤ other ∧ other ≤ (n : Int) - 1 := by have h := hok2; simp only [hOk, Bool.and_eq_true] at h; simpa [inB] using h.2.1
            obtain ⟨j, rfl⟩ := Int.eq_ofNat_of_zero_le ho.1
            have hj : j < n := by omega
            obtain ⟨_, g1, g2, g3, g4⟩ := h_yes lX lY hsame
            obtain ⟨_, k1, k2, k3, k4⟩ := h_yes lx ly hok2
            have hb2 := book_heard lx ly hok2
            have hcomm := set_comm2 xs ys n i j lx ly hi hj boot seq life num
            simp only [HXY.out.1, HXY.out.2] at hcomm
            obtain ⟨X2, hX2⟩ : ∃ X2, xs.set j (Hb (xs.getD j 0) (ys.getD j 0) life num) = X2 := ⟨_, rfl⟩
            obtain ⟨Y2, hY2⟩ : ∃ Y2, ys.set j (Hs (xs.getD j 0) (ys.getD j 0) life num) = Y2 := ⟨_, rfl⟩
            rw [hX2] at k3 hb2 hcomm
            rw [hY2] at k4 hb2 hcomm
            have lX2 : X2.length = n := by rw [← hX2]; simpa using lx
            have lY2 : Y2.length = n := by rw [← hY2]; simpa using ly
            have hok3 : hOk n X2 n Y2 (i : Int) boot seq = true := (hok_same HBK.out hb2 (i : Int) boot seq).trans HOK.out
            have hok4 : hOk n X n Y (i : Int) boot seq = true := (hok_same HBK.out HB2.out (i : Int) boot seq).trans HOK.out
            obtain ⟨_, m1', m2', m3', m4'⟩ := h_yes lX2 lY2 hok3
            obtain ⟨_, q1, q2, q3, q4⟩ := h_yes lX lY hok4
            rw [← hcomm.1] at m3'
            rw [← hcomm.2] at m4'
            rw [← HH.out.1, ← HH.out.2, cd_again] at q2
            obtain ⟨X1, hX1⟩ : ∃ X1, X.set j (Hb (X.getD j 0) (Y.getD j 0) life num) = X1 := ⟨_, rfl⟩
            obtain ⟨Y1, hY1⟩ : ∃ Y1, Y.set j (Hs (X.getD j 0) (Y.getD j 0) life num) = Y1 := ⟨_, rfl⟩
            rw [hX1] at g3 m3'
            rw [hY1] at g4 m4'
            obtain ⟨c4, hc4⟩ : ∃ c4, cdH (X.getD j 0) (Y.getD j 0) life num = c4 := ⟨_, rfl⟩
            have t4 := cd_cases (X.getD j 0) (Y.getD j 0) life num
            rw [hc4] at g2 t4
            have d4 : (c4 == 0) = false := by simp; omega
            obtain ⟨c5, hc5⟩ : ∃ c5, cdH (xs.getD j 0) (ys.getD j 0) life num = c5 := ⟨_, rfl⟩
            have t5 := cd_cases (xs.getD j 0) (ys.getD j 0) life num
            rw [hc5] at k2 t5
            have d5 : (c5 == 0) = false := by simp; omega
            obtain ⟨c6, hc6⟩ : ∃ c6, cdH (X2.getD i 0) (Y2.getD i 0) boot seq = c6 := ⟨_, rfl⟩
            rw [hc6] at m2'
            obtain ⟨X3, hX3⟩ : ∃ X3, X.set i (Hb (X.getD i 0) (Y.getD i 0) boot seq) = X3 := ⟨_, rfl⟩
            obtain ⟨Y3, hY3⟩ : ∃ Y3, Y.set i (Hs (X.getD i 0) (Y.getD i 0) boot seq) = Y3 := ⟨_, rfl⟩
            rw [hX3] at q3
            rw [hY3] at q4
            have E2 := hid (And.intro g2 (And.intro g1 (And.intro g3 g4)))
            have E3 := hid (And.intro k2 (And.intro k1 (And.intro k3 k4)))
            have E4 := hid (And.intro m2' (And.intro m1' (And.intro m3' m4')))
            have E5 := hid (And.intro q2 (And.intro q1 (And.intro q3 q4)))
            clear g1 g2 g3 g4 k1 k2 k3 k4 m1' m2' m3' m4' q1 q2 q3 q4 hX2 hY2 hX1 hY1 hX3 hY3 hc4 hc5 hc6 t4 t5 hcomm hb2 hok2 hok3 hok4 hsame ho HXY HH HB2 HBK HOK E1
            refine (hrdHear_any _ _ n n X Y (j : Int) life num _ RX13.out RY13.out).mono ?_
            rw [E2.out.1, E2.out.2.1, E2.out.2.2.1, E2.out.2.2.2]
            rintro e w8 ⟨u, v, rfl, o1, o2, _, b8⟩
            obtain ⟨a17, ca17, rfl, _⟩ := ownI_form o1
            obtain ⟨d17, cd17, rfl, _⟩ := ownI_form o2
            have RX17 := hid (o1.rd (by omega))
            have RY17 := hid (o2.rd (by omega))
            clear o1 o2
            have RU := hid (RU.out.keep b8)
            have RV := hid (RV.out.keep b8)
            have V5 := hid (V5.out.keep b8)
            have RX13 := hid (RX13.out.keep b8)
            have RY13 := hid (RY13.out.keep b8)
            have V13 := hid (V13.out.keep b8)
            have RX15 := hid (RX15.out.keep b8)
            have RY15 := hid (RY15.out.keep b8)
            have V15 := hid (V15.out.keep b8)
            have PP := hid (PP.out.trans (b8.mono PP.out.size))
            clear b8
            have RU := hid (RU.out.keep (below_alloc1 w8 (.cells #[.slice a17 n ca17, .slice d17 n cd17] 44)))
            have RV := hid (RV.out.keep (below_alloc1 w8 (.cells #[.slice a17 n ca17, .slice d17 n cd17] 44)))
            have V5 := hid (V5.out.keep (below_alloc1 w8 (.cells #[.slice a17 n ca17, .slice d17 n cd17] 44)))
            have RX13 := hid (RX13.out.keep (below_alloc1 w8 (.cells #[.slice a17 n ca17, .slice d17 n cd17] 44)))
            have RY13 := hid (RY13.out.keep (below_alloc1 w8 (.cells #[.slice a17 n ca17, .slice d17 n cd17] 44)))
            have V13 := hid (V13.out.keep (below_alloc1 w8 (.cells #[.slice a17 n ca17, .slice d17 n cd17] 44)))
            have RX15 := hid (RX15.out.keep (below_alloc1 w8 (.cells #[.slice a17 n ca17, .slice d17 n cd17] 44)))
            have RY15 := hid (RY15.out.keep (below_alloc1 w8 (.cells #[.slice a17 n ca17, .slice d17 n cd17] 44)))
            have V15 := hid (V15.out.keep (below_alloc1 w8 (.cells #[.slice a17 n ca17, .slice d17 n cd17] 44)))
            have RX17 := hid (RX17.out.keep (below_alloc1 w8 (.cells #[.slice a17 n ca17, .slice d17 n cd17] 44)))
            have RY17 := hid (RY17.out.keep (below_alloc1 w8 (.cells #[.slice a17 n ca17, .slice d17 n cd17] 44)))
            have PP := hid (PP.out.alloc PP.out.size (.cells #[.slice a17 n ca17, .slice d17 n cd17] 44))
            have V17 := hid (vb_new w8 [.slice a17 n ca17, .slice d17 n cd17] 44)
            obtain ⟨x0a, x0b⟩ := vb2 V5.out
            go_wp2_with fail
            clear x0a x0b
            refine (hrdHear_any _ _ n n xs ys (j : Int) life num _ RU.out RV.out).mono ?_
            rw [E3.out.1, E3.out.2.1, E3.out.2.2.1, E3.out.2.2.2]
            rintro e w9 ⟨u, v, rfl, o1, o2, _, b9⟩
            obtain ⟨a19, ca19, rfl, _⟩ := ownI_form o1
            obtain ⟨d19, cd19, rfl, _⟩ := ownI_form o2
            have RX19 := hid (o1.rd (by omega))
            have RY19 := hid (o2.rd (by omega))
            clear o1 o2
            have RU := hid (RU.out.keep b9)
            have RV := hid (RV.out.keep b9)
            have V5 := hid (V5.out.keep b9)
            have RX13 := hid (RX13.out.keep b9)
            have RY13 := hid (RY13.out.keep b9)
            have V13 := hid (V13.out.keep b9)
            have RX15 := hid (RX15.out.keep b9)
            have RY15 := hid (RY15.out.keep b9)
            have V15 := hid (V15.out.keep b9)
            have RX17 := hid (RX17.out.keep b9)
            have RY17 := hid (RY17.out.keep b9)
            have V17 := hid (V17.out.keep b9)
            have PP := hid (PP.out.trans (b9.mono PP.out.size))
            clear b9
            have RU := hid (RU.out.keep (below_alloc1 w9 (.cells #[.slice a19 n ca19, .slice d19 n cd19] 44)))
            have RV := hid (RV.out.keep (below_alloc1 w9 (.cells #[.slice a19 n ca19, .slice d19 n cd19] 44)))
            have V5 := hid (V5.out.keep (below_alloc1 w9 (.cells #[.slice a19 n ca19, .slice d19 n cd19] 44)))
            have RX13 := hid (RX13.out.keep (below_alloc1 w9 (.cells #[.slice a19 n ca19, .slice d19 n cd19] 44)))
            have RY13 := hid (RY13.out.keep (below_alloc1 w9 (.cells #[.slice a19 n ca19, .slice d19 n cd19] 44)))
            have V13 := hid (V13.out.keep (below_alloc1 w9 (.cells #[.slice a19 n ca19, .slice d19 n cd19] 44)))
            have RX15 := hid (RX15.out.keep (below_alloc1 w9 (.cells #[.slice a19 n ca19, .slice d19 n cd19] 44)))
            have RY15 := hid (RY15.out.keep (below_alloc1 w9 (.cells #[.slice a19 n ca19, .slice d19 n cd19] 44)))
            have V15 := hid (V15.out.keep (below_alloc1 w9 (.cells #[.slice a19 n ca19, .slice d19 n cd19] 44)))
            have RX17 := hid (RX17.out.keep (below_alloc1 w9 (.cells #[.slice a19 n ca19, .slice d19 n cd19] 44)))
            have RY17 := hid (RY17.out.keep (below_alloc1 w9 (.cells #[.slice a19 n ca19, .slice d19 n cd19] 44)))
            have V17 := hid (V17.out.keep (below_alloc1 w9 (.cells #[.slice a19 n ca19, .slice d19 n cd19] 44)))
            have RX19 := hid (RX19.out.keep (below_alloc1 w9 (.cells #[.slice a19 n ca19, .slice d19 n cd19] 44)))
            have RY19 := hid (RY19.out.keep (below_alloc1 w9 (.cells #[.slice a19 n ca19, .slice d19 n cd19] 44)))
            have PP := hid (PP.out.alloc PP.out.size (.cells #[.slice a19 n ca19, .slice d19 n cd19] 44))
            have V19 := hid (vb_new w9 [.slice a19 n ca19, .slice d19 n cd19] 44)
            obtain ⟨x0a, x0b⟩ := vb2 V19.out
            go_wp2_with fail
            clear x0a x0b
            refine (hrdHear_any _ _ n n X2 Y2 (i : Int) boot seq _ RX19.out RY19.out).mono ?_
            rw [E4.out.1, E4.out.2.1, E4.out.2.2.1, E4.out.2.2.2]
            rintro e w10 ⟨u, v, rfl, o1, o2, _, b10⟩
            obtain ⟨a21, ca21, rfl, _⟩ := ownI_form o1
            obtain ⟨d21, cd21, rfl, _⟩ := ownI_form o2
            have RX21 := hid (o1.rd (by omega))
            have RY21 := hid (o2.rd (by omega))
            clear o1 o2
            have RU := hid (RU.out.keep b10)
            have RV := hid (RV.out.keep b10)
            have V5 := hid (V5.out.keep b10)
            have RX13 := hid (RX13.out.keep b10)
            have RY13 := hid (RY13.out.keep b10)
            have V13 := hid (V13.out.keep b10)
            have RX15 := hid (RX15.out.keep b10)
            have RY15 := hid (RY15.out.keep b10)
            have V15 := hid (V15.out.keep b10)
            have RX17 := hid (RX17.out.keep b10)
            have RY17 := hid (RY17.out.keep b10)
            have V17 := hid (V17.out.keep b10)
            have RX19 := hid (RX19.out.keep b10)
            have RY19 := hid (RY19.out.keep b10)
            have V19 := hid (V19.out.keep b10)
            have PP := hid (PP.out.trans (b10.mono PP.out.size))
            clear b10
            have RU := hid (RU.out.keep (below_alloc1 w10 (.cells #[.slice a21 n ca21, .slice d21 n cd21] 44)))
            have RV := hid (RV.out.keep (below_alloc1 w10 (.cells #[.slice a21 n ca21, .slice d21 n cd21] 44)))
            have V5 := hid (V5.out.keep (below_alloc1 w10 (.cells #[.slice a21 n ca21, .slice d21 n cd21] 44)))
            have RX13 := hid (RX13.out.keep (below_alloc1 w10 (.cells #[.slice a21 n ca21, .slice d21 n cd21] 44)))
            have RY13 := hid (RY13.out.keep (below_alloc1 w10 (.cells #[.slice a21 n ca21, .slice d21 n cd21] 44)))
            have V13 := hid (V13.out.keep (below_alloc1 w10 (.cells #[.slice a21 n ca21, .slice d21 n cd21] 44)))
            have RX15 := hid (RX15.out.keep (below_alloc1 w10 (.cells #[.slice a21 n ca21, .slice d21 n cd21] 44)))
            have RY15 := hid (RY15.out.keep (below_alloc1 w10 (.cells #[.slice a21 n ca21, .slice d21 n cd21] 44)))
            have V15 := hid (V15.out.keep (below_alloc1 w10 (.cells #[.slice a21 n ca21, .slice d21 n cd21] 44)))
            have RX17 := hid (RX17.out.keep (below_alloc1 w10 (.cells #[.slice a21 n ca21, .slice d21 n cd21] 44)))
            have RY17 := hid (RY17.out.keep (below_alloc1 w10 (.cells #[.slice a21 n ca21, .slice d21 n cd21] 44)))
            have V17 := hid (V17.out.keep (below_alloc1 w10 (.cells #[.slice a21 n ca21, .slice d21 n cd21] 44)))
            have RX19 := hid (RX19.out.keep (below_alloc1 w10 (.cells #[.slice a21 n ca21, .slice d21 n cd21] 44)))
            have RY19 := hid (RY19.out.keep (below_alloc1 w10 (.cells #[.slice a21 n ca21, .slice d21 n cd21] 44)))
            have V19 := hid (V19.out.keep (below_alloc1 w10 (.cells #[.slice a21 n ca21, .slice d21 n cd21] 44)))
            have RX21 := hid (RX21.out.keep (below_alloc1 w10 (.cells #[.slice a21 n ca21, .slice d21 n cd21] 44)))
            have RY21 := hid (RY21.out.keep (below_alloc1 w10 (.cells #[.slice a21 n ca21, .slice d21 n cd21] 44)))
            have PP := hid (PP.out.alloc PP.out.size (.cells #[.slice a21 n ca21, .slice d21 n cd21] 44))
            have V21 := hid (vb_new w10 [.slice a21 n ca21, .slice d21 n cd21] 44)
            obtain ⟨x0a, x0b⟩ := vb2 V13.out
            go_wp2_with fail
            clear x0a x0b
            refine (hrdHear_any _ _ n n X Y (i : Int) boot seq _ RX13.out RY13.out).mono ?_
            rw [E5.out.1, E5.out.2.1, E5.out.2.2.1, E5.out.2.2.2]
            rintro e w11 ⟨u, v, rfl, o1, o2, _, b11⟩
            obtain ⟨a23, ca23, rfl, _⟩ := ownI_form o1
            obtain ⟨d23, cd23, rfl, _⟩ := ownI_form o2
            have RX23 := hid (o1.rd (by omega))
            have RY23 := hid (o2.rd (by omega))
            clear o1 o2
            have RU := hid (RU.out.keep b11)
            have RV := hid (RV.out.keep b11)
            have V5 := hid (V5.out.keep b11)
            have RX13 := hid (RX13.out.keep b11)
            have RY13 := hid (RY13.out.keep b11)
            have V13 := hid (V13.out.keep b11)
            have RX15 := hid (RX15.out.keep b11)
            have RY15 := hid (RY15.out.keep b11)
            have V15 := hid (V15.out.keep b11)
            have RX17 := hid (RX17.out.keep b11)
            have RY17 := hid (RY17.out.keep b11)
            have V17 := hid (V17.out.keep b11)
            have RX19 := hid (RX19.out.keep b11)
            have RY19 := hid (RY19.out.keep b11)
            have V19 := hid (V19.out.keep b11)
            have RX21 := hid (RX21.out.keep b11)
            have RY21 := hid (RY21.out.keep b11)
            have V21 := hid (V21.out.keep b11)
            have PP := hid (PP.out.trans (b11.mono PP.out.size))
            clear b11
            have RU := hid (RU.out.keep (below_alloc1 w11 (.cells #[.slice a23 n ca23, .slice d23 n cd23] 44)))
            have RV := hid (RV.out.keep (below_alloc1 w11 (.cells #[.slice a23 n ca23, .slice d23 n cd23] 44)))
            have V5 := hid (V5.out.keep (below_alloc1 w11 (.cells #[.slice a23 n ca23, .slice d23 n cd23] 44)))
            have RX13 := hid (RX13.out.keep (below_alloc1 w11 (.cells #[.slice a23 n ca23, .slice d23 n cd23] 44)))
            have RY13 := hid (RY13.out.keep (below_alloc1 w11 (.cells #[.slice a23 n ca23, .slice d23 n cd23] 44)))
            have V13 := hid (V13.out.keep (below_alloc1 w11 (.cells #[.slice a23 n ca23, .slice d23 n cd23] 44)))
            have RX15 := hid (RX15.out.keep (below_alloc1 w11 (.cells #[.slice a23 n ca23, .slice d23 n cd23] 44)))
            have RY15 := hid (RY15.out.keep (below_alloc1 w11 (.cells #[.slice a23 n ca23, .slice d23 n cd23] 44)))
            have V15 := hid (V15.out.keep (below_alloc1 w11 (.cells #[.slice a23 n ca23, .slice d23 n cd23] 44)))
            have RX17 := hid (RX17.out.keep (below_alloc1 w11 (.cells #[.slice a23 n ca23, .slice d23 n cd23] 44)))
            have RY17 := hid (RY17.out.keep (below_alloc1 w11 (.cells #[.slice a23 n ca23, .slice d23 n cd23] 44)))
            have V17 := hid (V17.out.keep (below_alloc1 w11 (.cells #[.slice a23 n ca23, .slice d23 n cd23] 44)))
            have RX19 := hid (RX19.out.keep (below_alloc1 w11 (.cells #[.slice a23 n ca23, .slice d23 n cd23] 44)))
            have RY19 := hid (RY19.out.keep (below_alloc1 w11 (.cells #[.slice a23 n ca23, .slice d23 n cd23] 44)))
            have V19 := hid (V19.out.keep (below_alloc1 w11 (.cells #[.slice a23 n ca23, .slice d23 n cd23] 44)))
            have RX21 := hid (RX21.out.keep (below_alloc1 w11 (.cells #[.slice a23 n ca23, .slice d23 n cd23] 44)))
            have RY21 := hid (RY21.out.keep (below_alloc1 w11 (.cells #[.slice a23 n ca23, .slice d23 n cd23] 44)))
            have V21 := hid (V21.out.keep (below_alloc1 w11 (.cells #[.slice a23 n ca23, .slice d23 n cd23] 44)))
            have RX23 := hid (RX23.out.keep (below_alloc1 w11 (.cells #[.slice a23 n ca23, .slice d23 n cd23] 44)))
            have RY23 := hid (RY23.out.keep (below_alloc1 w11 (.cells #[.slice a23 n ca23, .slice d23 n cd23] 44)))
            have PP := hid (PP.out.alloc PP.out.size (.cells #[.slice a23 n ca23, .slice d23 n cd23] 44))
            have V23 := hid (vb_new w11 [.slice a23 n ca23, .slice d23 n cd23] 44)
            obtain ⟨x0a, x0b⟩ := vb2 V17.out
            obtain ⟨x1a, x1b⟩ := vb2 V21.out
            go_wp2_with fail
            clear x0a x0b x1a x1b
            refine (caInts_same _ _ n _ _ RX17.out RX21.out).mono ?_
            rintro e w12 ⟨rfl, b12⟩
            have RU := hid (RU.out.keep b12)
            have RV := hid (RV.out.keep b12)
            have V5 := hid (V5.out.keep b12)
            have RX13 := hid (RX13.out.keep b12)
            have RY13 := hid (RY13.out.keep b12)
            have V13 := hid (V13.out.keep b12)
            have RX15 := hid (RX15.out.keep b12)
            have RY15 := hid (RY15.out.keep b12)
            have V15 := hid (V15.out.keep b12)
            have RX17 := hid (RX17.out.keep b12)
            have RY17 := hid (RY17.out.keep b12)
            have V17 := hid (V17.out.keep b12)
            have RX19 := hid (RX19.out.keep b12)
            have RY19 := hid (RY19.out.keep b12)
            have V19 := hid (V19.out.keep b12)
            have RX21 := hid (RX21.out.keep b12)
            have RY21 := hid (RY21.out.keep b12)
            have V21 := hid (V21.out.keep b12)
            have RX23 := hid (RX23.out.keep b12)
            have RY23 := hid (RY23.out.keep b12)
            have V23 := hid (V23.out.keep b12)
            have PP := hid (PP.out.trans (b12.mono PP.out.size))
            clear b12
            obtain ⟨x0a, x0b⟩ := vb2 V17.out
            obtain ⟨x1a, x1b⟩ := vb2 V21.out
            go_wp2_with fail
            clear x0a x0b x1a x1b
            refine (caInts_same _ _ n _ _ RY17.out RY21.out).mono ?_
            rintro e w13 ⟨rfl, b13⟩
            have RU := hid (RU.out.keep b13)
            have RV := hid (RV.out.keep b13)
            have V5 := hid (V5.out.keep b13)
            have RX13 := hid (RX13.out.keep b13)
            have RY13 := hid (RY13.out.keep b13)
            have V13 := hid (V13.out.keep b13)
            have RX15 := hid (RX15.out.keep b13)
            have RY15 := hid (RY15.out.keep b13)
            have V15 := hid (V15.out.keep b13)
            have RX17 := hid (RX17.out.keep b13)
            have RY17 := hid (RY17.out.keep b13)
            have V17 := hid (V17.out.keep b13)
            have RX19 := hid (RX19.out.keep b13)
            have RY19 := hid (RY19.out.keep b13)
            have V19 := hid (V19.out.keep b13)
            have RX21 := hid (RX21.out.keep b13)
            have RY21 := hid (RY21.out.keep b13)
            have V21 := hid (V21.out.keep b13)
            have RX23 := hid (RX23.out.keep b13)
            have RY23 := hid (RY23.out.keep b13)
            have V23 := hid (V23.out.keep b13)
            have PP := hid (PP.out.trans (b13.mono PP.out.size))
            clear b13
            go_wp2
            go_ret
            exact ⟨rfl, PP.out⟩
    · have hl0' : (len0 : Int) ≤ 1048576 := by omega
      have hl1' : (1048576 : Int) < (len1 : Int) := by omega
      have d0 : decide ((1048576 : Int) < (len0 : Int)) = false := by simp; omega
      have d1 : decide ((1048576 : Int) < (len1 : Int)) = true := by simp; omega
      clear k0 k1
      go_enter Try.func6, Try.ntmps6
      go_wp2
      go_ret
      exact ⟨rfl, Below.refl _ _⟩
  · have hl0' : (1048576 : Int) < (len0 : Int) := by omega
    have d0 : decide ((1048576 : Int) < (len0 : Int)) = true := by simp; omega
    clear k0 k1
    go_enter Try.func6, Try.ntmps6
    go_wp2
    go_ret
    exact ⟨rfl, Below.refl _ _⟩
theorem own : ownKnob Try.prog.godebug = none := by kernel_rfl
theorem laidOut : laidOutB Try.prog = true := by kernel_rfl
set_option maxRecDepth 100000 in
theorem lifted (os : Os) (started : os.Started) (H : Type) (enc : TypeId × Value → H) :
    ReturnsInHanded {} Try.checked os 6 .any (Rows.fnHrdRisesSpec.pre6 enc Try.prog Try.f6 Rows.fnHrdRisesRow.domain false) (Rows.fnHrdRisesSpec.post enc Try.prog Try.f6 false true false false) := by
  refine returnsInHanded_of_change (C := Try.checked) own started (by kernel_rfl) Try.func6
    (ChangeSpec.witness6 (enc := enc) (C := Try.checked) false ⟨#[], #[.slice none 0 0, .slice none 0 0], []⟩ 8 (by kernel_rfl) (by kernel_rfl) (by kernel_rfl) (by kernel_rfl)) ?_
  intro W base args ds gs before hval0 hW hcnd _
  have hval : ∀ (j : Nat) t v, Try.f6.params[j]? = some t → args[j]? = some v → Value.okWide Try.prog W .any base t v := hval0
  have hW' := hW
  obtain ⟨p, q, hA0, hV, rfl, hfz, hnd⟩ := hW
  have hA : DataW.TrodAll enc Try.prog W 0 (fun _ => true) true Try.f6.params.toList args.toList ds p := hA0
  rw [Try.params6] at hA hval
  obtain ⟨v0, vs0, d0, ds0, p0, q0, hargs, rfl, rfl, h0, r0⟩ := trodAll_cons hA
  obtain ⟨v1, vs1, d1, ds1, p1, q1, rfl, rfl, rfl, h1, r1⟩ := trodAll_cons r0
  obtain ⟨rfl, rfl, rfl⟩ := trodAll_nil r1
  obtain rfl : args = #[v0, v1] := by cases args; simp_all
  obtain ⟨rfl, rfl⟩ := trodVars_none hV
  obtain ⟨a0, len0, cap0, rfl⟩ := okWide_slice Try.underlying22 (hval 0 22 v0 rfl rfl)
  have k0 := h0
  have lt0 : ∀ x ∈ p0, x.block < W.heap.size := by obtain ⟨m, hm⟩ := k0; exact DataW.trod_lt m _ _ _ hm
  obtain ⟨z0, w0⟩ : ∃ zs, IsRow .u8 W a0 len0 cap0 zs := by
    obtain ⟨fuel, hf⟩ := h0
    rcases open_ints Try.underlying22 Try.underlying5 (by kernel_rfl) hf with ⟨hcs, _⟩ | ⟨x, l, c, zs, hcs, _, hl, hm, hz, _, hcell, hwz⟩
    · simp [Value.cells] at hcs
      obtain ⟨rfl, rfl, rfl⟩ := hcs
      exact ⟨[], .inl ⟨rfl, rfl, rfl, rfl⟩⟩
    · simp [Value.cells] at hcs
      obtain ⟨rfl, rfl, rfl⟩ := hcs
      exact ⟨zs, .inr ⟨_, rfl, hl, hm, by simpa using hz, hcell, hwz⟩⟩
  obtain ⟨a1, len1, cap1, rfl⟩ := okWide_slice Try.underlying22 (hval 1 22 v1 rfl rfl)
  have k1 := h1
  have lt1 : ∀ x ∈ p1, x.block < W.heap.size := by obtain ⟨m, hm⟩ := k1; exact DataW.trod_lt m _ _ _ hm
  obtain ⟨z1, w1⟩ : ∃ zs, IsRow .u8 W a1 len1 cap1 zs := by
    obtain ⟨fuel, hf⟩ := h1
    rcases open_ints Try.underlying22 Try.underlying5 (by kernel_rfl) hf with ⟨hcs, _⟩ | ⟨x, l, c, zs, hcs, _, hl, hm, hz, _, hcell, hwz⟩
    · simp [Value.cells] at hcs
      obtain ⟨rfl, rfl, rfl⟩ := hcs
      exact ⟨[], .inl ⟨rfl, rfl, rfl, rfl⟩⟩
    · simp [Value.cells] at hcs
      obtain ⟨rfl, rfl, rfl⟩ := hcs
      exact ⟨zs, .inr ⟨_, rfl, hl, hm, by simpa using hz, hcell, hwz⟩⟩
  clear hA0 hval0
  refine (walk a0 len0 cap0 z0 a1 len1 cap1 z1 W w0 w1).mono fun e W' ⟨he, bel⟩ => ?_
  subst he
  exact ⟨_, rfl, _, _, _, [], _, [], hW', trodAll_mk1 (shut_bool Try.underlying4 _), (trodAll_cons_mk (Below.trod laidOut (by kernel_rfl) (of_decide_eq_true (by kernel_rfl)) k0 bel lt0) (trodAll_cons_mk (Below.trod laidOut (by kernel_rfl) (of_decide_eq_true (by kernel_rfl)) k1 bel lt1) trodAll_mk0)), rfl, bel.frame _, fun h => by cases h⟩

theorem over : Rows.fnHrdRisesRow.holds Try.pinned (OpenSpec.ofChange Rows.fnHrdRisesSpec) :=
  OpenClaim.holds_of_wide 6 Try.f6 rfl rfl rfl rfl rfl rfl rfl ⟨rfl, rfl, rfl, rfl, rfl⟩ rfl rfl rfl rfl rfl (by kernel_rfl) Try.func6 (by kernel_rfl)
    (of_decide_eq_true (by kernel_rfl)) (by unfold Func.isWrapper; first | (rw [if_pos (by decide +kernel)]; kernel_rfl) | (rw [if_neg (by decide +kernel)]; exact ⟨rfl, rfl⟩))
    (fun os started H enc _ => lifted os started H enc)

end Go.Proofs.Ytioikijheilliaa.fnHrdRises
namespace Go.Proofs.Ytioikijheilliaa
theorem fnHrdRises_holds : Rows.FnHrdRisesSaid := fnHrdRises.over
#print axioms fnHrdRises_holds
end Go.Proofs.Ytioikijheilliaa
