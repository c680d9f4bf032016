/- FrmTake answers at every argument as the specification does, writes into no argument and keeps nothing of one; its answer owns its memory, behind another call too: where errors.errorType holds what the library's own text lays there. -/
import Derived.Test.YticdpdmpdkliaaaDoorDoorBase
import Derived.Test.YticdpdmpdkliaaaDoorFrmTkS
import Derived.Test.YticdpdmpdkliaaaDoorCards
import Derived.Test.YticdpdmpdkliaaaDoorTie
import Derived.Deep.AppendLies
namespace Go.Proofs.YticdpdmpdkliaaaDoor.fnExactFrmTake
open Go.ChangeShapes Go.WideShapes Go.ChangeAt Go.RowKit Go.Joins Go.Deep
set_option linter.unusedVariables false
set_option linter.unusedSimpArgs false
set_option maxRecDepth 4000
theorem own_capT {w : World} {B : Nat} {v : Value} {xs : List Int} (h : Own w B v xs) : ∃ a cap, v = .slice a xs.length cap ∧ xs.length ≤ cap := by
  obtain ⟨h1, h2, h3⟩ := h
  rcases h3 with ⟨hv, h0⟩ | ⟨g, cap, cur, hv, hg, hh, hnc, hm, hsz, hcur⟩
  · exact ⟨none, 0, by rw [hv, h0], by omega⟩
  · exact ⟨_, cap, hv, by omega⟩
/-- A head that lies in eight cells. -/
def Hd (w : World) (b : Nat) (v0 v1 v2 v3 v4 v5 v6 v7 : Int) : Prop := b < w.heap.size ∧ w.cell? ⟨b, 0, none⟩ = some (.int .i64 v0) ∧ w.cell? ⟨b, 1, none⟩ = some (.int .i64 v1) ∧ w.cell? ⟨b, 2, none⟩ = some (.int .i64 v2) ∧ w.cell? ⟨b, 3, none⟩ = some (.int .i64 v3) ∧ w.cell? ⟨b, 4, none⟩ = some (.int .i64 v4) ∧ w.cell? ⟨b, 5, none⟩ = some (.int .i64 v5) ∧ w.cell? ⟨b, 6, none⟩ = some (.int .i64 v6) ∧ w.cell? ⟨b, 7, none⟩ = some (.int .i64 v7)
theorem Hd.keep {w w' : World} {b : Nat} {v0 v1 v2 v3 v4 v5 v6 v7 : Int} (h : Hd w b v0 v1 v2 v3 v4 v5 v6 v7) (hb : Below w.heap.size w w') : Hd w' b v0 v1 v2 v3 v4 v5 v6 v7 := by
  obtain ⟨hz, c0, c1, c2, c3, c4, c5, c6, c7⟩ := h
  exact ⟨Nat.lt_of_lt_of_le hz hb.size, cell_keep hb c0, cell_keep hb c1, cell_keep hb c2, cell_keep hb c3, cell_keep hb c4, cell_keep hb c5, cell_keep hb c6, cell_keep hb c7⟩
theorem Hd.grown {w w' : World} {b : Nat} {v0 v1 v2 v3 v4 v5 v6 v7 : Int} {row : Option Nat} (h : Hd w b v0 v1 v2 v3 v4 v5 v6 v7) (hg : w.grownBy w' row) (hz' : w'.heap.size = w.heap.size) (hr : ∀ k, row = some k → k ≠ b) : Hd w' b v0 v1 v2 v3 v4 v5 v6 v7 := by
  obtain ⟨hz, c0, c1, c2, c3, c4, c5, c6, c7⟩ := h
  have hn : some b ≠ row := fun e => hr b e.symm rfl
  exact ⟨by omega, (hg.cell_far ⟨b, 0, none⟩ hz hn).trans c0, (hg.cell_far ⟨b, 1, none⟩ hz hn).trans c1, (hg.cell_far ⟨b, 2, none⟩ hz hn).trans c2, (hg.cell_far ⟨b, 3, none⟩ hz hn).trans c3, (hg.cell_far ⟨b, 4, none⟩ hz hn).trans c4, (hg.cell_far ⟨b, 5, none⟩ hz hn).trans c5, (hg.cell_far ⟨b, 6, none⟩ hz hn).trans c6, (hg.cell_far ⟨b, 7, none⟩ hz hn).trans c7⟩
theorem hd_alloc (w : World) (v0 v1 v2 v3 v4 v5 v6 v7 : Int) : Hd (w.alloc (.cells #[.int .i64 v0, .int .i64 v1, .int .i64 v2, .int .i64 v3, .int .i64 v4, .int .i64 v5, .int .i64 v6, .int .i64 v7] 37)) w.heap.size v0 v1 v2 v3 v4 v5 v6 v7 :=
  ⟨by simp, by go_simp, by go_simp, by go_simp, by go_simp, by go_simp, by go_simp, by go_simp, by go_simp⟩
set_option maxHeartbeats 4000000 in
theorem eqHead_same (v0 v1 v2 v3 v4 v5 v6 v7 : Int) (w : World) :
    Calls Tryd.prog 36 #[.agg #[.int .i64 v0, .int .i64 v1, .int .i64 v2, .int .i64 v3, .int .i64 v4, .int .i64 v5, .int .i64 v6, .int .i64 v7], .agg #[.int .i64 v0, .int .i64 v1, .int .i64 v2, .int .i64 v3, .int .i64 v4, .int .i64 v5, .int .i64 v6, .int .i64 v7]] w fun e w' => e = .returned (.bool true) ∧ Below w.heap.size w w' := by
  have B := hid ((below_alloc1 w (.cells #[.int .i64 v0, .int .i64 v1, .int .i64 v2, .int .i64 v3, .int .i64 v4, .int .i64 v5, .int .i64 v6, .int .i64 v7] 37)).alloc (by simp) (.cells #[.int .i64 v0, .int .i64 v1, .int .i64 v2, .int .i64 v3, .int .i64 v4, .int .i64 v5, .int .i64 v6, .int .i64 v7] 37))
  go_enter Tryd.func36, Tryd.ntmps36
  go_wp2
  go_ret
  exact ⟨rfl, B.out⟩
set_option maxHeartbeats 8000000 in
theorem walk (a0 : Option Addr) (len0 cap0 : Nat) (z0 : List Int) (w : World) (k0 : IsRow .u8 w a0 len0 cap0 z0) (het : Et w) :
    Calls Tryd.prog 10 #[.slice a0 len0 cap0] w fun e w' => e = .returned (.bool true) ∧ Below w.heap.size w w' := by
  have m0 := k0.max
  have hp := het.pos
  by_cases hl0 : len0 ≤ 1048576
  · have hl0' : (len0 : Int) ≤ 1048576 := by omega
    obtain ⟨xs, hx0, r0⟩ := k0.rd hl0
    have R0 := hid r0
    have N0 : xs.length ≤ 2000000 := r0.2.1
    have NL := ftL_len xs
    obtain ⟨L, hL⟩ : ∃ L, ftL xs = L := ⟨_, rfl⟩
    obtain ⟨OK, hOK⟩ : ∃ OK, ftOk xs = OK := ⟨_, rfl⟩
    obtain ⟨v0, e0⟩ : ∃ v, ftH xs 0 = v := ⟨_, rfl⟩
    obtain ⟨v1, e1⟩ : ∃ v, ftH xs 1 = v := ⟨_, rfl⟩
    obtain ⟨v2, e2⟩ : ∃ v, ftH xs 2 = v := ⟨_, rfl⟩
    obtain ⟨v3, e3⟩ : ∃ v, ftH xs 3 = v := ⟨_, rfl⟩
    obtain ⟨v4, e4⟩ : ∃ v, ftH xs 4 = v := ⟨_, rfl⟩
    obtain ⟨v5, e5⟩ : ∃ v, ftH xs 5 = v := ⟨_, rfl⟩
    obtain ⟨v6, e6⟩ : ∃ v, ftH xs 6 = v := ⟨_, rfl⟩
    obtain ⟨v7, e7⟩ : ∃ v, ftH xs 7 = v := ⟨_, rfl⟩
    have HEQ := hid (And.intro e0 (And.intro e1 (And.intro e2 (And.intro e3 (And.intro e4 (And.intro e5 (And.intro e6 e7)))))))
    have HO := hid (And.intro hL hOK)
    rw [hL] at NL
    have NL : L.length ≤ 2000000 := by omega
    have HE := hid het
    clear hx0 k0 r0 het hL hOK e0 e1 e2 e3 e4 e5 e6 e7
    have C := hid (Below.refl w.heap.size w)
    go_enter Tryd.func10, Tryd.ntmps10
    go_wp2_with fail
    refine (toBytes_any _ xs _ (R0.out.keep C.out)).mono ?_
    rintro e w1 ⟨v, rfl, oo, hb⟩
    have C := hid (C.out.trans (hb.mono C.out.size))
    have P := hid (oo.rd N0)
    obtain ⟨aa1, cc1, rfl, hcc1⟩ := own_capT oo
    clear hb oo
    go_wp2_with fail
    refine (specTakeF_any _ _ xs _ P.out hcc1).mono ?_
    rintro e w2 ⟨s, he, oo, hb⟩
    rw [HEQ.out.1, HEQ.out.2.1, HEQ.out.2.2.1, HEQ.out.2.2.2.1, HEQ.out.2.2.2.2.1, HEQ.out.2.2.2.2.2.1, HEQ.out.2.2.2.2.2.2.1, HEQ.out.2.2.2.2.2.2.2, HO.out.2] at he
    rw [HO.out.1] at oo
    subst he
    have C := hid (C.out.trans (hb.mono C.out.size))
    have S := hid (oo.rd NL)
    clear hb oo P
    have B2 := hid C.out
    have z2 : w.heap.size ≤ w2.heap.size := C.out.size
    have R0 := hid (R0.out.keep C.out)
    have HE := hid (HE.out.keep C.out hp)
    have hp2 : 0 < w2.heap.size := by omega
    clear C
    have A2 := hid (below_alloc1 w2 (.cells #[.int .i64 v0, .int .i64 v1, .int .i64 v2, .int .i64 v3, .int .i64 v4, .int .i64 v5, .int .i64 v6, .int .i64 v7] 37))
    have zA : (w2.alloc (.cells #[.int .i64 v0, .int .i64 v1, .int .i64 v2, .int .i64 v3, .int .i64 v4, .int .i64 v5, .int .i64 v6, .int .i64 v7] 37)).heap.size = w2.heap.size + 1 := by simp
    have ZA := hid zA
    clear zA
    go_wp2_with fail
    refine (toBytes_any _ xs _ (R0.out.keep A2.out)).mono ?_
    rintro e w4 ⟨x2, rfl, oo, hb⟩
    have C := hid (A2.out.trans (hb.mono A2.out.size))
    have D3 := hid ((hd_alloc w2 v0 v1 v2 v3 v4 v5 v6 v7).keep hb)
    have X2 := hid (oo.low (B' := w2.heap.size + 1) (by have := ZA.out; omega))
    have z4 : w2.heap.size + 1 ≤ w4.heap.size := by have := hb.size; have := ZA.out; omega
    obtain ⟨aa3, cc3, rfl, hcc3⟩ := own_capT oo
    clear hb oo A2 ZA
    have K2 := hid (fun k hk => (X2.out.blk k hk).2)
    go_wp2_with fail
    refine (frmTake_any _ _ xs _ (X2.out.rd N0) hcc3 (HE.out.keep C.out hp2)).mono ?_
    rintro e w5 ⟨g, he, oo, hb⟩
    rw [HEQ.out.1, HEQ.out.2.1, HEQ.out.2.2.1, HEQ.out.2.2.2.1, HEQ.out.2.2.2.2.1, HEQ.out.2.2.2.2.2.1, HEQ.out.2.2.2.2.2.2.1, HEQ.out.2.2.2.2.2.2.2, HO.out.2] at he
    rw [HO.out.1] at oo
    subst he
    have C := hid (C.out.trans (hb.mono C.out.size))
    have G := hid oo
    have z5 : w4.heap.size ≤ w5.heap.size := hb.size
    have X2 := hid (X2.out.keep hb)
    have D3 := hid (D3.out.keep hb)
    have K4 := hid (fun k hk => (G.out.blk k hk).2)
    clear hb oo
    have A5 := hid (below_alloc1 w5 (.cells #[.int .i64 v0, .int .i64 v1, .int .i64 v2, .int .i64 v3, .int .i64 v4, .int .i64 v5, .int .i64 v6, .int .i64 v7] 37))
    obtain ⟨_, d0, d1, d2, d3, d4, d5, d6, d7⟩ := D3.out.keep A5.out
    go_wp2_with fail
    refine (eqHead_same v0 v1 v2 v3 v4 v5 v6 v7 _).mono ?_
    rintro e w6 ⟨rfl, hb⟩
    clear d0 d1 d2 d3 d4 d5 d6 d7
    have D7 := hid ((hd_alloc w5 v0 v1 v2 v3 v4 v5 v6 v7).keep hb)
    have hb := A5.out.trans (hb.mono A5.out.size)
    have C := hid (C.out.trans (hb.mono C.out.size))
    have z6 : w5.heap.size ≤ w6.heap.size := hb.size
    have X2 := hid (X2.out.keep hb)
    have D3 := hid (D3.out.keep hb)
    have G := hid (G.out.keep hb)
    clear hb A5
    go_wp2_with fail
    refine (eqBytes_same _ _ L _ (G.out.rd NL) (S.out.keep C.out)).mono ?_
    rintro e we ⟨rfl, hb⟩
    have C := hid (C.out.trans (hb.mono C.out.size))
    have X2 := hid (X2.out.keep hb)
    have D3 := hid (D3.out.keep hb)
    have D7 := hid (D7.out.keep hb)
    have G := hid (G.out.keep hb)
    clear hb
    go_wp2_with fail
    refine (toBytes_any _ xs _ (R0.out.keep C.out)).mono ?_
    rintro e w8 ⟨v8, rfl, oo, hb⟩
    have C := hid (C.out.trans (hb.mono C.out.size))
    have P8 := hid (oo.rd N0)
    have X2 := hid (X2.out.keep hb)
    have D3 := hid (D3.out.keep hb)
    have D7 := hid (D7.out.keep hb)
    have G := hid (G.out.keep hb)
    clear hb oo
    go_wp2_with fail
    refine (eqBytes_same _ _ xs _ (X2.out.rd N0) P8.out).mono ?_
    rintro e we ⟨rfl, hb⟩
    have C := hid (C.out.trans (hb.mono C.out.size))
    have X2 := hid (X2.out.keep hb)
    have D3 := hid (D3.out.keep hb)
    have D7 := hid (D7.out.keep hb)
    have G := hid (G.out.keep hb)
    clear hb
    clear P8
    go_wp2_with fail
    refine (mark_any _ xs _ (w2.heap.size + 1) _ X2.out N0 (by omega) (by omega)).mono ?_
    rintro e w12 ⟨rfl, o12, h12, z12⟩
    have C := hid (C.out.grown h12 C.out.size (fun k hk => by have := (X2.out.blk k hk).1; omega))
    have G := hid (G.out.grown h12 (fun k hk => by have := K2.out k hk; omega))
    have D3 := hid (D3.out.grown h12 z12 (fun k hk => by have := (X2.out.blk k hk).1; omega))
    have D7 := hid (D7.out.grown h12 z12 (fun k hk => by have := K2.out k hk; omega))
    clear h12 o12 z12 X2
    have hneg : decide (1 + (xs.length : Int) < 0) = false := by simp; omega
    obtain ⟨_, d0, d1, d2, d3, d4, d5, d6, d7⟩ := D3.out
    obtain ⟨_, f0, f1, f2, f3, f4, f5, f6, f7⟩ := D7.out
    go_wp2_with fail
    refine (eqHead_same v0 v1 v2 v3 v4 v5 v6 v7 _).mono ?_
    rintro e w13 ⟨rfl, hb⟩
    clear d0 f0 d1 f1 d2 f2 d3 f3 d4 f4 d5 f5 d6 f6 d7 f7
    have C := hid (C.out.trans (hb.mono C.out.size))
    have D3 := hid (D3.out.keep hb)
    have G := hid (G.out.keep hb)
    clear hb D7
    go_wp2_with fail
    refine (eqBytes_same _ _ L _ (G.out.rd NL) (S.out.keep C.out)).mono ?_
    rintro e we ⟨rfl, hb⟩
    have C := hid (C.out.trans (hb.mono C.out.size))
    have D3 := hid (D3.out.keep hb)
    have G := hid (G.out.keep hb)
    clear hb
    go_wp2_with fail
    refine (mark_any _ L 1 w4.heap.size _ G.out NL (by omega) (by omega)).mono ?_
    rintro e w15 ⟨rfl, o15, h15, z15⟩
    have C := hid (C.out.grown h15 C.out.size (fun k hk => by have := (G.out.blk k hk).1; omega))
    have D3 := hid (D3.out.grown h15 z15 (fun k hk => by have := (G.out.blk k hk).1; omega))
    have G := hid o15
    clear h15 o15 z15
    go_wp2_with fail
    refine (held_any _ L.length 1 _ (G.out.rd (by rw [marks_len]; omega)) (by omega) (by omega)).mono ?_
    rintro e w16 ⟨rfl, rfl⟩
    go_wp2_with fail
    refine (toBytes_any _ xs _ (R0.out.keep C.out)).mono ?_
    rintro e w17 ⟨v17, rfl, oo, hb⟩
    have C := hid (C.out.trans (hb.mono C.out.size))
    have P := hid (oo.rd N0)
    obtain ⟨aa17, cc17, rfl, hcc17⟩ := own_capT oo
    have D3 := hid (D3.out.keep hb)
    have G := hid (G.out.keep hb)
    clear hb oo
    go_wp2_with fail
    refine (frmTake_any _ _ xs _ P.out hcc17 (HE.out.keep C.out hp2)).mono ?_
    rintro e w18 ⟨h, he, oo, hb⟩
    rw [HEQ.out.1, HEQ.out.2.1, HEQ.out.2.2.1, HEQ.out.2.2.2.1, HEQ.out.2.2.2.2.1, HEQ.out.2.2.2.2.2.1, HEQ.out.2.2.2.2.2.2.1, HEQ.out.2.2.2.2.2.2.2, HO.out.2] at he
    rw [HO.out.1] at oo
    subst he
    have C := hid (C.out.trans (hb.mono C.out.size))
    have T := hid (oo.rd NL)
    have D3 := hid (D3.out.keep hb)
    have G := hid (G.out.keep hb)
    clear hb oo P
    have A5 := hid (below_alloc1 w18 (.cells #[.int .i64 v0, .int .i64 v1, .int .i64 v2, .int .i64 v3, .int .i64 v4, .int .i64 v5, .int .i64 v6, .int .i64 v7] 37))
    obtain ⟨_, d0, d1, d2, d3, d4, d5, d6, d7⟩ := D3.out.keep A5.out
    go_wp2_with fail
    refine (eqHead_same v0 v1 v2 v3 v4 v5 v6 v7 _).mono ?_
    rintro e w19 ⟨rfl, hb⟩
    clear d0 d1 d2 d3 d4 d5 d6 d7
    have hb := A5.out.trans (hb.mono A5.out.size)
    have C := hid (C.out.trans (hb.mono C.out.size))
    have G := hid (G.out.keep hb)
    have T := hid (T.out.keep hb)
    clear hb A5 D3
    go_wp2_with fail
    refine (eqBytes_same _ _ L _ T.out (S.out.keep C.out)).mono ?_
    rintro e we ⟨rfl, hb⟩
    have C := hid (C.out.trans (hb.mono C.out.size))
    have G := hid (G.out.keep hb)
    clear hb
    go_wp2_with fail
    refine (held_any _ L.length 1 _ (G.out.rd (by rw [marks_len]; omega)) (by omega) (by omega)).mono ?_
    rintro e w21 ⟨rfl, rfl⟩
    go_wp2
    go_ret
    exact ⟨rfl, B2.out.trans (C.out.mono z2)⟩
  · have hl0' : (1048576 : Int) < (len0 : Int) := by omega
    clear k0
    go_enter Tryd.func10, Tryd.ntmps10
    go_wp2
    go_ret
    exact ⟨rfl, Below.refl _ _⟩
theorem own : ownKnob Tryd.prog.godebug = none := by kernel_rfl
theorem laidOut : laidOutB Tryd.prog = true := by kernel_rfl
set_option maxRecDepth 100000 in
theorem lifted (os : Os) (started : os.Started) (H : Type) (enc : TypeId × Value → H) :
    ReturnsInHanded {} Tryd.checked os 10 .any (fun w args => (Rows.fnExactFrmTakeSpec.pre enc Tryd.prog Tryd.f10 Rows.fnExactFrmTakeRow.domain false w args ∧ laidMetH Tryd.prog Rows.fnExactFrmTakeRow.laid w) ∧ sizedMet enc Tryd.prog Tryd.f10 (OpenSpec.ofChange Rows.fnExactFrmTakeSpec) false w args) (Rows.fnExactFrmTakeSpec.post enc Tryd.prog Tryd.f10 false true false false) := by
  refine returnsInHanded_of_change_and (C := Tryd.checked) (X := fun w _ => laidMetH Tryd.prog Rows.fnExactFrmTakeRow.laid w) (fun _ _ _ hh h => h.of_heap hh) own started (by kernel_rfl) Tryd.func10
    (ChangeSpec.witness_at (enc := enc) (C := Tryd.checked) (os := os) (X := fun w _ => laidMetH Tryd.prog Rows.fnExactFrmTakeRow.laid w) false (laidWorld os) #[.slice none 0 0] 8 rfl (by kernel_rfl) (by kernel_rfl) (by kernel_rfl) (by kernel_rfl) (by kernel_rfl) (laidWorld_met os _)) ?_
  intro W base args ds gs before hval0 hW _ _ hL _
  have hval : ∀ (j : Nat) t v, Tryd.f10.params[j]? = some t → args[j]? = some v → Value.okWide Tryd.prog W .any base t v := hval0
  have hW' := hW
  obtain ⟨p, q, hA0, hV, rfl, hfz, hnd⟩ := hW
  have hA : DataW.TrodAll enc Tryd.prog W 0 (fun _ => true) true Tryd.f10.params.toList args.toList ds p := hA0
  rw [Tryd.params10] at hA hval
  obtain ⟨v0, vs0, d0, ds0, p0, q0, hargs, rfl, rfl, h0, r0⟩ := trodAll_cons hA
  obtain ⟨rfl, rfl, rfl⟩ := trodAll_nil r0
  obtain rfl : args = #[v0] := by cases args; simp_all
  obtain ⟨rfl, rfl⟩ := trodVars_none hV
  obtain ⟨a0, len0, cap0, rfl⟩ := okWide_slice Tryd.underlying22 (hval 0 22 v0 rfl rfl)
  have k0 := h0
  have lt0 : ∀ x ∈ p0, x.block < W.heap.size := by obtain ⟨m, hm⟩ := k0; exact DataW.trod_lt m _ _ _ hm
  obtain ⟨z0, w0⟩ : ∃ zs, IsRow .u8 W a0 len0 cap0 zs := by
    obtain ⟨fuel, hf⟩ := h0
    rcases open_ints Tryd.underlying22 Tryd.underlying5 (by kernel_rfl) hf with ⟨hcs, _⟩ | ⟨x, l, c, zs, hcs, _, hl, hm, hz, _, hcell, hwz⟩
    · simp [Value.cells] at hcs
      obtain ⟨rfl, rfl, rfl⟩ := hcs
      exact ⟨[], .inl ⟨rfl, rfl, rfl, rfl⟩⟩
    · simp [Value.cells] at hcs
      obtain ⟨rfl, rfl, rfl⟩ := hcs
      exact ⟨zs, .inr ⟨_, rfl, hl, hm, by simpa using hz, hcell, hwz⟩⟩
  clear hA0 hval0
  refine (walk a0 len0 cap0 z0 W w0 (handle_of_laid hL)).mono fun e W' ⟨he, bel⟩ => ?_
  subst he
  exact ⟨_, rfl, _, _, _, [], _, [], hW', trodAll_mk1 (shut_bool Tryd.underlying4 _), (trodAll_cons_mk (Below.trod laidOut (by kernel_rfl) (of_decide_eq_true (by kernel_rfl)) k0 bel lt0) trodAll_mk0), rfl, bel.frame _, fun h => by cases h⟩

theorem over : Rows.fnExactFrmTakeRow.holds Tryd.pinned (OpenSpec.ofChange Rows.fnExactFrmTakeSpec) :=
  OpenClaim.holds_of_wide 10 Tryd.f10 rfl rfl rfl rfl rfl rfl rfl ⟨rfl, rfl, rfl, rfl, rfl⟩ rfl rfl rfl rfl rfl (by kernel_rfl) Tryd.func10 (by kernel_rfl)
    (of_decide_eq_true (by kernel_rfl)) (by unfold Func.isWrapper; first | (rw [if_pos (by decide +kernel)]; kernel_rfl) | (rw [if_neg (by decide +kernel)]; exact ⟨rfl, rfl⟩))
    (fun os started H enc _ => lifted os started H enc)

end Go.Proofs.YticdpdmpdkliaaaDoor.fnExactFrmTake
namespace Go.Proofs.YticdpdmpdkliaaaDoor
open Go
theorem fnExactFrmTake_row : Rows.FnExactFrmTakeSaid := fnExactFrmTake.over
theorem fnExactFrmTake_holds : Rows.FnExactFrmTakeCardSaid :=
  Claim7.holds_tied_plain_at .later [] [.handle] true Rows.fnExactFrmTakeCard.stood.harness true
    fnExactFrmTake_row (fun _ h => by cases h) (by kernel_rfl) (fun _ h => by cases h) fnExactFrmTake_row_tie rfl ⟨rfl, rfl⟩ (by kernel_rfl) rfl
    (fun f fn hf hfn => by
      obtain rfl : f = 10 := Option.some.inj ((show Tryd.prog.funcNamed Rows.fnExactFrmTakeRow.func = some 10 by kernel_rfl).symm.trans hf) |>.symm
      obtain rfl : fn = Tryd.f10 := (Option.some.inj (Tryd.func10.symm.trans hfn)).symm
      exact ⟨by kernel_rfl, fun j t ht => by
        rw [Tryd.params10] at ht
        rcases j with _ | j
        · simp at ht; subst ht; exact (show Tryd.prog.wantsStandIn 22 = false by kernel_rfl)
        · simp at ht⟩)
    (by kernel_rfl)
#print axioms fnExactFrmTake_holds
end Go.Proofs.YticdpdmpdkliaaaDoor
