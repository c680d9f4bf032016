/- FrmPut answers at every argument as the specification does, writes into no argument and keeps nothing of one; its answer owns its memory, behind another call too. No conditions. -/
import Derived.Test.YtbmjaiojeehifaaFrmPutC
import Derived.Test.YtbmjaiojeehifaaBytesMark2
import Derived.Test.YtbmjaiojeehifaaFrmHeadLaw
namespace Go.Proofs.Ytbmjaiojeehifaa.fnExactFrmPut
open Go.ChangeShapes Go.WideShapes Go.ChangeAt Go.RowKit Go.Joins Go.Deep
set_option linter.unusedVariables false
theorem boxKeep {w wN w' : World} {O : Obj} {n : Nat} (h : ∀ o, wN.cell? ⟨w.heap.size, o, none⟩ = (w.alloc O).cell? ⟨w.heap.size, o, none⟩) (hb : Below n wN w') (hn : w.heap.size < n) : ∀ o, w'.cell? ⟨w.heap.size, o, none⟩ = (w.alloc O).cell? ⟨w.heap.size, o, none⟩ :=
  fun o => (hb.cell (p := ⟨w.heap.size, o, none⟩) hn).trans (h o)
set_option maxHeartbeats 8000000 in
theorem walk (k f t y b p e s : Int) (a0 : Option Addr) (len0 cap0 : Nat) (z0 : List Int) (w : World) (x0 : (Lit.int .i64 k).wf = true) (x1 : (Lit.int .i64 f).wf = true) (x2 : (Lit.int .i64 t).wf = true) (x3 : (Lit.int .i64 y).wf = true) (x4 : (Lit.int .i64 b).wf = true) (x5 : (Lit.int .i64 p).wf = true) (x6 : (Lit.int .i64 e).wf = true) (x7 : (Lit.int .i64 s).wf = true) (k0 : IsRow .u8 w a0 len0 cap0 z0) :
    Calls Try.prog 12 #[.agg #[.int .i64 k, .int .i64 f, .int .i64 t, .int .i64 y, .int .i64 b, .int .i64 p, .int .i64 e, .int .i64 s], .slice a0 len0 cap0] w fun x w' => x = .returned (.bool true) ∧ Below w.heap.size w w' := by
  clear x0 x1 x2 x3 x4 x5 x6 x7
  have m0 := k0.max
  by_cases hl0 : len0 ≤ 1048576
  · obtain ⟨xs, hx0, r0⟩ := k0.rd hl0
    have R0 := hid (r0.keep (below_alloc1 w (.cells #[.int .i64 k, .int .i64 f, .int .i64 t, .int .i64 y, .int .i64 b, .int .i64 p, .int .i64 e, .int .i64 s] 42)))
    have N0 : xs.length ≤ 2000000 := r0.2.1
    clear hx0 k0 r0
    obtain ⟨L, hL⟩ : ∃ L, ptL k f t y b p e s xs = L := ⟨_, rfl⟩
    have HL := hid hL
    have NL : L.length ≤ 24 := by rw [← hL]; exact ptL_len _ _ _ _ _ _ _ _ _
    clear hL
    have B0 := hid (below_alloc1 w (.cells #[.int .i64 k, .int .i64 f, .int .i64 t, .int .i64 y, .int .i64 b, .int .i64 p, .int .i64 e, .int .i64 s] 42))
    have z0' : w.heap.size < (w.alloc (.cells #[.int .i64 k, .int .i64 f, .int .i64 t, .int .i64 y, .int .i64 b, .int .i64 p, .int .i64 e, .int .i64 s] 42)).heap.size := by simp
    go_enter Try.func12, Try.ntmps12
    go_wp2_with fail
    refine (toHead_any _ _ _ _ _ _ _ _ _).mono ?_
    rintro x w1 ⟨rfl, hb⟩
    have BB := hid (B0.out.trans (hb.mono (by simp)))
    have HBX := hid (boxKeep (fun _ => rfl) hb (by simp))
    have zz : w.heap.size < w1.heap.size := Nat.lt_of_lt_of_le z0' hb.size
    have R0 := hid (R0.out.keep hb)
    clear hb B0 z0'
    go_wp2_with fail
    refine (toBytes_any _ xs _ R0.out).mono ?_
    rintro x wv ⟨v1, rfl, o1, hb⟩
    have P1 := hid (o1.rd N0)
    have BB := hid (BB.out.trans (hb.mono (by omega)))
    have HBX := hid (boxKeep HBX.out hb (by omega))
    have R0 := hid (R0.out.keep hb)
    have zz : w.heap.size < wv.heap.size := Nat.lt_of_lt_of_le zz hb.size
    clear hb o1
    go_wp2_with fail
    refine (specPutF_any _ _ _ _ _ _ _ _ _ xs _ P1.out).mono ?_
    rintro x w2 ⟨s2, rfl, o2, hb⟩
    rw [HL.out] at o2
    have S2 := hid (o2.rd (by omega))
    have B2 := hid (BB.out.trans (hb.mono (by omega)))
    have HBX := hid (boxKeep HBX.out hb (by omega))
    have zz : w.heap.size < w2.heap.size := Nat.lt_of_lt_of_le zz hb.size
    have R0 := hid (R0.out.keep hb)
    clear hb o2 BB
    have C := hid (Below.refl w2.heap.size w2)
    go_wp2_with fail
    refine (toBytes_any _ xs _ R0.out).mono ?_
    rintro x w3 ⟨x3, rfl, o3, hb⟩
    have C := hid (C.out.trans hb)
    have X3 := hid o3
    have K3 := hid (fun k hk => (o3.blk k hk).2)
    have q3 : w2.heap.size ≤ w3.heap.size := hb.size
    clear hb o3
    have HC : ∀ o, _ = (w.alloc (.cells #[.int .i64 k, .int .i64 f, .int .i64 t, .int .i64 y, .int .i64 b, .int .i64 p, .int .i64 e, .int .i64 s] 42)).cell? ⟨w.heap.size, o, none⟩ := boxKeep HBX.out C.out zz
    go_wp2_with fail
    refine (toHead_any _ _ _ _ _ _ _ _ _).mono ?_
    rintro x w4h ⟨rfl, hb⟩
    have C := hid (C.out.trans (hb.mono C.out.size))
    have X3 := hid (X3.out.keep hb)
    clear hb HC
    have q4 : w2.heap.size ≤ w4h.heap.size := C.out.size
    have K3 : Hid (∀ k, x3.ownBlock = some k → k < w4h.heap.size) := hid (fun k hk => (X3.out.blk k hk).2)
    go_wp2_with fail
    refine (frmPut_any _ _ _ _ _ _ _ _ _ xs _ (X3.out.rd N0)).mono ?_
    rintro x w4 ⟨g4, rfl, o4, hb⟩
    rw [HL.out] at o4
    have C := hid (C.out.trans (hb.mono C.out.size))
    have G := hid o4
    have X3 := hid (X3.out.keep hb)
    clear hb o4
    go_wp2_with fail
    refine (eqBytes_same _ _ L _ (G.out.rd (by omega)) (S2.out.keep C.out)).mono ?_
    rintro x we ⟨rfl, hb⟩
    have C := hid (C.out.trans (hb.mono C.out.size))
    have G := hid (G.out.keep hb)
    have X3 := hid (X3.out.keep hb)
    clear hb
    go_wp2_with fail
    refine (toBytes_any _ xs _ (R0.out.keep C.out)).mono ?_
    rintro x w6 ⟨v6, rfl, o6, hb⟩
    have C := hid (C.out.trans (hb.mono C.out.size))
    have X3 := hid (X3.out.keep hb)
    have G := hid (G.out.keep hb)
    have T6 := hid (o6.rd N0)
    clear hb o6
    go_wp2_with fail
    refine (eqBytes_same _ _ xs _ (X3.out.rd N0) T6.out).mono ?_
    rintro x we ⟨rfl, hb⟩
    have C := hid (C.out.trans (hb.mono C.out.size))
    have G := hid (G.out.keep hb)
    have X3 := hid (X3.out.keep hb)
    clear hb
    go_wp2_with fail
    refine (mark_any _ xs _ w2.heap.size _ X3.out N0 (by omega) (by omega)).mono ?_
    rintro x w8 ⟨rfl, o8, h8, z8⟩
    have C := hid (C.out.grown h8 C.out.size (fun k hk => by have := (X3.out.blk k hk).1; omega))
    have G := hid (G.out.grown h8 (fun k hk => by have := K3.out k hk; omega))
    clear h8 o8 z8 X3
    have hneg : decide (1 + (xs.length : Int) < 0) = false := by simp; omega
    go_wp2_with fail
    refine (eqBytes_same _ _ L _ (G.out.rd (by omega)) (S2.out.keep C.out)).mono ?_
    rintro x we ⟨rfl, hb⟩
    have C := hid (C.out.trans (hb.mono C.out.size))
    have G := hid (G.out.keep hb)
    clear hb
    go_wp2_with fail
    refine (mark_any _ L 1 w4h.heap.size _ G.out (by omega) (by omega) (by omega)).mono ?_
    rintro x w10 ⟨rfl, o10, h10, z10⟩
    have C := hid (C.out.grown h10 C.out.size (fun k hk => by have := (G.out.blk k hk).1; omega))
    have G := hid o10
    clear h10 o10 z10
    go_wp2_with fail
    refine (held_any _ L.length 1 _ (G.out.rd (by rw [marks_len]; omega)) (by omega) (by omega)).mono ?_
    rintro x w11 ⟨rfl, rfl⟩
    have HC : ∀ o, _ = (w.alloc (.cells #[.int .i64 k, .int .i64 f, .int .i64 t, .int .i64 y, .int .i64 b, .int .i64 p, .int .i64 e, .int .i64 s] 42)).cell? ⟨w.heap.size, o, none⟩ := boxKeep HBX.out C.out zz
    go_wp2_with fail
    refine (toHead_any _ _ _ _ _ _ _ _ _).mono ?_
    rintro x w12 ⟨rfl, hb⟩
    have C := hid (C.out.trans (hb.mono C.out.size))
    have G := hid (G.out.keep hb)
    clear hb HC
    go_wp2_with fail
    refine (toBytes_any _ xs _ (R0.out.keep C.out)).mono ?_
    rintro x w12b ⟨v12, rfl, o12, hb⟩
    have C := hid (C.out.trans (hb.mono C.out.size))
    have G := hid (G.out.keep hb)
    have T12 := hid (o12.rd N0)
    clear hb o12
    go_wp2_with fail
    refine (frmPut_any _ _ _ _ _ _ _ _ _ xs _ T12.out).mono ?_
    rintro x w13 ⟨v13, rfl, o13, hb⟩
    rw [HL.out] at o13
    have C := hid (C.out.trans (hb.mono C.out.size))
    have G := hid (G.out.keep hb)
    have T13 := hid (o13.rd (by omega))
    clear hb o13
    go_wp2_with fail
    refine (eqBytes_same _ _ L _ T13.out (S2.out.keep C.out)).mono ?_
    rintro x we ⟨rfl, hb⟩
    have C := hid (C.out.trans (hb.mono C.out.size))
    have G := hid (G.out.keep hb)
    clear hb
    go_wp2_with fail
    refine (held_any _ L.length 1 _ (G.out.rd (by rw [marks_len]; omega)) (by omega) (by omega)).mono ?_
    rintro x w15 ⟨rfl, rfl⟩
    go_wp2
    go_ret
    exact ⟨rfl, B2.out.trans (C.out.mono (by omega))⟩
  · have hl' : (1048576 : Int) < (len0 : Int) := by omega
    clear k0
    go_enter Try.func12, Try.ntmps12
    go_wp2
    go_ret
    exact ⟨rfl, by (repeat' (first | exact Below.refl _ _ | assumption | exact Nat.le_refl _ | (refine Below.alloc ?_ ?_ _) | (refine Below.drew ?_) | (refine Below.setCell ?_ ?_ _) | (refine Below.trans ?_ (Below.mono (by assumption) ?_)) | (simp; done) | (simp; omega) | omega))⟩
theorem own : ownKnob Try.prog.godebug = none := by kernel_rfl
theorem laidOut : laidOutB Try.prog = true := by kernel_rfl
theorem cells42 : Try.prog.cellsOf 42 = 8 := by kernel_rfl
set_option maxRecDepth 100000 in
theorem lifted (os : Os) (started : os.Started) (H : Type) (enc : TypeId × Value → H) :
    ReturnsInHanded {} Try.checked os 12 .any (Rows.fnExactFrmPutSpec.pre6 enc Try.prog Try.f12 Rows.fnExactFrmPutRow.domain false) (Rows.fnExactFrmPutSpec.post enc Try.prog Try.f12 false true false false) := by
  refine returnsInHanded_of_change (C := Try.checked) own started (by kernel_rfl) Try.func12
    (ChangeSpec.witness6 (enc := enc) (C := Try.checked) false ⟨#[], #[.agg #[.int .i64 0, .int .i64 0, .int .i64 0, .int .i64 0, .int .i64 0, .int .i64 0, .int .i64 0, .int .i64 0], .slice none 0 0], []⟩ 8 (by kernel_rfl) (by kernel_rfl) (by kernel_rfl) (by kernel_rfl)) ?_
  intro W base args ds gs before hval0 hW hcnd _
  have hval : ∀ (j : Nat) t v, Try.f12.params[j]? = some t → args[j]? = some v → Value.okWide Try.prog W .any base t v := hval0
  have hW' := hW
  obtain ⟨p, q, hA0, hV, rfl, hfz, hnd⟩ := hW
  have hA : DataW.TrodAll enc Try.prog W 0 (fun _ => true) true Try.f12.params.toList args.toList ds p := hA0
  rw [Try.params12] at hA hval
  obtain ⟨v0, vs0, d0, ds0, p0, q0, hargs, rfl, rfl, h0, r0⟩ := trodAll_cons hA
  obtain ⟨v1, vs1, d1, ds1, p1, q1, rfl, rfl, rfl, h1, r1⟩ := trodAll_cons r0
  obtain ⟨rfl, rfl, rfl⟩ := trodAll_nil r1
  obtain rfl : args = #[v0, v1] := by cases args; simp_all
  obtain ⟨rfl, rfl⟩ := trodVars_none hV
  have k0 := h0
  have lt0 : ∀ x ∈ p0, x.block < W.heap.size := by obtain ⟨m, hm⟩ := k0; exact DataW.trod_lt m _ _ _ hm
  obtain ⟨as0, hn0, rfl, hw0⟩ := open_aggI Try.underlying42 (by kernel_rfl) Try.underlying3 (by rfl) cells42 (hval 0 42 v0 rfl rfl) h0
  obtain ⟨a0x0, a0x1, a0x2, a0x3, a0x4, a0x5, a0x6, a0x7, rfl⟩ := list_8 hn0
  have w0x0 := hw0 a0x0 (by simp)
  have w0x1 := hw0 a0x1 (by simp)
  have w0x2 := hw0 a0x2 (by simp)
  have w0x3 := hw0 a0x3 (by simp)
  have w0x4 := hw0 a0x4 (by simp)
  have w0x5 := hw0 a0x5 (by simp)
  have w0x6 := hw0 a0x6 (by simp)
  have w0x7 := hw0 a0x7 (by simp)
  obtain ⟨a1, len1, cap1, rfl⟩ := okWide_slice Try.underlying22 (hval 1 22 v1 rfl rfl)
  have k1 := h1
  have lt1 : ∀ x ∈ p1, x.block < W.heap.size := by obtain ⟨m, hm⟩ := k1; exact DataW.trod_lt m _ _ _ hm
  obtain ⟨z1, w1⟩ : ∃ zs, IsRow .u8 W a1 len1 cap1 zs := by
    obtain ⟨fuel, hf⟩ := h1
    rcases open_ints Try.underlying22 Try.underlying5 (by kernel_rfl) hf with ⟨hcs, _⟩ | ⟨x, l, c, zs, hcs, _, hl, hm, hz, _, hcell, hwz⟩
    · simp [Value.cells] at hcs
      obtain ⟨rfl, rfl, rfl⟩ := hcs
      exact ⟨[], .inl ⟨rfl, rfl, rfl, rfl⟩⟩
    · simp [Value.cells] at hcs
      obtain ⟨rfl, rfl, rfl⟩ := hcs
      exact ⟨zs, .inr ⟨_, rfl, hl, hm, by simpa using hz, hcell, hwz⟩⟩
  clear hA0 hval0
  refine (walk a0x0 a0x1 a0x2 a0x3 a0x4 a0x5 a0x6 a0x7 a1 len1 cap1 z1 W w0x0 w0x1 w0x2 w0x3 w0x4 w0x5 w0x6 w0x7 w1).mono fun e W' ⟨he, bel⟩ => ?_
  subst he
  exact ⟨_, rfl, _, _, _, [], _, [], hW', trodAll_mk1 (shut_bool Try.underlying4 _), (trodAll_cons_mk (Below.trod laidOut (by kernel_rfl) (of_decide_eq_true (by kernel_rfl)) k0 bel lt0) (trodAll_cons_mk (Below.trod laidOut (by kernel_rfl) (of_decide_eq_true (by kernel_rfl)) k1 bel lt1) trodAll_mk0)), rfl, bel.frame _, fun h => by cases h⟩

theorem over : Rows.fnExactFrmPutRow.holds Try.pinned (OpenSpec.ofChange Rows.fnExactFrmPutSpec) :=
  OpenClaim.holds_of_wide 12 Try.f12 rfl rfl rfl rfl rfl rfl rfl ⟨rfl, rfl, rfl, rfl, rfl⟩ rfl rfl rfl rfl rfl (by kernel_rfl) Try.func12 (by kernel_rfl)
    (of_decide_eq_true (by kernel_rfl)) (by unfold Func.isWrapper; first | (rw [if_pos (by decide +kernel)]; kernel_rfl) | (rw [if_neg (by decide +kernel)]; exact ⟨rfl, rfl⟩))
    (fun os started H enc _ => lifted os started H enc)

end Go.Proofs.Ytbmjaiojeehifaa.fnExactFrmPut
namespace Go.Proofs.Ytbmjaiojeehifaa
theorem fnExactFrmPut_holds : Rows.FnExactFrmPutSaid := fnExactFrmPut.over
#print axioms fnExactFrmPut_holds
end Go.Proofs.Ytbmjaiojeehifaa
