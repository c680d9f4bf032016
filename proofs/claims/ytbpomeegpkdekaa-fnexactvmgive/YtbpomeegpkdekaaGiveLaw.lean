/- VmGive answers at every machine, ask and answer as the specification does, field by field, writes into no argument and keeps nothing of one; its answer owns its memory, behind another call too. No conditions. -/
import Derived.Test.YtbpomeegpkdekaaGiveReg
import Derived.Test.YtbpomeegpkdekaaOpenAsk
import Derived.Test.YtbpomeegpkdekaaOpenI
import Derived.Test.YtbpomeegpkdekaaSzI
import Derived.Deep.RegionWith
import Derived.Deep.DeepCutAuto
namespace Go.Proofs.Ytbpomeegpkdekaa.fnExactVmGive
open Go.ChangeShapes Go.WideShapes Go.ChangeAt Go.RowKit Go.Joins Go.Deep
set_option linter.unusedVariables false
set_option linter.unusedSimpArgs false
set_option maxRecDepth 4000
theorem ldVL {b : Nat} {x y z t : Value} (w : World) (h0 : w.cell? ⟨b, 0, none⟩ = some x) (h1 : w.cell? ⟨b, 1, none⟩ = some y) (h2 : w.cell? ⟨b, 2, none⟩ = some z) (h3 : w.cell? ⟨b, 3, none⟩ = some t) : (Instr.loadAt 53 (.pointer (some ⟨b, 0, none⟩))).run Try.prog w = .ok (.agg #[x, y, z, t]) w := by
  go_simp
theorem ldVI {b : Nat} {x y z t : Value} (w : World) (h0 : w.cell? ⟨b, 0, none⟩ = some x) (h1 : w.cell? ⟨b, 1, none⟩ = some y) (h2 : w.cell? ⟨b, 2, none⟩ = some z) (h3 : w.cell? ⟨b, 3, none⟩ = some t) : (Instr.loadAt 25 (.pointer (some ⟨b, 0, none⟩))).run Try.prog w = .ok (.agg #[x, y, z, t]) w := by
  go_simp
theorem ldAL {b : Nat} {x y z t u v : Value} (w : World) (h0 : w.cell? ⟨b, 0, none⟩ = some x) (h1 : w.cell? ⟨b, 1, none⟩ = some y) (h2 : w.cell? ⟨b, 2, none⟩ = some z) (h3 : w.cell? ⟨b, 3, none⟩ = some t) (h4 : w.cell? ⟨b, 4, none⟩ = some u) (h5 : w.cell? ⟨b, 5, none⟩ = some v) : (Instr.loadAt 61 (.pointer (some ⟨b, 0, none⟩))).run Try.prog w = .ok (.agg #[x, y, z, t, u, v]) w := by
  go_simp
theorem ldAI {b : Nat} {x y z t u v : Value} (w : World) (h0 : w.cell? ⟨b, 0, none⟩ = some x) (h1 : w.cell? ⟨b, 1, none⟩ = some y) (h2 : w.cell? ⟨b, 2, none⟩ = some z) (h3 : w.cell? ⟨b, 3, none⟩ = some t) (h4 : w.cell? ⟨b, 4, none⟩ = some u) (h5 : w.cell? ⟨b, 5, none⟩ = some v) : (Instr.loadAt 30 (.pointer (some ⟨b, 0, none⟩))).run Try.prog w = .ok (.agg #[x, y, z, t, u, v]) w := by
  go_simp
set_option maxHeartbeats 16000000 in
theorem walk (pc : Int) (a1 : Option Addr) (nr c1 : Nat) (z1 : List Int) (a2 : Option Addr) (nm c2 : Nat) (z2 : List Int) (ht : Int) (k y : Int) (a3 : Option Addr) (nb c3 : Nat) (z3 : List Int) (t g f : Int) (a4 : Option Addr) (ng c4 : Nat) (z4 : List Int) (yes : Bool) (w : World) (k1 : IsRowI 1 w a1 nr c1 z1) (k2 : IsRowI 1 w a2 nm c2 z2) (k3 : IsRow .u8 w a3 nb c3 z3) (k4 : IsRow .u8 w a4 ng c4 z4) :
    Calls Try.prog 11 #[.agg #[.int .i64 pc, .slice a1 nr c1, .slice a2 nm c2, .int .i64 ht], .agg #[.int .i64 k, .int .i64 y, .slice a3 nb c3, .int .i64 t, .int .i64 g, .int .i64 f], .slice a4 ng c4, .bool yes] w fun e w' => e = .returned (.bool true) ∧ Below w.heap.size w w' := by
  have m1 := k1.max
  have m2 := k2.max
  have m3 := k3.max
  have m4 := k4.max
  by_cases h4 : ng ≤ 1048576
  · by_cases hv : nr + nm ≤ 1048576
    · by_cases ha : nr + nm + nb ≤ 1048576
      · obtain ⟨xs, r1⟩ := k1.rd (by omega) (by omega)
        obtain ⟨ys, r2⟩ := k2.rd (by omega) (by omega)
        obtain ⟨bs, hx3, r3⟩ := k3.rd (by omega)
        obtain ⟨got, hx4, r4⟩ := k4.rd (by omega)
        subst hx3 hx4
        obtain ⟨PC, HT, N, M, XS, YS, n4, m8, hI, hS⟩ := give_both pc ht k y t g f bs got yes nr nm xs ys
        have HI := hid hI
        have HS := hid hS
        have E1 : Hid ((if (1048576 : Int) - nr < 0 then -1 else if (1048576 : Int) - nr - nm < 0 then -1 else (1048576 : Int) - nr - nm) = 1048576 - nr - nm) := hid (by rw [if_neg (by omega), if_neg (by omega)])
        have E2 : Hid ((if (1048576 : Int) - nr - nm - (bs.length : Int) < 0 then -1 else (1048576 : Int) - nr - nm - bs.length) = 1048576 - nr - nm - bs.length) := hid (if_neg (by omega))
        have d1 : decide ((1048576 : Int) - nr - nm < 0) = false := by simp; omega
        have d2 : decide ((1048576 : Int) - nr - nm - bs.length < 0) = false := by simp; omega
        have d3 : decide ((1048576 : Int) < (got.length : Int)) = false := by simp; omega
        have RR1 := hid r1
        have RR2 := hid r2
        have RR3 := hid r3
        have RR4 := hid r4
        have R1 := hid r1
        have R2 := hid r2
        have R3 := hid r3
        have R4 := hid r4
        have PP := hid (Below.refl w.heap.size w)
        clear k1 k2 k3 k4 r1 r2 r3 r4 hI hS
        go_enter Try.func11, Try.ntmps11
        go_wp2_with fail
        have A := below_alloc1 w (.cells #[.int .i64 pc, .slice a1 nr c1, .slice a2 nm c2, .int .i64 ht] 53)
        replace R1 := hid (R1.out.keep A)
        replace R2 := hid (R2.out.keep A)
        replace R3 := hid (R3.out.keep A)
        replace R4 := hid (R4.out.keep A)
        replace PP := hid (PP.out.trans (A.mono PP.out.size))
        have VA := hid (vb_new w [.int .i64 pc, .slice a1 nr c1, .slice a2 nm c2, .int .i64 ht] 53)
        have zz0 : (w.alloc (.cells #[.int .i64 pc, .slice a1 nr c1, .slice a2 nm c2, .int .i64 ht] 53)).heap.size = w.heap.size + 1 := by simp
        obtain ⟨U0, hU0⟩ : ∃ X, w.alloc (.cells #[.int .i64 pc, .slice a1 nr c1, .slice a2 nm c2, .int .i64 ht] 53) = X := ⟨_, rfl⟩
        rw [hU0] at zz0 R1 R2 R3 R4 VA PP
        try rw [hU0]
        clear A hU0
        have A := below_alloc1 U0 (.cells #[.int .i64 k, .int .i64 y, .slice a3 bs.length c3, .int .i64 t, .int .i64 g, .int .i64 f] 61)
        replace R1 := hid (R1.out.keep A)
        replace R2 := hid (R2.out.keep A)
        replace R3 := hid (R3.out.keep A)
        replace R4 := hid (R4.out.keep A)
        replace VA := hid (VA.out.keep A)
        replace PP := hid (PP.out.trans (A.mono PP.out.size))
        have VK := hid (vb_new U0 [.int .i64 k, .int .i64 y, .slice a3 bs.length c3, .int .i64 t, .int .i64 g, .int .i64 f] 61)
        have zz1 : (U0.alloc (.cells #[.int .i64 k, .int .i64 y, .slice a3 bs.length c3, .int .i64 t, .int .i64 g, .int .i64 f] 61)).heap.size = w.heap.size + 2 := by simp [zz0]
        rw [zz0] at VK
        obtain ⟨U1, hU1⟩ : ∃ X, U0.alloc (.cells #[.int .i64 k, .int .i64 y, .slice a3 bs.length c3, .int .i64 t, .int .i64 g, .int .i64 f] 61) = X := ⟨_, rfl⟩
        rw [hU1] at zz1 R1 R2 R3 R4 VA VK PP
        try rw [hU1]
        clear A hU1
        refine (szVm_any pc ht a1 a2 nr nm c1 c2 1048576 _ (by omega) (by omega) (by omega) (by omega)).mono ?_
        rw [E1.out]
        rintro e w1 ⟨rfl, bb⟩
        replace R1 := hid (R1.out.keep bb)
        replace R2 := hid (R2.out.keep bb)
        replace R3 := hid (R3.out.keep bb)
        replace R4 := hid (R4.out.keep bb)
        replace VA := hid (VA.out.keep bb)
        replace VK := hid (VK.out.keep bb)
        replace PP := hid (PP.out.trans (bb.mono PP.out.size))
        clear bb
        obtain ⟨q0a, q0b, q0c, q0d⟩ := vb4 VA.out
        obtain ⟨q1a, q1b, q1c, q1d, q1e, q1f⟩ := vb6' VK.out
        go_wp2_with fail
        clear q0a q0b q0c q0d q1a q1b q1c q1d q1e q1f
        refine (szAsk_any k y t g f a3 bs.length c3 _ _ (by omega) (by omega) (by omega)).mono ?_
        rw [E2.out]
        rintro e w2 ⟨rfl, bb⟩
        replace R1 := hid (R1.out.keep bb)
        replace R2 := hid (R2.out.keep bb)
        replace R3 := hid (R3.out.keep bb)
        replace R4 := hid (R4.out.keep bb)
        replace VA := hid (VA.out.keep bb)
        replace VK := hid (VK.out.keep bb)
        replace PP := hid (PP.out.trans (bb.mono PP.out.size))
        clear bb
        obtain ⟨q0a, q0b, q0c, q0d⟩ := vb4 VA.out
        obtain ⟨q1a, q1b, q1c, q1d, q1e, q1f⟩ := vb6' VK.out
        go_upto_region 10 with fail
        have HAL : AllLast [(fun u _ => u = .agg #[.int .i64 pc, .slice a1 nr c1, .slice a2 nm c2, .int .i64 ht]), (VmR w2.heap.size pc ht nr nm xs ys), (fun u _ => u = .agg #[.int .i64 k, .int .i64 y, .slice a3 bs.length c3, .int .i64 t, .int .i64 g, .int .i64 f]), (AskR w2.heap.size k y t g f bs), (fun u _ => u = .slice a4 got.length c4), (BytR w2.heap.size got), (fun u _ => u = .bool yes), (VmR w2.heap.size PC HT N M XS YS), (PtR w2.heap.size), (LaidR w2.heap.size PC HT N M XS YS)] := ⟨lasts_val _, lasts_vmR, lasts_val _, lasts_askR, lasts_val _, lasts_bytR, lasts_val _, lasts_vmR, lasts_ptR, lasts_laidR, trivial⟩
        have HTL : AllTBut 9 0 [(fun u _ => u = .agg #[.int .i64 pc, .slice a1 nr c1, .slice a2 nm c2, .int .i64 ht]), (VmR w2.heap.size pc ht nr nm xs ys), (fun u _ => u = .agg #[.int .i64 k, .int .i64 y, .slice a3 bs.length c3, .int .i64 t, .int .i64 g, .int .i64 f]), (AskR w2.heap.size k y t g f bs), (fun u _ => u = .slice a4 got.length c4), (BytR w2.heap.size got), (fun u _ => u = .bool yes), (VmR w2.heap.size PC HT N M XS YS), (PtR w2.heap.size), (LaidR w2.heap.size PC HT N M XS YS)] := ⟨.inr (lastT_val _), .inr lastT_vmR, .inr (lastT_val _), .inr lastT_askR, .inr (lastT_val _), .inr lastT_bytR, .inr (lastT_val _), .inr lastT_vmR, .inr lastT_ptR, .inl rfl, trivial⟩
        refine region_al (fun _ => 10) (Pf [(fun u _ => u = .agg #[.int .i64 pc, .slice a1 nr c1, .slice a2 nm c2, .int .i64 ht]), (VmR w2.heap.size pc ht nr nm xs ys), (fun u _ => u = .agg #[.int .i64 k, .int .i64 y, .slice a3 bs.length c3, .int .i64 t, .int .i64 g, .int .i64 f]), (AskR w2.heap.size k y t g f bs), (fun u _ => u = .slice a4 got.length c4), (BytR w2.heap.size got), (fun u _ => u = .bool yes), (VmR w2.heap.size PC HT N M XS YS), (PtR w2.heap.size), (LaidR w2.heap.size PC HT N M XS YS)]) (BW w2) (by kernel_rfl) (by kernel_rfl) (by kernel_rfl) (Below.refl _ _).drew ⟨?_, ?_, ?_, ?_, ?_, ?_, ?_, ?_, ?_, ?_, trivial⟩ ?_
        · exact ob_un (bw_load (fun w hb => ldVL w (cell_keep hb q0a) (cell_keep hb q0b) (cell_keep hb q0c) (cell_keep hb q0d)) (ok_out rfl rfl) rfl)
        · refine ob_un (bw_call HAL (fun xs w => by go_simp) fun a' w' hb hat => ?_)
          have e1 : a'.eval (.tmp 32) = .agg #[.int .i64 pc, .slice a1 nr c1, .slice a2 nm c2, .int .i64 ht] := ok_in 0 rfl rfl rfl a' w' hat
          have e : (#[Operand.tmp 32].map a'.eval) = #[.agg #[.int .i64 pc, .slice a1 nr c1, .slice a2 nm c2, .int .i64 ht]] := by simp [e1]
          rw [e]
          refine (toVm_any pc ht _ _ nr nm xs ys w' (R1.out.keep hb) (R2.out.keep hb)).mono ?_
          rintro e w'' ⟨u1, u2, rfl, p1, p2, _, b⟩
          obtain ⟨d1, e1, rfl, _⟩ := ownI_form p1
          obtain ⟨d2, e2, rfl, _⟩ := ownI_form p2
          exact ⟨_, rfl, ⟨d1, e1, d2, e2, rfl, p1.low hb.size, p2.low hb.size⟩, b⟩
        · exact ob_un (bw_load (fun w hb => ldAL w (cell_keep hb q1a) (cell_keep hb q1b) (cell_keep hb q1c) (cell_keep hb q1d) (cell_keep hb q1e) (cell_keep hb q1f)) (ok_out rfl rfl) rfl)
        · refine ob_un (bw_call HAL (fun xs w => by go_simp) fun a' w' hb hat => ?_)
          have e1 : a'.eval (.tmp 34) = .agg #[.int .i64 k, .int .i64 y, .slice a3 bs.length c3, .int .i64 t, .int .i64 g, .int .i64 f] := ok_in 2 rfl rfl rfl a' w' hat
          have e : (#[Operand.tmp 34].map a'.eval) = #[.agg #[.int .i64 k, .int .i64 y, .slice a3 bs.length c3, .int .i64 t, .int .i64 g, .int .i64 f]] := by simp [e1]
          rw [e]
          refine (toAsk_any k y t g f _ bs w' (R3.out.keep hb)).mono ?_
          rintro e w'' ⟨v1, rfl, p1, b⟩
          obtain ⟨d1, e1, rfl, _⟩ := own_form p1
          exact ⟨_, rfl, ⟨d1, e1, rfl, p1.low hb.size⟩, b⟩
        · exact ob_un (bw_move rfl (ok_out rfl rfl))
        · refine ob_un (bw_call HAL (fun xs w => by go_simp) fun a' w' hb hat => ?_)
          have e1 : a'.eval (.tmp 36) = .slice a4 got.length c4 := ok_in 4 rfl rfl rfl a' w' hat
          have e : (#[Operand.tmp 36].map a'.eval) = #[.slice a4 got.length c4] := by simp [e1]
          rw [e]
          refine (toBytes_any _ got w' (R4.out.keep hb)).mono ?_
          rintro e w'' ⟨v1, rfl, p1, b⟩
          obtain ⟨d1, e1, rfl, _⟩ := own_form p1
          exact ⟨_, rfl, ⟨d1, e1, rfl, p1.low hb.size⟩, b⟩
        · exact ob_un (bw_move rfl (ok_out rfl rfl))
        · refine ob_un (bw_call HAL (fun xs w => by go_simp) fun a' w' hb hat => ?_)
          obtain ⟨d1, e1, d2, e2, E1, o1, o2⟩ := ok_of (s := 33) 1 rfl rfl rfl hat
          obtain ⟨d3, e3, E2, o3⟩ := ok_of (s := 35) 3 rfl rfl rfl hat
          obtain ⟨d4, e4, E3, o4⟩ := ok_of (s := 37) 5 rfl rfl rfl hat
          have E4 : a'.eval (.tmp 38) = .bool yes := ok_in 6 rfl rfl rfl a' w' hat
          have e : (#[Operand.tmp 33, Operand.tmp 35, Operand.tmp 37, Operand.tmp 38].map a'.eval) = #[.agg #[.int .i64 pc, .slice d1 nr e1, .slice d2 nm e2, .int .i64 ht], .agg #[.int .i64 k, .int .i64 y, .slice d3 bs.length e3, .int .i64 t, .int .i64 g, .int .i64 f], .slice d4 got.length e4, .bool yes] := by simp [E1, E2, E3, E4]
          rw [e]
          refine (HS.out d3 e3 _ _ _ w' (o1.rd (by omega)) (o2.rd (by omega)) (o3.rd (by omega)) (o4.rd (by omega))).mono ?_
          rintro e w'' ⟨g1, h1, g2, h2, rfl, p1, p2, _, b⟩
          exact ⟨_, rfl, ⟨g1, h1, g2, h2, rfl, p1.low hb.size, p2.low hb.size⟩, b⟩
        · exact ob_un (bw_allocS HAL rfl)
        · exact obA_st (obS_store 8 7 HTL rfl rfl rfl rfl rfl rfl rfl rfl)
        intro uu wz bz hF
        obtain ⟨-, -, -, -, -, -, -, -, -, f9, -⟩ := hF
        obtain ⟨bw, s1, t1, s2, t2, hp, hvb, p1, p2, -⟩ : LaidR w2.heap.size PC HT N M XS YS (uu 10) wz := f9
        simp only [outTmps, List.setIfInBounds_toArray, List.set_cons_zero, List.set_cons_succ, hp]
        clear HAL HTL hp q0a q0b q0c q0d q1a q1b q1c q1d q1e q1f
        replace R1 := hid (R1.out.keep bz)
        replace R2 := hid (R2.out.keep bz)
        replace R3 := hid (R3.out.keep bz)
        replace R4 := hid (R4.out.keep bz)
        replace VA := hid (VA.out.keep bz)
        replace VK := hid (VK.out.keep bz)
        replace PP := hid (PP.out.trans (bz.mono PP.out.size))
        clear bz
        have W0 := hid hvb
        have SO1 := hid p1
        have SO2 := hid p2
        have LS := hid (show ∀ j, (Value.slice s1 N t1).ownBlock = some j ∨ (Value.slice s2 M t2).ownBlock = some j → j < wz.heap.size from fun j hj => hj.elim (fun h => (p1.blk j h).2) (fun h => (p2.blk j h).2))
        clear hvb p1 p2
        obtain ⟨q0a, q0b, q0c, q0d⟩ := vb4 VA.out
        go_wp2_with fail
        clear q0a q0b q0c q0d
        refine (toVm_any pc ht _ _ nr nm xs ys _ R1.out R2.out).mono ?_
        rintro e w3 ⟨u1, u2, rfl, p1, p2, apx, bb⟩
        obtain ⟨x1a, x1c, rfl, _⟩ := ownI_form p1
        obtain ⟨x2a, x2c, rfl, _⟩ := ownI_form p2
        have O1 := hid p1
        have O2 := hid p2
        have APX := hid apx
        have LX := hid (show w.heap.size + 1 < wz.heap.size from VK.out.2.2)
        have LW := hid (W0.out.2.2)
        have Z3 := hid bb.size
        have BX := hid (show ∀ j, (Value.slice x1a nr x1c).ownBlock = some j ∨ (Value.slice x2a nm x2c).ownBlock = some j → wz.heap.size ≤ j ∧ j < w3.heap.size from fun j hj => hj.elim (fun h => p1.blk j h) (fun h => p2.blk j h))
        clear p1 p2 apx
        replace R1 := hid (R1.out.keep bb)
        replace R2 := hid (R2.out.keep bb)
        replace R3 := hid (R3.out.keep bb)
        replace R4 := hid (R4.out.keep bb)
        replace VA := hid (VA.out.keep bb)
        replace VK := hid (VK.out.keep bb)
        replace W0 := hid (W0.out.keep bb)
        replace SO1 := hid (SO1.out.keep bb)
        replace SO2 := hid (SO2.out.keep bb)
        replace PP := hid (PP.out.trans (bb.mono PP.out.size))
        clear bb
        have Aw3 := below_alloc1 w3 (.cells #[.int .i64 pc, .slice x1a nr x1c, .slice x2a nm x2c, .int .i64 ht] 25)
        replace R1 := hid (R1.out.keep Aw3)
        replace R2 := hid (R2.out.keep Aw3)
        replace R3 := hid (R3.out.keep Aw3)
        replace R4 := hid (R4.out.keep Aw3)
        replace VA := hid (VA.out.keep Aw3)
        replace VK := hid (VK.out.keep Aw3)
        replace W0 := hid (W0.out.keep Aw3)
        replace SO1 := hid (SO1.out.keep Aw3)
        replace SO2 := hid (SO2.out.keep Aw3)
        replace O1 := hid (O1.out.keep Aw3)
        replace O2 := hid (O2.out.keep Aw3)
        replace PP := hid (PP.out.trans (Aw3.mono PP.out.size))
        have X1 := hid (vb_new w3 [.int .i64 pc, .slice x1a nr x1c, .slice x2a nm x2c, .int .i64 ht] 25)
        obtain ⟨Ww3, hWw3⟩ : ∃ W, w3.alloc (.cells #[.int .i64 pc, .slice x1a nr x1c, .slice x2a nm x2c, .int .i64 ht] 25) = W := ⟨_, rfl⟩
        rw [hWw3] at R1 R2 R3 R4 VA VK W0 SO1 SO2 O1 O2 X1 PP
        clear Aw3
        obtain ⟨q0a, q0b, q0c, q0d, q0e, q0f⟩ := vb6' VK.out
        go_wp2_with fail
        try rw [hWw3]
        clear hWw3
        clear q0a q0b q0c q0d q0e q0f
        refine (toAsk_any k y t g f _ bs _ R3.out).mono ?_
        rintro e w4 ⟨v1, rfl, p1, bb⟩
        obtain ⟨x3a, x3c, rfl, _⟩ := own_form p1
        have O3 := hid p1
        have L3 := hid (show w3.heap.size < Ww3.heap.size from X1.out.2.2)
        have Z4 := hid bb.size
        have BY := hid (show ∀ j, (Value.slice x3a bs.length x3c).ownBlock = some j → Ww3.heap.size ≤ j ∧ j < w4.heap.size from fun j hj => p1.blk j hj)
        clear p1
        replace R1 := hid (R1.out.keep bb)
        replace R2 := hid (R2.out.keep bb)
        replace R3 := hid (R3.out.keep bb)
        replace R4 := hid (R4.out.keep bb)
        replace VA := hid (VA.out.keep bb)
        replace VK := hid (VK.out.keep bb)
        replace W0 := hid (W0.out.keep bb)
        replace SO1 := hid (SO1.out.keep bb)
        replace SO2 := hid (SO2.out.keep bb)
        replace O1 := hid (O1.out.keep bb)
        replace O2 := hid (O2.out.keep bb)
        replace X1 := hid (X1.out.keep bb)
        replace PP := hid (PP.out.trans (bb.mono PP.out.size))
        clear bb
        have Aw4 := below_alloc1 w4 (.cells #[.int .i64 k, .int .i64 y, .slice x3a bs.length x3c, .int .i64 t, .int .i64 g, .int .i64 f] 30)
        replace R1 := hid (R1.out.keep Aw4)
        replace R2 := hid (R2.out.keep Aw4)
        replace R3 := hid (R3.out.keep Aw4)
        replace R4 := hid (R4.out.keep Aw4)
        replace VA := hid (VA.out.keep Aw4)
        replace VK := hid (VK.out.keep Aw4)
        replace W0 := hid (W0.out.keep Aw4)
        replace SO1 := hid (SO1.out.keep Aw4)
        replace SO2 := hid (SO2.out.keep Aw4)
        replace O1 := hid (O1.out.keep Aw4)
        replace O2 := hid (O2.out.keep Aw4)
        replace X1 := hid (X1.out.keep Aw4)
        replace O3 := hid (O3.out.keep Aw4)
        replace PP := hid (PP.out.trans (Aw4.mono PP.out.size))
        have X2 := hid (vb_new w4 [.int .i64 k, .int .i64 y, .slice x3a bs.length x3c, .int .i64 t, .int .i64 g, .int .i64 f] 30)
        obtain ⟨Ww4, hWw4⟩ : ∃ W, w4.alloc (.cells #[.int .i64 k, .int .i64 y, .slice x3a bs.length x3c, .int .i64 t, .int .i64 g, .int .i64 f] 30) = W := ⟨_, rfl⟩
        rw [hWw4] at R1 R2 R3 R4 VA VK W0 SO1 SO2 O1 O2 X1 O3 X2 PP
        clear Aw4
        go_wp2_with fail
        try rw [hWw4]
        clear hWw4
        refine (toBytes_any _ got _ R4.out).mono ?_
        rintro e w5 ⟨v1, rfl, p1, bb⟩
        obtain ⟨x4a, x4c, rfl, _⟩ := own_form p1
        have O4 := hid p1
        have L4 := hid (show w4.heap.size < Ww4.heap.size from X2.out.2.2)
        have Z5 := hid bb.size
        have BZ := hid (show ∀ j, (Value.slice x4a got.length x4c).ownBlock = some j → Ww4.heap.size ≤ j ∧ j < w5.heap.size from fun j hj => p1.blk j hj)
        clear p1
        replace R1 := hid (R1.out.keep bb)
        replace R2 := hid (R2.out.keep bb)
        replace R3 := hid (R3.out.keep bb)
        replace R4 := hid (R4.out.keep bb)
        replace VA := hid (VA.out.keep bb)
        replace VK := hid (VK.out.keep bb)
        replace W0 := hid (W0.out.keep bb)
        replace SO1 := hid (SO1.out.keep bb)
        replace SO2 := hid (SO2.out.keep bb)
        replace O1 := hid (O1.out.keep bb)
        replace O2 := hid (O2.out.keep bb)
        replace X1 := hid (X1.out.keep bb)
        replace O3 := hid (O3.out.keep bb)
        replace X2 := hid (X2.out.keep bb)
        replace PP := hid (PP.out.trans (bb.mono PP.out.size))
        clear bb
        obtain ⟨q0a, q0b, q0c, q0d⟩ := vb4 X1.out
        obtain ⟨q1a, q1b, q1c, q1d, q1e, q1f⟩ := vb6' X2.out
        go_wp2_with fail
        clear q0a q0b q0c q0d q1a q1b q1c q1d q1e q1f
        refine (HI.out _ _ _ _ _ _ (O1.out.rd (by omega)) (O2.out.rd (by omega)) (O3.out.rd (by omega)) (O4.out.rd (by omega))).mono ?_
        rintro e w6 ⟨g1a, g1c, g2a, g2c, rfl, p1, p2, apg, bb⟩
        have G1 := hid p1
        have G2 := hid p2
        have APG := hid apg
        have Z6 := hid bb.size
        have BG := hid (show ∀ j, (Value.slice g1a N g1c).ownBlock = some j ∨ (Value.slice g2a M g2c).ownBlock = some j → w5.heap.size ≤ j ∧ j < w6.heap.size from fun j hj => hj.elim (fun h => p1.blk j h) (fun h => p2.blk j h))
        clear p1 p2 apg
        replace R1 := hid (R1.out.keep bb)
        replace R2 := hid (R2.out.keep bb)
        replace R3 := hid (R3.out.keep bb)
        replace R4 := hid (R4.out.keep bb)
        replace VA := hid (VA.out.keep bb)
        replace VK := hid (VK.out.keep bb)
        replace W0 := hid (W0.out.keep bb)
        replace SO1 := hid (SO1.out.keep bb)
        replace SO2 := hid (SO2.out.keep bb)
        replace O1 := hid (O1.out.keep bb)
        replace O2 := hid (O2.out.keep bb)
        replace X1 := hid (X1.out.keep bb)
        replace O3 := hid (O3.out.keep bb)
        replace X2 := hid (X2.out.keep bb)
        replace O4 := hid (O4.out.keep bb)
        replace PP := hid (PP.out.trans (bb.mono PP.out.size))
        clear bb
        have Aw6 := below_alloc1 w6 (.cells #[.int .i64 PC, .slice g1a N g1c, .slice g2a M g2c, .int .i64 HT] 25)
        replace R1 := hid (R1.out.keep Aw6)
        replace R2 := hid (R2.out.keep Aw6)
        replace R3 := hid (R3.out.keep Aw6)
        replace R4 := hid (R4.out.keep Aw6)
        replace VA := hid (VA.out.keep Aw6)
        replace VK := hid (VK.out.keep Aw6)
        replace W0 := hid (W0.out.keep Aw6)
        replace SO1 := hid (SO1.out.keep Aw6)
        replace SO2 := hid (SO2.out.keep Aw6)
        replace O1 := hid (O1.out.keep Aw6)
        replace O2 := hid (O2.out.keep Aw6)
        replace X1 := hid (X1.out.keep Aw6)
        replace O3 := hid (O3.out.keep Aw6)
        replace X2 := hid (X2.out.keep Aw6)
        replace O4 := hid (O4.out.keep Aw6)
        replace G1 := hid (G1.out.keep Aw6)
        replace G2 := hid (G2.out.keep Aw6)
        replace PP := hid (PP.out.trans (Aw6.mono PP.out.size))
        have G := hid (vb_new w6 [.int .i64 PC, .slice g1a N g1c, .slice g2a M g2c, .int .i64 HT] 25)
        obtain ⟨Ww6, hWw6⟩ : ∃ W, w6.alloc (.cells #[.int .i64 PC, .slice g1a N g1c, .slice g2a M g2c, .int .i64 HT] 25) = W := ⟨_, rfl⟩
        rw [hWw6] at R1 R2 R3 R4 VA VK W0 SO1 SO2 O1 O2 X1 O3 X2 O4 G1 G2 G PP
        clear Aw6
        obtain ⟨q0a, q0b, q0c, q0d⟩ := vb4 G.out
        obtain ⟨q1a, q1b, q1c, q1d⟩ := vb4 W0.out
        go_wp2_with fail
        try rw [hWw6]
        clear hWw6
        clear q0a q0b q0c q0d q1a q1b q1c q1d
        refine (eqVm_same PC HT _ _ _ _ N M XS YS _ (G1.out.rd (by omega)) (G2.out.rd (by omega)) (SO1.out.rd (by omega)) (SO2.out.rd (by omega))).mono ?_
        rintro e w7 ⟨rfl, bb⟩
        replace R1 := hid (R1.out.keep bb)
        replace R2 := hid (R2.out.keep bb)
        replace R3 := hid (R3.out.keep bb)
        replace R4 := hid (R4.out.keep bb)
        replace VA := hid (VA.out.keep bb)
        replace VK := hid (VK.out.keep bb)
        replace W0 := hid (W0.out.keep bb)
        replace SO1 := hid (SO1.out.keep bb)
        replace SO2 := hid (SO2.out.keep bb)
        replace O1 := hid (O1.out.keep bb)
        replace O2 := hid (O2.out.keep bb)
        replace X1 := hid (X1.out.keep bb)
        replace O3 := hid (O3.out.keep bb)
        replace X2 := hid (X2.out.keep bb)
        replace O4 := hid (O4.out.keep bb)
        replace G1 := hid (G1.out.keep bb)
        replace G2 := hid (G2.out.keep bb)
        replace G := hid (G.out.keep bb)
        replace PP := hid (PP.out.trans (bb.mono PP.out.size))
        clear bb
        obtain ⟨q0a, q0b, q0c, q0d⟩ := vb4 X1.out
        obtain ⟨q1a, q1b, q1c, q1d⟩ := vb4 VA.out
        go_upto_region 17 with fail
        have HAL : AllLast [(fun u _ => u = .agg #[.int .i64 pc, .slice x1a nr x1c, .slice x2a nm x2c, .int .i64 ht]), (fun u _ => u = .agg #[.int .i64 pc, .slice a1 nr c1, .slice a2 nm c2, .int .i64 ht]), (fun u w => VmR 0 pc ht nr nm xs ys u w), (fun u _ => u = .bool true), (fun u _ => u = .bool false)] := ⟨lasts_val _, lasts_val _, lasts_vmR, lasts_val _, lasts_val _, trivial⟩
        refine region_bw [(fun u _ => u = .agg #[.int .i64 pc, .slice x1a nr x1c, .slice x2a nm x2c, .int .i64 ht]), (fun u _ => u = .agg #[.int .i64 pc, .slice a1 nr c1, .slice a2 nm c2, .int .i64 ht]), (fun u w => VmR 0 pc ht nr nm xs ys u w), (fun u _ => u = .bool true), (fun u _ => u = .bool false)] (by kernel_rfl) (by kernel_rfl) ⟨?_, ?_, ?_, ?_, ?_, trivial⟩ ?_
        · exact ob_un (bw_load (fun w hb => ldVI w (cell_keep hb q0a) (cell_keep hb q0b) (cell_keep hb q0c) (cell_keep hb q0d)) (ok_out rfl rfl) rfl)
        · exact ob_un (bw_load (fun w hb => ldVL w (cell_keep hb q1a) (cell_keep hb q1b) (cell_keep hb q1c) (cell_keep hb q1d)) (ok_out rfl rfl) rfl)
        · exact ob_un (bw_call HAL (fun xs w => by go_simp) (fun a' w' hb hat => by
          have e1 : a'.eval (.tmp 56) = .agg #[.int .i64 pc, .slice a1 nr c1, .slice a2 nm c2, .int .i64 ht] := ok_in 1 rfl rfl rfl a' w' hat
          have e : (#[Operand.tmp 56].map a'.eval) = #[.agg #[.int .i64 pc, .slice a1 nr c1, .slice a2 nm c2, .int .i64 ht]] := by simp [e1]
          rw [e]
          refine (toVm_any pc ht _ _ nr nm xs ys w' (R1.out.keep hb) (R2.out.keep hb)).mono ?_
          rintro e w'' ⟨u1, u2, rfl, p1, p2, _, b⟩
          obtain ⟨d1, e1, rfl, _⟩ := ownI_form p1
          obtain ⟨d2, e2, rfl, _⟩ := ownI_form p2
          exact ⟨_, rfl, ⟨d1, e1, d2, e2, rfl, p1.low (by omega), p2.low (by omega)⟩, b⟩))
        · exact ob_un (bw_call HAL (fun xs w => by go_simp) (fun a' w' hb hat => by
          have e1 : a'.eval (.tmp 55) = .agg #[.int .i64 pc, .slice x1a nr x1c, .slice x2a nm x2c, .int .i64 ht] := ok_in 0 rfl rfl rfl a' w' hat
          have hh := ok_of (s := 57) 2 rfl rfl rfl hat
          obtain ⟨d1, c1', d2, c2', E1, o1, o2⟩ := hh
          have e : (#[Operand.tmp 55, Operand.tmp 57].map a'.eval) = #[.agg #[.int .i64 pc, .slice x1a nr x1c, .slice x2a nm x2c, .int .i64 ht], .agg #[.int .i64 pc, .slice d1 nr c1', .slice d2 nm c2', .int .i64 ht]] := by simp [e1, E1]
          rw [e]
          refine (eqVm_same pc ht _ _ _ _ nr nm xs ys w' ((O1.out.rd (by omega)).keep hb) ((O2.out.rd (by omega)).keep hb) (o1.rd (by omega)) (o2.rd (by omega))).mono ?_
          rintro e w'' ⟨rfl, b⟩
          exact ⟨_, rfl, rfl, b⟩))
        · exact ob_un (bw_un (fun w => by go_simp) (ok_in 3 rfl rfl rfl) rfl)
        intro uu wza bz hF
        obtain ⟨-, -, -, -, f4, -⟩ := hF
        have hn : uu 59 = .bool false := f4
        simp only [outTmps, List.setIfInBounds_toArray, List.set_cons_zero, List.set_cons_succ, hn]
        clear f4 HAL q0a q0b q0c q0d q1a q1b q1c q1d
        replace R1 := hid (R1.out.keep bz)
        replace R2 := hid (R2.out.keep bz)
        replace R3 := hid (R3.out.keep bz)
        replace R4 := hid (R4.out.keep bz)
        replace VA := hid (VA.out.keep bz)
        replace VK := hid (VK.out.keep bz)
        replace W0 := hid (W0.out.keep bz)
        replace SO1 := hid (SO1.out.keep bz)
        replace SO2 := hid (SO2.out.keep bz)
        replace O1 := hid (O1.out.keep bz)
        replace O2 := hid (O2.out.keep bz)
        replace X1 := hid (X1.out.keep bz)
        replace O3 := hid (O3.out.keep bz)
        replace X2 := hid (X2.out.keep bz)
        replace O4 := hid (O4.out.keep bz)
        replace G1 := hid (G1.out.keep bz)
        replace G2 := hid (G2.out.keep bz)
        replace G := hid (G.out.keep bz)
        replace PP := hid (PP.out.trans (bz.mono PP.out.size))
        clear bz
        go_wp2_with fail
        obtain ⟨q0a, q0b, q0c, q0d, q0e, q0f⟩ := vb6' X2.out
        obtain ⟨q1a, q1b, q1c, q1d, q1e, q1f⟩ := vb6' VK.out
        go_upto_region 19 with fail
        have HAL : AllLast [(fun u _ => u = .agg #[.int .i64 k, .int .i64 y, .slice x3a bs.length x3c, .int .i64 t, .int .i64 g, .int .i64 f]), (fun u _ => u = .agg #[.int .i64 k, .int .i64 y, .slice a3 bs.length c3, .int .i64 t, .int .i64 g, .int .i64 f]), (fun u w => AskR 0 k y t g f bs u w), (fun u _ => u = .bool true), (fun u _ => u = .bool false)] := ⟨lasts_val _, lasts_val _, lasts_askR, lasts_val _, lasts_val _, trivial⟩
        refine region_bw [(fun u _ => u = .agg #[.int .i64 k, .int .i64 y, .slice x3a bs.length x3c, .int .i64 t, .int .i64 g, .int .i64 f]), (fun u _ => u = .agg #[.int .i64 k, .int .i64 y, .slice a3 bs.length c3, .int .i64 t, .int .i64 g, .int .i64 f]), (fun u w => AskR 0 k y t g f bs u w), (fun u _ => u = .bool true), (fun u _ => u = .bool false)] (by kernel_rfl) (by kernel_rfl) ⟨?_, ?_, ?_, ?_, ?_, trivial⟩ ?_
        · exact ob_un (bw_load (fun w hb => ldAI w (cell_keep hb q0a) (cell_keep hb q0b) (cell_keep hb q0c) (cell_keep hb q0d) (cell_keep hb q0e) (cell_keep hb q0f)) (ok_out rfl rfl) rfl)
        · exact ob_un (bw_load (fun w hb => ldAL w (cell_keep hb q1a) (cell_keep hb q1b) (cell_keep hb q1c) (cell_keep hb q1d) (cell_keep hb q1e) (cell_keep hb q1f)) (ok_out rfl rfl) rfl)
        · exact ob_un (bw_call HAL (fun xs w => by go_simp) (fun a' w' hb hat => by
          have e1 : a'.eval (.tmp 61) = .agg #[.int .i64 k, .int .i64 y, .slice a3 bs.length c3, .int .i64 t, .int .i64 g, .int .i64 f] := ok_in 1 rfl rfl rfl a' w' hat
          have e : (#[Operand.tmp 61].map a'.eval) = #[.agg #[.int .i64 k, .int .i64 y, .slice a3 bs.length c3, .int .i64 t, .int .i64 g, .int .i64 f]] := by simp [e1]
          rw [e]
          refine (toAsk_any k y t g f _ bs w' (R3.out.keep hb)).mono ?_
          rintro e w'' ⟨v1, rfl, p1, b⟩
          obtain ⟨d1, e1, rfl, _⟩ := own_form p1
          exact ⟨_, rfl, ⟨d1, e1, rfl, p1.low (by omega)⟩, b⟩))
        · exact ob_un (bw_call HAL (fun xs w => by go_simp) (fun a' w' hb hat => by
          have e1 : a'.eval (.tmp 60) = .agg #[.int .i64 k, .int .i64 y, .slice x3a bs.length x3c, .int .i64 t, .int .i64 g, .int .i64 f] := ok_in 0 rfl rfl rfl a' w' hat
          have hh := ok_of (s := 62) 2 rfl rfl rfl hat
          obtain ⟨d1, c1', E1, o1⟩ := hh
          have e : (#[Operand.tmp 60, Operand.tmp 62].map a'.eval) = #[.agg #[.int .i64 k, .int .i64 y, .slice x3a bs.length x3c, .int .i64 t, .int .i64 g, .int .i64 f], .agg #[.int .i64 k, .int .i64 y, .slice d1 bs.length c1', .int .i64 t, .int .i64 g, .int .i64 f]] := by simp [e1, E1]
          rw [e]
          refine (eqAsk_same k y t g f _ _ bs w' ((O3.out.rd (by omega)).keep hb) (o1.rd (by omega))).mono ?_
          rintro e w'' ⟨rfl, b⟩
          exact ⟨_, rfl, rfl, b⟩))
        · exact ob_un (bw_un (fun w => by go_simp) (ok_in 3 rfl rfl rfl) rfl)
        intro uu wzb bz hF
        obtain ⟨-, -, -, -, f4, -⟩ := hF
        have hn : uu 64 = .bool false := f4
        simp only [outTmps, List.setIfInBounds_toArray, List.set_cons_zero, List.set_cons_succ, hn]
        clear f4 HAL q0a q0b q0c q0d q0e q0f q1a q1b q1c q1d q1e q1f
        replace R1 := hid (R1.out.keep bz)
        replace R2 := hid (R2.out.keep bz)
        replace R3 := hid (R3.out.keep bz)
        replace R4 := hid (R4.out.keep bz)
        replace VA := hid (VA.out.keep bz)
        replace VK := hid (VK.out.keep bz)
        replace W0 := hid (W0.out.keep bz)
        replace SO1 := hid (SO1.out.keep bz)
        replace SO2 := hid (SO2.out.keep bz)
        replace O1 := hid (O1.out.keep bz)
        replace O2 := hid (O2.out.keep bz)
        replace X1 := hid (X1.out.keep bz)
        replace O3 := hid (O3.out.keep bz)
        replace X2 := hid (X2.out.keep bz)
        replace O4 := hid (O4.out.keep bz)
        replace G1 := hid (G1.out.keep bz)
        replace G2 := hid (G2.out.keep bz)
        replace G := hid (G.out.keep bz)
        replace PP := hid (PP.out.trans (bz.mono PP.out.size))
        clear bz
        go_wp2_with fail
        refine (toBytes_any _ got _ R4.out).mono ?_
        rintro e w8 ⟨v1, rfl, p1, bb⟩
        obtain ⟨y4a, y4c, rfl, _⟩ := own_form p1
        have T4 := hid (p1.rd (by omega))
        clear p1
        replace R1 := hid (R1.out.keep bb)
        replace R2 := hid (R2.out.keep bb)
        replace R3 := hid (R3.out.keep bb)
        replace R4 := hid (R4.out.keep bb)
        replace VA := hid (VA.out.keep bb)
        replace VK := hid (VK.out.keep bb)
        replace W0 := hid (W0.out.keep bb)
        replace SO1 := hid (SO1.out.keep bb)
        replace SO2 := hid (SO2.out.keep bb)
        replace O1 := hid (O1.out.keep bb)
        replace O2 := hid (O2.out.keep bb)
        replace X1 := hid (X1.out.keep bb)
        replace O3 := hid (O3.out.keep bb)
        replace X2 := hid (X2.out.keep bb)
        replace O4 := hid (O4.out.keep bb)
        replace G1 := hid (G1.out.keep bb)
        replace G2 := hid (G2.out.keep bb)
        replace G := hid (G.out.keep bb)
        replace PP := hid (PP.out.trans (bb.mono PP.out.size))
        clear bb
        go_wp2_with fail
        refine (eqBytes_same _ _ got _ (O4.out.rd (by omega)) T4.out).mono ?_
        rintro e w9 ⟨rfl, bb⟩
        replace R1 := hid (R1.out.keep bb)
        replace R2 := hid (R2.out.keep bb)
        replace R3 := hid (R3.out.keep bb)
        replace R4 := hid (R4.out.keep bb)
        replace VA := hid (VA.out.keep bb)
        replace VK := hid (VK.out.keep bb)
        replace W0 := hid (W0.out.keep bb)
        replace SO1 := hid (SO1.out.keep bb)
        replace SO2 := hid (SO2.out.keep bb)
        replace O1 := hid (O1.out.keep bb)
        replace O2 := hid (O2.out.keep bb)
        replace X1 := hid (X1.out.keep bb)
        replace O3 := hid (O3.out.keep bb)
        replace X2 := hid (X2.out.keep bb)
        replace O4 := hid (O4.out.keep bb)
        replace G1 := hid (G1.out.keep bb)
        replace G2 := hid (G2.out.keep bb)
        replace G := hid (G.out.keep bb)
        replace T4 := hid (T4.out.keep bb)
        replace PP := hid (PP.out.trans (bb.mono PP.out.size))
        clear bb
        clear T4
        clear R1 R2 R3 R4
        obtain ⟨q0a, q0b, q0c, q0d⟩ := vb4 X1.out
        go_wp2_with fail
        clear q0a q0b q0c q0d
        refine (markVm_any pc ht 1 _ _ nr nm xs ys _ _ O1.out O2.out APX.out (by omega) (by omega) (by omega) (by omega)).mono ?_
        rintro e wb ⟨rfl, -, -, CC⟩
        clear O1 O2
        replace VA := hid (VA.out.chg CC (fun e => by have c := BX.out _ e; have z3 := Z3.out; have z4 := Z4.out; have z5 := Z5.out; have z6 := Z6.out; have l3 := L3.out; have l4 := L4.out; have lx := LX.out; have lw := LW.out; omega))
        replace VK := hid (VK.out.chg CC (fun e => by have c := BX.out _ e; have z3 := Z3.out; have z4 := Z4.out; have z5 := Z5.out; have z6 := Z6.out; have l3 := L3.out; have l4 := L4.out; have lx := LX.out; have lw := LW.out; omega))
        replace W0 := hid (W0.out.chg CC (fun e => by have c := BX.out _ e; have z3 := Z3.out; have z4 := Z4.out; have z5 := Z5.out; have z6 := Z6.out; have l3 := L3.out; have l4 := L4.out; have lx := LX.out; have lw := LW.out; omega))
        replace SO1 := hid (SO1.out.chg CC (fun j hj e => by have b := LS.out j (.inl hj); have c := BX.out _ e; have z3 := Z3.out; have z4 := Z4.out; have z5 := Z5.out; have z6 := Z6.out; have l3 := L3.out; have l4 := L4.out; have lx := LX.out; have lw := LW.out; omega))
        replace SO2 := hid (SO2.out.chg CC (fun j hj e => by have b := LS.out j (.inr hj); have c := BX.out _ e; have z3 := Z3.out; have z4 := Z4.out; have z5 := Z5.out; have z6 := Z6.out; have l3 := L3.out; have l4 := L4.out; have lx := LX.out; have lw := LW.out; omega))
        replace X1 := hid (X1.out.chg CC (fun e => by have c := BX.out _ e; have z3 := Z3.out; have z4 := Z4.out; have z5 := Z5.out; have z6 := Z6.out; have l3 := L3.out; have l4 := L4.out; have lx := LX.out; have lw := LW.out; omega))
        replace O3 := hid (own_chgA O3.out CC (fun j hj e => by have b := BY.out j hj; have c := BX.out _ e; have z3 := Z3.out; have z4 := Z4.out; have z5 := Z5.out; have z6 := Z6.out; have l3 := L3.out; have l4 := L4.out; have lx := LX.out; have lw := LW.out; omega))
        replace X2 := hid (X2.out.chg CC (fun e => by have c := BX.out _ e; have z3 := Z3.out; have z4 := Z4.out; have z5 := Z5.out; have z6 := Z6.out; have l3 := L3.out; have l4 := L4.out; have lx := LX.out; have lw := LW.out; omega))
        replace O4 := hid (own_chgA O4.out CC (fun j hj e => by have b := BZ.out j hj; have c := BX.out _ e; have z3 := Z3.out; have z4 := Z4.out; have z5 := Z5.out; have z6 := Z6.out; have l3 := L3.out; have l4 := L4.out; have lx := LX.out; have lw := LW.out; omega))
        replace G1 := hid (G1.out.chg CC (fun j hj e => by have b := BG.out j (.inl hj); have c := BX.out _ e; have z3 := Z3.out; have z4 := Z4.out; have z5 := Z5.out; have z6 := Z6.out; have l3 := L3.out; have l4 := L4.out; have lx := LX.out; have lw := LW.out; omega))
        replace G2 := hid (G2.out.chg CC (fun j hj e => by have b := BG.out j (.inr hj); have c := BX.out _ e; have z3 := Z3.out; have z4 := Z4.out; have z5 := Z5.out; have z6 := Z6.out; have l3 := L3.out; have l4 := L4.out; have lx := LX.out; have lw := LW.out; omega))
        replace G := hid (G.out.chg CC (fun e => by have c := BX.out _ e; have z3 := Z3.out; have z4 := Z4.out; have z5 := Z5.out; have z6 := Z6.out; have l3 := L3.out; have l4 := L4.out; have lx := LX.out; have lw := LW.out; omega))
        replace PP := hid (below_chg PP.out CC PP.out.size (fun j e => by have c := BX.out _ e; have z3 := Z3.out; have z4 := Z4.out; have z5 := Z5.out; have z6 := Z6.out; have l3 := L3.out; have l4 := L4.out; have lx := LX.out; have lw := LW.out; omega))
        clear CC
        obtain ⟨q0a, q0b, q0c, q0d, q0e, q0f⟩ := vb6' X2.out
        go_wp2_with fail
        clear q0a q0b q0c q0d q0e q0f
        refine (markAsk_any k y t g f (1 + nr + nm) _ bs _ _ O3.out (by omega) (by omega) (by omega)).mono ?_
        rintro e wc ⟨rfl, -, CC⟩
        clear O3
        replace VA := hid (VA.out.chg CC (fun e => by have c := BY.out _ e; have z3 := Z3.out; have z4 := Z4.out; have z5 := Z5.out; have z6 := Z6.out; have l3 := L3.out; have l4 := L4.out; have lx := LX.out; have lw := LW.out; omega))
        replace VK := hid (VK.out.chg CC (fun e => by have c := BY.out _ e; have z3 := Z3.out; have z4 := Z4.out; have z5 := Z5.out; have z6 := Z6.out; have l3 := L3.out; have l4 := L4.out; have lx := LX.out; have lw := LW.out; omega))
        replace W0 := hid (W0.out.chg CC (fun e => by have c := BY.out _ e; have z3 := Z3.out; have z4 := Z4.out; have z5 := Z5.out; have z6 := Z6.out; have l3 := L3.out; have l4 := L4.out; have lx := LX.out; have lw := LW.out; omega))
        replace SO1 := hid (SO1.out.chg CC (fun j hj e => by have b := LS.out j (.inl hj); have c := BY.out _ e; have z3 := Z3.out; have z4 := Z4.out; have z5 := Z5.out; have z6 := Z6.out; have l3 := L3.out; have l4 := L4.out; have lx := LX.out; have lw := LW.out; omega))
        replace SO2 := hid (SO2.out.chg CC (fun j hj e => by have b := LS.out j (.inr hj); have c := BY.out _ e; have z3 := Z3.out; have z4 := Z4.out; have z5 := Z5.out; have z6 := Z6.out; have l3 := L3.out; have l4 := L4.out; have lx := LX.out; have lw := LW.out; omega))
        replace X1 := hid (X1.out.chg CC (fun e => by have c := BY.out _ e; have z3 := Z3.out; have z4 := Z4.out; have z5 := Z5.out; have z6 := Z6.out; have l3 := L3.out; have l4 := L4.out; have lx := LX.out; have lw := LW.out; omega))
        replace X2 := hid (X2.out.chg CC (fun e => by have c := BY.out _ e; have z3 := Z3.out; have z4 := Z4.out; have z5 := Z5.out; have z6 := Z6.out; have l3 := L3.out; have l4 := L4.out; have lx := LX.out; have lw := LW.out; omega))
        replace O4 := hid (own_chgA O4.out CC (fun j hj e => by have b := BZ.out j hj; have c := BY.out _ e; have z3 := Z3.out; have z4 := Z4.out; have z5 := Z5.out; have z6 := Z6.out; have l3 := L3.out; have l4 := L4.out; have lx := LX.out; have lw := LW.out; omega))
        replace G1 := hid (G1.out.chg CC (fun j hj e => by have b := BG.out j (.inl hj); have c := BY.out _ e; have z3 := Z3.out; have z4 := Z4.out; have z5 := Z5.out; have z6 := Z6.out; have l3 := L3.out; have l4 := L4.out; have lx := LX.out; have lw := LW.out; omega))
        replace G2 := hid (G2.out.chg CC (fun j hj e => by have b := BG.out j (.inr hj); have c := BY.out _ e; have z3 := Z3.out; have z4 := Z4.out; have z5 := Z5.out; have z6 := Z6.out; have l3 := L3.out; have l4 := L4.out; have lx := LX.out; have lw := LW.out; omega))
        replace G := hid (G.out.chg CC (fun e => by have c := BY.out _ e; have z3 := Z3.out; have z4 := Z4.out; have z5 := Z5.out; have z6 := Z6.out; have l3 := L3.out; have l4 := L4.out; have lx := LX.out; have lw := LW.out; omega))
        replace PP := hid (below_chg PP.out CC PP.out.size (fun j e => by have c := BY.out _ e; have z3 := Z3.out; have z4 := Z4.out; have z5 := Z5.out; have z6 := Z6.out; have l3 := L3.out; have l4 := L4.out; have lx := LX.out; have lw := LW.out; omega))
        clear CC
        go_wp2_with fail
        refine (mark_any _ got (1 + nr + nm + bs.length) _ _ O4.out (by omega) (by omega) (by omega)).mono ?_
        rintro e wd ⟨rfl, -, gg, -⟩
        have CC := Chg.of_grown (S := fun j => (Value.slice x4a got.length x4c).ownBlock = some j) gg (fun j hj => hj)
        clear O4 gg
        replace VA := hid (VA.out.chg CC (fun e => by have c := BZ.out _ e; have z3 := Z3.out; have z4 := Z4.out; have z5 := Z5.out; have z6 := Z6.out; have l3 := L3.out; have l4 := L4.out; have lx := LX.out; have lw := LW.out; omega))
        replace VK := hid (VK.out.chg CC (fun e => by have c := BZ.out _ e; have z3 := Z3.out; have z4 := Z4.out; have z5 := Z5.out; have z6 := Z6.out; have l3 := L3.out; have l4 := L4.out; have lx := LX.out; have lw := LW.out; omega))
        replace W0 := hid (W0.out.chg CC (fun e => by have c := BZ.out _ e; have z3 := Z3.out; have z4 := Z4.out; have z5 := Z5.out; have z6 := Z6.out; have l3 := L3.out; have l4 := L4.out; have lx := LX.out; have lw := LW.out; omega))
        replace SO1 := hid (SO1.out.chg CC (fun j hj e => by have b := LS.out j (.inl hj); have c := BZ.out _ e; have z3 := Z3.out; have z4 := Z4.out; have z5 := Z5.out; have z6 := Z6.out; have l3 := L3.out; have l4 := L4.out; have lx := LX.out; have lw := LW.out; omega))
        replace SO2 := hid (SO2.out.chg CC (fun j hj e => by have b := LS.out j (.inr hj); have c := BZ.out _ e; have z3 := Z3.out; have z4 := Z4.out; have z5 := Z5.out; have z6 := Z6.out; have l3 := L3.out; have l4 := L4.out; have lx := LX.out; have lw := LW.out; omega))
        replace X1 := hid (X1.out.chg CC (fun e => by have c := BZ.out _ e; have z3 := Z3.out; have z4 := Z4.out; have z5 := Z5.out; have z6 := Z6.out; have l3 := L3.out; have l4 := L4.out; have lx := LX.out; have lw := LW.out; omega))
        replace X2 := hid (X2.out.chg CC (fun e => by have c := BZ.out _ e; have z3 := Z3.out; have z4 := Z4.out; have z5 := Z5.out; have z6 := Z6.out; have l3 := L3.out; have l4 := L4.out; have lx := LX.out; have lw := LW.out; omega))
        replace G1 := hid (G1.out.chg CC (fun j hj e => by have b := BG.out j (.inl hj); have c := BZ.out _ e; have z3 := Z3.out; have z4 := Z4.out; have z5 := Z5.out; have z6 := Z6.out; have l3 := L3.out; have l4 := L4.out; have lx := LX.out; have lw := LW.out; omega))
        replace G2 := hid (G2.out.chg CC (fun j hj e => by have b := BG.out j (.inr hj); have c := BZ.out _ e; have z3 := Z3.out; have z4 := Z4.out; have z5 := Z5.out; have z6 := Z6.out; have l3 := L3.out; have l4 := L4.out; have lx := LX.out; have lw := LW.out; omega))
        replace G := hid (G.out.chg CC (fun e => by have c := BZ.out _ e; have z3 := Z3.out; have z4 := Z4.out; have z5 := Z5.out; have z6 := Z6.out; have l3 := L3.out; have l4 := L4.out; have lx := LX.out; have lw := LW.out; omega))
        replace PP := hid (below_chg PP.out CC PP.out.size (fun j e => by have c := BZ.out _ e; have z3 := Z3.out; have z4 := Z4.out; have z5 := Z5.out; have z6 := Z6.out; have l3 := L3.out; have l4 := L4.out; have lx := LX.out; have lw := LW.out; omega))
        clear CC
        have dk : decide ((1 : Int) + nr + nm + bs.length + got.length < 0) = false := by simp; omega
        clear X1 X2 APX
        obtain ⟨q0a, q0b, q0c, q0d⟩ := vb4 G.out
        obtain ⟨q1a, q1b, q1c, q1d⟩ := vb4 W0.out
        go_wp2_with fail
        clear q0a q0b q0c q0d q1a q1b q1c q1d
        refine (eqVm_same PC HT _ _ _ _ N M XS YS _ (G1.out.rd (by omega)) (G2.out.rd (by omega)) (SO1.out.rd (by omega)) (SO2.out.rd (by omega))).mono ?_
        rintro e we ⟨rfl, bb⟩
        replace VA := hid (VA.out.keep bb)
        replace VK := hid (VK.out.keep bb)
        replace W0 := hid (W0.out.keep bb)
        replace SO1 := hid (SO1.out.keep bb)
        replace SO2 := hid (SO2.out.keep bb)
        replace G1 := hid (G1.out.keep bb)
        replace G2 := hid (G2.out.keep bb)
        replace G := hid (G.out.keep bb)
        replace PP := hid (PP.out.trans (bb.mono PP.out.size))
        clear bb
        obtain ⟨q0a, q0b, q0c, q0d⟩ := vb4 G.out
        go_wp2_with fail
        clear q0a q0b q0c q0d
        refine (markVm_any PC HT 1 _ _ N M XS YS _ _ G1.out G2.out APG.out (by omega) (by omega) (by omega) (by omega)).mono ?_
        rintro e wf ⟨rfl, p1, p2, CC⟩
        clear G1 G2
        replace VA := hid (VA.out.chg CC (fun e => by have c := BG.out _ e; have z3 := Z3.out; have z4 := Z4.out; have z5 := Z5.out; have z6 := Z6.out; have l3 := L3.out; have l4 := L4.out; have lx := LX.out; have lw := LW.out; omega))
        replace VK := hid (VK.out.chg CC (fun e => by have c := BG.out _ e; have z3 := Z3.out; have z4 := Z4.out; have z5 := Z5.out; have z6 := Z6.out; have l3 := L3.out; have l4 := L4.out; have lx := LX.out; have lw := LW.out; omega))
        replace W0 := hid (W0.out.chg CC (fun e => by have c := BG.out _ e; have z3 := Z3.out; have z4 := Z4.out; have z5 := Z5.out; have z6 := Z6.out; have l3 := L3.out; have l4 := L4.out; have lx := LX.out; have lw := LW.out; omega))
        replace SO1 := hid (SO1.out.chg CC (fun j hj e => by have b := LS.out j (.inl hj); have c := BG.out _ e; have z3 := Z3.out; have z4 := Z4.out; have z5 := Z5.out; have z6 := Z6.out; have l3 := L3.out; have l4 := L4.out; have lx := LX.out; have lw := LW.out; omega))
        replace SO2 := hid (SO2.out.chg CC (fun j hj e => by have b := LS.out j (.inr hj); have c := BG.out _ e; have z3 := Z3.out; have z4 := Z4.out; have z5 := Z5.out; have z6 := Z6.out; have l3 := L3.out; have l4 := L4.out; have lx := LX.out; have lw := LW.out; omega))
        replace G := hid (G.out.chg CC (fun e => by have c := BG.out _ e; have z3 := Z3.out; have z4 := Z4.out; have z5 := Z5.out; have z6 := Z6.out; have l3 := L3.out; have l4 := L4.out; have lx := LX.out; have lw := LW.out; omega))
        replace PP := hid (below_chg PP.out CC PP.out.size (fun j e => by have c := BG.out _ e; have z3 := Z3.out; have z4 := Z4.out; have z5 := Z5.out; have z6 := Z6.out; have l3 := L3.out; have l4 := L4.out; have lx := LX.out; have lw := LW.out; omega))
        clear CC
        have G1 := hid (p1.rd (by omega))
        have G2 := hid (p2.rd (by omega))
        clear p1 p2
        have dq : decide ((1 : Int) + N + M < 0) = false := by simp; omega
        have dqm : (((1 : Int) + N + M) != (1 + N + M)) = false := by simp
        obtain ⟨q0a, q0b, q0c, q0d⟩ := vb4 G.out
        go_wp2_with fail
        clear q0a q0b q0c q0d
        refine (heldVm_any PC HT 1 _ _ N M _ G1.out G2.out (by omega) (by omega)).mono ?_
        rintro e wg ⟨rfl, bb⟩
        replace VA := hid (VA.out.keep bb)
        replace VK := hid (VK.out.keep bb)
        replace W0 := hid (W0.out.keep bb)
        replace SO1 := hid (SO1.out.keep bb)
        replace SO2 := hid (SO2.out.keep bb)
        replace G := hid (G.out.keep bb)
        replace G1 := hid (G1.out.keep bb)
        replace G2 := hid (G2.out.keep bb)
        replace PP := hid (PP.out.trans (bb.mono PP.out.size))
        clear bb
        have R1 := hid (RR1.out.keep PP.out)
        have R2 := hid (RR2.out.keep PP.out)
        have R3 := hid (RR3.out.keep PP.out)
        have R4 := hid (RR4.out.keep PP.out)
        obtain ⟨q0a, q0b, q0c, q0d⟩ := vb4 VA.out
        obtain ⟨q1a, q1b, q1c, q1d, q1e, q1f⟩ := vb6' VK.out
        go_upto_region 37 with fail
        have HAL : AllLast [(fun u _ => u = .agg #[.int .i64 pc, .slice a1 nr c1, .slice a2 nm c2, .int .i64 ht]), (VmR wg.heap.size pc ht nr nm xs ys), (fun u _ => u = .agg #[.int .i64 k, .int .i64 y, .slice a3 bs.length c3, .int .i64 t, .int .i64 g, .int .i64 f]), (AskR wg.heap.size k y t g f bs), (fun u _ => u = .slice a4 got.length c4), (BytR wg.heap.size got), (fun u _ => u = .bool yes), (VmR wg.heap.size PC HT N M XS YS), (PtR wg.heap.size), (LaidR wg.heap.size PC HT N M XS YS)] := ⟨lasts_val _, lasts_vmR, lasts_val _, lasts_askR, lasts_val _, lasts_bytR, lasts_val _, lasts_vmR, lasts_ptR, lasts_laidR, trivial⟩
        have HTL : AllTBut 9 0 [(fun u _ => u = .agg #[.int .i64 pc, .slice a1 nr c1, .slice a2 nm c2, .int .i64 ht]), (VmR wg.heap.size pc ht nr nm xs ys), (fun u _ => u = .agg #[.int .i64 k, .int .i64 y, .slice a3 bs.length c3, .int .i64 t, .int .i64 g, .int .i64 f]), (AskR wg.heap.size k y t g f bs), (fun u _ => u = .slice a4 got.length c4), (BytR wg.heap.size got), (fun u _ => u = .bool yes), (VmR wg.heap.size PC HT N M XS YS), (PtR wg.heap.size), (LaidR wg.heap.size PC HT N M XS YS)] := ⟨.inr (lastT_val _), .inr lastT_vmR, .inr (lastT_val _), .inr lastT_askR, .inr (lastT_val _), .inr lastT_bytR, .inr (lastT_val _), .inr lastT_vmR, .inr lastT_ptR, .inl rfl, trivial⟩
        refine region_al (fun _ => 18) (Pf [(fun u _ => u = .agg #[.int .i64 pc, .slice a1 nr c1, .slice a2 nm c2, .int .i64 ht]), (VmR wg.heap.size pc ht nr nm xs ys), (fun u _ => u = .agg #[.int .i64 k, .int .i64 y, .slice a3 bs.length c3, .int .i64 t, .int .i64 g, .int .i64 f]), (AskR wg.heap.size k y t g f bs), (fun u _ => u = .slice a4 got.length c4), (BytR wg.heap.size got), (fun u _ => u = .bool yes), (VmR wg.heap.size PC HT N M XS YS), (PtR wg.heap.size), (LaidR wg.heap.size PC HT N M XS YS)]) (BW wg) (by kernel_rfl) (by kernel_rfl) (by kernel_rfl) (Below.refl _ _).drew ⟨?_, ?_, ?_, ?_, ?_, ?_, ?_, ?_, ?_, ?_, trivial⟩ ?_
        · exact ob_un (bw_load (fun w hb => ldVL w (cell_keep hb q0a) (cell_keep hb q0b) (cell_keep hb q0c) (cell_keep hb q0d)) (ok_out rfl rfl) rfl)
        · refine ob_un (bw_call HAL (fun xs w => by go_simp) fun a' w' hb hat => ?_)
          have e1 : a'.eval (.tmp 98) = .agg #[.int .i64 pc, .slice a1 nr c1, .slice a2 nm c2, .int .i64 ht] := ok_in 0 rfl rfl rfl a' w' hat
          have e : (#[Operand.tmp 98].map a'.eval) = #[.agg #[.int .i64 pc, .slice a1 nr c1, .slice a2 nm c2, .int .i64 ht]] := by simp [e1]
          rw [e]
          refine (toVm_any pc ht _ _ nr nm xs ys w' (R1.out.keep hb) (R2.out.keep hb)).mono ?_
          rintro e w'' ⟨u1, u2, rfl, p1, p2, _, b⟩
          obtain ⟨d1, e1, rfl, _⟩ := ownI_form p1
          obtain ⟨d2, e2, rfl, _⟩ := ownI_form p2
          exact ⟨_, rfl, ⟨d1, e1, d2, e2, rfl, p1.low hb.size, p2.low hb.size⟩, b⟩
        · exact ob_un (bw_load (fun w hb => ldAL w (cell_keep hb q1a) (cell_keep hb q1b) (cell_keep hb q1c) (cell_keep hb q1d) (cell_keep hb q1e) (cell_keep hb q1f)) (ok_out rfl rfl) rfl)
        · refine ob_un (bw_call HAL (fun xs w => by go_simp) fun a' w' hb hat => ?_)
          have e1 : a'.eval (.tmp 100) = .agg #[.int .i64 k, .int .i64 y, .slice a3 bs.length c3, .int .i64 t, .int .i64 g, .int .i64 f] := ok_in 2 rfl rfl rfl a' w' hat
          have e : (#[Operand.tmp 100].map a'.eval) = #[.agg #[.int .i64 k, .int .i64 y, .slice a3 bs.length c3, .int .i64 t, .int .i64 g, .int .i64 f]] := by simp [e1]
          rw [e]
          refine (toAsk_any k y t g f _ bs w' (R3.out.keep hb)).mono ?_
          rintro e w'' ⟨v1, rfl, p1, b⟩
          obtain ⟨d1, e1, rfl, _⟩ := own_form p1
          exact ⟨_, rfl, ⟨d1, e1, rfl, p1.low hb.size⟩, b⟩
        · exact ob_un (bw_move rfl (ok_out rfl rfl))
        · refine ob_un (bw_call HAL (fun xs w => by go_simp) fun a' w' hb hat => ?_)
          have e1 : a'.eval (.tmp 102) = .slice a4 got.length c4 := ok_in 4 rfl rfl rfl a' w' hat
          have e : (#[Operand.tmp 102].map a'.eval) = #[.slice a4 got.length c4] := by simp [e1]
          rw [e]
          refine (toBytes_any _ got w' (R4.out.keep hb)).mono ?_
          rintro e w'' ⟨v1, rfl, p1, b⟩
          obtain ⟨d1, e1, rfl, _⟩ := own_form p1
          exact ⟨_, rfl, ⟨d1, e1, rfl, p1.low hb.size⟩, b⟩
        · exact ob_un (bw_move rfl (ok_out rfl rfl))
        · refine ob_un (bw_call HAL (fun xs w => by go_simp) fun a' w' hb hat => ?_)
          obtain ⟨d1, e1, d2, e2, E1, o1, o2⟩ := ok_of (s := 99) 1 rfl rfl rfl hat
          obtain ⟨d3, e3, E2, o3⟩ := ok_of (s := 101) 3 rfl rfl rfl hat
          obtain ⟨d4, e4, E3, o4⟩ := ok_of (s := 103) 5 rfl rfl rfl hat
          have E4 : a'.eval (.tmp 104) = .bool yes := ok_in 6 rfl rfl rfl a' w' hat
          have e : (#[Operand.tmp 99, Operand.tmp 101, Operand.tmp 103, Operand.tmp 104].map a'.eval) = #[.agg #[.int .i64 pc, .slice d1 nr e1, .slice d2 nm e2, .int .i64 ht], .agg #[.int .i64 k, .int .i64 y, .slice d3 bs.length e3, .int .i64 t, .int .i64 g, .int .i64 f], .slice d4 got.length e4, .bool yes] := by simp [E1, E2, E3, E4]
          rw [e]
          refine (HI.out d3 e3 _ _ _ w' (o1.rd (by omega)) (o2.rd (by omega)) (o3.rd (by omega)) (o4.rd (by omega))).mono ?_
          rintro e w'' ⟨g1, h1, g2, h2, rfl, p1, p2, _, b⟩
          exact ⟨_, rfl, ⟨g1, h1, g2, h2, rfl, p1.low hb.size, p2.low hb.size⟩, b⟩
        · exact ob_un (bw_allocS HAL rfl)
        · exact obA_st (obS_store 8 7 HTL rfl rfl rfl rfl rfl rfl rfl rfl)
        intro uv wh bz hF
        obtain ⟨-, -, -, -, -, -, -, -, -, f9, -⟩ := hF
        obtain ⟨bh, h1, i1, h2, i2, hp, hvb, p1, p2, -⟩ : LaidR wg.heap.size PC HT N M XS YS (uv 18) wh := f9
        simp only [outTmps, List.setIfInBounds_toArray, List.set_cons_zero, List.set_cons_succ, hp]
        clear HAL HTL hp q0a q0b q0c q0d q1a q1b q1c q1d q1e q1f
        replace VA := hid (VA.out.keep bz)
        replace VK := hid (VK.out.keep bz)
        replace W0 := hid (W0.out.keep bz)
        replace SO1 := hid (SO1.out.keep bz)
        replace SO2 := hid (SO2.out.keep bz)
        replace G := hid (G.out.keep bz)
        replace G1 := hid (G1.out.keep bz)
        replace G2 := hid (G2.out.keep bz)
        replace R1 := hid (R1.out.keep bz)
        replace R2 := hid (R2.out.keep bz)
        replace R3 := hid (R3.out.keep bz)
        replace R4 := hid (R4.out.keep bz)
        replace PP := hid (PP.out.trans (bz.mono PP.out.size))
        clear bz
        have H := hid hvb
        have H1 := hid (p1.rd (by omega))
        have H2 := hid (p2.rd (by omega))
        clear hvb p1 p2
        obtain ⟨q0a, q0b, q0c, q0d⟩ := vb4 H.out
        obtain ⟨q1a, q1b, q1c, q1d⟩ := vb4 W0.out
        go_wp2_with fail
        clear q0a q0b q0c q0d q1a q1b q1c q1d
        refine (eqVm_same PC HT _ _ _ _ N M XS YS _ H1.out H2.out (SO1.out.rd (by omega)) (SO2.out.rd (by omega))).mono ?_
        rintro e wi ⟨rfl, bb⟩
        replace VA := hid (VA.out.keep bb)
        replace VK := hid (VK.out.keep bb)
        replace W0 := hid (W0.out.keep bb)
        replace SO1 := hid (SO1.out.keep bb)
        replace SO2 := hid (SO2.out.keep bb)
        replace G := hid (G.out.keep bb)
        replace G1 := hid (G1.out.keep bb)
        replace G2 := hid (G2.out.keep bb)
        replace R1 := hid (R1.out.keep bb)
        replace R2 := hid (R2.out.keep bb)
        replace R3 := hid (R3.out.keep bb)
        replace R4 := hid (R4.out.keep bb)
        replace H := hid (H.out.keep bb)
        replace H1 := hid (H1.out.keep bb)
        replace H2 := hid (H2.out.keep bb)
        replace PP := hid (PP.out.trans (bb.mono PP.out.size))
        clear bb
        obtain ⟨q0a, q0b, q0c, q0d⟩ := vb4 G.out
        go_wp2_with fail
        clear q0a q0b q0c q0d
        refine (heldVm_any PC HT 1 _ _ N M _ G1.out G2.out (by omega) (by omega)).mono ?_
        rintro e wj ⟨rfl, bb⟩
        replace VA := hid (VA.out.keep bb)
        replace VK := hid (VK.out.keep bb)
        replace W0 := hid (W0.out.keep bb)
        replace SO1 := hid (SO1.out.keep bb)
        replace SO2 := hid (SO2.out.keep bb)
        replace G := hid (G.out.keep bb)
        replace G1 := hid (G1.out.keep bb)
        replace G2 := hid (G2.out.keep bb)
        replace R1 := hid (R1.out.keep bb)
        replace R2 := hid (R2.out.keep bb)
        replace R3 := hid (R3.out.keep bb)
        replace R4 := hid (R4.out.keep bb)
        replace H := hid (H.out.keep bb)
        replace H1 := hid (H1.out.keep bb)
        replace H2 := hid (H2.out.keep bb)
        replace PP := hid (PP.out.trans (bb.mono PP.out.size))
        clear bb
        go_wp2
        go_ret
        exact ⟨rfl, PP.out⟩
      · have E1 : Hid ((if (1048576 : Int) - nr < 0 then -1 else if (1048576 : Int) - nr - nm < 0 then -1 else (1048576 : Int) - nr - nm) = 1048576 - nr - nm) := hid (by rw [if_neg (by omega), if_neg (by omega)])
        have E2 : Hid ((if (1048576 : Int) - nr - nm - (nb : Int) < 0 then -1 else (1048576 : Int) - nr - nm - nb) = -1) := hid (if_pos (by omega))
        have d1 : decide ((1048576 : Int) - nr - nm < 0) = false := by simp; omega
        have d3 : decide ((1048576 : Int) < (ng : Int)) = false := by simp; omega
        clear k1 k2 k3 k4
        have PP := hid (Below.refl w.heap.size w)
        go_enter Try.func11, Try.ntmps11
        go_wp2_with fail
        have A := below_alloc1 w (.cells #[.int .i64 pc, .slice a1 nr c1, .slice a2 nm c2, .int .i64 ht] 53)
        replace PP := hid (PP.out.trans (A.mono PP.out.size))
        have VA := hid (vb_new w [.int .i64 pc, .slice a1 nr c1, .slice a2 nm c2, .int .i64 ht] 53)
        have zz0 : (w.alloc (.cells #[.int .i64 pc, .slice a1 nr c1, .slice a2 nm c2, .int .i64 ht] 53)).heap.size = w.heap.size + 1 := by simp
        obtain ⟨U0, hU0⟩ : ∃ X, w.alloc (.cells #[.int .i64 pc, .slice a1 nr c1, .slice a2 nm c2, .int .i64 ht] 53) = X := ⟨_, rfl⟩
        rw [hU0] at zz0 VA PP
        try rw [hU0]
        clear A hU0
        have A := below_alloc1 U0 (.cells #[.int .i64 k, .int .i64 y, .slice a3 nb c3, .int .i64 t, .int .i64 g, .int .i64 f] 61)
        replace VA := hid (VA.out.keep A)
        replace PP := hid (PP.out.trans (A.mono PP.out.size))
        have VK := hid (vb_new U0 [.int .i64 k, .int .i64 y, .slice a3 nb c3, .int .i64 t, .int .i64 g, .int .i64 f] 61)
        have zz1 : (U0.alloc (.cells #[.int .i64 k, .int .i64 y, .slice a3 nb c3, .int .i64 t, .int .i64 g, .int .i64 f] 61)).heap.size = w.heap.size + 2 := by simp [zz0]
        rw [zz0] at VK
        obtain ⟨U1, hU1⟩ : ∃ X, U0.alloc (.cells #[.int .i64 k, .int .i64 y, .slice a3 nb c3, .int .i64 t, .int .i64 g, .int .i64 f] 61) = X := ⟨_, rfl⟩
        rw [hU1] at zz1 VA VK PP
        try rw [hU1]
        clear A hU1
        refine (szVm_any pc ht a1 a2 nr nm c1 c2 1048576 _ (by omega) (by omega) (by omega) (by omega)).mono ?_
        rw [E1.out]
        rintro e w1 ⟨rfl, bb⟩
        replace VA := hid (VA.out.keep bb)
        replace VK := hid (VK.out.keep bb)
        replace PP := hid (PP.out.trans (bb.mono PP.out.size))
        clear bb
        obtain ⟨q0a, q0b, q0c, q0d⟩ := vb4 VA.out
        obtain ⟨q1a, q1b, q1c, q1d, q1e, q1f⟩ := vb6' VK.out
        go_wp2_with fail
        clear q0a q0b q0c q0d q1a q1b q1c q1d q1e q1f
        refine (szAsk_any k y t g f a3 nb c3 _ _ (by omega) (by omega) (by omega)).mono ?_
        rw [E2.out]
        rintro e w2 ⟨rfl, bb⟩
        replace PP := hid (PP.out.trans (bb.mono PP.out.size))
        clear bb
        go_wp2
        go_ret
        exact ⟨rfl, PP.out⟩
    · have E1 : Hid ((if (1048576 : Int) - nr < 0 then -1 else if (1048576 : Int) - nr - nm < 0 then -1 else (1048576 : Int) - nr - nm) = -1) := hid (by
        by_cases h : (1048576 : Int) - nr < 0
        · rw [if_pos h]
        · rw [if_neg h, if_pos (by omega)])
      have d3 : decide ((1048576 : Int) < (ng : Int)) = false := by simp; omega
      clear k1 k2 k3 k4
      have PP := hid (Below.refl w.heap.size w)
      go_enter Try.func11, Try.ntmps11
      go_wp2_with fail
      have A := below_alloc1 w (.cells #[.int .i64 pc, .slice a1 nr c1, .slice a2 nm c2, .int .i64 ht] 53)
      replace PP := hid (PP.out.trans (A.mono PP.out.size))
      have VA := hid (vb_new w [.int .i64 pc, .slice a1 nr c1, .slice a2 nm c2, .int .i64 ht] 53)
      have zz0 : (w.alloc (.cells #[.int .i64 pc, .slice a1 nr c1, .slice a2 nm c2, .int .i64 ht] 53)).heap.size = w.heap.size + 1 := by simp
      obtain ⟨U0, hU0⟩ : ∃ X, w.alloc (.cells #[.int .i64 pc, .slice a1 nr c1, .slice a2 nm c2, .int .i64 ht] 53) = X := ⟨_, rfl⟩
      rw [hU0] at zz0 VA PP
      try rw [hU0]
      clear A hU0
      have A := below_alloc1 U0 (.cells #[.int .i64 k, .int .i64 y, .slice a3 nb c3, .int .i64 t, .int .i64 g, .int .i64 f] 61)
      replace VA := hid (VA.out.keep A)
      replace PP := hid (PP.out.trans (A.mono PP.out.size))
      have VK := hid (vb_new U0 [.int .i64 k, .int .i64 y, .slice a3 nb c3, .int .i64 t, .int .i64 g, .int .i64 f] 61)
      have zz1 : (U0.alloc (.cells #[.int .i64 k, .int .i64 y, .slice a3 nb c3, .int .i64 t, .int .i64 g, .int .i64 f] 61)).heap.size = w.heap.size + 2 := by simp [zz0]
      rw [zz0] at VK
      obtain ⟨U1, hU1⟩ : ∃ X, U0.alloc (.cells #[.int .i64 k, .int .i64 y, .slice a3 nb c3, .int .i64 t, .int .i64 g, .int .i64 f] 61) = X := ⟨_, rfl⟩
      rw [hU1] at zz1 VA VK PP
      try rw [hU1]
      clear A hU1
      refine (szVm_any pc ht a1 a2 nr nm c1 c2 1048576 _ (by omega) (by omega) (by omega) (by omega)).mono ?_
      rw [E1.out]
      rintro e w1 ⟨rfl, bb⟩
      replace VA := hid (VA.out.keep bb)
      replace VK := hid (VK.out.keep bb)
      replace PP := hid (PP.out.trans (bb.mono PP.out.size))
      clear bb
      go_wp2
      go_ret
      exact ⟨rfl, PP.out⟩
  · have d3 : decide ((1048576 : Int) < (ng : Int)) = true := by simp; omega
    clear k1 k2 k3 k4
    have P0 := hid (((Below.refl w.heap.size w).alloc (Nat.le_refl _) (.cells #[.int .i64 pc, .slice a1 nr c1, .slice a2 nm c2, .int .i64 ht] 53)).alloc (by simp) (.cells #[.int .i64 k, .int .i64 y, .slice a3 nb c3, .int .i64 t, .int .i64 g, .int .i64 f] 61))
    go_enter Try.func11, Try.ntmps11
    go_wp2
    go_ret
    exact ⟨rfl, P0.out⟩

theorem own : ownKnob Try.prog.godebug = none := by kernel_rfl
theorem laidOut : laidOutB Try.prog = true := by kernel_rfl
theorem cells53 : Try.prog.cellsOf 53 = 4 := by kernel_rfl
theorem cells61 : Try.prog.cellsOf 61 = 6 := by kernel_rfl
set_option maxRecDepth 100000 in
theorem lifted (os : Os) (started : os.Started) (H : Type) (enc : TypeId × Value → H) :
    ReturnsInHanded {} Try.checked os 11 .any (Rows.fnExactVmGiveSpec.pre6 enc Try.prog Try.f11 Rows.fnExactVmGiveRow.domain false) (Rows.fnExactVmGiveSpec.post enc Try.prog Try.f11 false true false false) := by
  refine returnsInHanded_of_change (C := Try.checked) own started (by kernel_rfl) Try.func11
    (ChangeSpec.witness6 (enc := enc) (C := Try.checked) false ⟨#[], #[.agg #[.int .i64 0, .slice none 0 0, .slice none 0 0, .int .i64 0], .agg #[.int .i64 0, .int .i64 0, .slice none 0 0, .int .i64 0, .int .i64 0, .int .i64 0], .slice none 0 0, .bool false], []⟩ 8 (by kernel_rfl) (by kernel_rfl) (by kernel_rfl) (by kernel_rfl)) ?_
  intro W base args ds gs before hval0 hW hcnd _
  have hval : ∀ (j : Nat) t v, Try.f11.params[j]? = some t → args[j]? = some v → Value.okWide Try.prog W .any base t v := hval0
  have hW' := hW
  obtain ⟨p, q, hA0, hV, rfl, hfz, hnd⟩ := hW
  have hA : DataW.TrodAll enc Try.prog W 0 (fun _ => true) true Try.f11.params.toList args.toList ds p := hA0
  rw [Try.params11] at hA hval
  obtain ⟨v0, vs0, d0, ds0, p0, q0, hargs, rfl, rfl, h0, r0⟩ := trodAll_cons hA
  obtain ⟨v1, vs1, d1, ds1, p1, q1, rfl, rfl, rfl, h1, r1⟩ := trodAll_cons r0
  obtain ⟨v2, vs2, d2, ds2, p2, q2, rfl, rfl, rfl, h2, r2⟩ := trodAll_cons r1
  obtain ⟨v3, vs3, d3, ds3, p3, q3, rfl, rfl, rfl, h3, r3⟩ := trodAll_cons r2
  obtain ⟨rfl, rfl, rfl⟩ := trodAll_nil r3
  obtain rfl : args = #[v0, v1, v2, v3] := by cases args; simp_all
  obtain ⟨rfl, rfl⟩ := trodVars_none hV
  have k0 := h0
  have lt0 : ∀ x ∈ p0, x.block < W.heap.size := by obtain ⟨m, hm⟩ := k0; exact DataW.trod_lt m _ _ _ hm
  obtain ⟨c0x0, c0x1, c0x2, c0x3, y0x0, y0x1, y0x2, y0x3, m0, rfl, rfl, rfl, h0y0, h0y1, h0y2, h0y3⟩ := open_agg4 Try.underlying53 (by kernel_rfl) cells53 (hval 0 53 v0 rfl rfl) h0
  obtain ⟨pc0, e0x0, rfl, w0x0⟩ := DataW.trod_int Try.underlying3 h0y0
  obtain ⟨ht0, e0x3, rfl, w0x3⟩ := DataW.trod_int Try.underlying3 h0y3
  obtain ⟨ra0, rl0, rc0, rz0, rfl, rk0⟩ := open_intsI Try.underlying23 Try.underlying3 (by kernel_rfl) h0y1
  obtain ⟨ma0, ml0, mc0, mz0, rfl, mk0⟩ := open_intsI Try.underlying23 Try.underlying3 (by kernel_rfl) h0y2
  simp at e0x0 e0x3
  subst e0x0 e0x3
  have k1 := h1
  have lt1 : ∀ x ∈ p1, x.block < W.heap.size := by obtain ⟨m, hm⟩ := k1; exact DataW.trod_lt m _ _ _ hm
  obtain ⟨c1x0, c1x1, c1x2, c1x3, c1x4, c1x5, y1x0, y1x1, y1x2, y1x3, y1x4, y1x5, m1, rfl, rfl, rfl, h1y0, h1y1, h1y2, h1y3, h1y4, h1y5⟩ := open_agg6 Try.underlying61 (by kernel_rfl) cells61 (hval 1 61 v1 rfl rfl) h1
  obtain ⟨q1n0, e1x0, rfl, w1x0⟩ := DataW.trod_int Try.underlying3 h1y0
  obtain ⟨q1n1, e1x1, rfl, w1x1⟩ := DataW.trod_int Try.underlying3 h1y1
  obtain ⟨q1n3, e1x3, rfl, w1x3⟩ := DataW.trod_int Try.underlying3 h1y3
  obtain ⟨q1n4, e1x4, rfl, w1x4⟩ := DataW.trod_int Try.underlying3 h1y4
  obtain ⟨q1n5, e1x5, rfl, w1x5⟩ := DataW.trod_int Try.underlying3 h1y5
  obtain ⟨sa1, sl1, sc1, z1, rfl, b1⟩ : ∃ a l c zs, c1x2 = .slice a l c ∧ IsRow .u8 W a l c zs := by
    rcases open_ints Try.underlying22 Try.underlying5 (by kernel_rfl) h1y2 with ⟨hcs, _⟩ | ⟨x, l, c, zs, hcs, _, hl, hm, hz, _, hcell, hwz⟩
    · simp at hcs
      exact ⟨none, 0, 0, [], hcs, .inl ⟨rfl, rfl, rfl, rfl⟩⟩
    · simp at hcs
      exact ⟨some x, l, c, zs, hcs, .inr ⟨_, rfl, hl, hm, by simpa using hz, hcell, hwz⟩⟩
  simp at e1x0 e1x1 e1x3 e1x4 e1x5
  subst e1x0 e1x1 e1x3 e1x4 e1x5
  obtain ⟨a2, len2, cap2, rfl⟩ := okWide_slice Try.underlying22 (hval 2 22 v2 rfl rfl)
  have k2 := h2
  have lt2 : ∀ x ∈ p2, x.block < W.heap.size := by obtain ⟨m, hm⟩ := k2; exact DataW.trod_lt m _ _ _ hm
  obtain ⟨z2, w2⟩ : ∃ zs, IsRow .u8 W a2 len2 cap2 zs := by
    obtain ⟨fuel, hf⟩ := h2
    rcases open_ints Try.underlying22 Try.underlying5 (by kernel_rfl) hf with ⟨hcs, _⟩ | ⟨x, l, c, zs, hcs, _, hl, hm, hz, _, hcell, hwz⟩
    · simp [Value.cells] at hcs
      obtain ⟨rfl, rfl, rfl⟩ := hcs
      exact ⟨[], .inl ⟨rfl, rfl, rfl, rfl⟩⟩
    · simp [Value.cells] at hcs
      obtain ⟨rfl, rfl, rfl⟩ := hcs
      exact ⟨zs, .inr ⟨_, rfl, hl, hm, by simpa using hz, hcell, hwz⟩⟩
  obtain ⟨a3, rfl, rfl, rfl⟩ := open_bool Try.underlying4 (hval 3 4 v3 rfl rfl) h3
  clear hA0 hval0
  refine (walk pc0 ra0 rl0 rc0 rz0 ma0 ml0 mc0 mz0 ht0 q1n0 q1n1 sa1 sl1 sc1 z1 q1n3 q1n4 q1n5 a2 len2 cap2 z2 a3 W rk0 mk0 b1 w2).mono fun e W' ⟨he, bel⟩ => ?_
  subst he
  exact ⟨_, rfl, _, _, _, [], _, [], hW', trodAll_mk1 (shut_bool Try.underlying4 _), (trodAll_cons_mk (Below.trod laidOut (by kernel_rfl) (of_decide_eq_true (by kernel_rfl)) k0 bel lt0) (trodAll_cons_mk (Below.trod laidOut (by kernel_rfl) (of_decide_eq_true (by kernel_rfl)) k1 bel lt1) (trodAll_cons_mk (Below.trod laidOut (by kernel_rfl) (of_decide_eq_true (by kernel_rfl)) k2 bel lt2) (trodAll_cons_mk (shut_bool Try.underlying4 a3) trodAll_mk0)))), rfl, bel.frame _, fun h => by cases h⟩

theorem over : Rows.fnExactVmGiveRow.holds Try.pinned (OpenSpec.ofChange Rows.fnExactVmGiveSpec) :=
  OpenClaim.holds_of_wide 11 Try.f11 rfl rfl rfl rfl rfl rfl rfl ⟨rfl, rfl, rfl, rfl, rfl⟩ rfl rfl rfl rfl rfl (by kernel_rfl) Try.func11 (by kernel_rfl)
    (of_decide_eq_true (by kernel_rfl)) (by unfold Func.isWrapper; first | (rw [if_pos (by decide +kernel)]; kernel_rfl) | (rw [if_neg (by decide +kernel)]; exact ⟨rfl, rfl⟩))
    (fun os started H enc _ => lifted os started H enc)

end Go.Proofs.Ytbpomeegpkdekaa.fnExactVmGive
namespace Go.Proofs.Ytbpomeegpkdekaa
theorem fnExactVmGive_holds : Rows.FnExactVmGiveSaid := fnExactVmGive.over
#print axioms fnExactVmGive_holds
end Go.Proofs.Ytbpomeegpkdekaa
