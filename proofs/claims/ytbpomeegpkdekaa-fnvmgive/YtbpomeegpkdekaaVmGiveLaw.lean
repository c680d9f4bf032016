/- An answer changes what was asked for: whatever is drawn, one register, two, or a register and as many bytes as came. No conditions. -/
import Derived.Test.YtbpomeegpkdekaaDrawVmGive
import Derived.Test.YtbpomeegpkdekaaCaState
import Derived.Test.YtbpomeegpkdekaaGiveDif
import Derived.Test.YtbpomeegpkdekaaRegBw
namespace Go.Proofs.Ytbpomeegpkdekaa
open Go.ChangeShapes Go.WideShapes Go.ChangeAt Go.RowKit Go.Joins Go.Deep
theorem ldVG {b : Nat} {x y z t : Value} (w : World) (h0 : w.cell? ⟨b, 0, none⟩ = some x) (h1 : w.cell? ⟨b, 1, none⟩ = some y) (h2 : w.cell? ⟨b, 2, none⟩ = some z) (h3 : w.cell? ⟨b, 3, none⟩ = some t) : (Instr.loadAt 25 (.pointer (some ⟨b, 0, none⟩))).run Try.prog w = .ok (.agg #[x, y, z, t]) w := by
  go_simp
theorem ldAG {b : Nat} {x y z t u v : Value} (w : World) (h0 : w.cell? ⟨b, 0, none⟩ = some x) (h1 : w.cell? ⟨b, 1, none⟩ = some y) (h2 : w.cell? ⟨b, 2, none⟩ = some z) (h3 : w.cell? ⟨b, 3, none⟩ = some t) (h4 : w.cell? ⟨b, 4, none⟩ = some u) (h5 : w.cell? ⟨b, 5, none⟩ = some v) : (Instr.loadAt 30 (.pointer (some ⟨b, 0, none⟩))).run Try.prog w = .ok (.agg #[x, y, z, t, u, v]) w := by
  go_simp
theorem rdI_nilG (w : World) : RdI 1 w (.slice none 0 0) 0 [] := (ownI_nil (e := 3) (k := 1) (B := 0) w).rd (by omega)
theorem rd_nilG (w : World) : Rd w (.slice none ([] : List Int).length 0) [] := (own_nil (B := 0) w).rd (by simp)
def GvP (pc H : Int) (n m : Nat) (R M : List Int) (u : Value) (w : World) : Prop := ∃ u7 v7, u = .agg #[.int .i64 pc, u7, v7, .int .i64 H] ∧ RdI 1 w u7 n R ∧ RdI 1 w v7 m M
theorem lasts_gvp {pc H : Int} {n m : Nat} {R M : List Int} : Lasts (GvP pc H n m R M) := by
  rintro u w w' hb ⟨u7, v7, h1, h2, h3⟩
  exact ⟨u7, v7, h1, h2.keep hb, h3.keep hb⟩
theorem gpost_bad {pc H : Int} {R M : List Int} {w w' : World} {e : Ending} (h : GivePost false pc H R M w e w') : ∃ u v, e = .returned (.agg #[.int .i64 0, u, v, .int .i64 0]) ∧ RdI 1 w' u 0 [] ∧ RdI 1 w' v 0 [] ∧ Below w.heap.size w w' := by
  obtain ⟨u, v, he, o1, o2, _, b⟩ := h
  exact ⟨u, v, he, o1.rd (by simp), o2.rd (by simp), b⟩
theorem gpost_good {pc H' H : Int} {R' M' R M : List Int} {w w' : World} {e : Ending} (hq : H' = H ∧ R' = R ∧ M' = M) (h : GivePost true pc H' R' M' w e w') : ∃ u v, e = .returned (.agg #[.int .i64 pc, u, v, .int .i64 H]) ∧ RdI 1 w' u 4 R ∧ RdI 1 w' v 8 M ∧ Below w.heap.size w w' := by
  obtain ⟨u, v, he, o1, o2, _, b⟩ := h
  obtain ⟨rfl, rfl, rfl⟩ := hq
  exact ⟨u, v, he, o1.rd (by simp), o2.rd (by simp), b⟩
theorem cap_ofV {w : World} {a : Option Addr} {len cap : Nat} {zs : List Int} (h : IsRow .u8 w a len cap zs) : len ≤ cap := by
  rcases h with ⟨_, rfl, rfl, _⟩ | ⟨_, _, h1, _⟩
  · exact Nat.le_refl _
  · exact h1
end Go.Proofs.Ytbpomeegpkdekaa
namespace Go.Proofs.Ytbpomeegpkdekaa.fnVmGive
open Go.ChangeShapes Go.WideShapes Go.ChangeAt Go.RowKit Go.Joins Go.Deep
set_option linter.unusedVariables false
set_option linter.unusedSimpArgs false
set_option maxRecDepth 4000
set_option maxHeartbeats 16000000 in
theorem walk (a0 : Option Addr) (len0 cap0 : Nat) (z0 : List Int) (w : World) (k0 : IsRow .u8 w a0 len0 cap0 z0) :
    Calls Try.prog 5 #[.slice a0 len0 cap0] w fun e w' => e = .returned (.bool true) ∧ Below w.heap.size w w' := by
  have m0 := k0.max
  by_cases hl0 : len0 ≤ 1048576
  · have hl0' : (len0 : Int) ≤ 1048576 := by omega
    obtain ⟨zs, hx0, r0⟩ := k0.rd hl0
    have hcp := cap_ofV k0
    have R0 := hid r0
    clear k0 r0 m0
    go_enter Try.func5, Try.ntmps5
    go_wp2_with fail
    refine (drawVmGive_any a0 len0 cap0 zs _ hx0 R0.out hcp).mono ?_
    rintro e w1 ⟨pc, ht, u, v, k, y, t, h, f, ab, cb, gv, yes, m, xs, ys, bs, got, rfl, ru, rv, hm9, rb, hb9, rg, hg9, b1⟩
    have RU := hid ru
    have RV := hid rv
    have RB := hid rb
    have RG := hid rg
    have GB := hid rg.1
    obtain ⟨_, _, a1, c1, rfl, _⟩ := ru
    obtain ⟨_, _, a2, c2, rfl, _⟩ := rv
    obtain ⟨_, _, ga, gc, rfl, _⟩ := rg
    have PP := hid b1
    clear b1 R0 hx0 hcp rb
    have HB9 := hid hb9
    have HG9 := hid hg9
    have HM9 := hid hm9
    clear hb9 hg9 hm9
    go_wp2_with fail
    have VS := hid ((vb_new w1 [.int .i64 pc, .slice a1 4 c1, .slice a2 m c2, .int .i64 ht] 25).keep (below_alloc1 _ (.cells #[.int .i64 k, .int .i64 y, .slice ab bs.length cb, .int .i64 t, .int .i64 h, .int .i64 f] 30)))
    have VA : Hid (VB ((w1.alloc (.cells #[.int .i64 pc, .slice a1 4 c1, .slice a2 m c2, .int .i64 ht] 25)).alloc (.cells #[.int .i64 k, .int .i64 y, .slice ab bs.length cb, .int .i64 t, .int .i64 h, .int .i64 f] 30)) (w1.heap.size + 1) [.int .i64 k, .int .i64 y, .slice ab bs.length cb, .int .i64 t, .int .i64 h, .int .i64 f]) := hid (by have h := vb_new (w1.alloc (.cells #[.int .i64 pc, .slice a1 4 c1, .slice a2 m c2, .int .i64 ht] 25)) [.int .i64 k, .int .i64 y, .slice ab bs.length cb, .int .i64 t, .int .i64 h, .int .i64 f] 30; rw [World.size_alloc] at h; exact h)
    have AA := below_alloc2 w1 (.cells #[.int .i64 pc, .slice a1 4 c1, .slice a2 m c2, .int .i64 ht] 25) (.cells #[.int .i64 k, .int .i64 y, .slice ab bs.length cb, .int .i64 t, .int .i64 h, .int .i64 f] 30)
    replace RU := hid (RU.out.keep AA)
    replace RV := hid (RV.out.keep AA)
    replace RB := hid (RB.out.keep AA)
    replace RG := hid (RG.out.keep AA)
    replace PP := hid (PP.out.trans (AA.mono PP.out.size))
    obtain ⟨W1, hW1⟩ : ∃ W, (w1.alloc (.cells #[.int .i64 pc, .slice a1 4 c1, .slice a2 m c2, .int .i64 ht] 25)).alloc (.cells #[.int .i64 k, .int .i64 y, .slice ab bs.length cb, .int .i64 t, .int .i64 h, .int .i64 f] 30) = W := ⟨_, rfl⟩
    rw [hW1] at RU RV RB RG VS VA PP ⊢
    clear AA hW1
    have HR := (vmGive_any pc ht k y t h f ab cb bs _ got yes _ _ 4 m xs ys _ RU.out RV.out RB.out RG.out)
    cases hok : gvB pc 4 xs m ys ht k y bs.length t h f got
    · have HOK := hid hok
      rw [hok] at HR
      clear hok
      refine HR.mono ?_
      clear HR
      intro e w2 hp
      obtain ⟨u5, v5, rfl, rx, ry, bb⟩ := gpost_bad hp
      clear hp
      have X5 := hid rx
      have Y5 := hid ry
      obtain ⟨_, _, xa5, xc5, rfl, _⟩ := rx
      obtain ⟨_, _, ya5, yc5, rfl, _⟩ := ry
      replace RU := hid (RU.out.keep bb)
      replace RV := hid (RV.out.keep bb)
      replace RB := hid (RB.out.keep bb)
      replace RG := hid (RG.out.keep bb)
      replace VS := hid (VS.out.keep bb)
      replace VA := hid (VA.out.keep bb)
      replace PP := hid (PP.out.trans (bb.mono PP.out.size))
      clear bb
      have AA := below_alloc1 w2 (.cells #[.int .i64 0, .slice xa5 0 xc5, .slice ya5 0 yc5, .int .i64 0] 25)
      replace RU := hid (RU.out.keep AA)
      replace RV := hid (RV.out.keep AA)
      replace RB := hid (RB.out.keep AA)
      replace RG := hid (RG.out.keep AA)
      replace VS := hid (VS.out.keep AA)
      replace VA := hid (VA.out.keep AA)
      replace X5 := hid (X5.out.keep AA)
      replace Y5 := hid (Y5.out.keep AA)
      replace PP := hid (PP.out.trans (AA.mono PP.out.size))
      have V5 := hid (vb_new w2 [.int .i64 0, .slice xa5 0 xc5, .slice ya5 0 yc5, .int .i64 0] 25)
      obtain ⟨W2, hW2⟩ : ∃ W, w2.alloc (.cells #[.int .i64 0, .slice xa5 0 xc5, .slice ya5 0 yc5, .int .i64 0] 25) = W := ⟨_, rfl⟩
      rw [hW2] at RU RV RB RG VS VA X5 Y5 V5 PP
      clear AA
      have HW2 := hid hW2
      clear hW2
      go_wp2_with fail
      try rw [HW2.out]
      clear HW2
      obtain ⟨q0a, q0b, q0c, q0d⟩ := vb4 V5.out
      obtain ⟨q1a, q1b, q1c, q1d⟩ := vb4 VS.out
      obtain ⟨q2a, q2b, q2c, q2d, q2e, q2f⟩ := vb6V VA.out
      go_upto_region 5 with fail
      have HAL : AllLast [(fun u _ => u = .agg #[.int .i64 0, .slice xa5 0 xc5, .slice ya5 0 yc5, .int .i64 0]), (fun u _ => u = .agg #[.int .i64 pc, .slice a1 4 c1, .slice a2 m c2, .int .i64 ht]), (fun u _ => u = .agg #[.int .i64 k, .int .i64 y, .slice ab bs.length cb, .int .i64 t, .int .i64 h, .int .i64 f]), (fun u _ => u = .slice ga got.length gc), (fun u _ => u = .bool yes), (GvP 0 0 0 0 [] []), (fun u _ => u = .bool true), (fun u _ => u = .bool false)] := ⟨lasts_val _, lasts_val _, lasts_val _, lasts_val _, lasts_val _, lasts_gvp, lasts_val _, lasts_val _, trivial⟩
      refine region_bw [(fun u _ => u = .agg #[.int .i64 0, .slice xa5 0 xc5, .slice ya5 0 yc5, .int .i64 0]), (fun u _ => u = .agg #[.int .i64 pc, .slice a1 4 c1, .slice a2 m c2, .int .i64 ht]), (fun u _ => u = .agg #[.int .i64 k, .int .i64 y, .slice ab bs.length cb, .int .i64 t, .int .i64 h, .int .i64 f]), (fun u _ => u = .slice ga got.length gc), (fun u _ => u = .bool yes), (GvP 0 0 0 0 [] []), (fun u _ => u = .bool true), (fun u _ => u = .bool false)] (by kernel_rfl) (by kernel_rfl) ⟨?_, ?_, ?_, ?_, ?_, ?_, ?_, ?_, trivial⟩ ?_
      · exact ob_un (bw_load (fun w hb => ldVG w (cell_keep hb q0a) (cell_keep hb q0b) (cell_keep hb q0c) (cell_keep hb q0d)) (ok_out rfl rfl) rfl)
      · exact ob_un (bw_load (fun w hb => ldVG w (cell_keep hb q1a) (cell_keep hb q1b) (cell_keep hb q1c) (cell_keep hb q1d)) (ok_out rfl rfl) rfl)
      · exact ob_un (bw_load (fun w hb => ldAG w (cell_keep hb q2a) (cell_keep hb q2b) (cell_keep hb q2c) (cell_keep hb q2d) (cell_keep hb q2e) (cell_keep hb q2f)) (ok_out rfl rfl) rfl)
      · exact ob_un (bw_move rfl (ok_out rfl rfl))
      · exact ob_un (bw_move rfl (ok_out rfl rfl))
      · exact ob_un (bw_call HAL (fun xs w => by go_simp) (fun a' w' hb hat => by
        have e1 : a'.eval (.tmp 26) = .agg #[.int .i64 pc, .slice a1 4 c1, .slice a2 m c2, .int .i64 ht] := ok_in 1 rfl rfl rfl a' w' hat
        have e2 : a'.eval (.tmp 27) = .agg #[.int .i64 k, .int .i64 y, .slice ab bs.length cb, .int .i64 t, .int .i64 h, .int .i64 f] := ok_in 2 rfl rfl rfl a' w' hat
        have e3 : a'.eval (.tmp 28) = .slice ga got.length gc := ok_in 3 rfl rfl rfl a' w' hat
        have e4 : a'.eval (.tmp 29) = .bool yes := ok_in 4 rfl rfl rfl a' w' hat
        have e : (#[Operand.tmp 26, Operand.tmp 27, Operand.tmp 28, Operand.tmp 29].map a'.eval) = #[.agg #[.int .i64 pc, .slice a1 4 c1, .slice a2 m c2, .int .i64 ht], .agg #[.int .i64 k, .int .i64 y, .slice ab bs.length cb, .int .i64 t, .int .i64 h, .int .i64 f], .slice ga got.length gc, .bool yes] := by simp [e1, e2, e3, e4]
        rw [e]
        refine (specVmGive_any pc ht k y t h f ab cb bs _ got yes _ _ 4 m xs ys w' (RU.out.keep hb) (RV.out.keep hb) (RB.out.keep hb) (RG.out.keep hb)).mono ?_
        rw [HOK.out]
        intro e w3 hp
        obtain ⟨u7, v7, rfl, rx, ry, b⟩ := gpost_bad hp
        exact ⟨_, rfl, ⟨u7, v7, rfl, rx, ry⟩, b⟩))
      · exact ob_un (bw_call HAL (fun xs w => by go_simp) (fun a' w' hb hat => by
        have e1 : a'.eval (.tmp 25) = .agg #[.int .i64 0, .slice xa5 0 xc5, .slice ya5 0 yc5, .int .i64 0] := ok_in 0 rfl rfl rfl a' w' hat
        have hg7 : GvP 0 0 0 0 [] [] (a'.eval (.tmp 30)) w' := ok_of (p := GvP 0 0 0 0 [] []) 5 rfl rfl rfl hat
        obtain ⟨u7, v7, e2, r7, s7⟩ := hg7
        have e : (#[Operand.tmp 25, Operand.tmp 30].map a'.eval) = #[.agg #[.int .i64 0, .slice xa5 0 xc5, .slice ya5 0 yc5, .int .i64 0], .agg #[.int .i64 0, u7, v7, .int .i64 0]] := by simp [e1, e2]
        rw [e]
        refine (caState_same 0 0 _ _ _ _ 0 0 [] [] w' (X5.out.keep hb) (Y5.out.keep hb) r7 s7).mono ?_
        rintro e w' ⟨rfl, b⟩
        exact ⟨_, rfl, rfl, b⟩))
      · exact ob_un (bw_un (fun w => by go_simp) (ok_in 6 rfl rfl rfl) rfl)
      intro uu wz bz hF
      obtain ⟨-, -, -, -, -, -, -, f7, -⟩ := hF
      have hn : uu 32 = .bool false := f7
      simp only [outTmps, List.setIfInBounds_toArray, List.set_cons_zero, List.set_cons_succ, hn]
      clear f7 hn HAL
      clear q0a q0b q0c q0d q1a q1b q1c q1d q2a q2b q2c q2d q2e q2f
      replace RU := hid (RU.out.keep bz)
      replace RV := hid (RV.out.keep bz)
      replace RB := hid (RB.out.keep bz)
      replace RG := hid (RG.out.keep bz)
      replace VS := hid (VS.out.keep bz)
      replace VA := hid (VA.out.keep bz)
      replace X5 := hid (X5.out.keep bz)
      replace Y5 := hid (Y5.out.keep bz)
      replace V5 := hid (V5.out.keep bz)
      replace PP := hid (PP.out.trans (bz.mono PP.out.size))
      clear bz
      obtain ⟨q0a, q0b, q0c, q0d⟩ := vb4 V5.out
      go_wp2_with fail
      clear q0a q0b q0c q0d
      refine (specVmOk_any 0 0 _ _ 0 0 [] [] _ X5.out Y5.out).mono ?_
      rw [show vmB 0 0 [] 0 [] 0 = false by decide]
      rintro e w4 ⟨rfl, bb⟩
      replace RU := hid (RU.out.keep bb)
      replace RV := hid (RV.out.keep bb)
      replace RB := hid (RB.out.keep bb)
      replace RG := hid (RG.out.keep bb)
      replace VS := hid (VS.out.keep bb)
      replace VA := hid (VA.out.keep bb)
      replace X5 := hid (X5.out.keep bb)
      replace Y5 := hid (Y5.out.keep bb)
      replace V5 := hid (V5.out.keep bb)
      replace PP := hid (PP.out.trans (bb.mono PP.out.size))
      clear bb
      obtain ⟨q0a, q0b, q0c, q0d⟩ := vb4 V5.out
      go_wp2_with fail
      clear q0a q0b q0c q0d
      refine (caState_same 0 0 _ _ _ _ 0 0 [] [] _ X5.out Y5.out (rdI_nilG _) (rdI_nilG _)).mono ?_
      rintro e w5 ⟨rfl, bb⟩
      replace RU := hid (RU.out.keep bb)
      replace RV := hid (RV.out.keep bb)
      replace RB := hid (RB.out.keep bb)
      replace RG := hid (RG.out.keep bb)
      replace VS := hid (VS.out.keep bb)
      replace VA := hid (VA.out.keep bb)
      replace X5 := hid (X5.out.keep bb)
      replace Y5 := hid (Y5.out.keep bb)
      replace V5 := hid (V5.out.keep bb)
      replace PP := hid (PP.out.trans (bb.mono PP.out.size))
      clear bb
      clear X5 Y5 V5
      go_wp2_with fail
      refine (vmNew_any _).mono ?_
      rintro e w6 ⟨u6, v6, rfl, o1, o2, _, bb⟩
      have X6 := hid (o1.rd (by omega))
      have Y6 := hid (o2.rd (by omega))
      obtain ⟨xa6, xc6, rfl, _⟩ := ownI_form o1
      obtain ⟨ya6, yc6, rfl, _⟩ := ownI_form o2
      clear o1 o2
      replace RU := hid (RU.out.keep bb)
      replace RV := hid (RV.out.keep bb)
      replace RB := hid (RB.out.keep bb)
      replace RG := hid (RG.out.keep bb)
      replace VS := hid (VS.out.keep bb)
      replace VA := hid (VA.out.keep bb)
      replace PP := hid (PP.out.trans (bb.mono PP.out.size))
      clear bb
      have AE := below_alloc1 w6 (.cells #[] 5)
      have RE := hid ((own_none w6).rd (by simp))
      replace RU := hid (RU.out.keep AE)
      replace RV := hid (RV.out.keep AE)
      replace RB := hid (RB.out.keep AE)
      replace RG := hid (RG.out.keep AE)
      replace VS := hid (VS.out.keep AE)
      replace VA := hid (VA.out.keep AE)
      replace X6 := hid (X6.out.keep AE)
      replace Y6 := hid (Y6.out.keep AE)
      replace PP := hid (PP.out.trans (AE.mono PP.out.size))
      clear AE
      go_wp2_with fail
      refine (vmGive_any 0 0 0 0 0 0 0 none 0 [] _ [] false _ _ 4 8 [0, 0, 0, 0] [0, 0, 0, 0, 0, 0, 0, 0] _ X6.out Y6.out (rd_nilG _) RE.out).mono ?_
      rw [show gvB 0 4 [0, 0, 0, 0] 8 [0, 0, 0, 0, 0, 0, 0, 0] 0 0 0 ([] : List Int).length 0 0 0 [] = true by decide]
      intro e w7 hp
      obtain ⟨u7, v7, rfl, rx, ry, bb⟩ := gpost_good (H := 0) (R := [0, 0, 0, 0]) (M := [0, 0, 0, 0, 0, 0, 0, 0]) ⟨by decide, by decide, by decide⟩ hp
      clear hp RE
      have X7 := hid rx
      have Y7 := hid ry
      obtain ⟨_, _, xa7, xc7, rfl, _⟩ := rx
      obtain ⟨_, _, ya7, yc7, rfl, _⟩ := ry
      replace RU := hid (RU.out.keep bb)
      replace RV := hid (RV.out.keep bb)
      replace RB := hid (RB.out.keep bb)
      replace RG := hid (RG.out.keep bb)
      replace VS := hid (VS.out.keep bb)
      replace VA := hid (VA.out.keep bb)
      replace X6 := hid (X6.out.keep bb)
      replace Y6 := hid (Y6.out.keep bb)
      replace PP := hid (PP.out.trans (bb.mono PP.out.size))
      clear bb
      go_wp2_with fail
      refine (specVmNew_any _).mono ?_
      rintro e w8 ⟨u8, v8, rfl, o1, o2, _, bb⟩
      have X8 := hid (o1.rd (by omega))
      have Y8 := hid (o2.rd (by omega))
      obtain ⟨xa8, xc8, rfl, _⟩ := ownI_form o1
      obtain ⟨ya8, yc8, rfl, _⟩ := ownI_form o2
      clear o1 o2
      replace RU := hid (RU.out.keep bb)
      replace RV := hid (RV.out.keep bb)
      replace RB := hid (RB.out.keep bb)
      replace RG := hid (RG.out.keep bb)
      replace VS := hid (VS.out.keep bb)
      replace VA := hid (VA.out.keep bb)
      replace X6 := hid (X6.out.keep bb)
      replace Y6 := hid (Y6.out.keep bb)
      replace X7 := hid (X7.out.keep bb)
      replace Y7 := hid (Y7.out.keep bb)
      replace PP := hid (PP.out.trans (bb.mono PP.out.size))
      clear bb
      go_wp2_with fail
      refine (caState_same 0 0 _ _ _ _ 4 8 [0, 0, 0, 0] [0, 0, 0, 0, 0, 0, 0, 0] _ X7.out Y7.out X8.out Y8.out).mono ?_
      rintro e w9 ⟨rfl, bb⟩
      replace PP := hid (PP.out.trans (bb.mono PP.out.size))
      clear bb
      go_wp2
      go_ret
      exact ⟨rfl, PP.out⟩
    · have hvm := gv_ok (yes := yes) hok GB.out
      obtain ⟨h4, hm8, _⟩ := gvB_of hok
      subst hm8
      have HOK := hid hok
      rw [hok] at HR
      clear hok h4
      obtain ⟨H, hH⟩ : ∃ H, gvH ht k t.toNat yes got = H := ⟨_, rfl⟩
      obtain ⟨R, hR⟩ : ∃ R, gvR ht k t.toNat h.toNat f.toNat yes got xs = R := ⟨_, rfl⟩
      obtain ⟨M, hM⟩ : ∃ M, gvM ht k t.toNat yes got ys = M := ⟨_, rfl⟩
      have HQ := hid (show _ ∧ _ ∧ _ from ⟨hH, hR, hM⟩)
      rw [hH, hR, hM] at hvm
      have HVM := hid hvm
      clear hH hR hM hvm
      refine HR.mono ?_
      clear HR
      intro e w2 hp
      obtain ⟨u5, v5, rfl, rx, ry, bb⟩ := gpost_good HQ.out hp
      clear hp
      have X5 := hid rx
      have Y5 := hid ry
      obtain ⟨_, _, xa5, xc5, rfl, _⟩ := rx
      obtain ⟨_, _, ya5, yc5, rfl, _⟩ := ry
      replace RU := hid (RU.out.keep bb)
      replace RV := hid (RV.out.keep bb)
      replace RB := hid (RB.out.keep bb)
      replace RG := hid (RG.out.keep bb)
      replace VS := hid (VS.out.keep bb)
      replace VA := hid (VA.out.keep bb)
      replace PP := hid (PP.out.trans (bb.mono PP.out.size))
      clear bb
      have AA := below_alloc1 w2 (.cells #[.int .i64 pc, .slice xa5 4 xc5, .slice ya5 8 yc5, .int .i64 H] 25)
      replace RU := hid (RU.out.keep AA)
      replace RV := hid (RV.out.keep AA)
      replace RB := hid (RB.out.keep AA)
      replace RG := hid (RG.out.keep AA)
      replace VS := hid (VS.out.keep AA)
      replace VA := hid (VA.out.keep AA)
      replace X5 := hid (X5.out.keep AA)
      replace Y5 := hid (Y5.out.keep AA)
      replace PP := hid (PP.out.trans (AA.mono PP.out.size))
      have V5 := hid (vb_new w2 [.int .i64 pc, .slice xa5 4 xc5, .slice ya5 8 yc5, .int .i64 H] 25)
      obtain ⟨W2, hW2⟩ : ∃ W, w2.alloc (.cells #[.int .i64 pc, .slice xa5 4 xc5, .slice ya5 8 yc5, .int .i64 H] 25) = W := ⟨_, rfl⟩
      rw [hW2] at RU RV RB RG VS VA X5 Y5 V5 PP
      clear AA
      have HW2 := hid hW2
      clear hW2
      go_wp2_with fail
      try rw [HW2.out]
      clear HW2
      obtain ⟨q0a, q0b, q0c, q0d⟩ := vb4 V5.out
      obtain ⟨q1a, q1b, q1c, q1d⟩ := vb4 VS.out
      obtain ⟨q2a, q2b, q2c, q2d, q2e, q2f⟩ := vb6V VA.out
      go_upto_region 5 with fail
      have HAL : AllLast [(fun u _ => u = .agg #[.int .i64 pc, .slice xa5 4 xc5, .slice ya5 8 yc5, .int .i64 H]), (fun u _ => u = .agg #[.int .i64 pc, .slice a1 4 c1, .slice a2 8 c2, .int .i64 ht]), (fun u _ => u = .agg #[.int .i64 k, .int .i64 y, .slice ab bs.length cb, .int .i64 t, .int .i64 h, .int .i64 f]), (fun u _ => u = .slice ga got.length gc), (fun u _ => u = .bool yes), (GvP pc H 4 8 R M), (fun u _ => u = .bool true), (fun u _ => u = .bool false)] := ⟨lasts_val _, lasts_val _, lasts_val _, lasts_val _, lasts_val _, lasts_gvp, lasts_val _, lasts_val _, trivial⟩
      refine region_bw [(fun u _ => u = .agg #[.int .i64 pc, .slice xa5 4 xc5, .slice ya5 8 yc5, .int .i64 H]), (fun u _ => u = .agg #[.int .i64 pc, .slice a1 4 c1, .slice a2 8 c2, .int .i64 ht]), (fun u _ => u = .agg #[.int .i64 k, .int .i64 y, .slice ab bs.length cb, .int .i64 t, .int .i64 h, .int .i64 f]), (fun u _ => u = .slice ga got.length gc), (fun u _ => u = .bool yes), (GvP pc H 4 8 R M), (fun u _ => u = .bool true), (fun u _ => u = .bool false)] (by kernel_rfl) (by kernel_rfl) ⟨?_, ?_, ?_, ?_, ?_, ?_, ?_, ?_, trivial⟩ ?_
      · exact ob_un (bw_load (fun w hb => ldVG w (cell_keep hb q0a) (cell_keep hb q0b) (cell_keep hb q0c) (cell_keep hb q0d)) (ok_out rfl rfl) rfl)
      · exact ob_un (bw_load (fun w hb => ldVG w (cell_keep hb q1a) (cell_keep hb q1b) (cell_keep hb q1c) (cell_keep hb q1d)) (ok_out rfl rfl) rfl)
      · exact ob_un (bw_load (fun w hb => ldAG w (cell_keep hb q2a) (cell_keep hb q2b) (cell_keep hb q2c) (cell_keep hb q2d) (cell_keep hb q2e) (cell_keep hb q2f)) (ok_out rfl rfl) rfl)
      · exact ob_un (bw_move rfl (ok_out rfl rfl))
      · exact ob_un (bw_move rfl (ok_out rfl rfl))
      · exact ob_un (bw_call HAL (fun xs w => by go_simp) (fun a' w' hb hat => by
        have e1 : a'.eval (.tmp 26) = .agg #[.int .i64 pc, .slice a1 4 c1, .slice a2 8 c2, .int .i64 ht] := ok_in 1 rfl rfl rfl a' w' hat
        have e2 : a'.eval (.tmp 27) = .agg #[.int .i64 k, .int .i64 y, .slice ab bs.length cb, .int .i64 t, .int .i64 h, .int .i64 f] := ok_in 2 rfl rfl rfl a' w' hat
        have e3 : a'.eval (.tmp 28) = .slice ga got.length gc := ok_in 3 rfl rfl rfl a' w' hat
        have e4 : a'.eval (.tmp 29) = .bool yes := ok_in 4 rfl rfl rfl a' w' hat
        have e : (#[Operand.tmp 26, Operand.tmp 27, Operand.tmp 28, Operand.tmp 29].map a'.eval) = #[.agg #[.int .i64 pc, .slice a1 4 c1, .slice a2 8 c2, .int .i64 ht], .agg #[.int .i64 k, .int .i64 y, .slice ab bs.length cb, .int .i64 t, .int .i64 h, .int .i64 f], .slice ga got.length gc, .bool yes] := by simp [e1, e2, e3, e4]
        rw [e]
        refine (specVmGive_any pc ht k y t h f ab cb bs _ got yes _ _ 4 8 xs ys w' (RU.out.keep hb) (RV.out.keep hb) (RB.out.keep hb) (RG.out.keep hb)).mono ?_
        rw [HOK.out]
        intro e w3 hp
        obtain ⟨u7, v7, rfl, rx, ry, b⟩ := gpost_good HQ.out hp
        exact ⟨_, rfl, ⟨u7, v7, rfl, rx, ry⟩, b⟩))
      · exact ob_un (bw_call HAL (fun xs w => by go_simp) (fun a' w' hb hat => by
        have e1 : a'.eval (.tmp 25) = .agg #[.int .i64 pc, .slice xa5 4 xc5, .slice ya5 8 yc5, .int .i64 H] := ok_in 0 rfl rfl rfl a' w' hat
        have hg7 : GvP pc H 4 8 R M (a'.eval (.tmp 30)) w' := ok_of (p := GvP pc H 4 8 R M) 5 rfl rfl rfl hat
        obtain ⟨u7, v7, e2, r7, s7⟩ := hg7
        have e : (#[Operand.tmp 25, Operand.tmp 30].map a'.eval) = #[.agg #[.int .i64 pc, .slice xa5 4 xc5, .slice ya5 8 yc5, .int .i64 H], .agg #[.int .i64 pc, u7, v7, .int .i64 H]] := by simp [e1, e2]
        rw [e]
        refine (caState_same pc H _ _ _ _ 4 8 R M w' (X5.out.keep hb) (Y5.out.keep hb) r7 s7).mono ?_
        rintro e w' ⟨rfl, b⟩
        exact ⟨_, rfl, rfl, b⟩))
      · exact ob_un (bw_un (fun w => by go_simp) (ok_in 6 rfl rfl rfl) rfl)
      intro uu wz bz hF
      obtain ⟨-, -, -, -, -, -, -, f7, -⟩ := hF
      have hn : uu 32 = .bool false := f7
      simp only [outTmps, List.setIfInBounds_toArray, List.set_cons_zero, List.set_cons_succ, hn]
      clear f7 hn HAL
      clear q0a q0b q0c q0d q1a q1b q1c q1d q2a q2b q2c q2d q2e q2f
      replace RU := hid (RU.out.keep bz)
      replace RV := hid (RV.out.keep bz)
      replace RB := hid (RB.out.keep bz)
      replace RG := hid (RG.out.keep bz)
      replace VS := hid (VS.out.keep bz)
      replace VA := hid (VA.out.keep bz)
      replace X5 := hid (X5.out.keep bz)
      replace Y5 := hid (Y5.out.keep bz)
      replace V5 := hid (V5.out.keep bz)
      replace PP := hid (PP.out.trans (bz.mono PP.out.size))
      clear bz
      obtain ⟨q0a, q0b, q0c, q0d⟩ := vb4 V5.out
      go_wp2_with fail
      clear q0a q0b q0c q0d
      refine (specVmOk_any pc H _ _ 4 8 R M _ X5.out Y5.out).mono ?_
      rw [HVM.out]
      rintro e w4 ⟨rfl, bb⟩
      replace RU := hid (RU.out.keep bb)
      replace RV := hid (RV.out.keep bb)
      replace RB := hid (RB.out.keep bb)
      replace RG := hid (RG.out.keep bb)
      replace VS := hid (VS.out.keep bb)
      replace VA := hid (VA.out.keep bb)
      replace X5 := hid (X5.out.keep bb)
      replace Y5 := hid (Y5.out.keep bb)
      replace V5 := hid (V5.out.keep bb)
      replace PP := hid (PP.out.trans (bb.mono PP.out.size))
      clear bb
      obtain ⟨q0a, q0b, q0c, q0d⟩ := vb4 V5.out
      obtain ⟨q1a, q1b, q1c, q1d⟩ := vb4 VS.out
      go_wp2_with fail
      clear q0a q0b q0c q0d q1a q1b q1c q1d
      refine (caDiffers_any _ _ 4 xs R _ RU.out X5.out).mono ?_
      rintro e w5 ⟨rfl, bb⟩
      replace RU := hid (RU.out.keep bb)
      replace RV := hid (RV.out.keep bb)
      replace RB := hid (RB.out.keep bb)
      replace RG := hid (RG.out.keep bb)
      replace VS := hid (VS.out.keep bb)
      replace VA := hid (VA.out.keep bb)
      replace X5 := hid (X5.out.keep bb)
      replace Y5 := hid (Y5.out.keep bb)
      replace V5 := hid (V5.out.keep bb)
      replace PP := hid (PP.out.trans (bb.mono PP.out.size))
      clear bb
      obtain ⟨q0a, q0b, q0c, q0d⟩ := vb4 V5.out
      obtain ⟨q1a, q1b, q1c, q1d⟩ := vb4 VS.out
      go_wp2_with fail
      clear q0a q0b q0c q0d q1a q1b q1c q1d
      refine (caDiffers_any _ _ 8 ys M _ RV.out Y5.out).mono ?_
      rintro e w6 ⟨rfl, bb⟩
      replace RU := hid (RU.out.keep bb)
      replace RV := hid (RV.out.keep bb)
      replace RB := hid (RB.out.keep bb)
      replace RG := hid (RG.out.keep bb)
      replace VS := hid (VS.out.keep bb)
      replace VA := hid (VA.out.keep bb)
      replace X5 := hid (X5.out.keep bb)
      replace Y5 := hid (Y5.out.keep bb)
      replace V5 := hid (V5.out.keep bb)
      replace PP := hid (PP.out.trans (bb.mono PP.out.size))
      clear bb
      obtain ⟨dr, hdr⟩ : ∃ d, difN xs R 4 = d := ⟨_, rfl⟩
      obtain ⟨dm, hdm⟩ : ∃ d, difN ys M 8 = d := ⟨_, rfl⟩
      rw [hdr, hdm]
      have HDR := hid (show difN xs (gvR ht k t.toNat h.toNat f.toNat yes got xs) 4 = dr by rw [HQ.out.2.1]; exact hdr)
      have HDM := hid (show difN ys (gvM ht k t.toNat yes got ys) 8 = dm by rw [HQ.out.2.2]; exact hdm)
      clear hdr hdm RU RV RB RG X5 Y5 HOK HVM HQ GB HB9 HG9 HM9
      obtain ⟨q0a, q0b, q0c, q0d⟩ := vb4 V5.out
      obtain ⟨q1a, q1b, q1c, q1d⟩ := vb4 VS.out
      obtain ⟨q2a, q2b, q2c, q2d, q2e, q2f⟩ := vb6V VA.out
      by_cases k1 : k = 1
      · have h1 : dr ≤ 1 := by rw [← HDR.out]; exact gv_regs1 (.inl k1)
        have h2 : dm = 0 := by rw [← HDM.out]; exact gv_mem0 (.inl (by omega))
        subst h2
        have h1' : (dr : Int) ≤ 1 := by omega
        subst k1
        clear HDR HDM
        go_wp2_with fail
        go_ret
        exact ⟨rfl, PP.out⟩
      have e1 : (k == 1) = false := by simpa using k1
      by_cases k2 : k = 2
      · cases hy : yes
        · have h1 : dr ≤ 1 := by rw [← HDR.out]; exact gv_regs1 (.inr k2)
          have h2 : dm = 0 := by rw [← HDM.out]; exact gv_mem0 (.inr hy)
          subst h2 hy
          have h1' : (dr : Int) ≤ 1 := by omega
          have h3 : (0 : Int) ≤ (got.length : Int) := by omega
          subst k2
          clear HDR HDM
          go_wp2_with fail
          go_ret
          exact ⟨rfl, PP.out⟩
        · have h1 : dr ≤ 1 := by rw [← HDR.out]; exact gv_regs1 (.inr k2)
          have h2 : dm ≤ got.length := by rw [← HDM.out]; exact gv_mem2
          subst hy
          have h1' : (dr : Int) ≤ 1 := by omega
          have h3 : (dm : Int) ≤ (got.length : Int) := by omega
          subst k2
          clear HDR HDM
          go_wp2_with fail
          go_ret
          exact ⟨rfl, PP.out⟩
      have e2 : (k == 2) = false := by simpa using k2
      by_cases k3 : k = 3
      · subst k3
        have h1 : dr ≤ 2 := by rw [← HDR.out]; exact gv_regs3
        have h2 : dm = 0 := by rw [← HDM.out]; exact gv_mem0 (.inl (by omega))
        subst h2
        have h1' : (dr : Int) ≤ 2 := by omega
        clear HDR HDM
        go_wp2_with fail
        go_ret
        exact ⟨rfl, PP.out⟩
      have e3 : (k == 3) = false := by simpa using k3
      have h1 : dr = 0 := by rw [← HDR.out]; exact gv_regs0 k1 k2 k3
      have h2 : dm = 0 := by rw [← HDM.out]; exact gv_mem0 (.inl k2)
      subst h1 h2
      clear HDR HDM
      go_wp2_with fail
      go_ret
      exact ⟨rfl, PP.out⟩
  · have hl0' : (1048576 : Int) < (len0 : Int) := by omega
    clear k0
    go_enter Try.func5, Try.ntmps5
    go_wp2
    go_ret
    exact ⟨rfl, Below.refl _ _⟩
theorem own : ownKnob Try.prog.godebug = none := by kernel_rfl
theorem laidOut : laidOutB Try.prog = true := by kernel_rfl
set_option maxRecDepth 100000 in
theorem lifted (os : Os) (started : os.Started) (H : Type) (enc : TypeId × Value → H) :
    ReturnsInHanded {} Try.checked os 5 .any (Rows.fnVmGiveSpec.pre6 enc Try.prog Try.f5 Rows.fnVmGiveRow.domain false) (Rows.fnVmGiveSpec.post enc Try.prog Try.f5 false true false false) := by
  refine returnsInHanded_of_change (C := Try.checked) own started (by kernel_rfl) Try.func5
    (ChangeSpec.witness6 (enc := enc) (C := Try.checked) false ⟨#[], #[.slice none 0 0], []⟩ 8 (by kernel_rfl) (by kernel_rfl) (by kernel_rfl) (by kernel_rfl)) ?_
  intro W base args ds gs before hval0 hW hcnd _
  have hval : ∀ (j : Nat) t v, Try.f5.params[j]? = some t → args[j]? = some v → Value.okWide Try.prog W .any base t v := hval0
  have hW' := hW
  obtain ⟨p, q, hA0, hV, rfl, hfz, hnd⟩ := hW
  have hA : DataW.TrodAll enc Try.prog W 0 (fun _ => true) true Try.f5.params.toList args.toList ds p := hA0
  rw [Try.params5] at hA hval
  obtain ⟨v0, vs0, d0, ds0, p0, q0, hargs, rfl, rfl, h0, r0⟩ := trodAll_cons hA
  obtain ⟨rfl, rfl, rfl⟩ := trodAll_nil r0
  obtain rfl : args = #[v0] := by cases args; simp_all
  obtain ⟨rfl, rfl⟩ := trodVars_none hV
  obtain ⟨a0, len0, cap0, rfl⟩ := okWide_slice Try.underlying22 (hval 0 22 v0 rfl rfl)
  have k0 := h0
  have lt0 : ∀ x ∈ p0, x.block < W.heap.size := by obtain ⟨m, hm⟩ := k0; exact DataW.trod_lt m _ _ _ hm
  obtain ⟨z0, w0⟩ : ∃ zs, IsRow .u8 W a0 len0 cap0 zs := by
    obtain ⟨fuel, hf⟩ := h0
    rcases open_ints Try.underlying22 Try.underlying5 (by kernel_rfl) hf with ⟨hcs, _⟩ | ⟨x, l, c, zs, hcs, _, hl, hm, hz, _, hcell, hwz⟩
    · simp [Value.cells] at hcs
      obtain ⟨rfl, rfl, rfl⟩ := hcs
      exact ⟨[], .inl ⟨rfl, rfl, rfl, rfl⟩⟩
    · simp [Value.cells] at hcs
      obtain ⟨rfl, rfl, rfl⟩ := hcs
      exact ⟨zs, .inr ⟨_, rfl, hl, hm, by simpa using hz, hcell, hwz⟩⟩
  clear hA0 hval0
  refine (walk a0 len0 cap0 z0 W w0).mono fun e W' ⟨he, bel⟩ => ?_
  subst he
  exact ⟨_, rfl, _, _, _, [], _, [], hW', trodAll_mk1 (shut_bool Try.underlying4 _), (trodAll_cons_mk (Below.trod laidOut (by kernel_rfl) (of_decide_eq_true (by kernel_rfl)) k0 bel lt0) trodAll_mk0), rfl, bel.frame _, fun h => by cases h⟩

theorem over : Rows.fnVmGiveRow.holds Try.pinned (OpenSpec.ofChange Rows.fnVmGiveSpec) :=
  OpenClaim.holds_of_wide 5 Try.f5 rfl rfl rfl rfl rfl rfl rfl ⟨rfl, rfl, rfl, rfl, rfl⟩ rfl rfl rfl rfl rfl (by kernel_rfl) Try.func5 (by kernel_rfl)
    (of_decide_eq_true (by kernel_rfl)) (by unfold Func.isWrapper; first | (rw [if_pos (by decide +kernel)]; kernel_rfl) | (rw [if_neg (by decide +kernel)]; exact ⟨rfl, rfl⟩))
    (fun os started H enc _ => lifted os started H enc)

end Go.Proofs.Ytbpomeegpkdekaa.fnVmGive
namespace Go.Proofs.Ytbpomeegpkdekaa
theorem fnVmGive_holds : Rows.FnVmGiveSaid := fnVmGive.over
#print axioms fnVmGive_holds
end Go.Proofs.Ytbpomeegpkdekaa
