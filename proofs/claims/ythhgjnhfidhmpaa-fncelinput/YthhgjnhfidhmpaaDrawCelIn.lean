/- The draw of a cell and a byte. Conditions: the bytes read. -/
import Derived.Test.YthhgjnhfidhmpaaDrawCel
import Derived.Test.YthhgjnhfidhmpaaRegE
namespace Go.Proofs.Ythhgjnhfidhmpaa
open Go.ChangeShapes Go.WideShapes Go.ChangeAt Go.RowKit Go.Joins Go.Deep
set_option linter.unusedVariables false
set_option linter.unusedSimpArgs false
set_option maxRecDepth 4000
set_option maxHeartbeats 1000000 in
/-- the reader is opened, and nothing old is changed -/
theorem open_dvc {K : Nat} (a : Option Addr) (len cap : Nat) (xs : List Int) (W w : World) (hn : xs.length = len) (hv : Rd W (.slice a len cap) xs) (hcap : len ≤ cap) (hb : Below W.heap.size W w) :
    Calls Try.prog 28 #[.slice a len cap] w fun e w' => e = .returned (.pointer (some ⟨w.heap.size, 0, none⟩)) ∧ Hid (DW W W w.heap.size W.heap.size 0 K [] 0 w') ∧ Hid (Below w.heap.size w w') := by
  have HV := hid hv
  have HB := hid hb
  have h2 := hv.2.1
  by_cases hl : len ≤ 2000
  · have hd : decide ((2000 : Int) < (len : Int)) = false := by simp; omega
    clear hv hn hb
    go_enter Try.func28, Try.ntmps28
    go_wp2
    go_ret
    exact ⟨rfl, hid (dw_open _ HV.out HB.out (by intro x hx; cases hx) (by go_simp) (by go_simp) (by go_simp)), hid (below_alloc1 _ _)⟩
  · have hd : decide ((2000 : Int) < (len : Int)) = true := by simp; omega
    subst hn
    have HT := hid (rd_take (n := 2000) hv (by omega))
    have hc1 : (2000 : Int) ≤ (cap : Int) := by omega
    have hc2 : 2000 ≤ cap := by omega
    clear hv hb
    go_enter Try.func28, Try.ntmps28
    go_wp2
    go_ret
    exact ⟨rfl, hid (dw_open _ HT.out HB.out (by intro x hx; cases hx) (by go_simp) (by go_simp) (by go_simp)), hid (below_alloc1 _ _)⟩
/-- a block that holds a cell -/
def CelBk (R : Nat) (w : World) : Prop := ∃ (pc ht : Int) (a1 a2 a3 : Option Addr) (n1 c1 n2 c2 n3 c3 : Nat), VB w R [.int .i64 pc, .slice a1 n1 c1, .slice a2 n2 c2, .int .i64 ht, .slice a3 n3 c3]
/-- the result's block, and how much there is at least -/
def CelX (R L : Nat) (w : World) : Prop := L ≤ w.heap.size ∧ CelBk R w
/-- of the cell that has been drawn, and of the one that has been stored -/
def CelE (R L : Nat) : Nat → Value → World → Prop
  | 1, v, w => ∃ (pc ht : Int) (a1 a2 a3 : Option Addr) (n1 c1 n2 c2 n3 c3 : Nat), v = .agg #[.int .i64 pc, .slice a1 n1 c1, .slice a2 n2 c2, .int .i64 ht, .slice a3 n3 c3] ∧ CelHas L (.slice a1 n1 c1) (.slice a2 n2 c2) (.slice a3 n3 c3) w
  | 9, _, w => ∃ (pc ht : Int) (a1 a2 a3 : Option Addr) (n1 c1 n2 c2 n3 c3 : Nat), VB w R [.int .i64 pc, .slice a1 n1 c1, .slice a2 n2 c2, .int .i64 ht, .slice a3 n3 c3] ∧ CelHas L (.slice a1 n1 c1) (.slice a2 n2 c2) (.slice a3 n3 c3) w
  | _, _, _ => True
theorem celx_stands {R L g : Nat} (hR : ¬ R = g) : Stands g (CelX R L) := by
  rintro w w' hb ⟨h1, pc, ht, a1, a2, a3, n1, c1, n2, c2, n3, c3, h2⟩
  exact ⟨Nat.le_trans h1 hb.size, pc, ht, a1, a2, a3, n1, c1, n2, c2, n3, c3, h2.grown hb (by simpa using hR)⟩
theorem cele_stands {R L g : Nat} (hR : ¬ R = g) (hL : g < L) : EStands g (CelE R L) := by
  intro j v w w' hb h
  unfold CelE at h ⊢
  split
  · obtain ⟨pc, ht, a1, a2, a3, n1, c1, n2, c2, n3, c3, h1, h2⟩ := h
    exact ⟨pc, ht, a1, a2, a3, n1, c1, n2, c2, n3, c3, h1, h2.grown hb hL⟩
  · obtain ⟨pc, ht, a1, a2, a3, n1, c1, n2, c2, n3, c3, h1, h2⟩ := h
    exact ⟨pc, ht, a1, a2, a3, n1, c1, n2, c2, n3, c3, h1.grown hb (by simpa using hR), h2.grown hb hL⟩
  · trivial
def cel5 (w : World) (R : Nat) (v0 v1 v2 v3 v4 : Value) : World := ((((w.setCell ⟨R, 0, none⟩ v0).setCell ⟨R, 1, none⟩ v1).setCell ⟨R, 2, none⟩ v2).setCell ⟨R, 3, none⟩ v3).setCell ⟨R, 4, none⟩ v4
theorem cel_store {R : Nat} {w : World} (h : CelBk R w) (pc ht : Int) (b1 b2 b4 : Option Addr) (k1 d1 k2 d2 k4 d4 : Nat) :
    (Instr.storeAt 27 (.pointer (some ⟨R, 0, none⟩)) (.agg #[.int .i64 pc, .slice b1 k1 d1, .slice b2 k2 d2, .int .i64 ht, .slice b4 k4 d4])).run Try.prog w = .ok () (cel5 w R (.int .i64 pc) (.slice b1 k1 d1) (.slice b2 k2 d2) (.int .i64 ht) (.slice b4 k4 d4)) := by
  obtain ⟨pc', ht', a1, a2, a3, n1, c1, n2, c2, n3, c3, h⟩ := h
  obtain ⟨x0, x1, x2, x3, x4⟩ := vb5 h
  have ff := h.2.1
  unfold cel5
  clear h
  go_simp
theorem cel_ext {R g lo : Nat} {w : World} (h : CelBk R w) (pc ht : Int) (v2 v4 : Value) (a : Option Addr) (n c : Nat) : Ext g lo w (cel5 w R (.int .i64 pc) (.slice a n c) v2 (.int .i64 ht) v4) := by
  obtain ⟨pc', ht', a1, a2, a3, n1, c1, n2, c2, n3, c3, h⟩ := h
  rintro b k ⟨h1, h2, xs, h3, h4⟩
  by_cases hb : R = b
  · subst hb
    have hV := vbset5 (.int .i64 pc) (.slice a n c) v2 (.int .i64 ht) v4 h
    have hk : k ≤ 1 := by
      rcases Nat.lt_or_ge 1 k with hk | hk
      · have e1 := h4.1 1 (by omega)
        rw [(vb5 h).2.1] at e1
        simp at e1
      · exact hk
    refine ⟨h1, h2, List.replicate k pc, by simp, fun i hi => ?_, hV.2.1, hV.2.2⟩
    simp at hi
    obtain rfl : i = 0 := by omega
    obtain rfl : k = 1 := by omega
    exact (vb5 hV).1
  · exact ⟨h1, h2, xs, h3, ((((h4.off hb).off hb).off hb).off hb).off hb⟩
theorem cel_dw {W w0 w : World} {g lo p K n R : Nat} (h : DW W w0 g lo p K [] n w) (hR : ¬ R = g) (h1 : W.heap.size ≤ R) (h2 : w0.heap.size ≤ R) (v0 v1 v2 v3 v4 : Value) : DW W w0 g lo p K [] n (cel5 w R v0 v1 v2 v3 v4) := by
  obtain ⟨⟨q, k1, k2⟩, k3, k4, k5, k6, k7⟩ := h
  unfold cel5
  exact ⟨⟨q, k1, rdr_setN (rdr_setN (rdr_setN (rdr_setN (rdr_setN k2 hR h1 _) hR h1 _) hR h1 _) hR h1 _) hR h1 _⟩, gset (gset (gset (gset (gset k3 (by simpa using h2) _) (by simpa using h2) _) (by simpa using h2) _) (by simpa using h2) _) (by simpa using h2) _, k4, by simpa [World.setCell] using k5, fun x hx => (by cases hx), k7⟩
theorem cel_chg {w : World} {R : Nat} (v0 v1 v2 v3 v4 : Value) : Chg (fun j => j = R) w (cel5 w R v0 v1 v2 v3 v4) := vbchg5 v0 v1 v2 v3 v4 rfl
theorem res_celin {W : World} {b : Nat} {x0 x1 x2 x3 x4 y : Value} (tmps : Array Value) (ht : tmps[2]?.getD undef = .pointer (some ⟨b, 0, none⟩)) (h0 : W.cell? ⟨b, 0, none⟩ = some x0) (h1 : W.cell? ⟨b, 1, none⟩ = some x1) (h2 : W.cell? ⟨b, 2, none⟩ = some x2) (h3 : W.cell? ⟨b, 3, none⟩ = some x3) (h4 : W.cell? ⟨b, 4, none⟩ = some x4) (h5 : tmps[3]?.getD undef = y) :
    (results Try.f8 tmps).run Try.prog W = .ok (.tuple #[.agg #[x0, x1, x2, x3, x4], y]) W := by
  simp [results, Try.results8, go_sem, ht, h0, h1, h2, h3, h4, h5]
def DrawCelInPost (w : World) (e : Ending) (w' : World) : Prop :=
  ∃ (pc ht n : Int) (u v i : Value) (m : Nat) (xs ys bs : List Int), e = .returned (.tuple #[.agg #[.int .i64 pc, u, v, .int .i64 ht, i], .int .i64 n]) ∧ RdI 1 w' u 4 xs ∧ RdI 1 w' v m ys ∧ m ≤ 9 ∧ Rd w' i bs ∧ bs.length ≤ 7 ∧ Below w.heap.size w w'
set_option maxHeartbeats 8000000 in
theorem drawCelInput_any (a : Option Addr) (len cap : Nat) (zs : List Int) (w : World) (hn : zs.length = len) (hv : Rd w (.slice a len cap) zs) (hcap : len ≤ cap) :
    Calls Try.prog 8 #[.slice a len cap] w fun e w' => DrawCelInPost w e w' := by
  have HV := hid hv
  have VR := hid (vb_new w [.int .i64 0, .slice none 0 0, .slice none 0 0, .int .i64 0, .slice none 0 0] 27)
  have z0 : (w.alloc (.cells #[.int .i64 0, .slice none 0 0, .slice none 0 0, .int .i64 0, .slice none 0 0] 27)).heap.size = w.heap.size + 1 := by simp
  have Z0 := hid z0
  clear hv z0
  go_enter Try.func8, Try.ntmps8
  go_wp2_with fail
  refine (open_dvc (K := 400) a len cap zs w _ hn HV.out hcap (below_alloc1 _ _)).mono ?_
  rw [Z0.out]
  rintro e w1 ⟨rfl, D1, B1⟩
  have VR := hid (VR.out.keep (by rw [Z0.out]; exact B1.out))
  clear HV hn hcap B1
  obtain ⟨g, hg⟩ : ∃ g, w.heap.size + 1 = g := ⟨_, rfl⟩
  rw [hg] at D1 ⊢
  have HG : Hid (w.heap.size < g) := hid (by omega)
  have HGL := hid D1.out.rd_lt
  clear hg Z0
  obtain ⟨L, hL⟩ : ∃ L, w1.heap.size = L := ⟨_, rfl⟩
  rw [hL] at HGL
  have DD : Hid (DV w w g w.heap.size 0 400 [] (CelX w.heap.size L) 0 w1) := hid ⟨D1.out, by omega, 0, 0, none, none, none, 0, 0, 0, 0, 0, 0, VR.out⟩
  have HX : Stands g (CelX w.heap.size L) := celx_stands (by have := HG.out; omega)
  have HE : EStands g (CelE w.heap.size L) := cele_stands (by have := HG.out; omega) HGL.out
  clear hL VR D1
  go_upto_region 2 with fail
  refine region_facts (FE g w.heap.size [.is (.pointer (some ⟨g, 0, none⟩)), .any, .is (.pointer (some ⟨g, 0, none⟩)), .rng 256, .row 5, .is (.pointer (some ⟨g, 0, none⟩)), .rng 5, .at, .int, .any, .int] (CelE w.heap.size L)) (DV w w g w.heap.size 0 400 [] (CelX w.heap.size L)) (by kernel_rfl) (by kernel_rfl) (DD.out.drew HX) ⟨?_, ?_, ?_, ?_, ?_, ?_, ?_, ?_, ?_, ?_, ?_, trivial⟩ ?_
  · exact ob_un (fe_lift HX HE (fun _ _ => trivial) fun _ HLO => rt_move (.pointer (some ⟨g, 0, none⟩)) rfl rfl rfl)
  · refine ob_un (ob_call (fun xs w => by go_simp) fun n a w2 hn hI hat => by
      have h : _ = _ := is_in 0 (fe_at hat) rfl rfl rfl
      have e : (#[Operand.tmp 7].map a.eval) = #[.pointer (some ⟨g, 0, none⟩)] := by simp [eval_tmp, h]
      rw [e]
      obtain ⟨⟨q, h1, h2⟩, h3, h4, h5, h6, h7⟩ := hI.1
      have hn2 : n < 11 := hn
      have hb : (n + 1) * 400 ≤ 11 * 400 := Nat.mul_le_mul_right _ (by omega)
      rw [Nat.add_mul] at hb
      refine (drawCel_any w w2 g q h2 (by omega)).mono ?_
      rintro e w3 ⟨pc, ht, u, v, i, rfl, hc, ⟨q', hq', rd⟩, gr⟩
      have hc' := hc
      obtain ⟨m, xs, ys, bs, o1, o2, _, o3, _⟩ := hc'
      obtain ⟨a1, c1, rfl, _⟩ := ownI_form o1
      obtain ⟨a2, c2, rfl, _⟩ := ownI_form o2
      obtain ⟨a3, c3, rfl, _⟩ := own_form o3
      have hx := fun lo => ext_grown (lo := lo) gr
      refine ⟨_, rfl, ⟨trivial, pc, ht, a1, a2, a3, 4, c1, m, c2, bs.length, c3, rfl, hc.low hI.2.1⟩, ⟨⟨⟨q', by rw [Nat.add_mul]; omega, rd⟩, gtrans h3 gr, h4, by have := gr.size; omega, (fun x hx' => by cases hx'), h7⟩, HX _ _ gr hI.2⟩, fun j x hj hu => ⟨fs_mono (hx _) j x hj hu.1, HE j x _ _ gr hu.2⟩⟩)
  · exact ob_un (fe_lift HX HE (fun _ _ => trivial) fun _ HLO => rt_move (.pointer (some ⟨g, 0, none⟩)) rfl rfl rfl)
  · exact ob_un (fe_lift HX HE (fun _ _ => trivial) fun _ HLO => rt_pick (m := 256) 2 (by omega) (by simp <;> omega) (by omega) (by omega) rfl rfl rfl rfl)
  · exact ob_un (fe_lift HX HE (fun _ _ => trivial) fun _ HLO => rt_row (E := 3) (fun f w => by go_simp) rfl ⟨oi_const 0, oi_const 255, oi_rng 3 256 rfl rfl rfl, oi_const (-1), oi_const 256, trivial⟩ rfl)
  · exact ob_un (fe_lift HX HE (fun _ _ => trivial) fun _ HLO => rt_move (.pointer (some ⟨g, 0, none⟩)) rfl rfl rfl)
  · exact ob_un (fe_lift HX HE (fun _ _ => trivial) fun _ HLO => rt_pick (m := 5) 5 (by omega) (by simp <;> omega) (by omega) (by omega) rfl rfl rfl rfl)
  · exact ob_un (fe_lift HX HE (fun _ _ => trivial) fun _ HLO => rt_idx 4 6 (by omega) (by omega) rfl rfl rfl rfl rfl rfl rfl)
  · exact ob_un (fe_lift HX HE (fun _ _ => trivial) fun _ HLO => rt_load 7 rfl rfl rfl rfl)
  · refine ob_un (ob_skip fun n a w2 hn hI hat => by
      obtain ⟨pc, ht, a1, a2, a3, n1, c1, n2, c2, n3, c3, h1, hc⟩ := fe_in hat (s := 8) (j := 1) rfl rfl
      have h0 : a.tmps[2]?.getD undef = .pointer (some ⟨w.heap.size, 0, none⟩) := at_out hat rfl rfl
      have hR : ¬ w.heap.size = g := by have := HG.out; omega
      have hRL : w.heap.size < L := by have := HG.out; have := HGL.out; omega
      have hst := cel_store hI.2.2 pc ht a1 a2 a3 n1 c1 n2 c2 n3 c3
      have hex : Ext g w.heap.size w2 _ := cel_ext hI.2.2 pc ht (.slice a2 n2 c2) (.slice a3 n3 c3) a1 n1 c1
      have hch := cel_chg (w := w2) (R := w.heap.size) (.int .i64 pc) (.slice a1 n1 c1) (.slice a2 n2 c2) (.int .i64 ht) (.slice a3 n3 c3)
      have hbk := hI.2.2
      obtain ⟨pc', ht', a1', a2', a3', n1', c1', n2', c2', n3', c3', hvb⟩ := hbk
      have hvb' := vbset5 (.int .i64 pc) (.slice a1 n1 c1) (.slice a2 n2 c2) (.int .i64 ht) (.slice a3 n3 c3) hvb
      refine ⟨_, ?_, ⟨trivial, pc, ht, a1, a2, a3, n1, c1, n2, c2, n3, c3, hvb', hc.chg hch hRL⟩, ⟨(cel_dw hI.1 hR (Nat.le_refl _) (Nat.le_refl _) _ _ _ _ _).same, Nat.le_trans hI.2.1 hch.size, pc, ht, a1, a2, a3, n1, c1, n2, c2, n3, c3, hvb'⟩, fun j x hj hu => ⟨fs_mono hex j x hj hu.1, ?_⟩⟩
      · simp only [execOp, eval_tmp, h0, h1]
        simp only [Sem.run_bind, hst]
        rfl
      · have hu2 := hu.2
        unfold CelE at hu2 ⊢
        split
        · obtain ⟨pc, ht, a1, a2, a3, n1, c1, n2, c2, n3, c3, k1, k2⟩ := hu2
          exact ⟨pc, ht, a1, a2, a3, n1, c1, n2, c2, n3, c3, k1, k2.chg hch hRL⟩
        · exact absurd rfl hj
        · trivial)
  · exact ob_un (fe_lift HX HE (fun _ _ => trivial) fun _ HLO => rt_copy 8 rfl rfl rfl rfl)
  intro u2 w2 hI hF
  obtain ⟨f0, f1, f2, f3, f4, f5, f6, f7, f8, f9, f10, -⟩ := hF
  obtain ⟨z, hz⟩ : ∃ z : Int, u2 3 = .int .i64 z := f10.1
  obtain ⟨pc, ht, a1, a2, a3, n1, c1, n2, c2, n3, c3, hvb, m, xs, ys, bs, o1, o2, hm9, o3, hb7⟩ := f9.2
  have BW := hid (hI.1.below (by have := HG.out; omega))
  have P1 := hid (o1.rd (by omega))
  have P2 := hid (o2.rd (by omega))
  have P3 := hid (o3.rd (by omega))
  obtain ⟨t0, t1, t2, t3, t4⟩ := vb5 hvb
  clear f0 f1 f2 f3 f4 f5 f6 f7 f8 f9 f10 hI hvb o1 o2 o3
  simp only [outTmps, List.setIfInBounds_toArray, List.set_cons_zero, List.set_cons_succ, hz]
  go_wp2_with fail
  refine bodyPost_ret (res_celin _ rfl t0 t1 t2 t3 t4 rfl) rfl ?_
  exact ⟨pc, ht, z, _, _, _, m, xs, ys, bs, rfl, P1.out, P2.out, hm9, P3.out, hb7, BW.out⟩
end Go.Proofs.Ythhgjnhfidhmpaa
