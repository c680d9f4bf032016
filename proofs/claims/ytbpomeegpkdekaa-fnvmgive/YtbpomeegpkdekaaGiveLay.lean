/- The specification's l6Fall and l6Lay. Conditions: the rows are one's own. -/
import Derived.Test.YtbpomeegpkdekaaGiveTook
import Derived.Test.YtbpomeegpkdekaaL6Copy
namespace Go.Proofs.Ytbpomeegpkdekaa
open Go.ChangeShapes Go.WideShapes Go.ChangeAt Go.RowKit Go.Joins Go.Deep
set_option linter.unusedVariables false
set_option linter.unusedSimpArgs false
set_option maxRecDepth 4000
theorem chg_new {S : Nat → Prop} {b : Nat} {w w1 w2 : World} (h : Chg S w w1) (k : Chg (fun j => j = b) w1 w2) (hb : w.heap.size ≤ b) : Chg S w w2 :=
  ⟨k.os.trans h.os, k.tape.trans h.tape, k.output.trans h.output, Nat.le_trans h.size k.size, fun j hj hs => (k.block j (Nat.lt_of_lt_of_le hj h.size) (fun e => by have e : j = b := e; omega)).trans (h.block j hj hs)⟩
theorem resFall {W : World} {b : Nat} {x0 x1 x2 x3 : Value} (tmps : Array Value) (ht : tmps[2]?.getD undef = .pointer (some ⟨b, 0, none⟩)) (h : VB W b [x0, x1, x2, x3]) :
    (results Try.f55 tmps).run Try.prog W = .ok (.agg #[x0, x1, x2, x3]) W := by
  obtain ⟨h0, h1, h2, h3⟩ := vb4 h
  simp [results, Try.results55, go_sem, ht, h0, h1, h2, h3]
theorem resLay {W : World} {b : Nat} {x0 x1 x2 x3 : Value} (tmps : Array Value) (ht : tmps[6]?.getD undef = .pointer (some ⟨b, 0, none⟩)) (h : VB W b [x0, x1, x2, x3]) :
    (results Try.f74 tmps).run Try.prog W = .ok (.agg #[x0, x1, x2, x3]) W := by
  obtain ⟨h0, h1, h2, h3⟩ := vb4 h
  simp [results, Try.results74, go_sem, ht, h0, h1, h2, h3]
set_option maxHeartbeats 1000000 in
theorem l6Fall_any (pc ht : Int) (a1 a2 : Option Addr) (n1 c1 n2 c2 : Nat) (w : World) :
    Calls Try.prog 55 #[.agg #[.int .i64 pc, .slice a1 n1 c1, .slice a2 n2 c2, .int .i64 ht]] w fun e w' => e = .returned (.agg #[.int .i64 pc, .slice a1 n1 c1, .slice a2 n2 c2, .int .i64 2]) ∧ Below w.heap.size w w' := by
  have V0 := vb_new w [.int .i64 pc, .slice a1 n1 c1, .slice a2 n2 c2, .int .i64 ht] 25
  have A0 := below_alloc1 w (.cells #[.int .i64 pc, .slice a1 n1 c1, .slice a2 n2 c2, .int .i64 ht] 25)
  obtain ⟨W0, hW0⟩ : ∃ X, w.alloc (.cells #[.int .i64 pc, .slice a1 n1 c1, .slice a2 n2 c2, .int .i64 ht] 25) = X := ⟨_, rfl⟩
  have z0 : W0.heap.size = w.heap.size + 1 := by rw [← hW0]; simp
  rw [hW0] at V0 A0
  have V1 := vb_new W0 [.int .i64 0, .slice none 0 0, .slice none 0 0, .int .i64 0] 25
  have A1 := below_alloc1 W0 (.cells #[.int .i64 0, .slice none 0 0, .slice none 0 0, .int .i64 0] 25)
  rw [z0] at V1
  have V0 := V0.keep A1
  have P1 := A0.trans (A1.mono A0.size)
  obtain ⟨W1, hW1⟩ : ∃ X, W0.alloc (.cells #[.int .i64 0, .slice none 0 0, .slice none 0 0, .int .i64 0] 25) = X := ⟨_, rfl⟩
  rw [hW1] at V0 V1 P1
  clear A0 A1
  have HW0 := hid hW0
  have HW1 := hid hW1
  clear hW0 hW1
  go_enter Try.func55, Try.ntmps55
  go_upto_region 1 with fail
  try rw [HW0.out]
  try rw [HW1.out]
  clear HW0 HW1 z0
  obtain ⟨x0, x1, x2, x3⟩ := vb4 V0
  obtain ⟨y0, y1, y2, y3⟩ := vb4 V1
  have fx := V0.2.1
  have fy := V1.2.1
  have hn : ¬ w.heap.size = w.heap.size + 1 := by omega
  have hn2 : ¬ w.heap.size + 1 = w.heap.size := by omega
  have V2 := V1.off (c := w.heap.size) (i := 3) (v := .int .i64 2) hn
  have FV := hid (vbset4 (.int .i64 pc) (.slice a1 n1 c1) (.slice a2 n2 c2) (.int .i64 2) V2)
  have FP := hid (((((P1.setCell (p := ⟨w.heap.size, 3, none⟩) (by simp) (.int .i64 2)).setCell (p := ⟨w.heap.size + 1, 0, none⟩) (by simp) (.int .i64 pc)).setCell (p := ⟨w.heap.size + 1, 1, none⟩) (by simp) (.slice a1 n1 c1)).setCell (p := ⟨w.heap.size + 1, 2, none⟩) (by simp) (.slice a2 n2 c2)).setCell (p := ⟨w.heap.size + 1, 3, none⟩) (by simp) (.int .i64 2))
  clear V0 V1 V2 P1
  go_wp2_with fail
  refine bodyPost_ret (resFall _ rfl FV.out) rfl ?_
  exact ⟨rfl, FP.out⟩
set_option maxHeartbeats 4000000 in
theorem l6Lay_any (pc ht : Int) (p : Nat) (a1 : Option Addr) (n1 c1 gv cv L : Nat) (ga : Option Addr) (gc : Nat) (got ms : List Int) (w : World) (hm : OwnI 3 1 w L (.slice (some ⟨gv, 0, none⟩) 8 cv) 8 ms) (hgv : Rd w (.slice ga got.length gc) got) (hgo : 0 < got.length → ∀ j, (Value.slice ga got.length gc).ownBlock = some j → ¬ j = gv) (hl : p + got.length ≤ 8) :
    Calls Try.prog 74 #[.agg #[.int .i64 pc, .slice a1 n1 c1, .slice (some ⟨gv, 0, none⟩) 8 cv, .int .i64 ht], .int .i64 (p : Int), .slice ga got.length gc] w fun e w' => e = .returned (.agg #[.int .i64 pc, .slice a1 n1 c1, .slice (some ⟨gv, 0, none⟩) 8 cv, .int .i64 ht]) ∧ OwnI 3 1 w' L (.slice (some ⟨gv, 0, none⟩) 8 cv) 8 (layI ms p got got.length) ∧ Chg (fun j => j = gv) w w' := by
  have hgl := (hm.blk gv rfl).2
  have V0 := vb_new w [.int .i64 pc, .slice a1 n1 c1, .slice (some ⟨gv, 0, none⟩) 8 cv, .int .i64 ht] 25
  have A0 := below_alloc1 w (.cells #[.int .i64 pc, .slice a1 n1 c1, .slice (some ⟨gv, 0, none⟩) 8 cv, .int .i64 ht] 25)
  obtain ⟨W0, hW0⟩ : ∃ X, w.alloc (.cells #[.int .i64 pc, .slice a1 n1 c1, .slice (some ⟨gv, 0, none⟩) 8 cv, .int .i64 ht] 25) = X := ⟨_, rfl⟩
  have z0 : W0.heap.size = w.heap.size + 1 := by rw [← hW0]; simp
  rw [hW0] at V0 A0
  have V1 := vb_new W0 [.int .i64 0, .slice none 0 0, .slice none 0 0, .int .i64 0] 25
  have A1 := below_alloc1 W0 (.cells #[.int .i64 0, .slice none 0 0, .slice none 0 0, .int .i64 0] 25)
  rw [z0] at V1
  have V0 := V0.keep A1
  have HM0 := hid ((hm.keep A0).keep A1)
  have RG := hid ((hgv.keep A0).keep A1)
  have P1 := A0.trans (A1.mono A0.size)
  have PC := hid (Chg.of_below (S := fun j => j = gv) P1)
  obtain ⟨W1, hW1⟩ : ∃ X, W0.alloc (.cells #[.int .i64 0, .slice none 0 0, .slice none 0 0, .int .i64 0] 25) = X := ⟨_, rfl⟩
  rw [hW1] at V0 V1 PC HM0 RG
  have HV0 := hid V0
  have HV1 := hid V1
  have HW0 := hid hW0
  have HW1 := hid hW1
  have HGV := hid (show ¬ gv = w.heap.size ∧ ¬ gv = w.heap.size + 1 by omega)
  clear hW0 hW1 A0 A1 V0 V1 P1 hm hgv
  go_enter Try.func74, Try.ntmps74
  go_upto_region 1 with fail
  try rw [HW0.out]
  try rw [HW1.out]
  clear HW0 HW1 z0
  go_wp2_with fail
  go_loopw [7] (fun i wr => ∃ kk : Nat, kk ≤ got.length ∧ i = .int .i64 (kk : Int) ∧ OwnI 3 1 wr L (.slice (some ⟨gv, 0, none⟩) 8 cv) 8 (layI ms p got kk) ∧ Chg (fun j => j = gv) w wr ∧ Chg (fun j => j = gv) W1 wr ∧ VB wr w.heap.size [.int .i64 pc, .slice a1 n1 c1, .slice (some ⟨gv, 0, none⟩) 8 cv, .int .i64 ht] ∧ VB wr (w.heap.size + 1) [.int .i64 0, .slice none 0 0, .slice none 0 0, .int .i64 0]) (fun i _ => got.length - (intOf i).toNat)
  case atStart => exact ⟨0, Nat.zero_le _, rfl, HM0.out, PC.out, Chg.refl _ _, HV0.out, HV1.out⟩
  case round =>
    clear HM0 PC HV0 HV1
    obtain ⟨kk, hkk, rfl, hm, hC, hC2, hv0, hv1⟩ := hrel
    have HM := hid hm
    have CF := hid hC
    have C2 := hid hC2
    have HV0 := hid hv0
    have HV1 := hid hv1
    clear hm hC hC2 hv0 hv1
    by_cases hlt2 : kk < got.length
    · obtain ⟨rb, _, ga', gc', he, h3⟩ := RG.out
      simp only [Value.slice.injEq, true_and] at he
      obtain ⟨rfl, rfl⟩ := he
      obtain ⟨B, off, rfl, hc⟩ : ∃ B off, ga = some ⟨B, off, none⟩ ∧ ∀ i, i < got.length → W1.cell? ⟨B, off + i, none⟩ = some (.int .u8 (got.getD i 0)) := by
        rcases h3 with h3 | h3
        · rw [h3] at hlt2; simp at hlt2
        · exact h3
      have hBb : ¬ B = gv := hgo (by omega) B rfl
      have c0 := C2.out.cell (p := ⟨B, off + kk, none⟩) (fun e => hBb e) (hc kk hlt2)
      have hin : got.getD kk 0 ∈ got := by rw [List.getD_eq_getElem?_getD, List.getElem?_eq_getElem hlt2]; exact List.getElem_mem hlt2
      have HL := hid (show layI ms p got (kk + 1) = (layI ms p got kk).set (p + kk) (got.getD kk 0) from rfl)
      obtain ⟨q, hq⟩ : ∃ q, got.getD kk 0 = q := ⟨_, rfl⟩
      rw [hq] at c0 HL
      have hqr : 0 ≤ q ∧ q ≤ 255 := by rw [← hq]; exact rb _ hin
      have hw8 : IntKind.i64.wrap q = q := by rw [IntKind.wrap_i64]; omega
      have k0 : (0 : Int) ≤ (kk : Int) := by omega
      have k1 : (kk : Int) < (got.length : Int) := by omega
      have qk : IntKind.i64.wrap ((kk : Int) + 1) = ((kk + 1 : Nat) : Int) := by rw [IntKind.wrap_i64]; omega
      obtain ⟨m, hm⟩ : ∃ m, p + kk = m := ⟨_, rfl⟩
      rw [hm] at HL
      have qm : IntKind.i64.wrap ((p : Int) + (kk : Int)) = (m : Int) := by rw [IntKind.wrap_i64]; omega
      have m8 : m < (layI ms p got kk).length := by have := HM.out.len; omega
      have m0 : (0 : Int) ≤ (m : Int) := by omega
      have m1 : (m : Int) < 8 := by omega
      obtain ⟨x0, x1, x2, x3⟩ := vb4 HV0.out
      obtain ⟨r1, f1, _, _⟩ := ownI_cell HM.out m8
      obtain ⟨z, hz⟩ : ∃ z, (layI ms p got kk).getD m 0 = z := ⟨_, rfl⟩
      rw [hz] at r1
      have HM2 := hid ((ownI_set HM.out m8 (y := q)).keep (Below.refl _ _).drew)
      have CF2 := hid ((Chg.trans CF.out ((Chg.refl (fun j => j = gv) wr).set (p := ⟨gv, m, none⟩) rfl (.int .i64 q))).dr)
      have C22 := hid ((Chg.trans C2.out ((Chg.refl (fun j => j = gv) wr).set (p := ⟨gv, m, none⟩) rfl (.int .i64 q))).dr)
      have V02 := hid ((HV0.out.off (c := gv) (i := m) (v := .int .i64 q) HGV.out.1).drew)
      have V12 := hid ((HV1.out.off (c := gv) (i := m) (v := .int .i64 q) HGV.out.2).drew)
      rw [← HL.out] at HM2
      clear h3 rb hc hin hq hqr hz hm HL
      go_wp2_with fail
      go_region
      clear c0 r1 f1 x0 x1 x2 x3
      go_wp2_with fail
      go_roundw
      case rel => exact ⟨kk + 1, by omega, rfl, HM2.out, CF2.out, C22.out, V02.out, V12.out⟩
      case measure => simp [intOf]; omega
    · obtain rfl : kk = got.length := by omega
      clear hlt2 hkk C2
      obtain ⟨x0, x1, x2, x3⟩ := vb4 HV0.out
      obtain ⟨y0, y1, y2, y3⟩ := vb4 HV1.out
      have fy := HV1.out.2.1
      have hblk := HM.out.blk gv rfl
      have FV := hid (vbset4 (.int .i64 pc) (.slice a1 n1 c1) (.slice (some ⟨gv, 0, none⟩) 8 cv) (.int .i64 ht) HV1.out)
      have CR := vbchg4 (S := fun j => j = w.heap.size + 1) (w := wr) (b := w.heap.size + 1) (.int .i64 pc) (.slice a1 n1 c1) (.slice (some ⟨gv, 0, none⟩) 8 cv) (.int .i64 ht) rfl
      have FM := hid (HM.out.chg CR (fun j hj e => by have e : j = w.heap.size + 1 := e; simp [Value.ownBlock] at hj; have := HGV.out; omega))
      have FC := hid (chg_new CF.out CR (by omega))
      clear hblk CR
      go_wp2_with fail
      refine bodyPost_ret (resLay _ rfl FV.out) rfl ?_
      exact ⟨rfl, FM.out, FC.out⟩
end Go.Proofs.Ytbpomeegpkdekaa
