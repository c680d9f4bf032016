/- The draw of a box and a message. Conditions: the lists read as lists of bytes. -/
import Derived.Test.YtanmapgpplhecaaDrawBox
namespace Go.Proofs.Ytanmapgpplhecaa
open Go.ChangeShapes Go.WideShapes Go.ChangeAt Go.RowKit Go.Joins Go.Deep
set_option linter.unusedVariables false
set_option linter.unusedSimpArgs false
set_option maxRecDepth 4000
theorem res_dput {W : World} {b : Nat} {x0 x1 y : Value} (tmps : Array Value) (ht : tmps[2]?.getD undef = .pointer (some ⟨b, 0, none⟩)) (h0 : W.cell? ⟨b, 0, none⟩ = some x0) (h1 : W.cell? ⟨b, 1, none⟩ = some x1) (h2 : tmps[3]?.getD undef = y) :
    (results Try.f24 tmps).run Try.prog W = .ok (.tuple #[.agg #[x0, x1], y]) W := by
  simp [results, Try.results24, go_sem, ht, h0, h1, h2]
def DrawPutPost (w : World) (e : Ending) (w' : World) : Prop :=
  ∃ (d : Int) (a : Option Addr) (cap : Nat) (yss : List (List Int)) (ma : Option Addr) (mc : Nat) (ms : List Int), e = .returned (.tuple #[.agg #[.int .i64 d, .slice a yss.length cap], .slice ma ms.length mc]) ∧ RdS w' (.slice a yss.length cap) yss ∧ yss.length ≤ 20 ∧ (∀ i, i < yss.length → (yss.getD i []).length ≤ 9) ∧ Rd w' (.slice ma ms.length mc) ms ∧ ms.length ≤ 9 ∧ Below w.heap.size w w'
set_option maxHeartbeats 4000000 in
theorem drawBoxPut_any (a : Option Addr) (len cap : Nat) (zs : List Int) (w : World) (hn : zs.length = len) (hv : Rd w (.slice a len cap) zs) (hcap : len ≤ cap) :
    Calls Try.prog 24 #[.slice a len cap] w fun e w' => DrawPutPost w e w' := by
  have A0 := below_alloc1 w (.cells #[.int .i64 0, .slice none 0 0] 25)
  have HV := hid (hv.keep A0)
  have VR := hid (vb_new w [.int .i64 0, .slice none 0 0] 25)
  have z0 : (w.alloc (.cells #[.int .i64 0, .slice none 0 0] 25)).heap.size = w.heap.size + 1 := by simp
  have PP := hid A0
  clear hv A0
  go_enter Try.func24, Try.ntmps24
  go_wp2_with fail
  obtain ⟨W0, hW0⟩ : ∃ W, w.alloc (.cells #[.int .i64 0, .slice none 0 0] 25) = W := ⟨_, rfl⟩
  rw [hW0] at HV VR z0 PP
  try rw [hW0]
  clear hW0
  refine (open_any a len cap zs W0 hn HV.out hcap).mono ?_
  rintro e w1 ⟨rfl, rd, bl, hz⟩
  have RD := hid rd
  have VR := hid (VR.out.keep bl)
  have PP := hid (PP.out.trans (bl.mono PP.out.size))
  obtain ⟨g, hg⟩ : ∃ g, W0.heap.size = g := ⟨_, rfl⟩
  rw [hg] at RD z0 hz ⊢
  have z1 : g < w1.heap.size := by omega
  have Z0 := hid z0
  clear rd bl HV hz hg z0
  go_wp2_with fail
  refine (drawBox_any W0 _ g 0 RD.out (by omega)).mono ?_
  rintro e w2 ⟨d, u, f, yss, rfl, o2, hn20, h9, ⟨q, hq, rd⟩, gr⟩
  have RD := hid rd
  have OV := hid o2
  have VR := hid (VR.out.grown gr (by have := Z0.out; simp; omega))
  have PP := hid (PP.out.trans (below_grown' (n := w.heap.size) gr (by have := Z0.out; omega) (by have := Z0.out; omega)))
  have z2 : g < w2.heap.size := Nat.lt_of_lt_of_le z1 gr.size
  obtain ⟨ua, uc, rfl⟩ := o2.form
  have H9 := hid h9
  have HN := hid hn20
  clear rd o2 gr h9
  go_wp2_with fail
  refine (drawMessage_any W0 _ g q RD.out (by omega)).mono ?_
  rintro e w3 ⟨v, ms, rfl, hms, o3, _, gr⟩
  have OV := hid (OV.out.grownG gr z1)
  have VR := hid (VR.out.grown gr (by have := Z0.out; simp; omega))
  have PP := hid (PP.out.trans (below_grown' (n := w.heap.size) gr (by have := Z0.out; omega) (by have := Z0.out; omega)))
  obtain ⟨ma, mc, rfl, _⟩ := own_form o3
  have OM := hid o3
  have z3 : g < w3.heap.size := Nat.lt_of_lt_of_le z2 gr.size
  clear o3 gr
  obtain ⟨r0, r1⟩ := vb2 VR.out
  have fr := VR.out.2.1
  have CG := hid (vbchg2 (S := fun j => j = w.heap.size) (w := w3) (b := w.heap.size) (.int .i64 d) (.slice ua yss.length uc) rfl)
  have T := hid (vbset2 (.int .i64 d) (.slice ua yss.length uc) VR.out)
  go_wp2_with fail
  obtain ⟨t0, t1⟩ := vb2 T.out
  refine bodyPost_ret (res_dput _ rfl t0 t1 rfl) rfl ?_
  exact ⟨d, ua, uc, yss, ma, mc, ms, rfl, (OV.out.chg CG.out (fun j hj => by have hj : j = w.heap.size := hj; have := Z0.out; omega)).rd (by have := HN.out; omega) (fun i hi => by have := H9.out i hi; omega), HN.out, H9.out, (OwnR.chg OM.out CG.out (fun j hj e => by have e : j = w.heap.size := e; have := Z0.out; have := (OM.out.blk j hj).1; omega)).rd (by omega), hms, below_chg PP.out CG.out PP.out.size (fun j hj => by have hj : j = w.heap.size := hj; omega)⟩
end Go.Proofs.Ytanmapgpplhecaa
