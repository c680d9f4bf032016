/- A machine's body in its block, and what an answer does to it: sent, read. Conditions: the registers are ones. -/
import Derived.Test.YtbpomeegpkdekaaVmOpenC
import Derived.Test.YtbpomeegpkdekaaInBase
import Derived.Test.YtbpomeegpkdekaaBytes
import Derived.Test.YtbpomeegpkdekaaRegs
namespace Go.Proofs.Ytbpomeegpkdekaa
open Go.ChangeShapes Go.WideShapes Go.ChangeAt Go.RowKit Go.Joins Go.Deep
set_option linter.unusedVariables false
set_option linter.unusedSimpArgs false
set_option maxRecDepth 4000
/-- the values of a machine's body; rs: its registers, ms: its memory, t6: what it asks -/
def bvs (pc ht : Int) (rs ms : List Int) (t6 : List Value) : List Value := .int .i64 pc :: (rs.map (Value.int .i64) ++ (ms.map (Value.int .i64) ++ .int .i64 ht :: t6))
structure Bod (w : World) (b : Nat) (pc ht : Int) (rs ms : List Int) (t6 : List Value) : Prop where
  lr : rs.length = 4
  lm : ms.length = 8
  vb : VB w b (bvs pc ht rs ms t6)
theorem bvs_reg {pc ht : Int} {rs ms : List Int} {t6 : List Value} (i : Nat) (hi : i < rs.length) : (bvs pc ht rs ms t6).getD (1 + i) undef = .int .i64 (rs.getD i 0) := by
  unfold bvs
  rw [Nat.add_comm 1 i]
  rw [List.getD_eq_getElem?_getD, List.getElem?_cons_succ, List.getElem?_append_left (by simpa using hi), List.getElem?_map, List.getD_eq_getElem?_getD, List.getElem?_eq_getElem hi]
  rfl
theorem bvs_mem {pc ht : Int} {rs ms : List Int} {t6 : List Value} (hr : rs.length = 4) (i : Nat) (hi : i < ms.length) : (bvs pc ht rs ms t6).getD (5 + i) undef = .int .i64 (ms.getD i 0) := by
  unfold bvs
  rw [show 5 + i = (4 + i) + 1 from by omega]
  rw [List.getD_eq_getElem?_getD, List.getElem?_cons_succ, List.getElem?_append_right (by simp [hr]), List.length_map, hr, show 4 + i - 4 = i from by omega, List.getElem?_append_left (by simpa using hi), List.getElem?_map, List.getD_eq_getElem?_getD, List.getElem?_eq_getElem hi]
  rfl
theorem bvs_ht {pc ht : Int} {rs ms : List Int} {t6 : List Value} (hr : rs.length = 4) (hm : ms.length = 8) : (bvs pc ht rs ms t6).getD 13 undef = .int .i64 ht := by
  unfold bvs
  rw [List.getD_eq_getElem?_getD, show 13 = 12 + 1 from rfl, List.getElem?_cons_succ, List.getElem?_append_right (by simp [hr]), List.length_map, hr, List.getElem?_append_right (by simp [hm]), List.length_map, hm]
  rfl
theorem bvs_len {pc ht : Int} {rs ms : List Int} {t6 : List Value} : (bvs pc ht rs ms t6).length = 2 + rs.length + ms.length + t6.length := by simp [bvs]; omega
theorem bvs_setR {pc ht : Int} {rs ms : List Int} {t6 : List Value} (i : Nat) (hi : i < rs.length) (y : Int) : (bvs pc ht rs ms t6).set (1 + i) (.int .i64 y) = bvs pc ht (rs.set i y) ms t6 := by
  unfold bvs
  rw [Nat.add_comm 1 i, List.set_cons_succ, List.set_append_left _ _ (by simpa using hi), List.map_set]
theorem bvs_setM {pc ht : Int} {rs ms : List Int} {t6 : List Value} (hr : rs.length = 4) (i : Nat) (hi : i < ms.length) (y : Int) : (bvs pc ht rs ms t6).set (5 + i) (.int .i64 y) = bvs pc ht rs (ms.set i y) t6 := by
  unfold bvs
  rw [show 5 + i = (4 + i) + 1 from by omega, List.set_cons_succ, List.set_append_right _ _ (by simp [hr]), List.length_map, hr, show 4 + i - 4 = i from by omega, List.set_append_left _ _ (by simpa using hi), List.map_set]
theorem bvs_setH {pc ht : Int} {rs ms : List Int} {t6 : List Value} (hr : rs.length = 4) (hm : ms.length = 8) (y : Int) : (bvs pc ht rs ms t6).set 13 (.int .i64 y) = bvs pc y rs ms t6 := by
  unfold bvs
  rw [show 13 = 12 + 1 from rfl, List.set_cons_succ, List.set_append_right _ _ (by simp [hr]), List.length_map, hr, List.set_append_right _ _ (by simp [hm]), List.length_map, hm]
  rfl
theorem bvs_setP {pc ht : Int} {rs ms : List Int} {t6 : List Value} (y : Int) : (bvs pc ht rs ms t6).set 0 (.int .i64 y) = bvs y ht rs ms t6 := rfl
section
variable {w : World} {b : Nat} {pc ht : Int} {rs ms : List Int} {t6 : List Value}
theorem Bod.reg (h : Bod w b pc ht rs ms t6) {i : Nat} (hi : i < 4) : w.cell? ⟨b, 1 + i, none⟩ = some (.int .i64 (rs.getD i 0)) := by
  rw [h.vb.1 (1 + i) (by rw [bvs_len, h.lr]; omega), bvs_reg i (by rw [h.lr]; exact hi)]
theorem Bod.mem (h : Bod w b pc ht rs ms t6) {i : Nat} (hi : i < 8) : w.cell? ⟨b, 5 + i, none⟩ = some (.int .i64 (ms.getD i 0)) := by
  rw [h.vb.1 (5 + i) (by rw [bvs_len, h.lr, h.lm]; omega), bvs_mem h.lr i (by rw [h.lm]; exact hi)]
theorem Bod.pc0 (h : Bod w b pc ht rs ms t6) : w.cell? ⟨b, 0, none⟩ = some (.int .i64 pc) := h.vb.1 0 (by rw [bvs_len]; omega)
theorem Bod.halt (h : Bod w b pc ht rs ms t6) : w.cell? ⟨b, 13, none⟩ = some (.int .i64 ht) := by
  rw [h.vb.1 13 (by rw [bvs_len, h.lr, h.lm]; omega), bvs_ht h.lr h.lm]
theorem Bod.fr (h : Bod w b pc ht rs ms t6) (o : Nat) : w.frozen? ⟨b, o, none⟩ = false := h.vb.2.1 o
theorem Bod.lt (h : Bod w b pc ht rs ms t6) : b < w.heap.size := h.vb.2.2
theorem Bod.keep (h : Bod w b pc ht rs ms t6) {w' : World} (hb : Below w.heap.size w w') : Bod w' b pc ht rs ms t6 := ⟨h.lr, h.lm, h.vb.keep hb⟩
theorem Bod.chg (h : Bod w b pc ht rs ms t6) {S : Nat → Prop} {w' : World} (hg : Chg S w w') (hn : ¬ S b) : Bod w' b pc ht rs ms t6 := ⟨h.lr, h.lm, h.vb.chg hg hn⟩
theorem Bod.setR (h : Bod w b pc ht rs ms t6) {i : Nat} (hi : i < 4) (y : Int) : Bod (w.setCell ⟨b, 1 + i, none⟩ (.int .i64 y)) b pc ht (rs.set i y) ms t6 := ⟨by simpa using h.lr, h.lm, by
  rw [← bvs_setR i (by rw [h.lr]; exact hi)]; exact h.vb.set (i := 1 + i) (by rw [bvs_len, h.lr]; omega) _⟩
theorem Bod.setM (h : Bod w b pc ht rs ms t6) {i : Nat} (hi : i < 8) (y : Int) : Bod (w.setCell ⟨b, 5 + i, none⟩ (.int .i64 y)) b pc ht rs (ms.set i y) t6 := ⟨h.lr, by simpa using h.lm, by
  rw [← bvs_setM h.lr i (by rw [h.lm]; exact hi)]; exact h.vb.set (i := 5 + i) (by rw [bvs_len, h.lr, h.lm]; omega) _⟩
theorem Bod.setH (h : Bod w b pc ht rs ms t6) (y : Int) : Bod (w.setCell ⟨b, 13, none⟩ (.int .i64 y)) b pc y rs ms t6 := ⟨h.lr, h.lm, by
  rw [← bvs_setH h.lr h.lm]; exact h.vb.set (i := 13) (by rw [bvs_len, h.lr, h.lm]; omega) _⟩
theorem Bod.setP (h : Bod w b pc ht rs ms t6) (y : Int) : Bod (w.setCell ⟨b, 0, none⟩ (.int .i64 y)) b y ht rs ms t6 := ⟨h.lr, h.lm, by
  rw [← bvs_setP (pc := pc)]; exact h.vb.set (i := 0) (by rw [bvs_len]; omega) _⟩
end
theorem chg_ad {b : Nat} {w w' : World} (h : Chg (fun j => j = b) w w') (O : Obj) : Chg (fun j => j = b) w (w'.alloc O).drew :=
  Chg.trans h (Chg.of_below ((below_alloc1 w' O).trans (((Below.refl (w'.alloc O).heap.size (w'.alloc O)).drew).mono (by simp))))
theorem Bod.ad {w : World} {b : Nat} {pc ht : Int} {rs ms : List Int} {t6 : List Value} (h : Bod w b pc ht rs ms t6) (O : Obj) : Bod (w.alloc O).drew b pc ht rs ms t6 := h.keep ((below_alloc1 w O).trans (((Below.refl (w.alloc O).heap.size (w.alloc O)).drew).mono (by simp)))
theorem Bod.dr {w : World} {b : Nat} {pc ht : Int} {rs ms : List Int} {t6 : List Value} (h : Bod w b pc ht rs ms t6) : Bod w.drew b pc ht rs ms t6 := h.keep (Below.refl w.heap.size w).drew
theorem Chg.dr {S : Nat → Prop} {w w' : World} (h : Chg S w w') : Chg S w w'.drew := Chg.trans h (Chg.of_below (Below.refl w'.heap.size w').drew)
theorem mem_getD0 {got : List Int} (h : 0 < got.length) : got.getD 0 0 ∈ got := by
  rw [List.getD_eq_getElem?_getD, List.getElem?_eq_getElem h]; exact List.getElem_mem h
theorem set_set (l : List Int) (i : Nat) (x y : Int) : (l.set i x).set i y = l.set i y := by simp
set_option maxHeartbeats 2000000 in
theorem sent_any (k y t pc ht : Int) (g f : Nat) (ba : Option Addr) (bl bc : Nat) (yes : Bool) (rs ms : List Int) (t6 : List Value) (b : Nat) (w : World) (hg : g < 4) (hf : f < 4) (hw : Bod w b pc ht rs ms t6) :
    Calls Try.prog 66 #[.pointer (some ⟨b, 0, none⟩), .agg #[.int .i64 k, .int .i64 y, .slice ba bl bc, .int .i64 t, .int .i64 (g : Int), .int .i64 (f : Int)], .bool yes] w fun e w' => e = .returned (.tuple #[]) ∧ Bod w' b pc ht (rs.set g (if yes then 1 else 0)) ms t6 ∧ Chg (fun j => j = b) w w' := by
  have hlt : b < w.heap.size := hw.lt
  have hbn : ¬ b = w.heap.size := by omega
  have g0 : (0 : Int) ≤ (g : Int) := by omega
  have g1 : (g : Int) < 4 := by omega
  have f0 : (0 : Int) ≤ (f : Int) := by omega
  have fl : (f : Int) < 4 := by omega
  have HF := hid (hw.keep (below_alloc1 w (.cells #[.int .i64 k, .int .i64 y, .slice ba bl bc, .int .i64 t, .int .i64 (g : Int), .int .i64 (f : Int)] 30)))
  have CF := hid (Chg.of_below (S := fun j => j = b) (below_alloc1 w (.cells #[.int .i64 k, .int .i64 y, .slice ba bl bc, .int .i64 t, .int .i64 (g : Int), .int .i64 (f : Int)] 30)))
  have QF := hid (vb_new w [.int .i64 k, .int .i64 y, .slice ba bl bc, .int .i64 t, .int .i64 (g : Int), .int .i64 (f : Int)] 30)
  clear hw
  cases yes
  · skip
    go_enter Try.func66, Try.ntmps66
    go_wp2_with fail
    obtain ⟨W0, hW0⟩ : ∃ W, w.alloc (.cells #[.int .i64 k, .int .i64 y, .slice ba bl bc, .int .i64 t, .int .i64 (g : Int), .int .i64 (f : Int)] 30) = W := ⟨_, rfl⟩
    rw [hW0] at HF CF QF
    try rw [hW0]
    clear hW0
    obtain ⟨z, hz⟩ : ∃ z, (rs).getD g 0 = z := ⟨_, rfl⟩
    have a4 : W0.cell? ⟨w.heap.size, 4, none⟩ = some (.int .i64 (g : Int)) := QF.out.1 4 (by simp)
    have r1 := HF.out.reg hg
    have f1 := HF.out.fr
    have hlb := HF.out.lt
    rw [hz] at r1
    clear hz
    go_wp2_with fail
    go_region
    replace CF := hid ((Chg.trans CF.out ((Chg.refl (fun j => j = b) W0).set (p := ⟨b, 1 + g, none⟩) rfl (.int .i64 0))).dr)
    replace QF := hid ((QF.out.off (c := b) (i := 1 + g) (v := .int .i64 0) hbn).drew)
    replace HF := hid ((HF.out.setR hg 0).dr)
    clear a4 r1 f1 hlb
    obtain ⟨W1, hW1⟩ : ∃ X, (W0.setCell ⟨b, 1 + g, none⟩ (.int .i64 0)).drew = X := ⟨_, rfl⟩
    rw [hW1] at HF CF QF
    try rw [hW1]
    clear hW1
    go_wp2
    go_end0
    exact ⟨rfl, HF.out, CF.out⟩
  · skip
    go_enter Try.func66, Try.ntmps66
    go_wp2_with fail
    obtain ⟨W0, hW0⟩ : ∃ W, w.alloc (.cells #[.int .i64 k, .int .i64 y, .slice ba bl bc, .int .i64 t, .int .i64 (g : Int), .int .i64 (f : Int)] 30) = W := ⟨_, rfl⟩
    rw [hW0] at HF CF QF
    try rw [hW0]
    clear hW0
    obtain ⟨z, hz⟩ : ∃ z, (rs).getD g 0 = z := ⟨_, rfl⟩
    have a4 : W0.cell? ⟨w.heap.size, 4, none⟩ = some (.int .i64 (g : Int)) := QF.out.1 4 (by simp)
    have r1 := HF.out.reg hg
    have f1 := HF.out.fr
    have hlb := HF.out.lt
    rw [hz] at r1
    clear hz
    go_wp2_with fail
    go_region
    replace CF := hid ((Chg.trans CF.out ((Chg.refl (fun j => j = b) W0).set (p := ⟨b, 1 + g, none⟩) rfl (.int .i64 0))).dr)
    replace QF := hid ((QF.out.off (c := b) (i := 1 + g) (v := .int .i64 0) hbn).drew)
    replace HF := hid ((HF.out.setR hg 0).dr)
    clear a4 r1 f1 hlb
    obtain ⟨W1, hW1⟩ : ∃ X, (W0.setCell ⟨b, 1 + g, none⟩ (.int .i64 0)).drew = X := ⟨_, rfl⟩
    rw [hW1] at HF CF QF
    try rw [hW1]
    clear hW1
    obtain ⟨z, hz⟩ : ∃ z, (rs.set g 0).getD g 0 = z := ⟨_, rfl⟩
    have a4 : W1.cell? ⟨w.heap.size, 4, none⟩ = some (.int .i64 (g : Int)) := QF.out.1 4 (by simp)
    have r1 := HF.out.reg hg
    have f1 := HF.out.fr
    have hlb := HF.out.lt
    rw [hz] at r1
    clear hz
    go_wp2_with fail
    go_region
    replace CF := hid ((Chg.trans CF.out ((Chg.refl (fun j => j = b) W1).set (p := ⟨b, 1 + g, none⟩) rfl (.int .i64 1))).dr)
    replace QF := hid ((QF.out.off (c := b) (i := 1 + g) (v := .int .i64 1) hbn).drew)
    replace HF := hid ((HF.out.setR hg 1).dr)
    clear a4 r1 f1 hlb
    obtain ⟨W2, hW2⟩ : ∃ X, (W1.setCell ⟨b, 1 + g, none⟩ (.int .i64 1)).drew = X := ⟨_, rfl⟩
    rw [hW2] at HF CF QF
    try rw [hW2]
    clear hW2
    rw [set_set] at HF
    go_wp2
    go_end0
    exact ⟨rfl, HF.out, CF.out⟩
/-- what a reading machine gets -/
def rdF (yes : Bool) (got : List Int) : Int := if yes && decide (0 < got.length) then got.getD 0 0 else 0
def rdG (yes : Bool) (got : List Int) : Int := if yes && decide (0 < got.length) then 1 else 0
set_option maxHeartbeats 2000000 in
theorem read_any (k y t pc ht : Int) (g f : Nat) (ba : Option Addr) (bl bc : Nat) (yes : Bool) (got : List Int) (gv : Value) (rs ms : List Int) (t6 : List Value) (b : Nat) (w : World) (hgv : Rd w gv got) (hg : g < 4) (hf : f < 4) (hw : Bod w b pc ht rs ms t6) :
    Calls Try.prog 69 #[.pointer (some ⟨b, 0, none⟩), .agg #[.int .i64 k, .int .i64 y, .slice ba bl bc, .int .i64 t, .int .i64 (g : Int), .int .i64 (f : Int)], gv, .bool yes] w fun e w' => e = .returned (.tuple #[]) ∧ Bod w' b pc ht ((rs.set g (rdF yes got)).set f (rdG yes got)) ms t6 ∧ Chg (fun j => j = b) w w' := by
  have RG := hid (hgv.keep (below_alloc1 w (.cells #[.int .i64 k, .int .i64 y, .slice ba bl bc, .int .i64 t, .int .i64 (g : Int), .int .i64 (f : Int)] 30)))
  obtain ⟨_, _, ga, gc, rfl, _⟩ := hgv
  have hlt : b < w.heap.size := hw.lt
  have hbn : ¬ b = w.heap.size := by omega
  have g0 : (0 : Int) ≤ (g : Int) := by omega
  have g1 : (g : Int) < 4 := by omega
  have f0 : (0 : Int) ≤ (f : Int) := by omega
  have fl : (f : Int) < 4 := by omega
  have HF := hid (hw.keep (below_alloc1 w (.cells #[.int .i64 k, .int .i64 y, .slice ba bl bc, .int .i64 t, .int .i64 (g : Int), .int .i64 (f : Int)] 30)))
  have CF := hid (Chg.of_below (S := fun j => j = b) (below_alloc1 w (.cells #[.int .i64 k, .int .i64 y, .slice ba bl bc, .int .i64 t, .int .i64 (g : Int), .int .i64 (f : Int)] 30)))
  have QF := hid (vb_new w [.int .i64 k, .int .i64 y, .slice ba bl bc, .int .i64 t, .int .i64 (g : Int), .int .i64 (f : Int)] 30)
  clear hw
  cases yes
  · skip
    go_enter Try.func69, Try.ntmps69
    go_wp2_with fail
    obtain ⟨W0, hW0⟩ : ∃ W, w.alloc (.cells #[.int .i64 k, .int .i64 y, .slice ba bl bc, .int .i64 t, .int .i64 (g : Int), .int .i64 (f : Int)] 30) = W := ⟨_, rfl⟩
    rw [hW0] at HF CF QF
    try rw [hW0]
    clear hW0
    clear RG
    obtain ⟨z, hz⟩ : ∃ z, (rs).getD g 0 = z := ⟨_, rfl⟩
    have a4 : W0.cell? ⟨w.heap.size, 4, none⟩ = some (.int .i64 (g : Int)) := QF.out.1 4 (by simp)
    have r1 := HF.out.reg hg
    have f1 := HF.out.fr
    have hlb := HF.out.lt
    rw [hz] at r1
    clear hz
    go_wp2_with fail
    go_region
    replace CF := hid ((Chg.trans CF.out ((Chg.refl (fun j => j = b) W0).set (p := ⟨b, 1 + g, none⟩) rfl (.int .i64 0))).dr)
    replace QF := hid ((QF.out.off (c := b) (i := 1 + g) (v := .int .i64 0) hbn).drew)
    replace HF := hid ((HF.out.setR hg 0).dr)
    clear a4 r1 f1 hlb
    obtain ⟨W1, hW1⟩ : ∃ X, (W0.setCell ⟨b, 1 + g, none⟩ (.int .i64 0)).drew = X := ⟨_, rfl⟩
    rw [hW1] at HF CF QF
    try rw [hW1]
    clear hW1
    obtain ⟨z, hz⟩ : ∃ z, (rs.set g 0).getD f 0 = z := ⟨_, rfl⟩
    have a5 : W1.cell? ⟨w.heap.size, 5, none⟩ = some (.int .i64 (f : Int)) := QF.out.1 5 (by simp)
    have r1 := HF.out.reg hf
    have f1 := HF.out.fr
    have hlb := HF.out.lt
    rw [hz] at r1
    clear hz
    go_wp2_with fail
    go_region
    replace CF := hid ((Chg.trans CF.out ((Chg.refl (fun j => j = b) W1).set (p := ⟨b, 1 + f, none⟩) rfl (.int .i64 0))).dr)
    replace QF := hid ((QF.out.off (c := b) (i := 1 + f) (v := .int .i64 0) hbn).drew)
    replace HF := hid ((HF.out.setR hf 0).dr)
    clear a5 r1 f1 hlb
    obtain ⟨W2, hW2⟩ : ∃ X, (W1.setCell ⟨b, 1 + f, none⟩ (.int .i64 0)).drew = X := ⟨_, rfl⟩
    rw [hW2] at HF CF QF
    try rw [hW2]
    clear hW2
    go_wp2
    go_end0
    exact ⟨rfl, HF.out, CF.out⟩
  · obtain ⟨rb, _, ga', gc', he, h3⟩ := RG.out
    simp only [Value.slice.injEq, true_and] at he
    obtain ⟨rfl, rfl⟩ := he
    rcases Nat.eq_zero_or_pos got.length with h0 | h0
    · have HQ := hid (show rdF true got = 0 ∧ rdG true got = 0 by simp [rdF, rdG, h0])
      rw [HQ.out.1, HQ.out.2]
      have d0 : decide ((0 : Int) < (got.length : Int)) = false := by simp [h0]
      clear h3 RG rb
      go_enter Try.func69, Try.ntmps69
      go_wp2_with fail
      obtain ⟨W0, hW0⟩ : ∃ W, w.alloc (.cells #[.int .i64 k, .int .i64 y, .slice ba bl bc, .int .i64 t, .int .i64 (g : Int), .int .i64 (f : Int)] 30) = W := ⟨_, rfl⟩
      rw [hW0] at HF CF QF
      try rw [hW0]
      clear hW0
      clear d0
      obtain ⟨z, hz⟩ : ∃ z, (rs).getD g 0 = z := ⟨_, rfl⟩
      have a4 : W0.cell? ⟨w.heap.size, 4, none⟩ = some (.int .i64 (g : Int)) := QF.out.1 4 (by simp)
      have r1 := HF.out.reg hg
      have f1 := HF.out.fr
      have hlb := HF.out.lt
      rw [hz] at r1
      clear hz
      go_wp2_with fail
      go_region
      replace CF := hid ((Chg.trans CF.out ((Chg.refl (fun j => j = b) W0).set (p := ⟨b, 1 + g, none⟩) rfl (.int .i64 0))).dr)
      replace QF := hid ((QF.out.off (c := b) (i := 1 + g) (v := .int .i64 0) hbn).drew)
      replace HF := hid ((HF.out.setR hg 0).dr)
      clear a4 r1 f1 hlb
      obtain ⟨W1, hW1⟩ : ∃ X, (W0.setCell ⟨b, 1 + g, none⟩ (.int .i64 0)).drew = X := ⟨_, rfl⟩
      rw [hW1] at HF CF QF
      try rw [hW1]
      clear hW1
      obtain ⟨z, hz⟩ : ∃ z, (rs.set g 0).getD f 0 = z := ⟨_, rfl⟩
      have a5 : W1.cell? ⟨w.heap.size, 5, none⟩ = some (.int .i64 (f : Int)) := QF.out.1 5 (by simp)
      have r1 := HF.out.reg hf
      have f1 := HF.out.fr
      have hlb := HF.out.lt
      rw [hz] at r1
      clear hz
      go_wp2_with fail
      go_region
      replace CF := hid ((Chg.trans CF.out ((Chg.refl (fun j => j = b) W1).set (p := ⟨b, 1 + f, none⟩) rfl (.int .i64 0))).dr)
      replace QF := hid ((QF.out.off (c := b) (i := 1 + f) (v := .int .i64 0) hbn).drew)
      replace HF := hid ((HF.out.setR hf 0).dr)
      clear a5 r1 f1 hlb
      obtain ⟨W2, hW2⟩ : ∃ X, (W1.setCell ⟨b, 1 + f, none⟩ (.int .i64 0)).drew = X := ⟨_, rfl⟩
      rw [hW2] at HF CF QF
      try rw [hW2]
      clear hW2
      go_wp2
      go_end0
      exact ⟨rfl, HF.out, CF.out⟩
    · obtain ⟨B, off, rfl, hc⟩ : ∃ B off, ga = some ⟨B, off, none⟩ ∧ ∀ i, i < got.length → (w.alloc (.cells #[.int .i64 k, .int .i64 y, .slice ba bl bc, .int .i64 t, .int .i64 (g : Int), .int .i64 (f : Int)] 30)).cell? ⟨B, off + i, none⟩ = some (.int .u8 (got.getD i 0)) := by
        rcases h3 with h3 | h3
        · rw [h3] at h0; simp at h0
        · exact h3
      have c0 := hc 0 h0
      obtain ⟨q, hq⟩ : ∃ q, got.getD 0 0 = q := ⟨_, rfl⟩
      rw [hq, Nat.add_zero] at c0
      have hqr : 0 ≤ q ∧ q ≤ 255 := by rw [← hq]; exact rb _ (mem_getD0 h0)
      have HQ := hid (show rdF true got = q ∧ rdG true got = 1 by simp only [rdF, rdG, hq]; simp [h0])
      rw [HQ.out.1, HQ.out.2]
      have hw8 : IntKind.i64.wrap q = q := by rw [IntKind.wrap_i64]; omega
      have d0 : decide ((0 : Int) < (got.length : Int)) = true := by simp; omega
      have i1 : (0 : Int) < (got.length : Int) := by omega
      clear h3 RG rb hc hq
      go_enter Try.func69, Try.ntmps69
      go_wp2_with fail
      clear c0 d0 i1 hw8
      obtain ⟨W0, hW0⟩ : ∃ W, w.alloc (.cells #[.int .i64 k, .int .i64 y, .slice ba bl bc, .int .i64 t, .int .i64 (g : Int), .int .i64 (f : Int)] 30) = W := ⟨_, rfl⟩
      rw [hW0] at HF CF QF
      try rw [hW0]
      clear hW0
      obtain ⟨z, hz⟩ : ∃ z, (rs).getD g 0 = z := ⟨_, rfl⟩
      have a4 : W0.cell? ⟨w.heap.size, 4, none⟩ = some (.int .i64 (g : Int)) := QF.out.1 4 (by simp)
      have r1 := HF.out.reg hg
      have f1 := HF.out.fr
      have hlb := HF.out.lt
      rw [hz] at r1
      clear hz
      go_wp2_with fail
      go_region
      replace CF := hid ((Chg.trans CF.out ((Chg.refl (fun j => j = b) W0).set (p := ⟨b, 1 + g, none⟩) rfl (.int .i64 q))).dr)
      replace QF := hid ((QF.out.off (c := b) (i := 1 + g) (v := .int .i64 q) hbn).drew)
      replace HF := hid ((HF.out.setR hg q).dr)
      clear a4 r1 f1 hlb
      obtain ⟨W1, hW1⟩ : ∃ X, (W0.setCell ⟨b, 1 + g, none⟩ (.int .i64 q)).drew = X := ⟨_, rfl⟩
      rw [hW1] at HF CF QF
      try rw [hW1]
      clear hW1
      obtain ⟨z, hz⟩ : ∃ z, (rs.set g q).getD f 0 = z := ⟨_, rfl⟩
      have a5 : W1.cell? ⟨w.heap.size, 5, none⟩ = some (.int .i64 (f : Int)) := QF.out.1 5 (by simp)
      have r1 := HF.out.reg hf
      have f1 := HF.out.fr
      have hlb := HF.out.lt
      rw [hz] at r1
      clear hz
      go_wp2_with fail
      go_region
      replace CF := hid ((Chg.trans CF.out ((Chg.refl (fun j => j = b) W1).set (p := ⟨b, 1 + f, none⟩) rfl (.int .i64 1))).dr)
      replace QF := hid ((QF.out.off (c := b) (i := 1 + f) (v := .int .i64 1) hbn).drew)
      replace HF := hid ((HF.out.setR hf 1).dr)
      clear a5 r1 f1 hlb
      obtain ⟨W2, hW2⟩ : ∃ X, (W1.setCell ⟨b, 1 + f, none⟩ (.int .i64 1)).drew = X := ⟨_, rfl⟩
      rw [hW2] at HF CF QF
      try rw [hW2]
      clear hW2
      go_wp2
      go_end0
      exact ⟨rfl, HF.out, CF.out⟩
end Go.Proofs.Ytbpomeegpkdekaa
