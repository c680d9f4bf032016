/- What an answer to a taking machine does: it lays the bytes, or falls. Conditions: the registers are ones. -/
import Derived.Test.YtbpomeegpkdekaaGiveBody
import Derived.WalkLawsBesides
import Derived.Deep.DeepCutAuto
namespace Go.Proofs.Ytbpomeegpkdekaa
open Go.ChangeShapes Go.WideShapes Go.ChangeAt Go.RowKit Go.Joins Go.Deep
set_option linter.unusedVariables false
set_option linter.unusedSimpArgs false
set_option maxRecDepth 4000
/-- the memory, with k of the bytes laid from a on -/
def layI (ms : List Int) (a : Nat) (got : List Int) : Nat → List Int
  | 0 => ms
  | k + 1 => (layI ms a got k).set (a + k) (got.getD k 0)
theorem layI_len (ms : List Int) (a : Nat) (got : List Int) : ∀ k, (layI ms a got k).length = ms.length
  | 0 => rfl
  | k + 1 => by simp [layI, layI_len ms a got k]
theorem reach_ok (b a s : Nat) (w : World) (h : a + s ≤ 8) :
    Calls Try.prog 108 #[.pointer (some ⟨b, 0, none⟩), .int .i64 (a : Int), .int .i64 (s : Int)] w fun e w' => e = .returned (.tuple #[]) ∧ w' = w := by
  have q : IntKind.i64.wrap ((a : Int) + (s : Int)) = (a : Int) + (s : Int) := by rw [IntKind.wrap_i64]; omega
  have d : decide ((8 : Int) < (a : Int) + (s : Int)) = false := by simp; omega
  go_enter Try.func108, Try.ntmps108
  go_wp2
  go_end0
  exact ⟨rfl, rfl⟩
theorem reach_fall (b a s : Nat) (w : World) (h : 8 < a + s) (ha : a ≤ 255) (hs : s ≤ 2000000) :
    Calls Try.prog 108 #[.pointer (some ⟨b, 0, none⟩), .int .i64 (a : Int), .int .i64 (s : Int)] w fun e w' => e = .panicked [{ v := .iface 107 (.agg #[]), recovered := false }] ∧ w' = w := by
  have q : IntKind.i64.wrap ((a : Int) + (s : Int)) = (a : Int) + (s : Int) := by rw [IntKind.wrap_i64]; omega
  have d : decide ((8 : Int) < (a : Int) + (s : Int)) = true := by simp; omega
  go_enter Try.func108, Try.ntmps108
  go_wp2
  exact ⟨rfl, rfl, rfl⟩
set_option maxHeartbeats 2000000 in
theorem took_no (k y pc ht : Int) (p g f : Nat) (ba : Option Addr) (bl bc : Nat) (gv : Value) (rs ms : List Int) (t6 : List Value) (b : Nat) (w : World) (hg : g < 4) (hf : f < 4) (hw : Bod w b pc ht rs ms t6) :
    Calls Try.prog 68 #[.pointer (some ⟨b, 0, none⟩), .agg #[.int .i64 k, .int .i64 y, .slice ba bl bc, .int .i64 (p : Int), .int .i64 (g : Int), .int .i64 (f : Int)], gv, .bool false] w fun e w' => e = .returned (.tuple #[]) ∧ Bod w' b pc ht (rs.set g 0) ms t6 ∧ Chg (fun j => j = b) w w' := by
  have hlt : b < w.heap.size := hw.lt
  have hbn : ¬ b = w.heap.size := by omega
  have g0 : (0 : Int) ≤ (g : Int) := by omega
  have g1 : (g : Int) < 4 := by omega
  have f0 : (0 : Int) ≤ (f : Int) := by omega
  have fl : (f : Int) < 4 := by omega
  have HF := hid (hw.keep (below_alloc1 w (.cells #[.int .i64 k, .int .i64 y, .slice ba bl bc, .int .i64 (p : Int), .int .i64 (g : Int), .int .i64 (f : Int)] 30)))
  have CF := hid (Chg.of_below (S := fun j => j = b) (below_alloc1 w (.cells #[.int .i64 k, .int .i64 y, .slice ba bl bc, .int .i64 (p : Int), .int .i64 (g : Int), .int .i64 (f : Int)] 30)))
  have QF := hid (vb_new w [.int .i64 k, .int .i64 y, .slice ba bl bc, .int .i64 (p : Int), .int .i64 (g : Int), .int .i64 (f : Int)] 30)
  clear hw
  go_enter Try.func68, Try.ntmps68
  go_wp2_with fail
  obtain ⟨W0, hW0⟩ : ∃ W, w.alloc (.cells #[.int .i64 k, .int .i64 y, .slice ba bl bc, .int .i64 (p : Int), .int .i64 (g : Int), .int .i64 (f : Int)] 30) = W := ⟨_, rfl⟩
  rw [hW0] at HF CF QF
  try rw [hW0]
  clear hW0
  obtain ⟨z, hz⟩ : ∃ z, (rs).getD g 0 = z := ⟨_, rfl⟩
  have a4 : W0.cell? ⟨w.heap.size, 4, none⟩ = some (.int .i64 (g : Int)) := QF.out.1 4 (by simp)
  have r1 := HF.out.reg hg
  have f1 := HF.out.fr
  have hlb := HF.out.lt
  rw [hz] at r1
  clear hz
  go_wp2_with fail
  go_region
  replace CF := hid ((Chg.trans CF.out ((Chg.refl (fun j => j = b) W0).set (p := ⟨b, 1 + g, none⟩) rfl (.int .i64 0))).dr)
  replace QF := hid ((QF.out.off (c := b) (i := 1 + g) (v := .int .i64 0) hbn).drew)
  replace HF := hid ((HF.out.setR hg 0).dr)
  clear a4 r1 f1 hlb
  obtain ⟨W1, hW1⟩ : ∃ X, (W0.setCell ⟨b, 1 + g, none⟩ (.int .i64 0)).drew = X := ⟨_, rfl⟩
  rw [hW1] at HF CF QF
  try rw [hW1]
  clear hW1
  go_wp2
  refine bodyPost_ret (v := .tuple #[]) (by simp [results, Try.results68, go_sem]) rfl ?_
  exact ⟨rfl, HF.out, CF.out⟩
set_option maxHeartbeats 2000000 in
theorem took_fall (k y pc ht : Int) (p g f : Nat) (ba : Option Addr) (bl bc : Nat) (gv : Value) (got : List Int) (rs ms : List Int) (t6 : List Value) (b : Nat) (w : World) (hgv : Rd w gv got) (hp : p ≤ 255) (hl : 8 < p + got.length) (hg : g < 4) (hf : f < 4) (hw : Bod w b pc ht rs ms t6) :
    Calls Try.prog 68 #[.pointer (some ⟨b, 0, none⟩), .agg #[.int .i64 k, .int .i64 y, .slice ba bl bc, .int .i64 (p : Int), .int .i64 (g : Int), .int .i64 (f : Int)], gv, .bool true] w fun e w' => e = .panicked [{ v := .iface 107 (.agg #[]), recovered := false }] ∧ Bod w' b pc ht rs ms t6 ∧ Chg (fun j => j = b) w w' := by
  obtain ⟨_, hgl, ga, gc, rfl, _⟩ := hgv
  have hlt : b < w.heap.size := hw.lt
  have hbn : ¬ b = w.heap.size := by omega
  have g0 : (0 : Int) ≤ (g : Int) := by omega
  have g1 : (g : Int) < 4 := by omega
  have f0 : (0 : Int) ≤ (f : Int) := by omega
  have fl : (f : Int) < 4 := by omega
  have HF := hid (hw.keep (below_alloc1 w (.cells #[.int .i64 k, .int .i64 y, .slice ba bl bc, .int .i64 (p : Int), .int .i64 (g : Int), .int .i64 (f : Int)] 30)))
  have CF := hid (Chg.of_below (S := fun j => j = b) (below_alloc1 w (.cells #[.int .i64 k, .int .i64 y, .slice ba bl bc, .int .i64 (p : Int), .int .i64 (g : Int), .int .i64 (f : Int)] 30)))
  have QF := hid (vb_new w [.int .i64 k, .int .i64 y, .slice ba bl bc, .int .i64 (p : Int), .int .i64 (g : Int), .int .i64 (f : Int)] 30)
  clear hw
  go_enter Try.func68, Try.ntmps68
  go_wp2_with (go_at_call 108; refine (reach_fall _ _ _ _ hl hp hgl).mono ?_; rintro e w' ⟨rfl, rfl⟩)
  exact ⟨rfl, rfl, HF.out, CF.out⟩
set_option maxHeartbeats 4000000 in
theorem took_yes (k y pc ht : Int) (p g f : Nat) (ba : Option Addr) (bl bc : Nat) (gv : Value) (got : List Int) (rs ms : List Int) (t6 : List Value) (b : Nat) (w : World) (hgv : Rd w gv got) (hgo : 0 < got.length → ∀ j, gv.ownBlock = some j → ¬ j = b) (hl : p + got.length ≤ 8) (hg : g < 4) (hf : f < 4) (hw : Bod w b pc ht rs ms t6) :
    Calls Try.prog 68 #[.pointer (some ⟨b, 0, none⟩), .agg #[.int .i64 k, .int .i64 y, .slice ba bl bc, .int .i64 (p : Int), .int .i64 (g : Int), .int .i64 (f : Int)], gv, .bool true] w fun e w' => e = .returned (.tuple #[]) ∧ Bod w' b pc ht (rs.set g ((got.length : Int) + 1)) (layI ms p got got.length) t6 ∧ Chg (fun j => j = b) w w' := by
  have RG := hid (hgv.keep (below_alloc1 w (.cells #[.int .i64 k, .int .i64 y, .slice ba bl bc, .int .i64 (p : Int), .int .i64 (g : Int), .int .i64 (f : Int)] 30)))
  obtain ⟨_, _, ga, gc, rfl, _⟩ := hgv
  have hlt : b < w.heap.size := hw.lt
  have hbn : ¬ b = w.heap.size := by omega
  have g0 : (0 : Int) ≤ (g : Int) := by omega
  have g1 : (g : Int) < 4 := by omega
  have f0 : (0 : Int) ≤ (f : Int) := by omega
  have fl : (f : Int) < 4 := by omega
  have HF := hid (hw.keep (below_alloc1 w (.cells #[.int .i64 k, .int .i64 y, .slice ba bl bc, .int .i64 (p : Int), .int .i64 (g : Int), .int .i64 (f : Int)] 30)))
  have CF := hid (Chg.of_below (S := fun j => j = b) (below_alloc1 w (.cells #[.int .i64 k, .int .i64 y, .slice ba bl bc, .int .i64 (p : Int), .int .i64 (g : Int), .int .i64 (f : Int)] 30)))
  have QF := hid (vb_new w [.int .i64 k, .int .i64 y, .slice ba bl bc, .int .i64 (p : Int), .int .i64 (g : Int), .int .i64 (f : Int)] 30)
  clear hw
  go_enter Try.func68, Try.ntmps68
  go_wp2_with fail
  obtain ⟨W0, hW0⟩ : ∃ W, w.alloc (.cells #[.int .i64 k, .int .i64 y, .slice ba bl bc, .int .i64 (p : Int), .int .i64 (g : Int), .int .i64 (f : Int)] 30) = W := ⟨_, rfl⟩
  rw [hW0] at HF CF QF RG
  try rw [hW0]
  clear hW0
  refine (reach_ok _ _ _ _ hl).mono ?_
  rintro e w' ⟨rfl, rfl⟩
  have HN : Hid (layI ms p got 0 = ms) := hid rfl
  rw [← HN.out] at HF
  clear HN
  go_wp2_with fail
  go_loopw [26] (fun i wr => ∃ kk : Nat, kk ≤ got.length ∧ i = .int .i64 (kk : Int) ∧ Bod wr b pc ht rs (layI ms p got kk) t6 ∧ Chg (fun j => j = b) w wr ∧ VB wr w.heap.size [.int .i64 k, .int .i64 y, .slice ba bl bc, .int .i64 (p : Int), .int .i64 (g : Int), .int .i64 (f : Int)] ∧ Below w'.heap.size w' w' ∧ Chg (fun j => j = b) w' wr) (fun i _ => got.length - (intOf i).toNat)
  case atStart => exact ⟨0, Nat.zero_le _, rfl, HF.out, CF.out, QF.out, Below.refl _ _, Chg.refl _ _⟩
  case round =>
    obtain ⟨kk, hkk, rfl, hF, hC, hQ, -, hC2⟩ := hrel
    have HF := hid hF
    have CF := hid hC
    have QF := hid hQ
    have C2 := hid hC2
    clear hF hC hQ hC2
    by_cases hlt2 : kk < got.length
    · obtain ⟨rb, _, ga', gc', he, h3⟩ := RG.out
      simp only [Value.slice.injEq, true_and] at he
      obtain ⟨rfl, rfl⟩ := he
      obtain ⟨B, off, rfl, hc⟩ : ∃ B off, ga = some ⟨B, off, none⟩ ∧ ∀ i, i < got.length → w'.cell? ⟨B, off + i, none⟩ = some (.int .u8 (got.getD i 0)) := by
        rcases h3 with h3 | h3
        · rw [h3] at hlt2; simp at hlt2
        · exact h3
      have hBb : ¬ B = b := hgo (by omega) B rfl
      have c0 := C2.out.cell (p := ⟨B, off + kk, none⟩) (fun e => hBb e) (hc kk hlt2)
      have hin : got.getD kk 0 ∈ got := by rw [List.getD_eq_getElem?_getD, List.getElem?_eq_getElem hlt2]; exact List.getElem_mem hlt2
      have HL := hid (show layI ms p got (kk + 1) = (layI ms p got kk).set (p + kk) (got.getD kk 0) from rfl)
      obtain ⟨q, hq⟩ : ∃ q, got.getD kk 0 = q := ⟨_, rfl⟩
      rw [hq] at c0 HL
      have hqr : 0 ≤ q ∧ q ≤ 255 := by rw [← hq]; exact rb _ hin
      have hw8 : IntKind.i64.wrap q = q := by rw [IntKind.wrap_i64]; omega
      have k0 : (0 : Int) ≤ (kk : Int) := by omega
      have k1 : (kk : Int) < (got.length : Int) := by omega
      have qk : IntKind.i64.wrap ((kk : Int) + 1) = ((kk + 1 : Nat) : Int) := by rw [IntKind.wrap_i64]; omega
      clear h3 rb hc hin hq hqr
      go_wp2_with fail
      obtain ⟨m, hm⟩ : ∃ m, p + kk = m := ⟨_, rfl⟩
      rw [hm] at HL
      have qm : IntKind.i64.wrap ((p : Int) + (kk : Int)) = (m : Int) := by rw [IntKind.wrap_i64]; omega
      have m8 : m < 8 := by omega
      have m0 : (0 : Int) ≤ (m : Int) := by omega
      have m1 : (m : Int) < 8 := by omega
      have a3 : wr.cell? ⟨w.heap.size, 3, none⟩ = some (.int .i64 (p : Int)) := QF.out.1 3 (by simp)
      obtain ⟨z, hz⟩ : ∃ z, (layI ms p got kk).getD m 0 = z := ⟨_, rfl⟩
      have r1 := HF.out.mem m8
      have f1 := HF.out.fr
      have hlb := HF.out.lt
      rw [hz] at r1
      clear hz hm c0
      go_region
      have HF2 := hid ((HF.out.setM m8 q).dr)
      have CF2 := hid ((Chg.trans CF.out ((Chg.refl (fun j => j = b) wr).set (p := ⟨b, 5 + m, none⟩) rfl (.int .i64 q))).dr)
      have C22 := hid ((Chg.trans C2.out ((Chg.refl (fun j => j = b) wr).set (p := ⟨b, 5 + m, none⟩) rfl (.int .i64 q))).dr)
      have QF2 := hid ((QF.out.off (c := b) (i := 5 + m) (v := .int .i64 q) hbn).drew)
      rw [← HL.out] at HF2
      clear a3 r1 f1 hlb HL qm m0 m1
      go_wp2_with fail
      go_roundw
      case rel => exact ⟨kk + 1, by omega, rfl, HF2.out, CF2.out, QF2.out, Below.refl _ _, C22.out⟩
      case measure => simp [intOf]; omega
    · obtain rfl : kk = got.length := by omega
      clear hlt2 hkk C2
      have ql : IntKind.i64.wrap ((got.length : Int) + 1) = (got.length : Int) + 1 := by rw [IntKind.wrap_i64]; omega
      obtain ⟨z, hz⟩ : ∃ z, rs.getD g 0 = z := ⟨_, rfl⟩
      have a4 : wr.cell? ⟨w.heap.size, 4, none⟩ = some (.int .i64 (g : Int)) := QF.out.1 4 (by simp)
      have r1 := HF.out.reg hg
      have f1 := HF.out.fr
      have hlb := HF.out.lt
      rw [hz] at r1
      clear hz
      go_wp2_with fail
      go_region
      have HF2 := hid ((HF.out.setR hg ((got.length : Int) + 1)).dr)
      have CF2 := hid ((Chg.trans CF.out ((Chg.refl (fun j => j = b) wr).set (p := ⟨b, 1 + g, none⟩) rfl (.int .i64 ((got.length : Int) + 1)))).dr)
      clear a4 r1 f1 hlb
      go_wp2
      go_end0
      exact ⟨rfl, HF2.out, CF2.out⟩
end Go.Proofs.Ytbpomeegpkdekaa
