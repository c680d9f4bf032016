/- What draws a label's text: some text, and nothing old is written into. -/
import Derived.Test.YtjblhjnicoggaaaDrawLbl3
import Derived.Test.YtjblhjnicoggaaaLblRd
namespace Go.Proofs.Ytjblhjnicoggaaa
open Go.ChangeShapes Go.WideShapes Go.ChangeAt Go.RowKit Go.Joins Go.Deep
set_option linter.unusedVariables false

set_option maxHeartbeats 4000000 in
theorem drawText_any (a : Option Addr) (len cap : Nat) (xs : List Int) (w : World) (hn : xs.length = len) (hv : Rd w (.slice a len cap) xs) (hcap : len ≤ cap) :
    Calls Try.prog 24 #[.slice a len cap] w fun e w' => ∃ l m : Int, e = .returned (.agg #[.int .i64 l, .int .i64 m]) ∧ Below w.heap.size w w' := by
  have HV := hid (hv.keep (below_alloc1 w (.cells #[.int .i64 0, .int .i64 0] 24)))
  clear hv
  go_enter Try.func24, Try.ntmps24
  go_wp2_with fail
  refine (open_any a len cap xs _ hn HV.out hcap).mono ?_
  rintro e w0 ⟨rfl, rd, bl, hz⟩
  have RD0 := hid rd
  have BL0 := hid (Below.trans (below_alloc1 w (.cells #[.int .i64 0, .int .i64 0] 24)) (bl.mono (by simp <;> omega)))
  have a0 : w0.cell? ⟨w.heap.size, 0, none⟩ = some (.int .i64 0) := cell_keep bl (by go_simp)
  have fa0 : w0.frozen? ⟨w.heap.size, 0, none⟩ = false := (bl.frozen (p := ⟨w.heap.size, 0, none⟩) (by simp <;> omega)).trans (by go_simp)
  have a1 : w0.cell? ⟨w.heap.size, 1, none⟩ = some (.int .i64 0) := cell_keep bl (by go_simp)
  have fa1 : w0.frozen? ⟨w.heap.size, 1, none⟩ = false := (bl.frozen (p := ⟨w.heap.size, 1, none⟩) (by simp <;> omega)).trans (by go_simp)
  simp at hz
  have RD0 : Hid (Rdr _ w0 (w.heap.size + 1) 0) := hid (by simpa using RD0.out)
  clear rd bl HV
  go_wp2_with fail
  refine (label_any _ w0 _ 0 RD0.out (by omega)).mono ?_
  rintro e w1 ⟨l1, m1, rfl, hl1, hm1, ⟨q, hq, rd⟩, gr⟩
  have BL1 := hid (Below.trans BL0.out (below_grown (n := w.heap.size) gr (by omega) (by omega)))
  have a0 := gr.cell a0 (by simp <;> omega)
  have fa0 := gfrozen gr (by simp <;> omega) (by simp <;> omega) fa0
  have a1 := gr.cell a1 (by simp <;> omega)
  have fa1 := gfrozen gr (by simp <;> omega) (by simp <;> omega) fa1
  clear rd gr
  obtain ⟨q0, q1⟩ := set2 (a := .int .i64 l1) (b := .int .i64 m1) a0 a1
  go_wp2
  refine bodyPost_ret (v := .agg #[.int .i64 l1, .int .i64 m1]) (by simp [results, Try.results24, go_sem, q0, q1]) rfl ?_
  exact ⟨l1, m1, rfl, (BL1.out.setCell (by simp <;> omega) _).setCell (by simp <;> omega) _⟩

theorem gdrewN {a b : World} {g n : Nat} (h : a.grownBy b (some g)) : a.grownBy (b.drewN n) (some g) := ⟨h.os, h.tape, h.output, h.size, h.block⟩
theorem seven_cell (P : Nat → Prop) (i : Int) (h0 : 0 ≤ i) (h1 : i < 7) (c : P 0 ∧ P 1 ∧ P 2 ∧ P 3 ∧ P 4 ∧ P 5 ∧ P 6) : P i.toNat := by
  obtain ⟨n, rfl⟩ := Int.eq_ofNat_of_zero_le h0
  rw [Int.toNat_natCast]
  match n, (show n < 7 by omega) with
  | 0, _ => exact c.1
  | 1, _ => exact c.2.1
  | 2, _ => exact c.2.2.1
  | 3, _ => exact c.2.2.2.1
  | 4, _ => exact c.2.2.2.2.1
  | 5, _ => exact c.2.2.2.2.2.1
  | 6, _ => exact c.2.2.2.2.2.2

set_option maxHeartbeats 4000000 in
theorem bent_any (s : ByteArray) (W w : World) (g p : Nat) (hs : s.size ≤ 1000) (hr : Rdr W w g p) (hp : p < 999000) :
    Calls Try.prog 42 #[.pointer (some ⟨g, 0, none⟩), .string s] w fun e w' => ∃ t : ByteArray, e = .returned (.string t) ∧ w.grownBy w' (some g) := by
  have RD := hid hr
  have hg : g < w.heap.size := by
    obtain ⟨v, xs, _, _, _, h, _⟩ := hr
    exact World.block_lt_of_cell? w ⟨g, 0, none⟩ h
  clear hr
  have hs' : (s.size : Int) ≤ 1000 := by omega
  have n0 : ¬ w.heap.size = g := by omega
  go_enter Try.func42, Try.ntmps42
  go_wp2_with fail
  refine (pick_any ((s.size : Int) + 1) W _ g p RD.out (by omega) (by omega) (by omega)).mono ?_
  rintro e w1 ⟨k, rfl, k0, k1, rd, hc1, hf1, hz1, gr1⟩
  have RD1 := hid rd
  have GR1 := hid gr1
  clear rd gr1 hc1 hf1
  go_wp2_with fail
  refine (pick_any 256 W _ g (p + 1) RD1.out (by omega) (by omega) (by omega)).mono ?_
  rintro e w2 ⟨x2, rfl, l2, u2, rd, hc2, hf2, hz2, gr2⟩
  have RD2 := hid rd
  have GR2 := hid gr2
  clear rd gr2 hc2 hf2
  rw [hz1] at hz2
  have RD2 := hid (RD2.out.keep (below_alloc1 w2 (.cells #[.int .i64 32, .int .i64 48, .int .i64 97, .int .i64 45, .int .i64 122, .int .i64 0, .int .i64 x2] 3)))
  go_wp2_with fail
  refine (pick_any 7 W _ g (p + 1 + 1) RD2.out (by omega) (by omega) (by omega)).mono ?_
  rintro e w3 ⟨x3, rfl, l3, u3, rd, hc3, hf3, hz3, gr3⟩
  have RD3 := hid rd
  have GR3 := hid gr3
  clear rd gr3
  simp at hz3
  rw [hz2] at hz3
  obtain ⟨m, hm, m0, m1⟩ : ∃ m : Int, w3.cell? ⟨w.heap.size, x3.toNat, none⟩ = some (.int .i64 m) ∧ 0 ≤ m ∧ m ≤ 255 := by
    refine seven_cell (fun i => ∃ m : Int, w3.cell? ⟨w.heap.size, i, none⟩ = some (.int .i64 m) ∧ 0 ≤ m ∧ m ≤ 255) x3 l3 u3 ⟨⟨32, ?_, by omega, by omega⟩, ⟨48, ?_, by omega, by omega⟩, ⟨97, ?_, by omega, by omega⟩, ⟨45, ?_, by omega, by omega⟩, ⟨122, ?_, by omega, by omega⟩, ⟨0, ?_, by omega, by omega⟩, ⟨x2, ?_, by omega, by omega⟩⟩
    all_goals
      rw [hc3 _ _ n0]
      go_simp
  clear hc3 hf3
  obtain ⟨C, hC⟩ : ∃ C : ByteArray, C = ⟨#[m.toNat.toUInt8]⟩ := ⟨_, rfl⟩
  have hCs : C.size = 1 := by subst hC; rfl
  have hcv : Sem.run Try.prog (convert 22 9 (.slice (some ⟨w.heap.size + 1, 0, none⟩) 1 1)) (w3.alloc (.cells #[.int .u8 m] 5)) = .ok (.string C) (w3.alloc (.cells #[.int .u8 m] 5)) := by
    have h := conv1 w3 m.toNat (by omega)
    rw [hz3, Int.toNat_of_nonneg m0] at h
    rw [hC]; exact h
  clear hC
  have RD3 := hid (RD3.out.keep (below_alloc1 w3 (.cells #[.int .u8 m] 5)))
  have G3 := hid (galloc (gtrans (galloc (gtrans GR1.out GR2.out) (.cells #[.int .i64 32, .int .i64 48, .int .i64 97, .int .i64 45, .int .i64 122, .int .i64 0, .int .i64 x2] 3)) GR3.out) (.cells #[.int .u8 m] 5))
  clear GR1 GR2 GR3 RD1 RD2 RD
  go_wp2_with fail
  refine (pick_any 3 W _ g (p + 1 + 1 + 1) RD3.out (by omega) (by omega) (by omega)).mono ?_
  rintro e w4 ⟨x4, rfl, l4, u4, rd, hc4, hf4, hz4, gr4⟩
  have RD4 := hid rd
  have G4 := hid (gtrans G3.out gr4)
  clear rd gr4 G3 RD3 hc4 hf4 hcv hm
  obtain ⟨K, rfl⟩ : ∃ K : Nat, k = K := ⟨k.toNat, by omega⟩
  have hK : K ≤ s.size := by omega
  by_cases e4 : x4 = 0
  · subst e4
    go_wp2_with fail
    go_quiet (fail)
    go_wp2
    go_ret
    exact ⟨_, rfl, gdrewN G4.out⟩
  · by_cases e5 : K = s.size
    · subst e5
      go_wp2_with fail
      go_ret
      exact ⟨_, rfl, G4.out⟩
    · have hK' : K < s.size := by omega
      have e5' : ¬ (K : Int) = (s.size : Int) := by omega
      go_wp2_with fail
      refine (pick_any 2 W _ g (p + 1 + 1 + 1 + 1) RD4.out (by omega) (by omega) (by omega)).mono ?_
      rintro e w5 ⟨x5, rfl, l5, u5, rd, hc5, hf5, hz5, gr5⟩
      have G5 := hid (gtrans G4.out gr5)
      clear rd gr5 G4 RD4 hc5 hf5
      by_cases e6 : x5 = 0
      · subst e6
        go_wp2_with fail
        go_quiet (fail)
        go_wp2
        go_ret
        exact ⟨_, rfl, gdrewN G5.out⟩
      · go_wp2_with fail
        go_quiet (fail)
        go_wp2
        go_ret
        exact ⟨_, rfl, gdrewN G5.out⟩

set_option maxHeartbeats 4000000 in
theorem drawRead_any (a : Option Addr) (len cap : Nat) (xs : List Int) (w : World) (hn : xs.length = len) (hv : Rd w (.slice a len cap) xs) (hcap : len ≤ cap) :
    Calls Try.prog 27 #[.slice a len cap] w fun e w' => ∃ t : ByteArray, e = .returned (.string t) ∧ Below w.heap.size w w' := by
  have HV := hid hv
  clear hv
  go_enter Try.func27, Try.ntmps27
  go_wp2_with fail
  refine (open_any a len cap xs _ hn HV.out hcap).mono ?_
  rintro e w0 ⟨rfl, rd, bl, hz⟩
  have RD0 := hid rd
  have BL0 := hid bl
  clear rd bl HV
  go_wp2_with fail
  refine (pick_any 4 _ _ _ 0 RD0.out (by omega) (by omega) (by omega)).mono ?_
  rintro e w1 ⟨x1, rfl, l1, u1, rd, hc1, hf1, hz1, gr1⟩
  have RD1 := hid rd
  have BL1 := hid (Below.trans BL0.out (below_grown (n := w.heap.size) gr1 (by omega) (by omega)))
  clear rd gr1 hc1 hf1 RD0 BL0
  go_wp2_with fail
  refine (pick_any 16 _ _ _ 1 RD1.out (by omega) (by omega) (by omega)).mono ?_
  rintro e w2 ⟨x2, rfl, l2, u2, rd, hc2, hf2, hz2, gr2⟩
  have RD2 := hid rd
  have BL2 := hid (Below.trans BL1.out (below_grown (n := w.heap.size) gr2 (by omega) (by omega)))
  clear rd gr2 hc2 hf2 RD1 BL1
  go_wp2_with fail
  refine (specText_any _ _ _).mono ?_
  rintro e w3 ⟨rfl, b3⟩
  have RD3 := hid (RD2.out.keep b3)
  have BL3 := hid (BL2.out.trans (b3.mono (by omega)))
  have hz3 := b3.size
  have hts : (lblTxt x1 x2).size ≤ 1000 := by
    unfold lblTxt
    split
    · have := txtL_len x1.toNat x2.toNat 4 (by omega)
      simp [ByteArray.size]; omega
    · simp [ByteArray.size]
  clear b3 RD2 BL2
  go_wp2_with fail
  refine (pick_any 2 _ _ _ 2 RD3.out (by omega) (by omega) (by omega)).mono ?_
  rintro e w4 ⟨x4, rfl, l4, u4, rd, hc4, hf4, hz4, gr4⟩
  have RD4 := hid rd
  have BL4 := hid (Below.trans BL3.out (below_grown (n := w.heap.size) gr4 (by omega) (by omega)))
  clear rd gr4 hc4 hf4 RD3 BL3
  by_cases e4 : x4 = 0
  · subst e4
    go_wp2_with fail
    refine (bent_any _ _ _ _ 3 hts RD4.out (by omega)).mono ?_
    rintro e w5 ⟨t, rfl, gr5⟩
    have BL5 := hid (Below.trans BL4.out (below_grown (n := w.heap.size) gr5 (by omega) (by omega)))
    go_wp2
    go_ret
    exact ⟨_, rfl, BL5.out⟩
  · go_wp2
    go_ret
    exact ⟨_, rfl, BL4.out⟩
end Go.Proofs.Ytjblhjnicoggaaa
