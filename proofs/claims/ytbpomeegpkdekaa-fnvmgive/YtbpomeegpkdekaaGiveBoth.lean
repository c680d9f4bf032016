/- VmGive: both contracts as one. Conditions: the lists read. -/
import Derived.Test.YtbpomeegpkdekaaGiveC
import Derived.Test.YtbpomeegpkdekaaGiveS
namespace Go.Proofs.Ytbpomeegpkdekaa
open Go.ChangeShapes Go.WideShapes Go.ChangeAt Go.RowKit Go.Joins Go.Deep
set_option linter.unusedVariables false
set_option linter.unusedSimpArgs false
set_option maxRecDepth 4000
theorem gvB_of {pc : Int} {nr nm : Nat} {xs ys got : List Int} {ht k y t g f : Int} {bl : Nat} (h : gvB pc nr xs nm ys ht k y bl t g f got = true) : nr = 4 ∧ nm = 8 ∧ (0 ≤ t ∧ t ≤ 255) ∧ (0 ≤ g ∧ g ≤ 3) ∧ (0 ≤ f ∧ f ≤ 3) := by
  simp only [gvB, vmB, askB, Bool.and_eq_true, beq_iff_eq] at h
  obtain ⟨⟨_, h1, _, h2, _⟩, ⟨_, _, _, h3, h4, h5⟩, _⟩ := h
  simp only [inB, Bool.and_eq_true, decide_eq_true_eq] at h3 h4 h5
  exact ⟨h1, h2, by omega, by omega, by omega⟩
set_option maxHeartbeats 1000000 in
theorem vmGive_any (pc ht k y t g f : Int) (ba : Option Addr) (bc : Nat) (bs : List Int) (gv : Value) (got : List Int) (yes : Bool) (u v : Value) (nr nm : Nat) (xs ys : List Int) (w : World) (hu : RdI 1 w u nr xs) (hv : RdI 1 w v nm ys) (hb : Rd w (.slice ba bs.length bc) bs) (hgv : Rd w gv got) :
    Calls Try.prog 21 #[.agg #[.int .i64 pc, u, v, .int .i64 ht], .agg #[.int .i64 k, .int .i64 y, .slice ba bs.length bc, .int .i64 t, .int .i64 g, .int .i64 f], gv, .bool yes] w fun e w' => GivePost (gvB pc nr xs nm ys ht k y bs.length t g f got) pc (gvH ht k t.toNat yes got) (gvR ht k t.toNat g.toNat f.toNat yes got xs) (gvM ht k t.toNat yes got ys) w e w' := by
  cases hok : (gvB pc nr xs nm ys ht k y bs.length t g f got)
  · have := give_bad pc ht k y t g f ba bc bs gv got yes u v nr nm xs ys w hu hv hb hgv hok
    rw [hok] at this
    exact this
  · obtain ⟨rfl, rfl, ⟨t0, t1⟩, ⟨g0, g1⟩, ⟨f0, f1⟩⟩ := gvB_of hok
    obtain ⟨p, rfl⟩ := Int.eq_ofNat_of_zero_le t0
    obtain ⟨g, rfl⟩ := Int.eq_ofNat_of_zero_le g0
    obtain ⟨f, rfl⟩ := Int.eq_ofNat_of_zero_le f0
    have hg : g < 4 := by omega
    have hf : f < 4 := by omega
    have hp : p ≤ 255 := by omega
    simp only [Int.toNat_natCast]
    by_cases h0 : ht = 0
    · by_cases h1 : k = 1
      · rw [show gvH ht k p yes got = 0 by simp [gvH, h0, h1], show gvR ht k p g f yes got xs = xs.set g (snI yes) by simp [gvR, h0, h1], show gvM ht k p yes got ys = ys by simp [gvM, h0, h1]]
        exact give_sends pc ht k y p g f ba bc bs gv got yes u v xs ys w hu hv hb hgv hg hf hp h0 h1 hok
      · by_cases h2 : k = 2
        · cases yes
          · rw [show gvH ht k p false got = 0 by simp [gvH, h0], show gvR ht k p g f false got xs = xs.set g 0 by simp [gvR, h0, h2], show gvM ht k p false got ys = ys by simp [gvM]]
            exact give_no pc ht k y p g f ba bc bs gv got u v xs ys w hu hv hb hgv hg hf hp h0 h2 hok
          · by_cases hl : p + got.length ≤ 8
            · rw [show gvH ht k p true got = 0 by simp [gvH, h0, hl], show gvR ht k p g f true got xs = xs.set g ((got.length : Int) + 1) by simp [gvR, h0, h2, hl], show gvM ht k p true got ys = layI ys p got got.length by simp [gvM, h0, h2, hl]]
              exact give_yes pc ht k y p g f ba bc bs gv got u v xs ys w hu hv hb hgv hg hf hp h0 h2 hl hok
            · rw [show gvH ht k p true got = 2 by simp [gvH, h0, h2, hl], show gvR ht k p g f true got xs = xs by simp [gvR, h0, h2, hl], show gvM ht k p true got ys = ys by simp [gvM, hl]]
              exact give_fall pc ht k y p g f ba bc bs gv got u v xs ys w hu hv hb hgv hg hf hp h0 h2 (by omega) hok
        · by_cases h3 : k = 3
          · rw [show gvH ht k p yes got = 0 by simp [gvH, h0, h2], show gvR ht k p g f yes got xs = (xs.set g (rdF yes got)).set f (rdG yes got) by simp [gvR, h0, h3], show gvM ht k p yes got ys = ys by simp [gvM, h2]]
            exact give_reads pc ht k y p g f ba bc bs gv got yes u v xs ys w hu hv hb hgv hg hf hp h0 h3 hok
          · rw [show gvH ht k p yes got = 0 by simp [gvH, h0, h2], show gvR ht k p g f yes got xs = xs by simp [gvR, h0, h1, h2, h3], show gvM ht k p yes got ys = ys by simp [gvM, h2]]
            exact give_other pc ht k y p g f ba bc bs gv got yes u v xs ys w hu hv hb hgv hg hf hp h0 h1 h2 h3 hok
    · rw [show gvH ht k p yes got = ht by simp [gvH, h0], show gvR ht k p g f yes got xs = xs by simp [gvR, h0], show gvM ht k p yes got ys = ys by simp [gvM, h0]]
      exact give_halted pc ht k y p g f ba bc bs gv got yes u v xs ys w hu hv hb hgv hg hf hp h0 hok
set_option maxHeartbeats 1000000 in
theorem specVmGive_any (pc ht k y t g f : Int) (ba : Option Addr) (bc : Nat) (bs : List Int) (gv : Value) (got : List Int) (yes : Bool) (u v : Value) (nr nm : Nat) (xs ys : List Int) (w : World) (hu : RdI 1 w u nr xs) (hv : RdI 1 w v nm ys) (hb : Rd w (.slice ba bs.length bc) bs) (hgv : Rd w gv got) :
    Calls Try.prog 24 #[.agg #[.int .i64 pc, u, v, .int .i64 ht], .agg #[.int .i64 k, .int .i64 y, .slice ba bs.length bc, .int .i64 t, .int .i64 g, .int .i64 f], gv, .bool yes] w fun e w' => GivePost (gvB pc nr xs nm ys ht k y bs.length t g f got) pc (gvH ht k t.toNat yes got) (gvR ht k t.toNat g.toNat f.toNat yes got xs) (gvM ht k t.toNat yes got ys) w e w' := by
  cases hok : (gvB pc nr xs nm ys ht k y bs.length t g f got)
  · have := sgive_bad pc ht k y t g f ba bc bs gv got yes u v nr nm xs ys w hu hv hb hgv hok
    rw [hok] at this
    exact this
  · obtain ⟨rfl, rfl, ⟨t0, t1⟩, ⟨g0, g1⟩, ⟨f0, f1⟩⟩ := gvB_of hok
    obtain ⟨p, rfl⟩ := Int.eq_ofNat_of_zero_le t0
    obtain ⟨g, rfl⟩ := Int.eq_ofNat_of_zero_le g0
    obtain ⟨f, rfl⟩ := Int.eq_ofNat_of_zero_le f0
    have hg : g < 4 := by omega
    have hf : f < 4 := by omega
    have hp : p ≤ 255 := by omega
    simp only [Int.toNat_natCast]
    by_cases h0 : ht = 0
    · by_cases h1 : k = 1
      · rw [show gvH ht k p yes got = 0 by simp [gvH, h0, h1], show gvR ht k p g f yes got xs = xs.set g (snI yes) by simp [gvR, h0, h1], show gvM ht k p yes got ys = ys by simp [gvM, h0, h1]]
        cases yes
        · exact sgive_sends0 pc ht k y p g f ba bc bs gv got u v xs ys w hu hv hb hgv hg hf hp h0 h1 hok
        · exact sgive_sends1 pc ht k y p g f ba bc bs gv got u v xs ys w hu hv hb hgv hg hf hp h0 h1 hok
      · by_cases h2 : k = 2
        · cases yes
          · rw [show gvH ht k p false got = 0 by simp [gvH, h0], show gvR ht k p g f false got xs = xs.set g 0 by simp [gvR, h0, h2], show gvM ht k p false got ys = ys by simp [gvM]]
            exact sgive_no pc ht k y p g f ba bc bs gv got u v xs ys w hu hv hb hgv hg hf hp h0 h2 hok
          · by_cases hl : p + got.length ≤ 8
            · rw [show gvH ht k p true got = 0 by simp [gvH, h0, hl], show gvR ht k p g f true got xs = xs.set g ((got.length : Int) + 1) by simp [gvR, h0, h2, hl], show gvM ht k p true got ys = layI ys p got got.length by simp [gvM, h0, h2, hl]]
              exact sgive_yes pc ht k y p g f ba bc bs gv got u v xs ys w hu hv hb hgv hg hf hp h0 h2 hl hok
            · rw [show gvH ht k p true got = 2 by simp [gvH, h0, h2, hl], show gvR ht k p g f true got xs = xs by simp [gvR, h0, h2, hl], show gvM ht k p true got ys = ys by simp [gvM, hl]]
              exact sgive_fall pc ht k y p g f ba bc bs gv got u v xs ys w hu hv hb hgv hg hf hp h0 h2 (by omega) hok
        · by_cases h3 : k = 3
          · rw [show gvH ht k p yes got = 0 by simp [gvH, h0, h2], show gvR ht k p g f yes got xs = (xs.set g (rdF yes got)).set f (rdG yes got) by simp [gvR, h0, h3], show gvM ht k p yes got ys = ys by simp [gvM, h2]]
            cases yes
            · exact sgive_reads0 pc ht k y p g f ba bc bs gv got u v xs ys w hu hv hb hgv hg hf hp h0 h3 hok
            · rcases Nat.eq_zero_or_pos got.length with hl | hl
              · exact sgive_reads1 pc ht k y p g f ba bc bs gv got u v xs ys w hu hv hb hgv hg hf hp h0 h3 hl hok
              · exact sgive_reads2 pc ht k y p g f ba bc bs gv got u v xs ys w hu hv hb hgv hg hf hp h0 h3 hl hok
          · rw [show gvH ht k p yes got = 0 by simp [gvH, h0, h2], show gvR ht k p g f yes got xs = xs by simp [gvR, h0, h1, h2, h3], show gvM ht k p yes got ys = ys by simp [gvM, h2]]
            exact sgive_other pc ht k y p g f ba bc bs gv got yes u v xs ys w hu hv hb hgv hg hf hp h0 h1 h2 h3 hok
    · rw [show gvH ht k p yes got = ht by simp [gvH, h0], show gvR ht k p g f yes got xs = xs by simp [gvR, h0], show gvM ht k p yes got ys = ys by simp [gvM, h0]]
      exact sgive_halted pc ht k y p g f ba bc bs gv got yes u v xs ys w hu hv hb hgv hg hf hp h0 hok
end Go.Proofs.Ytbpomeegpkdekaa
