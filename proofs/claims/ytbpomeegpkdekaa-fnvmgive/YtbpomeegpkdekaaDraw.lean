/- The contract of the draws' pick: a number from 0 to n-1, and the reader one place further. Conditions: the reader lies as it was opened, has picked fewer than a million times, and n lies in 1..1000000. -/
import Derived.Test.YtbpomeegpkdekaaBytes
namespace Go.Proofs.Ytbpomeegpkdekaa
open Go.ChangeShapes Go.WideShapes Go.ChangeAt Go.RowKit Go.Joins Go.Deep
set_option linter.unusedVariables false

/-- a reader in block g, opened over bytes that lay in the world W, that has picked p times -/
def Rdr (W w : World) (g p : Nat) : Prop := ∃ v xs, Rd W v xs ∧ Below W.heap.size W w ∧ W.heap.size ≤ g ∧ w.cell? ⟨g, 0, none⟩ = some v ∧ w.cell? ⟨g, 1, none⟩ = some (.int .i64 p) ∧ w.frozen? ⟨g, 1, none⟩ = false

theorem Rdr.keep {W w w' : World} {g p : Nat} (h : Rdr W w g p) (hb : Below w.heap.size w w') : Rdr W w' g p := by
  obtain ⟨v, xs, h1, h2, h3, h4, h5, h6⟩ := h
  have hlt : g < w.heap.size := World.block_lt_of_cell? w ⟨g, 0, none⟩ h4
  exact ⟨v, xs, h1, h2.trans (hb.mono h2.size), h3, cell_keep hb h4, cell_keep hb h5, (hb.frozen (p := ⟨g, 1, none⟩) hlt).trans h6⟩
theorem gtrans {a b c : World} {g : Nat} (h : a.grownBy b (some g)) (k : b.grownBy c (some g)) : a.grownBy c (some g) :=
  ⟨k.os.trans h.os, k.tape.trans h.tape, k.output.trans h.output, Nat.le_trans h.size k.size, fun i hi hne => (k.block i (Nat.lt_of_lt_of_le hi h.size) hne).trans (h.block i hi hne)⟩
theorem grefl (a : World) (g : Nat) : a.grownBy a (some g) := ⟨rfl, rfl, rfl, Nat.le_refl _, fun _ _ _ => rfl⟩
theorem galloc {a b : World} {g : Nat} (h : a.grownBy b (some g)) (o : Obj) : a.grownBy (b.alloc o) (some g) :=
  ⟨h.os, h.tape, h.output, by simp; exact Nat.le_succ_of_le h.size, fun i hi hne => (Below.heap_alloc _ _ _ (Nat.lt_of_lt_of_le hi h.size)).trans (h.block i hi hne)⟩
theorem gset {a b : World} {g : Nat} (h : a.grownBy b (some g)) {q : Addr} (hq : a.heap.size ≤ q.block) (v : Value) : a.grownBy (b.setCell q v) (some g) :=
  ⟨h.os, h.tape, h.output, by simpa [World.setCell] using h.size, fun i hi hne => (Below.heap_setCell _ _ _ _ (by omega)).trans (h.block i hi hne)⟩
theorem rem_in (x n : Int) (h0 : 0 ≤ x) (h1 : 1 ≤ n) : 0 ≤ x.tmod n ∧ x.tmod n < n := by
  rw [Int.tmod_eq_emod_of_nonneg h0]
  exact ⟨Int.emod_nonneg _ (by omega), Int.emod_lt_of_pos _ (by omega)⟩
theorem xor_nonneg (a b : Int) (ha : 0 ≤ a) (hb : 0 ≤ b) (a1 : a < 4611686018427387904) (b1 : b < 4611686018427387904) : 0 ≤ bits .xor .i64 a b := by
  obtain ⟨A, rfl⟩ := Int.eq_ofNat_of_zero_le ha
  obtain ⟨B, rfl⟩ := Int.eq_ofNat_of_zero_le hb
  have hx : A ^^^ B < 2 ^ 62 := Nat.xor_lt_two_pow (by omega) (by omega)
  show 0 ≤ IntKind.i64.wrap ((BitVec.ofInt 64 (A : Int) ^^^ BitVec.ofInt 64 (B : Int)).toNat : Int)
  rw [BitVec.toNat_xor, ofInt_u64 A (by omega), ofInt_u64 B (by omega)]
  simp [IntKind.wrap, IntKind.bits, IntKind.signed]
  omega

theorem pick_end {W w w' : World} {g p : Nat} (hr : Rdr W w g p) (hh : w'.heap = (w.setCell ⟨g, 1, none⟩ (.int .i64 ((p : Int) + 1))).heap) (h1 : w'.os = w.os) (h2 : w'.tape = w.tape) (h3 : w'.output = w.output) :
    Rdr W w' g (p + 1) ∧ (∀ b o, ¬ b = g → w'.cell? ⟨b, o, none⟩ = w.cell? ⟨b, o, none⟩) ∧ (∀ b o, ¬ b = g → w'.frozen? ⟨b, o, none⟩ = w.frozen? ⟨b, o, none⟩) ∧ w'.heap.size = w.heap.size ∧ w.grownBy w' (some g) := by
  obtain ⟨v, xs, hv, hB, hg, hc0, hc1, hf1⟩ := hr
  have hcell : ∀ a, w'.cell? a = (w.setCell ⟨g, 1, none⟩ (.int .i64 ((p : Int) + 1))).cell? a := fun a => by simp only [World.cell?, hh]
  have hfroz : ∀ a, w'.frozen? a = (w.setCell ⟨g, 1, none⟩ (.int .i64 ((p : Int) + 1))).frozen? a := fun a => by simp only [World.frozen?, hh]
  have hblk : ∀ b, ¬ b = g → w'.heap[b]? = w.heap[b]? := fun b hb => by rw [hh]; exact Below.heap_setCell _ _ _ _ hb
  have hsz : w'.heap.size = w.heap.size := by rw [hh]; simp [World.setCell]
  refine ⟨⟨v, xs, hv, ?_, hg, ?_, ?_, ?_⟩, fun b o hb => World.cell?_of_block (w := w) (w' := w') (a := ⟨b, o, none⟩) (hblk b hb), fun b o hb => World.frozen?_of_block (w := w) (w' := w') (a := ⟨b, o, none⟩) (hblk b hb), hsz, ⟨h1, h2, h3, by omega, fun k _ hk => hblk k (by simpa using hk)⟩⟩
  · exact hB.trans ⟨h1, h2, h3, by omega, fun k hk => hblk k (by omega)⟩
  · rw [hcell, World.cell?_setCell_other _ _ _ _ (by simp)]; exact hc0
  · rw [hcell]; exact World.cell?_setCell_same _ _ _ hc1
  · rw [hfroz]; simpa using hf1

set_option maxHeartbeats 4000000 in
theorem pick_any (n : Int) (W w : World) (g p : Nat) (hr : Rdr W w g p) (hp : p < 1000000) (n1 : 1 ≤ n) (n2 : n ≤ 1000000) :
    Calls Try.prog 48 #[.pointer (some ⟨g, 0, none⟩), .int .i64 n] w fun e w' => ∃ x : Int, e = .returned (.int .i64 x) ∧ 0 ≤ x ∧ x < n ∧ Rdr W w' g (p + 1) ∧ (∀ b o, ¬ b = g → w'.cell? ⟨b, o, none⟩ = w.cell? ⟨b, o, none⟩) ∧ (∀ b o, ¬ b = g → w'.frozen? ⟨b, o, none⟩ = w.frozen? ⟨b, o, none⟩) ∧ w'.heap.size = w.heap.size ∧ w.grownBy w' (some g) := by
  have HR := hid hr
  obtain ⟨v, xs, hv, hB, hg, hc0, hc1, hf1⟩ := hr
  obtain ⟨h1, h2, a, cap, rfl, h3⟩ := hv
  have hd : decide (n < 1) = false := by simp; omega
  by_cases h0 : xs.length = 0
  · have hx : xs = [] := List.length_eq_zero_iff.1 h0
    subst hx
    clear h3 h1 hB
    go_enter Try.func48, Try.ntmps48
    go_wp2
    go_ret
    exact ⟨0, rfl, by omega, by omega, pick_end HR.out rfl rfl rfl rfl⟩
  · have d0 : ((xs.length : Int) == 0) = false := beq_eq_false_iff_ne.2 (by omega)
    rcases h3 with rfl | ⟨b, off, rfl, hc⟩
    · simp at h0
    have hbg : ¬ b = g := by
      have := World.block_lt_of_cell? W ⟨b, off + 0, none⟩ (hc 0 (by omega))
      simp at this
      omega
    by_cases hlt : p < xs.length
    · have hcx := cell_keep hB (hc p hlt)
      have hx := h1 (xs.getD p 0) (by rw [List.getD_eq_getElem?_getD, List.getElem?_eq_getElem hlt]; exact List.getElem_mem hlt)
      generalize xs.getD p 0 = X at hcx hx
      obtain ⟨x0, x1⟩ := hx
      have hm := rem_in X n x0 n1
      rw [Int.tmod_eq_emod_of_nonneg x0] at hm
      have hl : decide ((p : Int) < (xs.length : Int)) = true := by simp; omega
      clear hc h1 hB
      go_enter Try.func48, Try.ntmps48
      go_wp2
      go_ret
      exact ⟨X % n, rfl, hm.1, hm.2, pick_end HR.out rfl rfl rfl rfl⟩
    · obtain ⟨i1, hi1, l1⟩ : ∃ i1 : Nat, (p : Int) % (xs.length : Int) = (i1 : Int) ∧ i1 < xs.length := ⟨p % xs.length, by simp, Nat.mod_lt _ (by omega)⟩
      obtain ⟨i2, hi2, l2⟩ : ∃ i2 : Nat, ((p : Int) * 7 + 3) % (xs.length : Int) = (i2 : Int) ∧ i2 < xs.length := ⟨(p * 7 + 3) % xs.length, by simp, Nat.mod_lt _ (by omega)⟩
      obtain ⟨q, hq, l3⟩ : ∃ q : Nat, (p : Int) / (xs.length : Int) = (q : Int) ∧ q ≤ 1000000 := ⟨p / xs.length, by simp, by have := Nat.div_le_self p xs.length; omega⟩
      have hcx := cell_keep hB (hc i1 l1)
      have hcy := cell_keep hB (hc i2 l2)
      have hx := h1 (xs.getD i1 0) (by rw [List.getD_eq_getElem?_getD, List.getElem?_eq_getElem l1]; exact List.getElem_mem l1)
      have hy := h1 (xs.getD i2 0) (by rw [List.getD_eq_getElem?_getD, List.getElem?_eq_getElem l2]; exact List.getElem_mem l2)
      generalize xs.getD i1 0 = X at hcx hx
      generalize xs.getD i2 0 = Y at hcy hy
      obtain ⟨x0, x1⟩ := hx
      obtain ⟨y0, y1⟩ := hy
      have hl : decide ((p : Int) < (xs.length : Int)) = false := by simp; omega
      have hnz : ¬ (xs.length : Int) = 0 := by omega
      have hp0 : (0 : Int) ≤ (p : Int) := by omega
      have hp1 : (p : Int) ≤ 1000000 := by omega
      have t1 : (0 : Int) ≤ (i1 : Int) := by omega
      have t2 : (i1 : Int) < (xs.length : Int) := by omega
      have t3 : (0 : Int) ≤ (i2 : Int) := by omega
      have t4 : (i2 : Int) < (xs.length : Int) := by omega
      have t5 : (0 : Int) ≤ (q : Int) := by omega
      have t6 : (q : Int) ≤ 1000000 := by omega
      clear hc h1 hB
      go_enter Try.func48, Try.ntmps48
      go_wp2_with fail
      go_quiet (fail)
      go_wp2_with fail
      go_ret
      have hx0 : 0 ≤ X * 131 + Y * 1117 + (p : Int) * 29 + (q : Int) * 53 := by omega
      have hx1 : X * 131 + Y * 1117 + (p : Int) * 29 + (q : Int) * 53 ≤ 1000000000 := by omega
      have hm := rem_in _ n (xor_nonneg _ ((X * 131 + Y * 1117 + (p : Int) * 29 + (q : Int) * 53) / 64) hx0 (by omega) (by omega) (by omega)) n1
      exact ⟨_, rfl, hm.1, hm.2, pick_end HR.out rfl rfl rfl rfl⟩

theorem rd_take {w : World} {a : Option Addr} {cap n : Nat} {xs : List Int} (h : Rd w (.slice a xs.length cap) xs) (hn : n ≤ xs.length) : Rd w (.slice a n cap) (xs.take n) := by
  obtain ⟨h1, h2, a', cap', hv, h3⟩ := h
  simp only [Value.slice.injEq] at hv
  obtain ⟨rfl, _, rfl⟩ := hv
  have e : (xs.take n).length = n := by simp; omega
  refine ⟨fun x hx => h1 x (List.mem_of_mem_take hx), by omega, a, cap, by rw [e], ?_⟩
  rcases h3 with rfl | ⟨b, off, ha, hc⟩
  · exact .inl (by simp)
  · refine .inr ⟨b, off, ha, fun i hi => ?_⟩
    rw [e] at hi
    rw [hc i (by omega), getD_take_lt _ _ _ _ hi]

set_option maxHeartbeats 1000000 in
theorem open_any (a : Option Addr) (len cap : Nat) (xs : List Int) (w : World) (hn : xs.length = len) (hv : Rd w (.slice a len cap) xs) (hcap : len ≤ cap) :
    Calls Try.prog 45 #[.slice a len cap] w fun e w' => e = .returned (.pointer (some ⟨w.heap.size, 0, none⟩)) ∧ Rdr w w' w.heap.size 0 ∧ Below w.heap.size w w' ∧ w'.heap.size = w.heap.size + 1 := by
  have HV := hid hv
  have h2 := hv.2.1
  by_cases hl : len ≤ 2000
  · have hd : decide ((2000 : Int) < (len : Int)) = false := by simp; omega
    clear hv hn
    go_enter Try.func45, Try.ntmps45
    go_wp2
    go_ret
    exact ⟨rfl, ⟨_, xs, HV.out, below_alloc1 _ _, Nat.le_refl _, by go_simp, by go_simp, by go_simp⟩, below_alloc1 _ _, by simp⟩
  · have hd : decide ((2000 : Int) < (len : Int)) = true := by simp; omega
    subst hn
    have HT := hid (rd_take (n := 2000) hv (by omega))
    have hc1 : (2000 : Int) ≤ (cap : Int) := by omega
    have hc2 : 2000 ≤ cap := by omega
    clear hv
    go_enter Try.func45, Try.ntmps45
    go_wp2
    go_ret
    exact ⟨rfl, ⟨_, _, HT.out, below_alloc1 _ _, Nat.le_refl _, by go_simp, by go_simp, by go_simp⟩, below_alloc1 _ _, by simp⟩
end Go.Proofs.Ytbpomeegpkdekaa
