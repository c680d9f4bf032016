/- How many places two lists differ in; what an answer leaves of a machine that is ok. Conditions: the lists read. -/
import Derived.Test.YtbpomeegpkdekaaGiveBoth
import Derived.Deep.RegionWith
namespace Go.Proofs.Ytbpomeegpkdekaa
open Go.ChangeShapes Go.WideShapes Go.ChangeAt Go.RowKit Go.Joins Go.Deep
set_option linter.unusedVariables false
set_option linter.unusedSimpArgs false
set_option maxRecDepth 4000
def difN (xs ys : List Int) : Nat → Nat
  | 0 => 0
  | k + 1 => difN xs ys k + (if xs.getD k 0 = ys.getD k 0 then 0 else 1)
theorem difN_self (xs : List Int) : ∀ k, difN xs xs k = 0
  | 0 => rfl
  | k + 1 => by simp [difN, difN_self xs k]
theorem difN_le (xs ys : List Int) : ∀ k, difN xs ys k ≤ k
  | 0 => Nat.le_refl _
  | k + 1 => by
    have := difN_le xs ys k
    unfold difN
    split <;> omega
theorem getD_set {ys : List Int} {g k : Nat} {v : Int} (h : ¬ g = k) : (ys.set g v).getD k 0 = ys.getD k 0 := by
  simp [List.getElem?_set, h]
theorem difN_set (xs ys : List Int) (g : Nat) (v : Int) : ∀ k, difN xs (ys.set g v) k ≤ difN xs ys k + (if g < k then 1 else 0)
  | 0 => by simp [difN]
  | k + 1 => by
    have ih := difN_set xs ys g v k
    unfold difN
    by_cases h : g = k
    · subst h
      have e1 : ¬ g < g := by omega
      have e2 : g < g + 1 := by omega
      simp only [e1, e2, if_true, if_false] at ih ⊢
      split <;> split <;> omega
    · rw [getD_set h]
      by_cases c : g < k
      · have c' : g < k + 1 := by omega
        simp only [c, c', if_true] at ih ⊢
        split <;> omega
      · have c' : ¬ g < k + 1 := by omega
        simp only [c, c', if_false] at ih ⊢
        split <;> omega
theorem difN_set1 (xs ys : List Int) (g : Nat) (v : Int) (k : Nat) : difN xs (ys.set g v) k ≤ difN xs ys k + 1 := by
  have := difN_set xs ys g v k
  split at this <;> omega
theorem difN_lay (ms : List Int) (a : Nat) (got : List Int) (n : Nat) : ∀ j, difN ms (layI ms a got j) n ≤ j
  | 0 => by simp [layI, difN_self]
  | j + 1 => by
    have h1 := difN_lay ms a got n j
    have h2 := difN_set1 ms (layI ms a got j) (a + j) (got.getD j 0) n
    simp only [layI]
    omega
theorem bytesB_iff {xs : List Int} : bytesB xs = true ↔ ∀ x ∈ xs, 0 ≤ x ∧ x ≤ 255 := by
  simp [bytesB, inB]
theorem bytesB_set {xs : List Int} {g : Nat} {v : Int} (h : bytesB xs = true) (h0 : 0 ≤ v) (h1 : v ≤ 255) : bytesB (xs.set g v) = true := by
  rw [bytesB_iff] at h ⊢
  intro x hx
  rcases List.mem_or_eq_of_mem_set hx with hx | rfl
  · exact h x hx
  · exact ⟨h0, h1⟩
theorem got_in {got : List Int} (h : ∀ x ∈ got, 0 ≤ x ∧ x ≤ 255) (k : Nat) : 0 ≤ got.getD k 0 ∧ got.getD k 0 ≤ 255 := by
  by_cases hk : k < got.length
  · have : got.getD k 0 = got[k] := by simp [hk]
    rw [this]; exact h _ (List.getElem_mem hk)
  · have : got.getD k 0 = 0 := by simp [Nat.not_lt.1 hk]
    rw [this]; omega
theorem bytesB_lay {ms got : List Int} {a : Nat} (h : bytesB ms = true) (hg : ∀ x ∈ got, 0 ≤ x ∧ x ≤ 255) : ∀ j, bytesB (layI ms a got j) = true
  | 0 => h
  | j + 1 => bytesB_set (bytesB_lay h hg j) (got_in hg j).1 (got_in hg j).2
/-- an answer leaves a machine that is ok ok -/
theorem gv_ok {pc ht k y t g f : Int} {nr nm bl : Nat} {xs ys got : List Int} {yes : Bool} (h : gvB pc nr xs nm ys ht k y bl t g f got = true) (hg : ∀ x ∈ got, 0 ≤ x ∧ x ≤ 255) :
    vmB pc 4 (gvR ht k t.toNat g.toNat f.toNat yes got xs) 8 (gvM ht k t.toNat yes got ys) (gvH ht k t.toNat yes got) = true := by
  simp only [gvB, vmB, Bool.and_eq_true, beq_iff_eq, decide_eq_true_eq] at h
  obtain ⟨⟨h1, h2, h3, h4, h5, h6⟩, _, h8⟩ := h
  have hH : inB (gvH ht k t.toNat yes got) 0 2 = true := by
    unfold gvH
    split
    · decide
    · exact h6
  have hM : bytesB (gvM ht k t.toNat yes got ys) = true := by
    unfold gvM
    split
    · exact bytesB_lay h5 hg _
    · exact h5
  have hS : ∀ b, 0 ≤ snI b ∧ snI b ≤ 255 := fun b => by cases b <;> decide
  have hF : 0 ≤ rdF yes got ∧ rdF yes got ≤ 255 := by
    unfold rdF
    split
    · exact got_in hg 0
    · omega
  have hG : 0 ≤ rdG yes got ∧ rdG yes got ≤ 255 := by
    unfold rdG
    split <;> omega
  have hR : bytesB (gvR ht k t.toNat g.toNat f.toNat yes got xs) = true := by
    unfold gvR
    split
    · split
      · exact bytesB_set h3 (hS _).1 (hS _).2
      · split
        · split
          · split
            · exact bytesB_set h3 (by omega) (by omega)
            · exact h3
          · exact bytesB_set h3 (by omega) (by omega)
        · split
          · exact bytesB_set (bytesB_set h3 hF.1 hF.2) hG.1 hG.2
          · exact h3
    · exact h3
  simp only [vmB, h1, hR, hM, hH]
  decide
/-- how much an answer changes -/
theorem gv_regs1 {ht k t g f : Int} {xs got : List Int} {yes : Bool} (h : k = 1 ∨ k = 2) : difN xs (gvR ht k t.toNat g.toNat f.toNat yes got xs) 4 ≤ 1 := by
  have e := difN_self xs 4
  have s := fun v => difN_set1 xs xs g.toNat v 4
  unfold gvR
  rcases h with rfl | rfl
  · split
    · simp only [if_true]
      have := s (snI yes); omega
    · omega
  · split
    · simp only [show ¬ ((2 : Int) = 1) by omega, if_true, if_false]
      split
      · split
        · have := s ((got.length : Int) + 1); omega
        · omega
      · have := s 0; omega
    · omega
theorem gv_regs3 {ht t g f : Int} {xs got : List Int} {yes : Bool} : difN xs (gvR ht 3 t.toNat g.toNat f.toNat yes got xs) 4 ≤ 2 := by
  have e := difN_self xs 4
  unfold gvR
  split
  · simp only [show ¬ ((3 : Int) = 1) by omega, show ¬ ((3 : Int) = 2) by omega, if_true, if_false]
    have s1 := difN_set1 xs xs g.toNat (rdF yes got) 4
    have s2 := difN_set1 xs (xs.set g.toNat (rdF yes got)) f.toNat (rdG yes got) 4
    omega
  · omega
theorem gv_regs0 {ht k t g f : Int} {xs got : List Int} {yes : Bool} (h1 : ¬ k = 1) (h2 : ¬ k = 2) (h3 : ¬ k = 3) : difN xs (gvR ht k t.toNat g.toNat f.toNat yes got xs) 4 = 0 := by
  unfold gvR
  simp only [h1, h2, h3, if_false]
  split <;> exact difN_self xs 4
theorem gv_mem0 {ht k t : Int} {ys got : List Int} {yes : Bool} (h : ¬ k = 2 ∨ yes = false) : difN ys (gvM ht k t.toNat yes got ys) 8 = 0 := by
  unfold gvM
  split
  · rename_i hh
    rcases h with h | h
    · exact absurd hh.2.1 h
    · rw [h] at hh; cases hh.2.2.1
  · exact difN_self ys 8
theorem gv_mem2 {ht k t : Int} {ys got : List Int} {yes : Bool} : difN ys (gvM ht k t.toNat yes got ys) 8 ≤ got.length := by
  unfold gvM
  split
  · exact difN_lay ys _ got 8 _
  · have := difN_self ys 8; omega
set_option maxHeartbeats 2000000 in
theorem caDiffers_any (v u : Value) (n : Nat) (xs ys : List Int) (w : World) (hv : RdI 1 w v n xs) (hu : RdI 1 w u n ys) :
    Calls Try.prog 22 #[v, u] w fun e w' => e = .returned (.int .i64 (difN xs ys n : Nat)) ∧ Below w.heap.size w w' := by
  obtain ⟨h1, h2, a, cap, rfl, h3⟩ := hv
  obtain ⟨_, _, a', cap', rfl, h3'⟩ := hu
  go_enter Try.func22, Try.ntmps22
  go_wp2_with fail
  go_loopw [5, 6] (fun s i wr => ∃ k : Nat, k ≤ n ∧ s = .int .i64 (difN xs ys k : Nat) ∧ i = .int .i64 k ∧ Below w.heap.size w wr) (fun _ i _ => n - (intOf i).toNat)
  case atStart => exact ⟨0, Nat.zero_le _, rfl, rfl, Below.refl _ _⟩
  case round =>
    obtain ⟨k, hk, rfl, rfl, hB⟩ := hrel
    by_cases hlt : k < n
    · rcases h3 with rfl | ⟨b, off, rfl, hc⟩
      · omega
      rcases h3' with rfl | ⟨b', off', rfl, hc'⟩
      · omega
      have hcx := cell_keep hB (hc k (by omega))
      have hcy := cell_keep hB (hc' k (by omega))
      have hk0 : (0 : Int) ≤ (k : Int) := by omega
      have hk1 : (k : Int) < (n : Int) := by omega
      have hq : IntKind.i64.wrap ((k : Int) + 1) = ((k + 1 : Nat) : Int) := by rw [IntKind.wrap_i64]; omega
      have hdl := difN_le xs ys k
      have hD : difN xs ys (k + 1) = difN xs ys k + (if xs.getD k 0 = ys.getD k 0 then 0 else 1) := rfl
      generalize difN xs ys k = d at hdl hD ⊢
      have hq2 : IntKind.i64.wrap ((d : Int) + 1) = ((d + 1 : Nat) : Int) := by rw [IntKind.wrap_i64]; omega
      have HBd := hid hB.drew
      have HD := hid hD
      clear hD
      by_cases hz : xs.getD k 0 = ys.getD k 0
      · have HD : Hid (difN xs ys (k + 1) = d) := hid (by have := HD.out; rw [if_pos hz] at this; simpa using this)
        rw [hz] at hcx
        generalize ys.getD k 0 = z at hcx hcy
        clear hc hc' hB hz
        go_wp2
        go_region
        all_goals
          go_wp2
          go_roundw
          case rel => exact ⟨k + 1, by omega, by rw [HD.out]; first | done | rfl | (congr 1; omega) | simp, rfl, HBd.out⟩
          case measure => simp [intOf]; omega
      · have HD : Hid (difN xs ys (k + 1) = d + 1) := hid (by have := HD.out; rw [if_neg hz] at this; exact this)
        generalize ys.getD k 0 = z at hcy hz
        generalize xs.getD k 0 = z' at hcx hz
        clear hc hc' hB
        go_wp2
        go_region
        all_goals
          go_wp2
          go_roundw
          case rel => exact ⟨k + 1, by omega, by rw [HD.out]; first | done | rfl | (congr 1; omega) | simp, rfl, HBd.out⟩
          case measure => simp [intOf]; omega
    · obtain rfl : k = n := by omega
      have HB := hid hB
      clear h3 h3' hB
      go_wp2
      go_ret
      exact ⟨rfl, HB.out⟩
end Go.Proofs.Ytbpomeegpkdekaa
