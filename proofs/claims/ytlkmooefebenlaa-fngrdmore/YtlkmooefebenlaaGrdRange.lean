/- The rules of a guard, told one behind the other (a range over a function): the iterator's contract. Conditions: the list reads as rules. -/
import Derived.RangeFuncNested
import Derived.RangeFuncBound
import Derived.RangeFuncCalls
import Derived.RangeFuncLeaves
import Derived.Shelf.Abstract
import Derived.Shelf.RegionOpen
import Derived.WalkKit
import Derived.OwnWalkIn
import Derived.TacticsInMore
import Derived.LoopNIn
import Derived.LoopIn
import Derived.Test.YtlkmooefebenlaaGrdRuleS
namespace Go.Proofs.Ytlkmooefebenlaa
open Go.RowKit Go.Shelf
set_option linter.unusedVariables false
attribute [local go_sem] Oper.semAt_some

set_option maxRecDepth 100000 in
set_option maxHeartbeats 4000000 in
theorem rules1_in (F : Fence) (n : Nat) (h7 : F.fn 84) (hro : F.round = none) (hn : 1 ≤ n) (l Bs n₀ b off len cap : Nat) (xs : List Int) (hx : xs.length = len * 7) (hb : b < n₀) (J Jx : List Nat → World → Prop)
    (hY : ∀ pre x W, J pre W → pre.length < len → YieldAt F (n - 1) Try.prog l ((fun i : Nat => #[Value.agg #[.int .i64 (xs.getD (i * 7) 0), .int .i64 (xs.getD (i * 7 + 1) 0), .int .i64 (xs.getD (i * 7 + 2) 0), .int .i64 (xs.getD (i * 7 + 3) 0), .int .i64 (xs.getD (i * 7 + 4) 0), .int .i64 (xs.getD (i * 7 + 5) 0), .int .i64 (xs.getD (i * 7 + 6) 0)]]) x) W fun e W' =>
      (e = .returned (.bool true) ∧ J (pre ++ [x]) W' ∧ Below n₀ W W') ∨ (e = .returned (.bool false) ∧ Jx (pre ++ [x]) W'))
    (W : World) (hn₀ : n₀ ≤ W.heap.size) (hJ : AbidesFrom W.heap.size J) (hBs : W.cell? ⟨Bs, 0, none⟩ = some (.slice (some ⟨b, off, none⟩) len cap)) (hc : ∀ i, i < xs.length → W.cell? ⟨b, off + i, none⟩ = some (.int .i64 (xs.getD i 0))) (hlen : len ≤ 2000000) (h0 : J [] W) :
    CallsIn F n Try.prog 84 #[.func (.yield l) #[] #[], .pointer (some ⟨Bs, 0, none⟩)] W fun e W' => (∃ v, e = .returned v) ∧
      ((∃ ys, ys = List.range len ∧ J ys W') ∨ (∃ pre, (∃ k, k ≤ len ∧ pre = List.range k) ∧ Jx pre W')) := by
  refine callsIn_of_wp Try.func84 rfl h7 ?_ hro
  simp only [Try.ntmps84, List.size_toArray, List.length_cons, List.length_nil, Nat.reduceAdd, Nat.reduceSub, Array.replicate_succ, Array.replicate_zero, List.push_toArray, List.append_toArray, List.nil_append, List.cons_append]
  gi_wp2
  gi_loopw [7] (fun i wr => ∃ k : Nat, k ≤ len ∧ i = .int .i64 k ∧ J (List.range k) wr ∧ Below n₀ W wr) (fun i _ => len - (intOf i).toNat)
  case atStart => exact ⟨0, Nat.zero_le _, rfl, h0, Below.refl _ _⟩
  case round =>
    obtain ⟨k, hk, rfl, hJs, hnx⟩ := hrel
    by_cases hlt : k < len
    · have hcx : ∀ i, i < xs.length → wr.cell? ⟨b, off + i, none⟩ = some (.int .i64 (xs.getD i 0)) := fun i hi => (hnx.cell (p := ⟨b, off + i, none⟩) hb).trans (hc i hi)
      have r0 := hcx (k * 7) (by omega)
      obtain ⟨y0, hy0⟩ : ∃ y, xs.getD (k * 7) 0 = y := ⟨_, rfl⟩
      rw [hy0] at r0
      have r1 := hcx (k * 7 + 1) (by omega)
      obtain ⟨y1, hy1⟩ : ∃ y, xs.getD (k * 7 + 1) 0 = y := ⟨_, rfl⟩
      rw [hy1] at r1
      have r2 := hcx (k * 7 + 2) (by omega)
      obtain ⟨y2, hy2⟩ : ∃ y, xs.getD (k * 7 + 2) 0 = y := ⟨_, rfl⟩
      rw [hy2] at r2
      have r3 := hcx (k * 7 + 3) (by omega)
      obtain ⟨y3, hy3⟩ : ∃ y, xs.getD (k * 7 + 3) 0 = y := ⟨_, rfl⟩
      rw [hy3] at r3
      have r4 := hcx (k * 7 + 4) (by omega)
      obtain ⟨y4, hy4⟩ : ∃ y, xs.getD (k * 7 + 4) 0 = y := ⟨_, rfl⟩
      rw [hy4] at r4
      have r5 := hcx (k * 7 + 5) (by omega)
      obtain ⟨y5, hy5⟩ : ∃ y, xs.getD (k * 7 + 5) 0 = y := ⟨_, rfl⟩
      rw [hy5] at r5
      have r6 := hcx (k * 7 + 6) (by omega)
      obtain ⟨y6, hy6⟩ : ∃ y, xs.getD (k * 7 + 6) 0 = y := ⟨_, rfl⟩
      rw [hy6] at r6
      rw [← Nat.add_assoc] at r1; rw [← Nat.add_assoc] at r2; rw [← Nat.add_assoc] at r3; rw [← Nat.add_assoc] at r4; rw [← Nat.add_assoc] at r5; rw [← Nat.add_assoc] at r6
      have hsz : n₀ ≤ wr.heap.size := Nat.le_trans hn₀ hnx.size
      have hJ' : J (List.range k) (wr.alloc (.cells #[.int .i64 y0, .int .i64 y1, .int .i64 y2, .int .i64 y3, .int .i64 y4, .int .i64 y5, .int .i64 y6] 46)) := hJ _ wr _ none hJs (World.grownBy_alloc wr _ none) (fun r e => by cases e)
      obtain ⟨fn, tmps, assign, body, hy, hR⟩ := hY (List.range k) k _ hJ' (by rw [List.length_range]; exact hlt)
      have hal : Below n₀ W (wr.alloc (.cells #[.int .i64 y0, .int .i64 y1, .int .i64 y2, .int .i64 y3, .int .i64 y4, .int .i64 y5, .int .i64 y6] 46)) := hnx.alloc hsz _
      simp only [hy0, hy1, hy2, hy3, hy4, hy5, hy6] at hy
      have HAL := hid hal
      clear hcx hJs hnx hJ' hal hy0 hy1 hy2 hy3 hy4 hy5 hy6
      gi_wp2
      refine hR.mono ?_
      rintro e W3 (⟨rfl, hJ3, hk3⟩ | ⟨rfl, hJx3⟩)
      · gi_wp2
        go_roundw
        case rel => exact ⟨k + 1, by omega, by simp, by rw [List.range_succ]; exact hJ3, HAL.out.trans hk3⟩
        case measure => simp [intOf]; omega
      · gi_wp2
        refine bodyPost_ret (results_none rfl _ _ _) rfl ?_
        exact ⟨⟨_, rfl⟩, .inr ⟨_, ⟨k + 1, by omega, List.range_succ.symm⟩, hJx3⟩⟩
    · obtain rfl : k = len := by omega
      gi_wp2
      go_end0
      exact ⟨⟨_, rfl⟩, .inl ⟨_, rfl, hJs⟩⟩

set_option maxRecDepth 100000 in
set_option maxHeartbeats 1000000 in
theorem rules1_nil_in (F : Fence) (n : Nat) (h7 : F.fn 84) (hro : F.round = none) (l Bs : Nat) (a : Option Addr) (cap : Nat) (J : List Nat → World → Prop) (W : World) (hBs : W.cell? ⟨Bs, 0, none⟩ = some (.slice a 0 cap)) (h0 : J [] W) :
    CallsIn F n Try.prog 84 #[.func (.yield l) #[] #[], .pointer (some ⟨Bs, 0, none⟩)] W fun e W' => (∃ v, e = .returned v) ∧ J [] W' := by
  refine callsIn_of_wp Try.func84 rfl h7 ?_ hro
  simp only [Try.ntmps84, List.size_toArray, List.length_cons, List.length_nil, Nat.reduceAdd, Nat.reduceSub, Array.replicate_succ, Array.replicate_zero, List.push_toArray, List.append_toArray, List.nil_append, List.cons_append]
  gi_wp2
  gi_loopw [7] (fun i wr => i = .int .i64 0 ∧ J [] wr) (fun _ _ => 0)
  case atStart => exact ⟨rfl, h0⟩
  case round =>
    obtain ⟨rfl, hJs⟩ := hrel
    gi_wp2
    go_end0
    exact ⟨⟨_, rfl⟩, hJs⟩

set_option maxHeartbeats 1000000 in
theorem rules_in (F : Fence) (n : Nat) (h5 : F.fn 68) (hro : F.round = none) (a : Option Addr) (len cap : Nat) (w : World) :
    CallsIn F n Try.prog 68 #[.slice a len cap] w fun e w' => e = .returned (.func (.func 84) #[] #[.pointer (some ⟨w.heap.size, 0, none⟩)]) ∧ w' = w.alloc (.cells #[.slice a len cap] 38) := by
  refine callsIn_of_wp Try.func68 rfl h5 ?_ hro
  simp only [Try.ntmps68, List.size_toArray, List.length_cons, List.length_nil, Nat.reduceAdd, Nat.reduceSub, Array.replicate_succ, Array.replicate_zero, List.push_toArray, List.append_toArray, List.nil_append, List.cons_append]
  gi_wp2
  go_ret
  exact ⟨rfl, rfl⟩

/-- the rules of a list come in order, all, or a first part of them -/
theorem rules_stops (F : Fence) (n : Nat) (h7 : F.fn 84) (hro : F.round = none) (hn : 1 ≤ n) (Bs n₀ : Nat) (v : Value) (len : Nat) (xs : List Int) (w W0 : World) (hBs : Bs < w.heap.size) (hn₀ : n₀ ≤ w.heap.size)
    (hc : w.cell? ⟨Bs, 0, none⟩ = some v) (hz : n₀ = W0.heap.size) (hr : RdI 7 W0 v len xs) (hB0 : Below n₀ W0 w) :
    SeqStopsK F n Try.prog 84 #[.pointer (some ⟨Bs, 0, none⟩)] (fun i : Nat => #[Value.agg #[.int .i64 (xs.getD (i * 7) 0), .int .i64 (xs.getD (i * 7 + 1) 0), .int .i64 (xs.getD (i * 7 + 2) 0), .int .i64 (xs.getD (i * 7 + 3) 0), .int .i64 (xs.getD (i * 7 + 4) 0), .int .i64 (xs.getD (i * 7 + 5) 0), .int .i64 (xs.getD (i * 7 + 6) 0)]]) (Below n₀) (fun ys => ys = List.range len) (fun pre => ∃ k, k ≤ len ∧ pre = List.range k) len w := fun l J Jx W hW hJ _ hY h0 => by
  have hc' := (hW.cell (p := ⟨Bs, 0, none⟩) hBs).trans hc
  have hBW : Below n₀ W0 W := hB0.trans (hW.mono hn₀)
  subst hz
  have hr' := hr.keep hBW
  obtain ⟨hx, hl, a, cap, rfl, h3⟩ := hr
  obtain ⟨_, _, a', cap', hva, h3'⟩ := hr'
  simp only [Value.slice.injEq, true_and] at hva
  obtain ⟨rfl, rfl⟩ := hva
  by_cases h00 : len = 0
  · subst h00
    exact (rules1_nil_in F n h7 hro l Bs a cap J W hc' h0).mono fun e W' ⟨he, hj⟩ => ⟨he, .inl ⟨_, rfl, hj⟩⟩
  · rcases h3' with h3' | ⟨b, off, rfl, hcs⟩
    · exact absurd h3' h00
    have hb : b < W0.heap.size := by
      rcases h3 with h3 | ⟨b2, off2, e2, hc2⟩
      · exact absurd h3 h00
      · simp only [Option.some.injEq, Addr.mk.injEq, and_true] at e2
        obtain ⟨rfl, rfl⟩ := e2
        exact World.block_lt_of_cell? W0 ⟨b, off + 0, none⟩ (hc2 0 (by omega))
    exact rules1_in F n h7 hro hn l Bs W0.heap.size b off len cap xs hx hb J Jx hY W (Nat.le_trans hn₀ hW.size) hJ hc' hcs hl h0
end Go.Proofs.Ytlkmooefebenlaa
