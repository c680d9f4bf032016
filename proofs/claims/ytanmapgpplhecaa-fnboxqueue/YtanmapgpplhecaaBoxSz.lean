/- Boxes: what came in, opened; the contracts of the laws' szBoxBox, toBoxBox and eqBoxBox, and whether a box is ok. Conditions: the lists read as lists of bytes. -/
import Derived.Test.YtanmapgpplhecaaByteSS
import Derived.Test.YtanmapgpplhecaaBytMsg
import Derived.Test.YtanmapgpplhecaaInBase
import Derived.Test.YtanmapgpplhecaaChg
namespace Go.Proofs.Ytanmapgpplhecaa
open Go.ChangeShapes Go.WideShapes Go.ChangeAt Go.RowKit Go.Joins Go.Deep
set_option linter.unusedVariables false
set_option maxRecDepth 4000

/-- what the frame of a law tells of a slice of byte slices that came in -/
def IsRowS (w : World) (a : Option Addr) (len cap : Nat) : Prop :=
  (a = none ∧ len = 0 ∧ cap = 0) ∨ ∃ x, a = some x ∧ len ≤ cap ∧ cap ≤ maxLen ∧ ∀ i, i < cap → ∃ A L C zs, w.cell? (x.add i) = some (.slice A L C) ∧ IsRow .u8 w A L C zs
theorem IsRowS.max {w : World} {a : Option Addr} {len cap : Nat} (h : IsRowS w a len cap) : (len : Int) ≤ 9223372036854775807 := by
  rcases h with ⟨_, h, _⟩ | ⟨_, _, h, h', _⟩
  · omega
  · unfold maxLen at h'; omega
theorem IsRowS.at {w : World} {a : Option Addr} {len cap : Nat} (h : IsRowS w a len cap) : ∃ (A : Nat → Option Addr) (L C : Nat → Nat) (Z : Nat → List Int), (∀ i, i < len → IsRow .u8 w (A i) (L i) (C i) (Z i)) ∧ (len = 0 ∨ ∃ b off, a = some ⟨b, off, none⟩ ∧ ∀ i, i < len → w.cell? ⟨b, off + i, none⟩ = some (.slice (A i) (L i) (C i))) := by
  rcases h with ⟨rfl, rfl, rfl⟩ | ⟨x, rfl, h1, h2, h3⟩
  · exact ⟨fun _ => none, fun _ => 0, fun _ => 0, fun _ => [], by omega, .inl rfl⟩
  · obtain ⟨q, hq⟩ := choose_lt (α := Option Addr × Nat × Nat × List Int) (n := cap) (p := fun i q => w.cell? (x.add i) = some (.slice q.1 q.2.1 q.2.2.1) ∧ IsRow .u8 w q.1 q.2.1 q.2.2.1 q.2.2.2) (fun i hi => by
      obtain ⟨A, L, C, zs, e1, e2⟩ := h3 i hi
      exact ⟨(A, L, C, zs), e1, e2⟩)
    refine ⟨fun i => (q i).1, fun i => (q i).2.1, fun i => (q i).2.2.1, fun i => (q i).2.2.2, fun i hi => (hq i (by omega)).2, ?_⟩
    by_cases h0 : len = 0
    · exact .inl h0
    · obtain ⟨b, off, spot⟩ := x
      have hc := (hq 0 (by omega)).1
      have hspot : spot = none := by simpa [Addr.add] using World.cell?_spot hc
      subst hspot
      refine .inr ⟨b, off, rfl, fun i hi => ?_⟩
      have ea : (⟨b, off, none⟩ : Addr).add i = ⟨b, off + i, none⟩ := by
        unfold Addr.add
        split
        · rename_i e; subst e; rfl
        · rfl
      rw [← ea]; exact (hq i (by omega)).1

theorem rdS_of {w : World} {a : Option Addr} {len cap : Nat} {A : Nat → Option Addr} {L C : Nat → Nat} {Z : Nat → List Int} (h1 : ∀ i, i < len → IsRow .u8 w (A i) (L i) (C i) (Z i)) (h2 : len = 0 ∨ ∃ b off, a = some ⟨b, off, none⟩ ∧ ∀ i, i < len → w.cell? ⟨b, off + i, none⟩ = some (.slice (A i) (L i) (C i)))
    (hl : len ≤ 1048576) (hL : ∀ i, i < len → L i ≤ 1048576) : ∃ yss, yss.length = len ∧ RdS w (.slice a len cap) yss := by
  obtain ⟨f, hf⟩ := choose_lt (α := List Int) (n := len) (p := fun i ys => Rd w (.slice (A i) (L i) (C i)) ys) (fun i hi => by
    obtain ⟨xs, _, hr⟩ := (h1 i hi).rd (hL i hi)
    exact ⟨xs, hr⟩)
  have hlen : ((List.range len).map f).length = len := by simp
  refine ⟨(List.range len).map f, hlen, by rw [hlen]; omega, a, cap, by rw [hlen], ?_⟩
  rcases h2 with h2 | ⟨b, off, ha, hc⟩
  · subst h2; exact .inl rfl
  · refine .inr ⟨b, off, ha, fun i hi => ?_⟩
    rw [hlen] at hi
    exact ⟨_, hc i hi, by have := hf i hi; simpa [hi] using this⟩

set_option maxHeartbeats 1000000 in
theorem szBytes_any (a : Option Addr) (len cap : Nat) (left : Int) (w : World) (hl : len ≤ 9223372036854775807) (l0 : 0 ≤ left) (l1 : left ≤ 1048576) :
    Calls Try.prog 85 #[.slice a len cap, .int .i64 left] w fun e w' => e = .returned (.int .i64 (if left - len < 0 then -1 else left - len)) ∧ w' = w := by
  by_cases h : left - (len : Int) < 0
  · have d : decide (left - (len : Int) < 0) = true := by simpa using h
    rw [if_pos h]
    go_enter Try.func85, Try.ntmps85
    go_wp2
    go_ret
    exact ⟨rfl, rfl⟩
  · have d : decide (left - (len : Int) < 0) = false := by simpa using h
    rw [if_neg h]
    go_enter Try.func85, Try.ntmps85
    go_wp2
    go_ret
    exact ⟨rfl, rfl⟩

set_option maxHeartbeats 2000000 in
theorem szSS_any (a : Option Addr) (len cap : Nat) (A : Nat → Option Addr) (L C : Nat → Nat) (w : World) (hm : (len : Int) ≤ 9223372036854775807) (hLm : ∀ i, i < len → L i ≤ 9223372036854775807)
    (h2 : len = 0 ∨ ∃ b off, a = some ⟨b, off, none⟩ ∧ ∀ i, i < len → w.cell? ⟨b, off + i, none⟩ = some (.slice (A i) (L i) (C i))) :
    Calls Try.prog 77 #[.slice a len cap, .int .i64 1048576] w fun e w' => (∃ r : Int, e = .returned (.int .i64 r) ∧ (r = -1 ∨ (0 ≤ r ∧ len ≤ 1048576 ∧ ∀ i, i < len → L i ≤ 1048576))) ∧ w' = w := by
  by_cases h0 : (1048576 : Int) - len < 0
  · have d0 : decide ((1048576 : Int) - (len : Int) < 0) = true := by simpa using h0
    clear h2
    go_enter Try.func77, Try.ntmps77
    go_wp2
    go_ret
    exact ⟨⟨-1, rfl, .inl rfl⟩, rfl⟩
  · have d0 : decide ((1048576 : Int) - (len : Int) < 0) = false := by simpa using h0
    have hlen : len ≤ 1048576 := by omega
    clear h0
    go_enter Try.func77, Try.ntmps77
    go_wp2_with fail
    go_loop [1, 5] (fun t i => ∃ (k : Nat) (l : Int), k ≤ len ∧ i = .int .i64 k ∧ t = .int .i64 l ∧ 0 ≤ l ∧ l ≤ 1048576 ∧ ∀ i, i < k → L i ≤ 1048576) (fun _ i => len - (intOf i).toNat)
    case atStart => exact ⟨0, 1048576 - len, Nat.zero_le _, rfl, rfl, by omega, by omega, by omega⟩
    case round =>
      obtain ⟨k, l, hk, rfl, rfl, l0, l1, hall⟩ := hrel
      by_cases hlt : k < len
      · rcases h2 with h2 | ⟨b, off, rfl, hc⟩
        · omega
        have hcx := hc k hlt
        have HA := hid hall
        have HLK := hid (hLm k hlt)
        have HLe : Hid (∀ i, i = k → L i = L k) := hid (fun i e => by rw [e])
        generalize L k = N at hcx HLK HLe
        clear hc hall
        by_cases hs : l - (N : Int) < 0
        · have HS := hid (show (if l - (N : Int) < 0 then -1 else l - (N : Int)) = -1 by rw [if_pos hs])
          clear hs
          go_wp2_with fail
          refine (szBytes_any _ N _ l _ HLK.out l0 l1).mono ?_
          rw [HS.out]
          rintro e w1 ⟨rfl, rfl⟩
          go_wp2
          go_ret
          exact ⟨⟨-1, rfl, .inl rfl⟩, rfl⟩
        · have HS := hid (show (if l - (N : Int) < 0 then -1 else l - (N : Int)) = l - N by rw [if_neg hs])
          have d1 : decide (l - (N : Int) < 0) = false := by simpa using hs
          have hN : 0 ≤ l - (N : Int) := by omega
          clear hs
          go_wp2_with fail
          refine (szBytes_any _ N _ l _ HLK.out l0 l1).mono ?_
          rw [HS.out]
          rintro e w1 ⟨rfl, rfl⟩
          go_wp2
          go_round
          case rel => exact ⟨k + 1, l - N, by omega, by go_num, rfl, by omega, by omega, fun i hi => by
            rcases Nat.lt_succ_iff_lt_or_eq.1 hi with h | h
            · exact HA.out i h
            · have := HLe.out i h; omega⟩
          case measure => simp [intOf]; omega
      · obtain rfl : k = len := by omega
        have HA := hid hall
        clear h2 hall
        go_wp2
        go_ret
        first | exact ⟨⟨l, rfl, .inr ⟨l0, hlen, HA.out⟩⟩, rfl⟩ | exact ⟨⟨l, rfl, .inr ⟨l0, HA.out⟩⟩, rfl⟩
end Go.Proofs.Ytanmapgpplhecaa
