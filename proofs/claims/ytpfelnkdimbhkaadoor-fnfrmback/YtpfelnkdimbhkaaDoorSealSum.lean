/- The contract of sealSum: it hands the numbers of a list to a mill's mix, one behind the other. Conditions: the mill's cell is there and may be written, the list lies in another block, its numbers lie within 0 and 2^31. -/
import Derived.Test.YtpfelnkdimbhkaaDoorSealBase
namespace Go.Proofs.YtpfelnkdimbhkaaDoor
open Go.ChangeShapes Go.WideShapes Go.ChangeAt Go.RowKit Go.Joins
set_option linter.unusedVariables false

theorem foldl_lt (ys : List Nat) (x : Nat) (hx : x < 4294967296) : ys.foldl mixN x < 4294967296 := by
  induction ys generalizing x with
  | nil => exact hx
  | cons y r ih => exact ih _ (mixN_lt _ _)
theorem foldl_snoc (ys : List Nat) (x k : Nat) (h : k < ys.length) : (ys.take (k + 1)).foldl mixN x = mixN ((ys.take k).foldl mixN x) (ys.getD k 0) := by
  rw [List.take_succ_eq_append_getElem h, List.foldl_append]; simp [h]

theorem grown_set {w wr : World} {g o : Nat} {v : Value} (h : w.grownBy wr (some g)) : w.grownBy (wr.setCell ⟨g, o, none⟩ v) (some g) :=
  ⟨h.os, h.tape, h.output, by simpa [World.setCell] using h.size, fun k hk hne => (Below.heap_setCell _ _ _ _ (by simp at hne; exact hne)).trans (h.block k hk hne)⟩

/-- the slice value reads as these numbers, and lies in another block than g -/
def RdN (w : World) (g : Nat) (v : Value) (ys : List Nat) : Prop :=
  ∃ a cap, v = .slice a ys.length cap ∧ (ys = [] ∨ ∃ b off, a = some ⟨b, off, none⟩ ∧ ¬ b = g ∧ ∀ i, i < ys.length → w.cell? ⟨b, off + i, none⟩ = some (.int .i64 (ys.getD i 0)))

set_option maxHeartbeats 1000000 in
theorem sealSum_rd (x : Nat) (ys : List Nat) (g : Nat) (v : Value) (w : World) (hx : x < 4294967296) (hys : ∀ i, i < ys.length → ys.getD i 0 < 2147483648) (hv : RdN w g v ys)
    (hc : w.cell? ⟨g, 0, none⟩ = some (.int .u32 x)) (hf : w.frozen? ⟨g, 0, none⟩ = false) (hlen : ys.length < 1000000) :
    Calls Tryd.prog 56 #[.func (.func 57) #[.pointer (some ⟨g, 0, none⟩)] #[], v] w
      fun e w' => e = .returned (.tuple #[]) ∧ w'.cell? ⟨g, 0, none⟩ = some (.int .u32 ((ys.foldl mixN x : Nat) : Int)) ∧ w'.frozen? ⟨g, 0, none⟩ = false ∧ w.grownBy w' (some g) ∧ w'.heap.size = w.heap.size := by
  obtain ⟨a, cap, rfl, h3⟩ := hv
  go_enter Tryd.func56, Tryd.ntmps56
  go_wp2_with fail
  go_loopw [8] (fun i wr => ∃ k : Nat, k ≤ ys.length ∧ i = .int .i64 k ∧ wr.cell? ⟨g, 0, none⟩ = some (.int .u32 (((ys.take k).foldl mixN x : Nat) : Int)) ∧ wr.frozen? ⟨g, 0, none⟩ = false ∧ w.grownBy wr (some g) ∧ wr.heap.size = w.heap.size) (fun i _ => ys.length - (intOf i).toNat)
  case atStart => exact ⟨0, Nat.zero_le _, rfl, hc, hf, ⟨rfl, rfl, rfl, Nat.le_refl _, fun _ _ _ => rfl⟩, rfl⟩
  case round =>
    obtain ⟨k, hk, rfl, hcr, hfr, hgr, hsr⟩ := hrel
    by_cases hlt : k < ys.length
    · rcases h3 with rfl | ⟨b, off, rfl, hgb, hl⟩
      · simp at hlt
      have hcx : wr.cell? ⟨b, off + k, none⟩ = some (.int .i64 (ys.getD k 0)) := hgr.cell (hl k hlt) (by simpa using hgb)
      have hF := foldl_lt (ys.take k) x hx
      have hY := hys k hlt
      have HS := hid (foldl_snoc ys x k hlt)
      generalize (ys.take k).foldl mixN x = X at *
      generalize ys.getD k 0 = Y at *
      clear hc hf hl hys
      go_wp2_with fail
      refine (mix_any X Y g _ hF hY hcr hfr).mono ?_
      rintro e w2 ⟨rfl, rfl⟩
      go_wp2
      go_roundw
      case rel =>
        refine ⟨k + 1, by omega, by go_num, ?_, ?_, ?_, ?_⟩
        · rw [HS.out]; exact World.cell?_setCell_same _ _ _ hcr
        · rw [← hfr]; simp
        · exact grown_set hgr
        · simpa [World.setCell] using hsr
      case measure => simp [intOf]; omega
    · have hkl : k = ys.length := by omega
      subst hkl
      rw [List.take_length] at hcr
      clear h3 hys
      go_wp2
      go_end0
      exact ⟨rfl, hcr, hfr, hgr, hsr⟩

theorem sealSum_n (x : Nat) (ys : List Nat) (n g b off cap : Nat) (w : World) (hn : ys.length = n) (hx : x < 4294967296) (hys : ∀ i, i < ys.length → ys.getD i 0 < 2147483648) (hgb : ¬ b = g)
    (hc : w.cell? ⟨g, 0, none⟩ = some (.int .u32 x)) (hf : w.frozen? ⟨g, 0, none⟩ = false)
    (hl : ∀ i, i < ys.length → w.cell? ⟨b, off + i, none⟩ = some (.int .i64 (ys.getD i 0))) (hlen : ys.length < 1000000) :
    Calls Tryd.prog 56 #[.func (.func 57) #[.pointer (some ⟨g, 0, none⟩)] #[], .slice (some ⟨b, off, none⟩) n cap] w
      fun e w' => e = .returned (.tuple #[]) ∧ w'.cell? ⟨g, 0, none⟩ = some (.int .u32 ((ys.foldl mixN x : Nat) : Int)) ∧ w'.frozen? ⟨g, 0, none⟩ = false ∧ w.grownBy w' (some g) ∧ w'.heap.size = w.heap.size := by
  subst hn
  exact sealSum_rd x ys g _ w hx hys ⟨_, cap, rfl, .inr ⟨b, off, rfl, hgb, hl⟩⟩ hc hf hlen
end Go.Proofs.YtpfelnkdimbhkaaDoor
