/- The contract of sealRaised: each byte as a number, with the same added to each, in memory of its own. Conditions: the argument reads as bytes; what is added lies in 0..1000. -/
import Derived.Test.YtpfelnkdimbhkaaDoorBytesTo
import Derived.Test.YtpfelnkdimbhkaaDoorMakeCap
import Derived.Deep.DeepAppendRoom
import Derived.OwnWalk
namespace Go.Proofs.YtpfelnkdimbhkaaDoor
open Go.ChangeShapes Go.WideShapes Go.ChangeAt Go.RowKit Go.Joins Go.Deep
set_option linter.unusedVariables false
set_option maxRecDepth 4000

theorem infoI : ∃ i, Tryd.prog.info? 3 = some i ∧ i.size = 1 := by
  obtain ⟨i, hi, h⟩ := Option.map_eq_some_iff.1 (show (Tryd.prog.info? 3).map (fun i => i.size) = some 1 by kernel_rfl)
  exact ⟨i, hi, h⟩
theorem infoI' : (Tryd.prog.info? 3).map (fun i => (i.zero, i.size, i.bytes)) = some (some (.int .i64 0), 1, 8) := by kernel_rfl

theorem cell_new1 (w : World) (x : Value) (t : TypeId) : ∀ (j : Nat) (u : Value), [x][j]? = some u → (w.alloc (.cells #[x] t)).cell? ((⟨w.heap.size, 0, none⟩ : Addr).add j) = some u := by
  intro j u h
  match j, h with
  | 0, h => simp at h; subst h; simp [Addr.add]

theorem map_take_succ (xs : List Int) (f : Int → Value) (k : Nat) (h : k < xs.length) : (xs.take (k + 1)).map f = (xs.take k).map f ++ [f (xs.getD k 0)] := by
  rw [List.take_succ_eq_append_getElem h, List.map_append]; simp [h]

set_option maxHeartbeats 1000000 in
theorem sealRaised_any (v : Value) (xs : List Int) (m : Int) (w : World) (hv : Rd w v xs) (m0 : 0 ≤ m) (m1 : m ≤ 1000) :
    Calls Tryd.prog 58 #[v, .int .i64 m] w fun e w' => ∃ v', e = .returned v' ∧ w'.ownsRow w.heap.size 3 1 v' xs.length (xs.map fun x => .int .i64 (m + x)) ∧ Below w.heap.size w w' := by
  obtain ⟨h1, h2, a, cap, rfl, h3⟩ := hv
  obtain ⟨ti, hti, htz⟩ := infoI
  have hmk := run_make_cap (P := Tryd.prog) 53 3 (.int .i64 0) 8 Tryd.underlying53 infoI' rfl .i64 .i64 xs.length (by omega) (by omega)
  go_enter Tryd.func58, Tryd.ntmps58
  go_wp2_with fail
  go_loopw [5, 13] (fun l i wr => ∃ k : Nat, k ≤ xs.length ∧ i = .int .i64 k ∧ l = .slice (some ⟨w.heap.size, 0, none⟩) k xs.length ∧ wr.ownsRow w.heap.size 3 1 (.slice (some ⟨w.heap.size, 0, none⟩) k xs.length) k ((xs.take k).map fun x => .int .i64 (m + x)) ∧ Below w.heap.size w wr) (fun _ i _ => xs.length - (intOf i).toNat)
  case atStart => exact ⟨0, Nat.zero_le _, rfl, rfl, World.ownsRow_made w _ _ (Nat.le_refl _) (by unfold maxLen; omega) (by rw [size_madeCells]; omega), below_alloc1 _ _⟩
  case round =>
    obtain ⟨k, hk, rfl, rfl, hown, hB⟩ := hrel
    by_cases hlt : k < xs.length
    · rcases h3 with rfl | ⟨b, off, rfl, hc⟩
      · simp at hlt
      have hcx := cell_keep hB (hc k hlt)
      have hx := h1 (xs.getD k 0) (by rw [List.getD_eq_getElem?_getD, List.getElem?_eq_getElem hlt]; exact List.getElem_mem hlt)
      have HS := hid (map_take_succ xs (fun x => .int .i64 (m + x)) k hlt)
      generalize xs.getD k 0 = X at hcx hx HS
      obtain ⟨x0, x1⟩ := hx
      have HB := hid hB
      have HO := hid hown
      clear hc h1 hB hown hmk
      go_wp2_with (at_builtin; refine wpList_append_own_spare _ rfl _ _ 53 rfl w.heap.size 3 ti 1 Tryd.underlying53 hti htz w.heap.size k xs.length _ rfl (HO.out.alloc _) ⟨wr.heap.size, 0, none⟩ 1 1 [.int .i64 (m + X)] rfl rfl ?c1 ?c2 ?c3 ?_)
      case c1 => exact cell_new1 _ _ _
      case c2 => intro u hu; simp at hu; subst hu; rfl
      case c3 => omega
      intro w2 ho2 hg2
      go_wp2
      go_roundw
      case rel =>
        refine ⟨k + 1, by omega, by go_num, rfl, ?_, ?_⟩
        · rw [HS.out]; rw [← List.map_take] at ho2; exact ho2
        · exact ((HB.out.alloc HB.out.size _).grown hg2 (by simp; have := HB.out.size; omega) (by intro j hj; simp at hj; omega))
      case measure => simp [intOf]; omega
    · have hkl : k = xs.length := by omega
      subst hkl
      rw [List.take_length] at hown
      have HB := hid hB
      have HO := hid hown
      clear h3 h1 hB hown hmk
      go_wp2
      go_ret
      exact ⟨_, rfl, HO.out, HB.out⟩
end Go.Proofs.YtpfelnkdimbhkaaDoor
