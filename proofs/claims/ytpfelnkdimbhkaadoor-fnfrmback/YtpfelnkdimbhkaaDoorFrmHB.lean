/- The contract of the program's FrmHeadBytes. -/
import Derived.Test.YtpfelnkdimbhkaaDoorFrmHead
import Derived.Test.YtpfelnkdimbhkaaDoorByteStr
namespace Go.Proofs.YtpfelnkdimbhkaaDoor
open Go.ChangeShapes Go.WideShapes Go.ChangeAt Go.RowKit Go.Joins Go.Deep
set_option linter.unusedVariables false
set_option maxRecDepth 4000

theorem keep_app {w wr w2 : World} {ob : Obj} {row : Option Nat} {r B : Nat} {v : Value} (hk : ∀ i o, i < B → ¬ i = r → wr.cell? ⟨i, o, none⟩ = w.cell? ⟨i, o, none⟩) (hg : ((wr.alloc ob).drew).grownBy w2 row) (hrow : ∀ k, row = some k → B ≤ k) (hz : B ≤ wr.heap.size) :
    ∀ i o, i < B → ¬ i = r → (w2.setCell ⟨r, 0, none⟩ v).cell? ⟨i, o, none⟩ = w.cell? ⟨i, o, none⟩ := by
  intro i o hi hne
  have hb := hg.block i (by simp; omega) (fun e => by have := hrow i e.symm; omega)
  have h2 : w2.cell? ⟨i, o, none⟩ = ((wr.alloc ob).drew).cell? ⟨i, o, none⟩ := by simp only [World.cell?, hb]
  rw [World.cell?_setCell_other _ _ _ _ (by intro e; apply hne; injection e with e1; exact e1.symm), h2, (below_alloc1 wr ob).drew.cell (p := ⟨i, o, none⟩) (by dsimp only; omega)]
  exact hk i o hi hne

set_option maxHeartbeats 2000000 in
theorem lay2_any (r : Nat) (n s : Nat) (v : Value) (xs : List Int) (B C : Nat) (w : World) (hs : s ≤ 4) (hn : n < 9223372036854775808) (hx : xs.length ≤ 1000)
    (hc : w.cell? ⟨r, 0, none⟩ = some v) (hf : w.frozen? ⟨r, 0, none⟩ = false) (ho : Own w B v xs) (hrB : r < B) (hC : C ≤ r) (hB : B ≤ w.heap.size) :
    Calls Tryd.prog 41 #[.pointer (some ⟨r, 0, none⟩), .int .i64 n, .int .i64 s] w fun e w' => e = .returned (.tuple #[]) ∧ ∃ v', w'.cell? ⟨r, 0, none⟩ = some v' ∧ w'.frozen? ⟨r, 0, none⟩ = false ∧ Own w' B v' (xs ++ putL n s) ∧ Below C w w' ∧ (∀ i o, i < B → ¬ i = r → w'.cell? ⟨i, o, none⟩ = w.cell? ⟨i, o, none⟩) := by
  obtain ⟨ti, hti, htz, hts, htb⟩ := info8'
  have HOW := hid ho
  clear ho
  go_enter Tryd.func41, Tryd.ntmps41
  go_wp2_with fail
  go_loopw [6] (fun i wr => ∃ j : Nat, j ≤ s ∧ i = .int .i64 ((s : Int) - 1 - j) ∧ (∃ u, wr.cell? ⟨r, 0, none⟩ = some u ∧ wr.frozen? ⟨r, 0, none⟩ = false ∧ Own wr B u (xs ++ (putL n s).take j)) ∧ Below C w wr ∧ Hid (∀ i o, i < B → ¬ i = r → wr.cell? ⟨i, o, none⟩ = w.cell? ⟨i, o, none⟩)) (fun i _ => (intOf i + 1).toNat)
  case atStart => exact ⟨0, Nat.zero_le _, by simp, ⟨v, hc, hf, by simpa using HOW.out⟩, Below.refl _ _, fun _ _ _ _ => rfl⟩
  case round =>
    obtain ⟨j, hj, rfl, ⟨u, hcu, hfu, hou⟩, hBe, HKP⟩ := hrel
    by_cases hlt : j < s
    · obtain ⟨a, cap, rfl, hua⟩ := own_form hou
      obtain ⟨e, he⟩ : ∃ e : Nat, (s : Int) - 1 - j = e := ⟨s - 1 - j, by omega⟩
      have hje : j + e + 1 = s := by omega
      have HS := hid (putL_snoc n s j hlt)
      rw [show s - 1 - j = e from by omega] at HS
      have hm : (xs ++ (putL n s).take j).length = xs.length + j := by simp [putL_len]; omega
      rw [hm] at hcu hou
      have HM := hid hm
      have HO := hid hou
      have HB := hid hBe
      have hzr := hBe.size
      have hje := hid hje
      have he := hid he
      rw [he.out]
      have e3 : (e : Int) ≤ 3 := by have := hje.out; omega
      have e0 : (0 : Int) ≤ (e : Int) := by omega
      obtain ⟨Y, Z, hY, hs1, hs2, hs3, hZ, z0, z1⟩ := shr_run (P := Tryd.prog) n e (by have := hje.out; omega) hn
      have HZ := hid hZ
      have HR := own_ints HO.out
      rw [HM.out] at HR
      have HR := hid HR
      have hne : some r ≠ (Value.slice a (xs.length + j) cap).ownBlock := by
        intro h
        have := (HR.out.lt r h.symm).1
        omega
      have hrw : r < wr.heap.size := World.block_lt_of_cell? wr ⟨r, 0, none⟩ hcu
      clear hc hf hou hBe hm hY hZ
      go_wp2_with fail
      go_region_law ((refine step_append_lies _ (by rfl) _ _ 22 (by rfl) B 5 ti (.int .u8 0) 1 1 Tryd.underlying22 hti htz hts htb rfl (by omega) (.slice a (xs.length + j) cap) (xs.length + j) ((xs ++ (putL n s).take j).map (Value.int .u8)) (by rfl) (by exact own_drew (HR.out.alloc _)) ⟨wr.heap.size, 0, none⟩ 1 1 [.int .u8 Z] (by rfl) rfl (by exact cell_new1d _ _ _) (by intro u hu; simp at hu; subst hu; rfl) (by omega) (by unfold maxLen; omega) (by omega) (by simp; omega) (wr.heap.size + 1) (by simp) ?_; intro g cap2 w2 ho2 hg2 hat hlt2; obtain ⟨hc2, hf2⟩ := after_append hcu hfu hg2 hne))
      all_goals
        go_wp2
        go_roundw
        case rel =>
          refine ⟨j + 1, by omega, ?_, ⟨.slice (some ⟨g, 0, none⟩) (xs.length + j + 1) cap2, World.cell?_setCell_same _ _ _ hc2, by rw [← hf2]; simp, ?_⟩, ?_, ?_⟩
          · have := he.out
            exact congrArg (Value.int .i64) (by omega)
          · rw [HS.out, ← HZ.out, ← List.append_assoc]
            exact own_more HO.out HM.out z0 z1 (ownsRow_setCell_below ho2 (a := ⟨r, 0, none⟩) hrB _)
          · exact ((((HB.out.alloc (by omega) _).drew).grown hg2 (by simp; omega) (by intro k hk; have := (HR.out.lt k hk).1; omega)).setCell (by dsimp only; omega) _)
          · exact keep_app HKP.out hg2 (by intro k hk; exact (HR.out.lt k hk).1) (by omega)
        case measure => simp [intOf]
    · have hkl : j = s := by omega
      subst hkl
      have HO := hid hou
      have HB := hid hBe
      clear hc hf hou hBe
      go_wp2
      go_end0
      refine ⟨rfl, u, hcu, hfu, ?_, HB.out, HKP.out⟩
      have h := HO.out
      rw [List.take_of_length_le (by rw [putL_len]; exact Nat.le_refl _)] at h
      exact h

set_option maxHeartbeats 2000000 in
theorem fields_any (k f t y b p e s : Int) (w : World) :
    Calls Tryd.prog 65 #[.agg #[.int .i64 k, .int .i64 f, .int .i64 t, .int .i64 y, .int .i64 b, .int .i64 p, .int .i64 e, .int .i64 s]] w fun x w' => x = .returned (.slice (some ⟨w.heap.size + 1, 0, none⟩) 8 8) ∧ w' = (w.alloc (.cells #[.int .i64 k, .int .i64 f, .int .i64 t, .int .i64 y, .int .i64 b, .int .i64 p, .int .i64 e, .int .i64 s] 37)).alloc (.cells #[.iface 113 (.int .i64 k), .iface 113 (.int .i64 f), .iface 113 (.int .i64 t), .iface 113 (.int .i64 y), .iface 114 (.int .i64 b), .iface 114 (.int .i64 p), .iface 113 (.int .i64 e), .iface 114 (.int .i64 s)] 20) := by
  go_enter Tryd.func65, Tryd.ntmps65
  go_wp2
  go_ret
  exact ⟨rfl, rfl⟩

theorem as_bb (v : Value) (w : World) : (Instr.typeAssert (.iface 113 v) 20 113 true).run Tryd.prog w = .ok (.tuple #[v, .bool true]) w := by kernel_rfl
theorem as_pb (v : Value) (w : World) : (Instr.typeAssert (.iface 114 v) 20 113 true).run Tryd.prog w = .ok (.tuple #[.int .i64 0, .bool false]) w := by kernel_rfl
theorem as_pp (v : Value) (w : World) : (Instr.typeAssert (.iface 114 v) 20 114 true).run Tryd.prog w = .ok (.tuple #[v, .bool true]) w := by kernel_rfl
theorem field_byte (n : Int) (w : World) :
    Calls Tryd.prog 66 #[.iface 113 (.int .i64 n)] w fun x w' => x = .returned (.tuple #[.int .i64 n, .int .i64 1]) ∧ w' = w := by
  have h1 := as_bb (.int .i64 n) w
  go_enter Tryd.func66, Tryd.ntmps66
  go_wp2
  refine bodyPost_ret (v := .tuple #[.int .i64 n, .int .i64 1]) (by simp [results, Tryd.results66, go_sem]) rfl ?_
  exact ⟨rfl, rfl⟩
theorem field_pair (n : Int) (w : World) :
    Calls Tryd.prog 66 #[.iface 114 (.int .i64 n)] w fun x w' => x = .returned (.tuple #[.int .i64 n, .int .i64 2]) ∧ w' = w := by
  have h1 := as_pb (.int .i64 n) w
  have h2 := as_pp (.int .i64 n) w
  go_enter Tryd.func66, Tryd.ntmps66
  go_wp2
  refine bodyPost_ret (v := .tuple #[.int .i64 n, .int .i64 2]) (by simp [results, Tryd.results66, go_sem]) rfl ?_
  exact ⟨rfl, rfl⟩
end Go.Proofs.YtpfelnkdimbhkaaDoor
