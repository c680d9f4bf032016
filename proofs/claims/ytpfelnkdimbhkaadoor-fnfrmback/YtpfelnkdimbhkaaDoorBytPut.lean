/- trial -/
import Derived.Test.YtpfelnkdimbhkaaDoorBytesMark
import Derived.Test.YtpfelnkdimbhkaaDoorInBase
import Derived.Deep.AppendLies
import Derived.Maps.AppendAt
import Derived.Deep.RegionLaw
namespace Go.Proofs.YtpfelnkdimbhkaaDoor
open Go.ChangeShapes Go.WideShapes Go.ChangeAt Go.RowKit Go.Joins Go.Deep
set_option linter.unusedVariables false
set_option maxRecDepth 100000

/-- the number's bytes, the one that counts most first -/
def putL (n s : Nat) : List Int := (List.range s).map fun (j : Nat) => ((n / 256 ^ (s - 1 - j) % 256 : Nat) : Int)
theorem putL_len (n s : Nat) : (putL n s).length = s := by simp [putL]
theorem putL_in (n s : Nat) : ∀ x ∈ putL n s, 0 ≤ x ∧ x ≤ 255 := by
  intro x hx
  simp only [putL, List.mem_map] at hx
  obtain ⟨i, _, rfl⟩ := hx
  omega
theorem putL_snoc (n s j : Nat) (h : j < s) : (putL n s).take (j + 1) = (putL n s).take j ++ [((n / 256 ^ (s - 1 - j) % 256 : Nat) : Int)] := by
  rw [List.take_succ_eq_append_getElem (by rw [putL_len]; exact h)]
  simp [putL]

theorem info8' : ∃ i, Tryd.prog.info? 5 = some i ∧ i.zero = some (.int .u8 0) ∧ i.size = 1 ∧ i.bytes = 1 := by
  obtain ⟨i, hi, hzz⟩ := Option.map_eq_some_iff.1 info8
  simp only [Prod.mk.injEq] at hzz
  exact ⟨i, hi, hzz.1, hzz.2.1, hzz.2.2⟩

theorem own_ints {w : World} {B : Nat} {v : Value} {xs : List Int} (h : Own w B v xs) : w.ownsRow B 5 1 v xs.length (xs.map (Value.int .u8)) := h.2

theorem shr_run {P : Program} (n e : Nat) (he : e ≤ 3) (hn : n < 9223372036854775808) :
    ∃ Y Z : Int, Y = ((n / 256 ^ e : Nat) : Int) ∧ (∀ w, Sem.run P (Op.shift .shr .i64 (n : Int) .i64 (IntKind.i64.wrap (8 * (e : Int)))) w = .ok (.int .i64 Y) w) ∧
    (∀ w, Sem.run P (Op.shift .shr .i64 (n : Int) .i64 (8 * (e : Int))) w = .ok (.int .i64 Y) w) ∧
    IntKind.u8.wrap Y = Z ∧ Z = ((n / 256 ^ e % 256 : Nat) : Int) ∧ 0 ≤ Z ∧ Z ≤ 255 := by
  have h8 : IntKind.i64.wrap (8 * (e : Int)) = 8 * (e : Int) := by rw [IntKind.wrap_i64]; omega
  have hp : ((n : Int) / 2 ^ (8 * (e : Int)).toNat) = ((n / 256 ^ e : Nat) : Int) := by
    have : (8 * (e : Int)).toNat = 8 * e := by omega
    rw [this, Nat.pow_mul 2 8 e |> fun h => (by exact_mod_cast h : (2 : Int) ^ (8 * e) = (2 ^ 8) ^ e)]
    simp
  have h2 : ∀ w, Sem.run P (Op.shift .shr .i64 (n : Int) .i64 (8 * (e : Int))) w = .ok (.int .i64 ((n / 256 ^ e : Nat) : Int)) w := by
    intro w
    have h := shift_shr .i64 .i64 (n : Int) (8 * (e : Int)) (by omega) (by simp [IntKind.bits]; omega)
    rw [h, hp]
    rfl
  refine ⟨_, _, rfl, fun w => by rw [h8]; exact h2 w, h2, ?_, rfl, by omega, by omega⟩
  rw [IntKind.wrap_u8]
  omega
theorem own_drew {w : World} {base size n : Nat} {e : TypeId} {v : Value} {xs : List Value} (h : w.ownsRow base e size v n xs) : w.drew.ownsRow base e size v n xs := h
theorem cell_new1d (w : World) (x : Value) (t : TypeId) : ∀ (j : Nat) (u : Value), [x][j]? = some u → (w.alloc (.cells #[x] t)).drew.cell? ((⟨w.heap.size, 0, none⟩ : Addr).add j) = some u := fun j u h => cell_one_new w x t j u h

theorem after_append {wr w2 : World} {o : Obj} {row : Option Nat} {r : Nat} {v : Value} (hc : wr.cell? ⟨r, 0, none⟩ = some v) (hf : wr.frozen? ⟨r, 0, none⟩ = false) (hg : ((wr.alloc o).drew).grownBy w2 row) (hne : some r ≠ row) :
    w2.cell? ⟨r, 0, none⟩ = some v ∧ w2.frozen? ⟨r, 0, none⟩ = false := by
  have hlt : r < wr.heap.size := World.block_lt_of_cell? wr ⟨r, 0, none⟩ hc
  have hb : Below wr.heap.size wr (wr.alloc o).drew := (below_alloc1 _ _).drew
  refine ⟨hg.cell (cell_keep hb hc) hne, ?_⟩
  rw [World.frozen?_of_block (hg.block r (by simp; omega) hne), hb.frozen (p := ⟨r, 0, none⟩) hlt]
  exact hf
theorem own_more {w w' : World} {B n cap g : Nat} {v : Value} {xs : List Int} {Z : Int} (ho : Own w' B v xs) (hn : xs.length = n) (z0 : 0 ≤ Z) (z1 : Z ≤ 255) (h : w.ownsRow B 5 1 (.slice (some ⟨g, 0, none⟩) (n + 1) cap) (n + 1) (xs.map (Value.int .u8) ++ [.int .u8 Z])) :
    Own w B (.slice (some ⟨g, 0, none⟩) (n + 1) cap) (xs ++ [Z]) := by
  refine ⟨fun x hx => ?_, ?_⟩
  · rcases List.mem_append.1 hx with hx | hx
    · exact ho.1 x hx
    · simp at hx; subst hx; exact ⟨z0, z1⟩
  · have e : (xs ++ [Z]).length = n + 1 := by simp [hn]
    rw [e, List.map_append]; exact h

set_option maxHeartbeats 2000000 in
theorem lay_any (r : Nat) (n s : Nat) (v : Value) (xs : List Int) (B C : Nat) (w : World) (hs : s ≤ 4) (hn : n < 9223372036854775808) (hx : xs.length ≤ 1000)
    (hc : w.cell? ⟨r, 0, none⟩ = some v) (hf : w.frozen? ⟨r, 0, none⟩ = false) (ho : Own w B v xs) (hrB : r < B) (hC : C ≤ r) (hB : B ≤ w.heap.size) :
    Calls Tryd.prog 41 #[.pointer (some ⟨r, 0, none⟩), .int .i64 n, .int .i64 s] w fun e w' => e = .returned (.tuple #[]) ∧ ∃ v', w'.cell? ⟨r, 0, none⟩ = some v' ∧ w'.frozen? ⟨r, 0, none⟩ = false ∧ Own w' B v' (xs ++ putL n s) ∧ Below C w w' := by
  obtain ⟨ti, hti, htz, hts, htb⟩ := info8'
  have HOW := hid ho
  clear ho
  go_enter Tryd.func41, Tryd.ntmps41
  go_wp2_with fail
  go_loopw [6] (fun i wr => ∃ j : Nat, j ≤ s ∧ i = .int .i64 ((s : Int) - 1 - j) ∧ (∃ u, wr.cell? ⟨r, 0, none⟩ = some u ∧ wr.frozen? ⟨r, 0, none⟩ = false ∧ Own wr B u (xs ++ (putL n s).take j)) ∧ Below C w wr) (fun i _ => (intOf i + 1).toNat)
  case atStart => exact ⟨0, Nat.zero_le _, by simp, ⟨v, hc, hf, by simpa using HOW.out⟩, Below.refl _ _⟩
  case round =>
    obtain ⟨j, hj, rfl, ⟨u, hcu, hfu, hou⟩, hBe⟩ := hrel
    by_cases hlt : j < s
    · obtain ⟨a, cap, rfl, hua⟩ := own_form hou
      obtain ⟨e, he⟩ : ∃ e : Nat, (s : Int) - 1 - j = e := ⟨s - 1 - j, by omega⟩
      have hje : j + e + 1 = s := by omega
      have HS := hid (putL_snoc n s j hlt)
      rw [show s - 1 - j = e from by omega] at HS
      have hm : (xs ++ (putL n s).take j).length = xs.length + j := by simp [putL_len]; omega
      rw [hm] at hcu hou
      have HM := hid hm
      have HO := hid hou
      have HB := hid hBe
      have hzr := hBe.size
      have hje := hid hje
      have he := hid he
      rw [he.out]
      have e3 : (e : Int) ≤ 3 := by have := hje.out; omega
      have e0 : (0 : Int) ≤ (e : Int) := by omega
      obtain ⟨Y, Z, hY, hs1, hs2, hs3, hZ, z0, z1⟩ := shr_run (P := Tryd.prog) n e (by have := hje.out; omega) hn
      have HZ := hid hZ
      have HR := own_ints HO.out
      rw [HM.out] at HR
      have HR := hid HR
      have hne : some r ≠ (Value.slice a (xs.length + j) cap).ownBlock := by
        intro h
        have := (HR.out.lt r h.symm).1
        omega
      have hrw : r < wr.heap.size := World.block_lt_of_cell? wr ⟨r, 0, none⟩ hcu
      clear hc hf hou hBe hm hY hZ
      go_wp2_with fail
      go_region_law ((refine step_append_lies _ (by rfl) _ _ 22 (by rfl) B 5 ti (.int .u8 0) 1 1 Tryd.underlying22 hti htz hts htb rfl (by omega) (.slice a (xs.length + j) cap) (xs.length + j) ((xs ++ (putL n s).take j).map (Value.int .u8)) (by rfl) (by exact own_drew (HR.out.alloc _)) ⟨wr.heap.size, 0, none⟩ 1 1 [.int .u8 Z] (by rfl) rfl (by exact cell_new1d _ _ _) (by intro u hu; simp at hu; subst hu; rfl) (by omega) (by unfold maxLen; omega) (by omega) (by simp; omega) (wr.heap.size + 1) (by simp) ?_; intro g cap2 w2 ho2 hg2 hat hlt2; obtain ⟨hc2, hf2⟩ := after_append hcu hfu hg2 hne))
      all_goals
        go_wp2
        go_roundw
        case rel =>
          refine ⟨j + 1, by omega, ?_, ⟨.slice (some ⟨g, 0, none⟩) (xs.length + j + 1) cap2, World.cell?_setCell_same _ _ _ hc2, by rw [← hf2]; simp, ?_⟩, ?_⟩
          · have := he.out
            exact congrArg (Value.int .i64) (by omega)
          · rw [HS.out, ← HZ.out, ← List.append_assoc]
            exact own_more HO.out HM.out z0 z1 (ownsRow_setCell_below ho2 (a := ⟨r, 0, none⟩) hrB _)
          · exact ((((HB.out.alloc (by omega) _).drew).grown hg2 (by simp; omega) (by intro k hk; have := (HR.out.lt k hk).1; omega)).setCell (by dsimp only; omega) _)
        case measure => simp [intOf]
    · have hkl : j = s := by omega
      subst hkl
      have HO := hid hou
      have HB := hid hBe
      clear hc hf hou hBe
      go_wp2
      go_end0
      refine ⟨rfl, u, hcu, hfu, ?_, HB.out⟩
      have h := HO.out
      rw [List.take_of_length_le (by rw [putL_len]; exact Nat.le_refl _)] at h
      exact h

/-- whether a number may be written as so many bytes, and the bytes -/
def putOk (n s : Int) : Bool := inB s 1 4 && inB n 0 (256 ^ s.toNat - 1)
def putB (n s : Int) : List Int := if putOk n s then putL n.toNat s.toNat else []
theorem putB_in (n s : Int) : ∀ x ∈ putB n s, 0 ≤ x ∧ x ≤ 255 := by
  unfold putB
  split
  · exact putL_in _ _
  · simp
theorem putB_len (n s : Int) : (putB n s).length ≤ 4 := by
  unfold putB
  split
  · rename_i h
    simp only [putOk, inB, Bool.and_eq_true, decide_eq_true_eq] at h
    rw [putL_len]; omega
  · simp
theorem shl_run (s : Nat) (h1 : 1 ≤ s) (h4 : s ≤ 4) : ∃ M : Int, M = 256 ^ s ∧ 256 ≤ M ∧ M ≤ 4294967296 ∧ (2 : Int) ^ (8 * s) = M := by
  match s, h1, h4 with
  | 1, _, _ => exact ⟨_, rfl, by decide, by decide, by decide⟩
  | 2, _, _ => exact ⟨_, rfl, by decide, by decide, by decide⟩
  | 3, _, _ => exact ⟨_, rfl, by decide, by decide, by decide⟩
  | 4, _, _ => exact ⟨_, rfl, by decide, by decide, by decide⟩

set_option maxHeartbeats 1000000 in
theorem bytPut_any (n s : Int) (w : World) (hn : n < 9223372036854775808) :
    Calls Tryd.prog 12 #[.int .i64 n, .int .i64 s] w fun e w' => ∃ v', e = .returned v' ∧ Own w' w.heap.size v' (putB n s) ∧ Below w.heap.size w w' := by
  cases h1 : inB s 1 4
  · have H := hid (show putB n s = [] by simp [putB, putOk, h1])
    go_enter Tryd.func12, Tryd.ntmps12
    go_wp2_with (go_at_call 40; refine (within_any _ _ _ _).mono ?_; rintro e w' ⟨rfl, rfl⟩)
    go_ret
    exact ⟨_, rfl, by rw [H.out]; exact ⟨by simp, World.ownsRow_nil _ _ _ _⟩, Below.refl _ _⟩
  · have g1 := (show 1 ≤ s ∧ s ≤ 4 by simpa [inB] using h1)
    obtain ⟨S, rfl⟩ := Int.eq_ofNat_of_zero_le (show 0 ≤ s by omega)
    obtain ⟨M, hM, M0, M1, hsh⟩ := shl_run S (by omega) (by omega)
    have hk : putOk n S = inB n 0 (M - 1) := by simp [putOk, h1, hM]
    have HK := hid hk
    have HM := hid hM
    clear hk hM
    cases h2 : inB n 0 (M - 1)
    · have H := hid (show putB n S = [] by simp [putB, HK.out, h2])
      go_enter Tryd.func12, Tryd.ntmps12
      go_wp2_with (go_at_call 40; refine (within_any _ _ _ _).mono ?_; rintro e w' ⟨rfl, rfl⟩)
      go_ret
      exact ⟨_, rfl, by rw [H.out]; exact ⟨by simp, World.ownsRow_nil _ _ _ _⟩, Below.refl _ _⟩
    · have g2 := (show 0 ≤ n ∧ n ≤ M - 1 by simpa [inB] using h2)
      obtain ⟨K, rfl⟩ := Int.eq_ofNat_of_zero_le g2.1
      have H := hid (show putB K S = putL K S by simp [putB, HK.out, h2])
      go_enter Tryd.func12, Tryd.ntmps12
      go_wp2_with (go_at_call 40; refine (within_any _ _ _ _).mono ?_; rintro e w' ⟨rfl, rfl⟩)
      refine (lay_any w'.heap.size K S (.slice none 0 0) [] (w'.heap.size + 1) w'.heap.size _ (by omega) (by omega) (by simp) (by go_simp) (by go_simp) ⟨by simp, World.ownsRow_nil _ _ _ _⟩ (by omega) (Nat.le_refl _) (by simp)).mono ?_
      rintro e w2 ⟨rfl, v2, c2, f2, o2, b2⟩
      have HB := hid ((below_alloc1 _ _).trans b2)
      have HO := hid o2
      clear b2 o2
      go_wp2
      go_ret
      refine ⟨_, rfl, ?_, HB.out⟩
      rw [H.out]
      exact ⟨HO.out.1, ownsRow_le HO.out.2 (by omega)⟩
end Go.Proofs.YtpfelnkdimbhkaaDoor
