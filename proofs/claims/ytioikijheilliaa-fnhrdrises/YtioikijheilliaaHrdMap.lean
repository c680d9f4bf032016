/- A book's pages while a call lasts: a map with struct keys, as a function of node and what. Conditions: nodes and numbers within bounds. -/
import Derived.Test.YtioikijheilliaaVBk
import Derived.Test.YtioikijheilliaaInBase
import Derived.Maps.Own
import Derived.Maps.Views
import Derived.DeepKeys4
namespace Go.Proofs.Ytioikijheilliaa
open Go.ChangeShapes Go.WideShapes Go.ChangeAt Go.RowKit Go.Joins Go.Deep
open Go.Maps (Keyed)
set_option linter.unusedVariables false
set_option linter.unusedSimpArgs false
set_option maxRecDepth 4000

theorem plLaidOut : laidOutB Try.prog = true := by kernel_rfl
theorem plRow : (102 : TypeId) < Try.prog.types.size := of_decide_eq_true (by kernel_rfl)
theorem plCells : Try.prog.cellsOf 102 = 2 := by kernel_rfl
theorem plInt : Try.prog.cellsOf 3 = 1 := by kernel_rfl
theorem plWide : (match Try.prog.underlying 102 with | some (.array _ _) | some (.struct _) => true | _ => false) = true := by kernel_rfl
theorem plKeyed : Keyed Try.prog 102 := Keyed.of_law (deep_law_laid plLaidOut (m := 2) (by omega) plRow (by kernel_rfl) plWide)
theorem plType : Try.prog.keyType 102 = true := by kernel_rfl
theorem plSize : ∃ m, Try.prog.types.size = m + 1 := ⟨Try.prog.types.size - 1, by kernel_rfl⟩
theorem plZero (w : World) : (zeroValue 3).run Try.prog w = .ok (.int .i64 0) w := by kernel_rfl

def kL (a b : Int) : Lit := .string (keyBytes [.int .i64 a, .int .i64 b])
theorem placeKey {a b : Int} (wa : (Lit.int .i64 a).wf = true) (wb : (Lit.int .i64 b).wf = true) : keyOf Try.prog 102 (.agg #[.int .i64 a, .int .i64 b]) = some (kL a b) := by
  obtain ⟨m, hm⟩ := plSize
  unfold keyOf
  simp only [Try.underlying102]
  rw [if_pos (by simp [plType, Value.formed, Try.underlying102, plCells]), hm]
  unfold Program.keyLits
  simp only [Try.underlying102, Value.cells]
  simp [plCells, plInt, Program.keyLits, Try.underlying3, wa, wb, kL]
theorem kL_inj {a b c d : Int} (wa : (Lit.int .i64 a).wf = true) (wb : (Lit.int .i64 b).wf = true) (wc : (Lit.int .i64 c).wf = true) (wd : (Lit.int .i64 d).wf = true) (h : kL a b = kL c d) : a = c ∧ b = d := by
  have h1 := placeKey wa wb
  have h2 := placeKey wc wd
  rw [h] at h1
  have := plKeyed.inj h1 h2
  simpa using this
theorem wf_small {x : Int} (h0 : 0 ≤ x) (h1 : x ≤ 1000000) : (Lit.int .i64 x).wf = true := WalkArith.wf_i64 (by omega)

/-- the block is a map that holds, of each node and each of the two things, that number -/
def Pg (w : World) (B N : Nat) (f : Int → Int → Int) : Prop :=
  ∃ D : DataW Unit, w.ownsMap Try.prog 102 (plainElem Try.prog 3) B N D ∧ Maps.IsMap D ∧ ∀ i t : Int, 0 ≤ i → i ≤ 3 → 0 ≤ t → t ≤ 1 → D.atKey (kL i t) (.lit (.int .i64 0)) = .lit (.int .i64 (f i t))
theorem Pg.kept {w w' : World} {B N : Nat} {f : Int → Int → Int} {row : Option Nat} (h : Pg w B N f) (hg : w.grownBy w' row) (hn : some B ≠ row) : Pg w' B N f := by
  obtain ⟨D, h1, h2, h3⟩ := h
  exact ⟨D, h1.kept hg hn, h2, h3⟩
theorem Pg.below {w w' : World} {B N : Nat} {f : Int → Int → Int} (h : Pg w B N f) (hb : Below w.heap.size w w') : Pg w' B N f :=
  h.kept (row := none) ⟨hb.os, hb.tape, hb.output, hb.size, fun k hk _ => hb.block k hk⟩ (by simp)
theorem Pg.lt {w : World} {B N : Nat} {f : Int → Int → Int} (h : Pg w B N f) : B < w.heap.size := by
  obtain ⟨D, h1, _⟩ := h
  exact h1.lt
theorem pg_made (w : World) : Pg (w.alloc (.map #[] 0)) w.heap.size 0 (fun _ _ => 0) :=
  ⟨.map [], World.ownsMap_made _ _ _ _, Maps.isMap_empty, fun _ _ _ _ _ _ => rfl⟩
theorem pg_look {w : World} {B N : Nat} {f : Int → Int → Int} (h : Pg w B N f) {i t : Int} (i0 : 0 ≤ i) (i1 : i ≤ 3) (t0 : 0 ≤ t) (t1 : t ≤ 1) :
    (Instr.lookup 88 (.map (some B)) (.agg #[.int .i64 i, .int .i64 t]) false).run Try.prog w = .ok (.int .i64 (f i t)) w := by
  obtain ⟨D, h1, h2, h3⟩ := h
  obtain ⟨c, hr, hc, _⟩ := h1.lookup_int (t := 88) plKeyed Try.underlying88 Try.underlying3 (plZero w) (placeKey (wf_small i0 (by omega)) (wf_small t0 (by omega)))
  rw [h3 i t i0 i1 t0 t1] at hc
  simp only [DataW.lit.injEq, Lit.int.injEq, true_and] at hc
  rw [hr, hc]
def upP (f : Int → Int → Int) (i t x : Int) : Int → Int → Int := fun j u => if j = i ∧ u = t then x else f j u
theorem pg_put {w : World} {B N : Nat} {f : Int → Int → Int} (h : Pg w B N f) (hN : N < 1000) {i t x : Int} (i0 : 0 ≤ i) (i1 : i ≤ 3) (t0 : 0 ≤ t) (t1 : t ≤ 1) (x0 : 0 ≤ x) (x1 : x ≤ 60000) :
    ∃ w', (Instr.mapUpdate 88 (.map (some B)) (.agg #[.int .i64 i, .int .i64 t]) (.int .i64 x)).run Try.prog w = .ok () w' ∧ Pg w' B (N + 1) (upP f i t x) ∧ w.grownBy w' (some B) := by
  obtain ⟨D, h1, h2, h3⟩ := h
  have wi := wf_small i0 (by omega)
  have wt := wf_small t0 (by omega)
  obtain ⟨w', hr, ho, hg⟩ := h1.update (t := 88) plKeyed Try.underlying88 (by unfold maxLen; omega) (placeKey wi wt) (plainElem_int Try.underlying3 (wf_small x0 (by omega)))
  refine ⟨w', hr, ⟨_, ho, h2.put _ _, fun j u j0 j1 u0 u1 => ?_⟩, hg⟩
  by_cases e : j = i ∧ u = t
  · obtain ⟨rfl, rfl⟩ := e
    rw [Maps.atKey_put_same (k := kL j u) h2 (show WideAt.IsKeyLit (kL j u) from trivial)]
    simp [upP]
  · rw [Maps.atKey_put_other (fun q => e (kL_inj (wf_small j0 (by omega)) (wf_small u0 (by omega)) wi wt q)), h3 j u j0 j1 u0 u1]
    simp [upP, e]

set_option maxHeartbeats 1000000 in
theorem pgWrite_any (B N : Nat) (f : Int → Int → Int) (i b s : Int) (w : World) (h : Pg w B N f) (hN : N < 900) (i0 : 0 ≤ i) (i1 : i ≤ 3) (b0 : 0 ≤ b) (b1 : b ≤ 60000) (s0 : 0 ≤ s) (s1 : s ≤ 60000) :
    Calls Try.prog 70 #[.map (some B), .int .i64 i, .int .i64 b, .int .i64 s] w fun e w' => e = .returned (.tuple #[]) ∧ Pg w' B (N + 1 + 1) (upP (upP f i 0 b) i 1 s) ∧ w.grownBy w' (some B) := by
  obtain ⟨w1, r1, p1, g1⟩ := pg_put h (by omega) i0 i1 (t := 0) (by omega) (by omega) b0 b1
  obtain ⟨w2, r2, p2, g2⟩ := pg_put p1 (by omega) i0 i1 (t := 1) (by omega) (by omega) s0 s1
  have P2 := hid p2
  have G2 := hid (show w.grownBy w2 (some B) from ⟨g2.os.trans g1.os, g2.tape.trans g1.tape, g2.output.trans g1.output, Nat.le_trans g1.size g2.size, fun k hk hn => (g2.block k (Nat.lt_of_lt_of_le hk g1.size) hn).trans (g1.block k hk hn)⟩)
  clear h p1 p2 g1 g2
  go_enter Try.func70, Try.ntmps70
  go_wp2
  go_end0
  exact ⟨rfl, P2.out, G2.out⟩

theorem greaterP_any (x y : Int) (w : World) :
    Calls Try.prog 59 #[.int .i64 x, .int .i64 y] w fun e w' => e = .returned (.bool (decide (y < x))) ∧ w' = w := by
  go_enter Try.func59, Try.ntmps59
  go_wp2
  go_ret
  exact ⟨rfl, rfl⟩
/-- what a hello is to what stands there -/
def cdH (l q b s : Int) : Int := if l < b then 1 else if b = l ∧ q < s then 2 else 3
set_option maxHeartbeats 2000000 in
theorem pgCode_any (B N : Nat) (f : Int → Int → Int) (i b s : Int) (w : World) (h : Pg w B N f) (i0 : 0 ≤ i) (i1 : i ≤ 3) :
    Calls Try.prog 69 #[.map (some B), .int .i64 i, .int .i64 b, .int .i64 s] w fun e w' => e = .returned (.int .i64 (cdH (f i 0) (f i 1) b s)) ∧ w' = w := by
  have r0 := pg_look h i0 i1 (t := 0) (by omega) (by omega)
  have r1 := pg_look h i0 i1 (t := 1) (by omega) (by omega)
  clear h
  obtain ⟨l, hl⟩ : ∃ l, f i 0 = l := ⟨_, rfl⟩
  obtain ⟨q, hq⟩ : ∃ q, f i 1 = q := ⟨_, rfl⟩
  rw [hl] at r0
  rw [hq] at r1
  rw [hl, hq]
  clear hl hq
  by_cases h1 : l < b
  · have H := hid (show cdH l q b s = 1 by simp [cdH, h1])
    go_enter Try.func69, Try.ntmps69
    go_wp2_with ((go_at_call 59; refine (greaterP_any _ _ _).mono ?_; rintro x w' ⟨rfl, rfl⟩))
    go_ret
    exact ⟨ret_int H.out.symm, rfl⟩
  have d1 : decide (l < b) = false := by simpa using h1
  by_cases h2 : b = l
  · subst h2
    by_cases h3 : q < s
    · have H0 := hid h3
      have H := hid (show cdH b q b s = 2 by simp [cdH, h3])
      go_enter Try.func69, Try.ntmps69
      go_wp2_with ((go_at_call 59; refine (greaterP_any _ _ _).mono ?_; rintro x w' ⟨rfl, rfl⟩))
      go_ret
      exact ⟨ret_int H.out.symm, rfl⟩
    · have d3 : decide (q < s) = false := by simpa using h3
      have H := hid (show cdH b q b s = 3 by simp [cdH, h3])
      go_enter Try.func69, Try.ntmps69
      go_wp2_with ((go_at_call 59; refine (greaterP_any _ _ _).mono ?_; rintro x w' ⟨rfl, rfl⟩))
      go_ret
      exact ⟨ret_int H.out.symm, rfl⟩
  have d2 : (b == l) = false := by simpa using h2
  have H := hid (show cdH l q b s = 3 by simp [cdH, h1, h2])
  go_enter Try.func69, Try.ntmps69
  go_wp2_with ((go_at_call 59; refine (greaterP_any _ _ _).mono ?_; rintro x w' ⟨rfl, rfl⟩))
  go_ret
  exact ⟨ret_int H.out.symm, rfl⟩

end Go.Proofs.Ytioikijheilliaa
