/- The contracts of FrmTake, of the program and of the specification. -/
import Derived.Test.YtpfelnkdimbhkaaDoorFrmTk
import Derived.Test.YtpfelnkdimbhkaaDoorSealShut
namespace Go.Proofs.YtpfelnkdimbhkaaDoor
open Go.ChangeShapes Go.WideShapes Go.ChangeAt Go.RowKit Go.Joins Go.Deep
set_option linter.unusedVariables false
set_option linter.unusedSimpArgs false
set_option maxRecDepth 4000

def ftOk (xs : List Int) : Bool := decide (xs.length = 24) && headB (hfV xs 0) (hfV xs 1) (hfV xs 2) (hfV xs 3) (hfV xs 4) (hfV xs 5) (hfV xs 6) (hfV xs 7)
def ftH (xs : List Int) (q : Nat) : Int := if ftOk xs then hfV xs q else 0
def ftL (xs : List Int) : List Int := if ftOk xs then xs.drop 11 else []
theorem ftL_len (xs : List Int) : (ftL xs).length ≤ 13 := by
  unfold ftL
  split
  · rename_i h; simp [ftOk] at h; simp; omega
  · simp
theorem rd_drop {w : World} {b off cap n : Nat} {xs : List Int} (h : Rd w (.slice (some ⟨b, off, none⟩) xs.length cap) xs) (c : Nat) (hn : n ≤ xs.length) : Rd w (.slice (some ⟨b, off + n, none⟩) (xs.length - n) c) (xs.drop n) := by
  obtain ⟨h1, h2, a', cap', he, h3⟩ := h
  refine ⟨fun x hx => h1 x (List.mem_of_mem_drop hx), by simp; omega, some ⟨b, off + n, none⟩, c, by simp, ?_⟩
  rcases h3 with h3 | ⟨b', off', ha', hc⟩
  · left; rw [h3]; simp
  · right
    simp only [Value.slice.injEq] at he
    obtain ⟨he1, _, _⟩ := he
    rw [ha'] at he1
    simp only [Option.some.injEq, Addr.mk.injEq, and_true] at he1
    obtain ⟨rfl, rfl⟩ := he1
    refine ⟨b, off + n, rfl, fun i hi => ?_⟩
    rw [List.length_drop] at hi
    have := hc (n + i) (by omega)
    rw [show off + n + i = off + (n + i) by omega, this]
    simp [List.getD_eq_getElem?_getD]
theorem some_of_rd {w : World} {a : Option Addr} {cap : Nat} {xs : List Int} (h : Rd w (.slice a xs.length cap) xs) (hn : 0 < xs.length) : ∃ b off, a = some ⟨b, off, none⟩ := by
  obtain ⟨h1, h2, a', cap', he, h3⟩ := h
  simp only [Value.slice.injEq] at he
  rcases h3 with h3 | ⟨b', off', ha', hc⟩
  · rw [h3] at hn; simp at hn
  · exact ⟨b', off', he.1.trans ha'⟩
theorem rd_drew {w : World} {v : Value} {xs : List Int} (h : Rd w v xs) : Rd w.drew v xs := h
theorem results_take_impl {W : World} {b : Nat} {x0 x1 x2 x3 x4 x5 x6 x7 u bo : Value} (tmps : Array Value) (ht : tmps[2]?.getD undef = .pointer (some ⟨b, 0, none⟩)) (t3 : tmps[3]?.getD undef = u) (t4 : tmps[4]?.getD undef = bo) (h0 : W.cell? ⟨b, 0, none⟩ = some x0) (h1 : W.cell? ⟨b, 1, none⟩ = some x1) (h2 : W.cell? ⟨b, 2, none⟩ = some x2) (h3 : W.cell? ⟨b, 3, none⟩ = some x3) (h4 : W.cell? ⟨b, 4, none⟩ = some x4) (h5 : W.cell? ⟨b, 5, none⟩ = some x5) (h6 : W.cell? ⟨b, 6, none⟩ = some x6) (h7 : W.cell? ⟨b, 7, none⟩ = some x7) :
    (results Tryd.f27 tmps).run Tryd.prog W = .ok (.tuple #[.agg #[x0, x1, x2, x3, x4, x5, x6, x7], u, bo]) W := by
  simp [results, Tryd.results27, go_sem, ht, t3, t4, h0, h1, h2, h3, h4, h5, h6, h7]
theorem results_take_spec {W : World} {b : Nat} {x0 x1 x2 x3 x4 x5 x6 x7 u bo : Value} (tmps : Array Value) (ht : tmps[2]?.getD undef = .pointer (some ⟨b, 0, none⟩)) (t3 : tmps[3]?.getD undef = u) (t4 : tmps[4]?.getD undef = bo) (h0 : W.cell? ⟨b, 0, none⟩ = some x0) (h1 : W.cell? ⟨b, 1, none⟩ = some x1) (h2 : W.cell? ⟨b, 2, none⟩ = some x2) (h3 : W.cell? ⟨b, 3, none⟩ = some x3) (h4 : W.cell? ⟨b, 4, none⟩ = some x4) (h5 : W.cell? ⟨b, 5, none⟩ = some x5) (h6 : W.cell? ⟨b, 6, none⟩ = some x6) (h7 : W.cell? ⟨b, 7, none⟩ = some x7) :
    (results Tryd.f30 tmps).run Tryd.prog W = .ok (.tuple #[.agg #[x0, x1, x2, x3, x4, x5, x6, x7], u, bo]) W := by
  simp [results, Tryd.results30, go_sem, ht, t3, t4, h0, h1, h2, h3, h4, h5, h6, h7]

set_option maxHeartbeats 2000000 in
theorem l4Num_any (a : Option Addr) (cap : Nat) (xs : List Int) (A S : Int) (w : World) (hv : Rd w (.slice a xs.length cap) xs) :
    Calls Tryd.prog 67 #[.slice a xs.length cap, .int .i64 A, .int .i64 S] w fun e w' => e = .returned (.int .i64 (tkN xs A S)) ∧ w' = w := by
  have HV := hid hv
  clear hv
  obtain ⟨n, hn⟩ : ∃ n, tkN xs A S = n := ⟨_, rfl⟩
  have HN := hid hn
  clear hn
  go_enter Tryd.func67, Tryd.ntmps67
  go_wp2_with fail
  refine (specTake_any a cap xs A S _ HV.out).mono ?_
  rintro e w1 ⟨he, rfl⟩
  rw [HN.out] at he
  subst he
  go_wp2
  go_ret
  rw [HN.out]
  exact ⟨rfl, rfl⟩
theorem own_set1 {w : World} {B b i : Nat} {v x : Value} {xs : List Int} (h : Own w B v xs) (hb : b < B) : Own (w.setCell ⟨b, i, none⟩ x) B v xs :=
  ⟨h.1, ownsRow_setCell_below h.2 (a := ⟨b, i, none⟩) hb _⟩
theorem own_set8 {w : World} {n b : Nat} {v v0 v1 v2 v3 v4 v5 v6 v7 : Value} {xs : List Int} (h : Own w (n + 1) v xs) (hb : b < n + 1) :
    Own ((((((((w.setCell ⟨b, 0, none⟩ v0).setCell ⟨b, 1, none⟩ v1).setCell ⟨b, 2, none⟩ v2).setCell ⟨b, 3, none⟩ v3).setCell ⟨b, 4, none⟩ v4).setCell ⟨b, 5, none⟩ v5).setCell ⟨b, 6, none⟩ v6).setCell ⟨b, 7, none⟩ v7) n v xs :=
  (own_set1 (own_set1 (own_set1 (own_set1 (own_set1 (own_set1 (own_set1 (own_set1 h hb) hb) hb) hb) hb) hb) hb) hb).low (by omega)

set_option maxHeartbeats 16000000 in
theorem frmTake_any (a : Option Addr) (cap : Nat) (xs : List Int) (w : World) (hv : Rd w (.slice a xs.length cap) xs) (hcap : xs.length ≤ cap) (het : Et w) :
    Calls Tryd.prog 27 #[.slice a xs.length cap] w fun e w' => ∃ u, e = .returned (.tuple #[.agg #[.int .i64 (ftH xs 0), .int .i64 (ftH xs 1), .int .i64 (ftH xs 2), .int .i64 (ftH xs 3), .int .i64 (ftH xs 4), .int .i64 (ftH xs 5), .int .i64 (ftH xs 6), .int .i64 (ftH xs 7)], u, .bool (ftOk xs)]) ∧ Own w' w.heap.size u (ftL xs) ∧ Below w.heap.size w w' := by
  have hl := hv.2.1
  have hp := het.pos
  have HE := hid het
  clear het
  have HV := hid hv
  clear hv
  by_cases hn : xs.length = 24
  · have HR : Hid (Rd w (.slice a 24 cap) xs) := hid (by have h := HV.out; rw [hn] at h; exact h)
    obtain ⟨b, off, rfl⟩ := some_of_rd HV.out (by omega)
    have RC : Hid (Rd w (.slice (some ⟨b, off + 11, none⟩) 13 (cap - 11)) (xs.drop 11)) := hid (by have h := rd_drop HV.out (n := 11) (cap - 11) (by omega); rw [hn] at h; exact h)
    rw [hn] at hcap
    obtain ⟨v0, e0⟩ : ∃ v, hfV xs 0 = v := ⟨_, rfl⟩
    obtain ⟨v1, e1⟩ : ∃ v, hfV xs 1 = v := ⟨_, rfl⟩
    obtain ⟨v2, e2⟩ : ∃ v, hfV xs 2 = v := ⟨_, rfl⟩
    obtain ⟨v3, e3⟩ : ∃ v, hfV xs 3 = v := ⟨_, rfl⟩
    obtain ⟨v4, e4⟩ : ∃ v, hfV xs 4 = v := ⟨_, rfl⟩
    obtain ⟨v5, e5⟩ : ∃ v, hfV xs 5 = v := ⟨_, rfl⟩
    obtain ⟨v6, e6⟩ : ∃ v, hfV xs 6 = v := ⟨_, rfl⟩
    obtain ⟨v7, e7⟩ : ∃ v, hfV xs 7 = v := ⟨_, rfl⟩
    have HO : Hid (ftOk xs = headB v0 v1 v2 v3 v4 v5 v6 v7) := hid (by simp [ftOk, hn, e0, e1, e2, e3, e4, e5, e6, e7])
    have HEQ := hid (And.intro e0 (And.intro e1 (And.intro e2 (And.intro e3 (And.intro e4 (And.intro e5 (And.intro e6 e7)))))))
    have HN := hid hn
    clear e0 e1 e2 e3 e4 e5 e6 e7
    rw [hn]
    clear hn HV
    have B0 := hid (below_alloc1 w (.cells #[.int .i64 0, .int .i64 0, .int .i64 0, .int .i64 0, .int .i64 0, .int .i64 0, .int .i64 0, .int .i64 0] 37))
    go_enter Tryd.func27, Tryd.ntmps27
    go_wp2_with fail
    refine (headOf_any _ cap xs _ HN.out (HR.out.keep B0.out) hcap (HE.out.keep B0.out hp)).mono ?_
    rintro e w1 ⟨he, b1⟩
    rw [HEQ.out.1, HEQ.out.2.1, HEQ.out.2.2.1, HEQ.out.2.2.2.1, HEQ.out.2.2.2.2.1, HEQ.out.2.2.2.2.2.1, HEQ.out.2.2.2.2.2.2.1, HEQ.out.2.2.2.2.2.2.2] at he
    subst he
    have hz1 : w.heap.size + 1 ≤ w1.heap.size := by have := b1.size; simpa using this
    have c1 := bcell b1
    have s0 : w1.cell? ⟨w.heap.size, 0, none⟩ = some (.int .i64 0) := (c1.1 w.heap.size 0 (by simp)).trans (by go_simp)
    have s1 : w1.cell? ⟨w.heap.size, 1, none⟩ = some (.int .i64 0) := (c1.1 w.heap.size 1 (by simp)).trans (by go_simp)
    have s2 : w1.cell? ⟨w.heap.size, 2, none⟩ = some (.int .i64 0) := (c1.1 w.heap.size 2 (by simp)).trans (by go_simp)
    have s3 : w1.cell? ⟨w.heap.size, 3, none⟩ = some (.int .i64 0) := (c1.1 w.heap.size 3 (by simp)).trans (by go_simp)
    have s4 : w1.cell? ⟨w.heap.size, 4, none⟩ = some (.int .i64 0) := (c1.1 w.heap.size 4 (by simp)).trans (by go_simp)
    have s5 : w1.cell? ⟨w.heap.size, 5, none⟩ = some (.int .i64 0) := (c1.1 w.heap.size 5 (by simp)).trans (by go_simp)
    have s6 : w1.cell? ⟨w.heap.size, 6, none⟩ = some (.int .i64 0) := (c1.1 w.heap.size 6 (by simp)).trans (by go_simp)
    have s7 : w1.cell? ⟨w.heap.size, 7, none⟩ = some (.int .i64 0) := (c1.1 w.heap.size 7 (by simp)).trans (by go_simp)
    have t0 : ∀ o, w1.frozen? ⟨w.heap.size, o, none⟩ = false := fun o => (c1.2 w.heap.size o (by simp)).trans (by go_simp)
    have B1 := hid (B0.out.trans (b1.mono (by simp)))
    clear c1 b1
    have T0 := hid t0
    have S0 := hid s0
    have S1 := hid s1
    have S2 := hid s2
    have S3 := hid s3
    have S4 := hid s4
    have S5 := hid s5
    have S6 := hid s6
    have S7 := hid s7
    clear t0 s0 s1 s2 s3 s4 s5 s6 s7
    go_wp2_with fail
    refine (headOk_any _ _ _ _ _ _ _ _ _).mono ?_
    rintro x w2 ⟨rfl, b2⟩
    have c2 := bcell b2
    have s0 : w2.cell? ⟨w.heap.size, 0, none⟩ = some (.int .i64 0) := (c2.1 w.heap.size 0 (by simp; omega)).trans (cell_keep (below_alloc1 w1 _) S0.out)
    have s1 : w2.cell? ⟨w.heap.size, 1, none⟩ = some (.int .i64 0) := (c2.1 w.heap.size 1 (by simp; omega)).trans (cell_keep (below_alloc1 w1 _) S1.out)
    have s2 : w2.cell? ⟨w.heap.size, 2, none⟩ = some (.int .i64 0) := (c2.1 w.heap.size 2 (by simp; omega)).trans (cell_keep (below_alloc1 w1 _) S2.out)
    have s3 : w2.cell? ⟨w.heap.size, 3, none⟩ = some (.int .i64 0) := (c2.1 w.heap.size 3 (by simp; omega)).trans (cell_keep (below_alloc1 w1 _) S3.out)
    have s4 : w2.cell? ⟨w.heap.size, 4, none⟩ = some (.int .i64 0) := (c2.1 w.heap.size 4 (by simp; omega)).trans (cell_keep (below_alloc1 w1 _) S4.out)
    have s5 : w2.cell? ⟨w.heap.size, 5, none⟩ = some (.int .i64 0) := (c2.1 w.heap.size 5 (by simp; omega)).trans (cell_keep (below_alloc1 w1 _) S5.out)
    have s6 : w2.cell? ⟨w.heap.size, 6, none⟩ = some (.int .i64 0) := (c2.1 w.heap.size 6 (by simp; omega)).trans (cell_keep (below_alloc1 w1 _) S6.out)
    have s7 : w2.cell? ⟨w.heap.size, 7, none⟩ = some (.int .i64 0) := (c2.1 w.heap.size 7 (by simp; omega)).trans (cell_keep (below_alloc1 w1 _) S7.out)
    have t0 : ∀ o, w2.frozen? ⟨w.heap.size, o, none⟩ = false := fun o => (c2.2 w.heap.size o (by simp; omega)).trans (((below_alloc1 w1 _).frozen (p := ⟨w.heap.size, o, none⟩) (by simp; omega)).trans (T0.out o))
    have B2 := hid ((B1.out.alloc (by omega) (.cells #[.int .i64 v0, .int .i64 v1, .int .i64 v2, .int .i64 v3, .int .i64 v4, .int .i64 v5, .int .i64 v6, .int .i64 v7] 37)).trans (b2.mono (by simp; omega)))
    have hz2 : w1.heap.size + 1 ≤ w2.heap.size := by have := b2.size; simpa using this
    have l0 : w2.cell? ⟨w1.heap.size, 0, none⟩ = some (.int .i64 v0) := (c2.1 w1.heap.size 0 (by simp)).trans (by go_simp)
    have l1 : w2.cell? ⟨w1.heap.size, 1, none⟩ = some (.int .i64 v1) := (c2.1 w1.heap.size 1 (by simp)).trans (by go_simp)
    have l2 : w2.cell? ⟨w1.heap.size, 2, none⟩ = some (.int .i64 v2) := (c2.1 w1.heap.size 2 (by simp)).trans (by go_simp)
    have l3 : w2.cell? ⟨w1.heap.size, 3, none⟩ = some (.int .i64 v3) := (c2.1 w1.heap.size 3 (by simp)).trans (by go_simp)
    have l4 : w2.cell? ⟨w1.heap.size, 4, none⟩ = some (.int .i64 v4) := (c2.1 w1.heap.size 4 (by simp)).trans (by go_simp)
    have l5 : w2.cell? ⟨w1.heap.size, 5, none⟩ = some (.int .i64 v5) := (c2.1 w1.heap.size 5 (by simp)).trans (by go_simp)
    have l6 : w2.cell? ⟨w1.heap.size, 6, none⟩ = some (.int .i64 v6) := (c2.1 w1.heap.size 6 (by simp)).trans (by go_simp)
    have l7 : w2.cell? ⟨w1.heap.size, 7, none⟩ = some (.int .i64 v7) := (c2.1 w1.heap.size 7 (by simp)).trans (by go_simp)
    clear c2 b2
    cases hk : headB v0 v1 v2 v3 v4 v5 v6 v7
    · have hf : ftOk xs = false := by rw [HO.out, hk]
      have H : Hid (ftL xs = [] ∧ ∀ q, ftH xs q = 0) := hid ⟨by simp [ftL, hf], fun q => by simp [ftH, hf]⟩
      have HF := hid hf
      clear hf l0 l1 l2 l3 l4 l5 l6 l7
      go_wp2
      have HE8 := eight_set (.int .i64 0) (.int .i64 0) (.int .i64 0) (.int .i64 0) (.int .i64 0) (.int .i64 0) (.int .i64 0) (.int .i64 0) s0 s1 s2 s3 s4 s5 s6 s7
      obtain ⟨g0, g1, g2, g3, g4, g5, g6, g7⟩ := HE8
      refine bodyPost_ret (v := .tuple #[.agg #[.int .i64 0, .int .i64 0, .int .i64 0, .int .i64 0, .int .i64 0, .int .i64 0, .int .i64 0, .int .i64 0], .slice none 0 0, .bool false]) (results_take_impl (b := w.heap.size) _ rfl rfl rfl g0 g1 g2 g3 g4 g5 g6 g7) rfl ?_
      rw [HF.out, H.out.1, H.out.2 0, H.out.2 1, H.out.2 2, H.out.2 3, H.out.2 4, H.out.2 5, H.out.2 6, H.out.2 7]
      exact ⟨_, rfl, own_nil _, (((((((B2.out.setCell (by simp) _).setCell (by simp) _).setCell (by simp) _).setCell (by simp) _).setCell (by simp) _).setCell (by simp) _).setCell (by simp) _).setCell (by simp) _⟩
    · have hf : ftOk xs = true := by rw [HO.out, hk]
      have H : Hid (ftL xs = xs.drop 11 ∧ ∀ q, ftH xs q = hfV xs q) := hid ⟨by simp [ftL, hf], fun q => by simp [ftH, hf]⟩
      have HF := hid hf
      have B2d := hid B2.out.drew
      have RCd := hid (rd_drew (RC.out.keep B2.out))
      clear hf
      have s0 : w2.drew.cell? ⟨w.heap.size, 0, none⟩ = some (.int .i64 0) := s0
      have l0 : w2.drew.cell? ⟨w1.heap.size, 0, none⟩ = some (.int .i64 v0) := l0
      have s1 : w2.drew.cell? ⟨w.heap.size, 1, none⟩ = some (.int .i64 0) := s1
      have l1 : w2.drew.cell? ⟨w1.heap.size, 1, none⟩ = some (.int .i64 v1) := l1
      have s2 : w2.drew.cell? ⟨w.heap.size, 2, none⟩ = some (.int .i64 0) := s2
      have l2 : w2.drew.cell? ⟨w1.heap.size, 2, none⟩ = some (.int .i64 v2) := l2
      have s3 : w2.drew.cell? ⟨w.heap.size, 3, none⟩ = some (.int .i64 0) := s3
      have l3 : w2.drew.cell? ⟨w1.heap.size, 3, none⟩ = some (.int .i64 v3) := l3
      have s4 : w2.drew.cell? ⟨w.heap.size, 4, none⟩ = some (.int .i64 0) := s4
      have l4 : w2.drew.cell? ⟨w1.heap.size, 4, none⟩ = some (.int .i64 v4) := l4
      have s5 : w2.drew.cell? ⟨w.heap.size, 5, none⟩ = some (.int .i64 0) := s5
      have l5 : w2.drew.cell? ⟨w1.heap.size, 5, none⟩ = some (.int .i64 v5) := l5
      have s6 : w2.drew.cell? ⟨w.heap.size, 6, none⟩ = some (.int .i64 0) := s6
      have l6 : w2.drew.cell? ⟨w1.heap.size, 6, none⟩ = some (.int .i64 v6) := l6
      have s7 : w2.drew.cell? ⟨w.heap.size, 7, none⟩ = some (.int .i64 0) := s7
      have l7 : w2.drew.cell? ⟨w1.heap.size, 7, none⟩ = some (.int .i64 v7) := l7
      have t0 : ∀ o, w2.drew.frozen? ⟨w.heap.size, o, none⟩ = false := t0
      go_wp2_with fail
      go_region_with ((go_at_call 64; refine (clone_any _ (xs.drop 11) _ RCd.out).mono ?_; rintro e w3 ⟨u, rfl, o3, b3⟩; have O3 := hid (o3.low (B' := w.heap.size + 1) (by simp; omega)); have B3 := hid (B2d.out.trans (b3.mono (by simp; omega))); have s0 := cell_keep b3 s0; have l0 := cell_keep b3 l0; have s1 := cell_keep b3 s1; have l1 := cell_keep b3 l1; have s2 := cell_keep b3 s2; have l2 := cell_keep b3 l2; have s3 := cell_keep b3 s3; have l3 := cell_keep b3 l3; have s4 := cell_keep b3 s4; have l4 := cell_keep b3 l4; have s5 := cell_keep b3 s5; have l5 := cell_keep b3 l5; have s6 := cell_keep b3 s6; have l6 := cell_keep b3 l6; have s7 := cell_keep b3 s7; have l7 := cell_keep b3 l7; have t3 : ∀ o, w3.frozen? ⟨w.heap.size, o, none⟩ = false := fun o => ((bcell b3).2 w.heap.size o (by simp; omega)).trans (t0 o); clear o3 b3))
      all_goals
        go_wp2
        have HE8 := eight_set (.int .i64 v0) (.int .i64 v1) (.int .i64 v2) (.int .i64 v3) (.int .i64 v4) (.int .i64 v5) (.int .i64 v6) (.int .i64 v7) s0 s1 s2 s3 s4 s5 s6 s7
        obtain ⟨g0, g1, g2, g3, g4, g5, g6, g7⟩ := HE8
        refine bodyPost_ret (v := .tuple #[.agg #[.int .i64 v0, .int .i64 v1, .int .i64 v2, .int .i64 v3, .int .i64 v4, .int .i64 v5, .int .i64 v6, .int .i64 v7], u, .bool true]) (results_take_impl (b := w.heap.size) _ rfl rfl rfl g0 g1 g2 g3 g4 g5 g6 g7) rfl ?_
        rw [HF.out, H.out.1, H.out.2 0, H.out.2 1, H.out.2 2, H.out.2 3, H.out.2 4, H.out.2 5, H.out.2 6, H.out.2 7, HEQ.out.1, HEQ.out.2.1, HEQ.out.2.2.1, HEQ.out.2.2.2.1, HEQ.out.2.2.2.2.1, HEQ.out.2.2.2.2.2.1, HEQ.out.2.2.2.2.2.2.1, HEQ.out.2.2.2.2.2.2.2]
        exact ⟨_, rfl, own_set8 (b := w.heap.size) O3.out (by omega), (((((((B3.out.setCell (by simp) _).setCell (by simp) _).setCell (by simp) _).setCell (by simp) _).setCell (by simp) _).setCell (by simp) _).setCell (by simp) _).setCell (by simp) _⟩
  · have hf : ftOk xs = false := by simp [ftOk, hn]
    have H : Hid (ftL xs = [] ∧ ∀ q, ftH xs q = 0) := hid ⟨by simp [ftL, hf], fun q => by simp [ftH, hf]⟩
    have HF := hid hf
    have hn' : ¬ ((xs.length : Int) = 24) := by omega
    clear hf hn HV
    have B2 := hid (below_alloc1 w (.cells #[.int .i64 0, .int .i64 0, .int .i64 0, .int .i64 0, .int .i64 0, .int .i64 0, .int .i64 0, .int .i64 0] 37))
    have s0 : (w.alloc (.cells #[.int .i64 0, .int .i64 0, .int .i64 0, .int .i64 0, .int .i64 0, .int .i64 0, .int .i64 0, .int .i64 0] 37)).cell? ⟨w.heap.size, 0, none⟩ = some (.int .i64 0) := by go_simp
    have s1 : (w.alloc (.cells #[.int .i64 0, .int .i64 0, .int .i64 0, .int .i64 0, .int .i64 0, .int .i64 0, .int .i64 0, .int .i64 0] 37)).cell? ⟨w.heap.size, 1, none⟩ = some (.int .i64 0) := by go_simp
    have s2 : (w.alloc (.cells #[.int .i64 0, .int .i64 0, .int .i64 0, .int .i64 0, .int .i64 0, .int .i64 0, .int .i64 0, .int .i64 0] 37)).cell? ⟨w.heap.size, 2, none⟩ = some (.int .i64 0) := by go_simp
    have s3 : (w.alloc (.cells #[.int .i64 0, .int .i64 0, .int .i64 0, .int .i64 0, .int .i64 0, .int .i64 0, .int .i64 0, .int .i64 0] 37)).cell? ⟨w.heap.size, 3, none⟩ = some (.int .i64 0) := by go_simp
    have s4 : (w.alloc (.cells #[.int .i64 0, .int .i64 0, .int .i64 0, .int .i64 0, .int .i64 0, .int .i64 0, .int .i64 0, .int .i64 0] 37)).cell? ⟨w.heap.size, 4, none⟩ = some (.int .i64 0) := by go_simp
    have s5 : (w.alloc (.cells #[.int .i64 0, .int .i64 0, .int .i64 0, .int .i64 0, .int .i64 0, .int .i64 0, .int .i64 0, .int .i64 0] 37)).cell? ⟨w.heap.size, 5, none⟩ = some (.int .i64 0) := by go_simp
    have s6 : (w.alloc (.cells #[.int .i64 0, .int .i64 0, .int .i64 0, .int .i64 0, .int .i64 0, .int .i64 0, .int .i64 0, .int .i64 0] 37)).cell? ⟨w.heap.size, 6, none⟩ = some (.int .i64 0) := by go_simp
    have s7 : (w.alloc (.cells #[.int .i64 0, .int .i64 0, .int .i64 0, .int .i64 0, .int .i64 0, .int .i64 0, .int .i64 0, .int .i64 0] 37)).cell? ⟨w.heap.size, 7, none⟩ = some (.int .i64 0) := by go_simp
    have S := hid (And.intro s0 (And.intro s1 (And.intro s2 (And.intro s3 (And.intro s4 (And.intro s5 (And.intro s6 s7)))))))
    clear s0 s1 s2 s3 s4 s5 s6 s7
    go_enter Tryd.func27, Tryd.ntmps27
    go_wp2
    obtain ⟨s0, s1, s2, s3, s4, s5, s6, s7⟩ := S.out
    refine bodyPost_ret (v := .tuple #[.agg #[.int .i64 0, .int .i64 0, .int .i64 0, .int .i64 0, .int .i64 0, .int .i64 0, .int .i64 0, .int .i64 0], .slice none 0 0, .bool false]) (results_take_impl (b := w.heap.size) _ rfl rfl rfl s0 s1 s2 s3 s4 s5 s6 s7) rfl ?_
    rw [HF.out, H.out.1, H.out.2 0, H.out.2 1, H.out.2 2, H.out.2 3, H.out.2 4, H.out.2 5, H.out.2 6, H.out.2 7]
    exact ⟨_, rfl, own_nil _, B2.out⟩
end Go.Proofs.YtpfelnkdimbhkaaDoor
