/- The draws of two labels, whole. Conditions: the code reads as bytes. -/
import Derived.Test.YtjblhjnicoggaaaDrawLbl2
namespace Go.Proofs.Ytjblhjnicoggaaa
open Go.ChangeShapes Go.WideShapes Go.ChangeAt Go.RowKit Go.Joins Go.Deep
set_option linter.unusedVariables false

theorem below_grown {a b : World} {n g : Nat} (h : a.grownBy b (some g)) (hg : n ≤ g) (hn : n ≤ a.heap.size) : Below n a b :=
  ⟨h.os, h.tape, h.output, h.size, fun k hk => h.block k (Nat.lt_of_lt_of_le hk hn) (by intro e; cases e; omega)⟩
theorem gfrozen {a b : World} {g : Nat} (h : a.grownBy b (some g)) {q : Addr} (hq : q.block < a.heap.size) (hn : ¬ q.block = g) (f : a.frozen? q = false) : b.frozen? q = false :=
  (World.frozen?_of_block (w := a) (w' := b) (a := q) (h.block _ hq (by intro e; cases e; exact hn rfl))).trans f

set_option maxHeartbeats 4000000 in
theorem drawFlows_any (a : Option Addr) (len cap : Nat) (xs : List Int) (w : World) (hn : xs.length = len) (hv : Rd w (.slice a len cap) xs) (hcap : len ≤ cap) :
    Calls Try.prog 13 #[.slice a len cap] w fun e w' => ∃ l1 m1 l2 m2 : Int, e = .returned (.tuple #[.agg #[.int .i64 l1, .int .i64 m1], .agg #[.int .i64 l2, .int .i64 m2]]) ∧ Below w.heap.size w w' := by
  have HV := hid (hv.keep (below_alloc2 w (.cells #[.int .i64 0, .int .i64 0] 24) (.cells #[.int .i64 0, .int .i64 0] 24)))
  clear hv
  go_enter Try.func13, Try.ntmps13
  go_wp2_with fail
  refine (open_any a len cap xs _ hn HV.out hcap).mono ?_
  rintro e w0 ⟨rfl, rd, bl, hz⟩
  have RD0 := hid rd
  have BL0 := hid (Below.trans (below_alloc2 w (.cells #[.int .i64 0, .int .i64 0] 24) (.cells #[.int .i64 0, .int .i64 0] 24)) (bl.mono (by simp <;> omega)))
  have a0 : w0.cell? ⟨w.heap.size, 0, none⟩ = some (.int .i64 0) := cell_keep bl (by go_simp)
  have fa0 : w0.frozen? ⟨w.heap.size, 0, none⟩ = false := (bl.frozen (p := ⟨w.heap.size, 0, none⟩) (by simp <;> omega)).trans (by go_simp)
  have a1 : w0.cell? ⟨w.heap.size, 1, none⟩ = some (.int .i64 0) := cell_keep bl (by go_simp)
  have fa1 : w0.frozen? ⟨w.heap.size, 1, none⟩ = false := (bl.frozen (p := ⟨w.heap.size, 1, none⟩) (by simp <;> omega)).trans (by go_simp)
  have q0 : w0.cell? ⟨w.heap.size + 1, 0, none⟩ = some (.int .i64 0) := cell_keep bl (by go_simp)
  have fq0 : w0.frozen? ⟨w.heap.size + 1, 0, none⟩ = false := (bl.frozen (p := ⟨w.heap.size + 1, 0, none⟩) (by simp <;> omega)).trans (by go_simp)
  have q1 : w0.cell? ⟨w.heap.size + 1, 1, none⟩ = some (.int .i64 0) := cell_keep bl (by go_simp)
  have fq1 : w0.frozen? ⟨w.heap.size + 1, 1, none⟩ = false := (bl.frozen (p := ⟨w.heap.size + 1, 1, none⟩) (by simp <;> omega)).trans (by go_simp)
  simp at hz
  have RD0 : Hid (Rdr _ w0 (w.heap.size + 1 + 1) 0) := hid (by simpa using RD0.out)
  clear rd bl HV
  go_wp2_with fail
  refine (label_any _ w0 _ 0 RD0.out (by omega)).mono ?_
  rintro e w1 ⟨l1, m1, rfl, hl1, hm1, ⟨q, hq, rd⟩, gr⟩
  have RD1 := hid rd
  have BL1 := hid (Below.trans BL0.out (below_grown (n := w.heap.size) gr (by omega) (by omega)))
  have a0 := gr.cell a0 (by simp <;> omega)
  have fa0 := gfrozen gr (by simp <;> omega) (by simp <;> omega) fa0
  have a1 := gr.cell a1 (by simp <;> omega)
  have fa1 := gfrozen gr (by simp <;> omega) (by simp <;> omega) fa1
  have q0 := gr.cell q0 (by simp <;> omega)
  have fq0 := gfrozen gr (by simp <;> omega) (by simp <;> omega) fq0
  have q1 := gr.cell q1 (by simp <;> omega)
  have fq1 := gfrozen gr (by simp <;> omega) (by simp <;> omega) fq1
  have hz1 := gr.size
  clear rd gr
  go_wp2_with fail
  have RD2 := hid ((RD1.out.keep (below_alloc1 w1 (.cells #[.int .i64 l1, .int .i64 m1] 24))).drew)
  have BL2 := hid ((BL1.out.trans ((below_alloc1 w1 (.cells #[.int .i64 l1, .int .i64 m1] 24)).mono (by omega))).drew)
  have hne : ¬ w1.heap.size = w.heap.size + 1 + 1 := by omega
  clear RD1 BL1 RD0
  have NR := hid (near_any _ _ (w.heap.size + 1 + 1) q l1 m1 RD2.out (by omega) hl1)
  have u0 : (w1.alloc (.cells #[.int .i64 l1, .int .i64 m1] 24)).drew.cell? ⟨w1.heap.size, 0, none⟩ = some (.int .i64 l1) := by go_simp
  have u1 : (w1.alloc (.cells #[.int .i64 l1, .int .i64 m1] 24)).drew.cell? ⟨w1.heap.size, 1, none⟩ = some (.int .i64 m1) := by go_simp
  have da0 : (w1.alloc (.cells #[.int .i64 l1, .int .i64 m1] 24)).drew.cell? ⟨w.heap.size, 0, none⟩ = some (.int .i64 0) := cell_keep (below_alloc1 w1 _).drew a0
  have ga0 : (w1.alloc (.cells #[.int .i64 l1, .int .i64 m1] 24)).drew.frozen? ⟨w.heap.size, 0, none⟩ = false := ((below_alloc1 w1 _).drew.frozen (p := ⟨w.heap.size, 0, none⟩) (by simp <;> omega)).trans fa0
  have da1 : (w1.alloc (.cells #[.int .i64 l1, .int .i64 m1] 24)).drew.cell? ⟨w.heap.size, 1, none⟩ = some (.int .i64 0) := cell_keep (below_alloc1 w1 _).drew a1
  have ga1 : (w1.alloc (.cells #[.int .i64 l1, .int .i64 m1] 24)).drew.frozen? ⟨w.heap.size, 1, none⟩ = false := ((below_alloc1 w1 _).drew.frozen (p := ⟨w.heap.size, 1, none⟩) (by simp <;> omega)).trans fa1
  have dq0 : (w1.alloc (.cells #[.int .i64 l1, .int .i64 m1] 24)).drew.cell? ⟨w.heap.size + 1, 0, none⟩ = some (.int .i64 0) := cell_keep (below_alloc1 w1 _).drew q0
  have gq0 : (w1.alloc (.cells #[.int .i64 l1, .int .i64 m1] 24)).drew.frozen? ⟨w.heap.size + 1, 0, none⟩ = false := ((below_alloc1 w1 _).drew.frozen (p := ⟨w.heap.size + 1, 0, none⟩) (by simp <;> omega)).trans fq0
  have dq1 : (w1.alloc (.cells #[.int .i64 l1, .int .i64 m1] 24)).drew.cell? ⟨w.heap.size + 1, 1, none⟩ = some (.int .i64 0) := cell_keep (below_alloc1 w1 _).drew q1
  have gq1 : (w1.alloc (.cells #[.int .i64 l1, .int .i64 m1] 24)).drew.frozen? ⟨w.heap.size + 1, 1, none⟩ = false := ((below_alloc1 w1 _).drew.frozen (p := ⟨w.heap.size + 1, 1, none⟩) (by simp <;> omega)).trans fq1
  go_region_with ((go_at_call 34; refine NR.out.mono ?_; rintro e w2 ⟨l2, m2, rfl, _, gr⟩; have c0 := gr.cell u0 (by simp <;> omega); have c1 := gr.cell u1 (by simp <;> omega); have BL3 := hid (Below.trans BL2.out (below_grown (n := w.heap.size) gr (by omega) (by simp <;> omega))); have ea0 := gr.cell da0 (by simp <;> omega); have ha0 := gfrozen gr (by simp <;> omega) (by simp <;> omega) ga0; have ea1 := gr.cell da1 (by simp <;> omega); have ha1 := gfrozen gr (by simp <;> omega) (by simp <;> omega) ga1; have eq0 := gr.cell dq0 (by simp <;> omega); have hq0 := gfrozen gr (by simp <;> omega) (by simp <;> omega) gq0; have eq1 := gr.cell dq1 (by simp <;> omega); have hq1 := gfrozen gr (by simp <;> omega) (by simp <;> omega) gq1; clear gr))
  all_goals
    go_wp2
    refine bodyPost_ret (v := .tuple #[.agg #[.int .i64 l1, .int .i64 m1], .agg #[.int .i64 l2, .int .i64 m2]]) (by simp [results, Try.results13, go_sem, ea0, ea1, eq0, eq1]) rfl ?_
    exact ⟨l1, m1, l2, m2, rfl, (((BL3.out.setCell (by simp <;> omega) _).setCell (by simp <;> omega) _).setCell (by simp <;> omega) _).setCell (by simp <;> omega) _⟩

set_option maxHeartbeats 4000000 in
theorem drawBoth_any (a : Option Addr) (len cap : Nat) (xs : List Int) (w : World) (hn : xs.length = len) (hv : Rd w (.slice a len cap) xs) (hcap : len ≤ cap) :
    Calls Try.prog 17 #[.slice a len cap] w fun e w' => ∃ l1 m1 l2 m2 : Int, e = .returned (.tuple #[.agg #[.int .i64 l1, .int .i64 m1], .agg #[.int .i64 l2, .int .i64 m2]]) ∧ Below w.heap.size w w' := by
  have HV := hid (hv.keep (below_alloc2 w (.cells #[.int .i64 0, .int .i64 0] 24) (.cells #[.int .i64 0, .int .i64 0] 24)))
  clear hv
  go_enter Try.func17, Try.ntmps17
  go_wp2_with fail
  refine (open_any a len cap xs _ hn HV.out hcap).mono ?_
  rintro e w0 ⟨rfl, rd, bl, hz⟩
  have RD0 := hid rd
  have BL0 := hid (Below.trans (below_alloc2 w (.cells #[.int .i64 0, .int .i64 0] 24) (.cells #[.int .i64 0, .int .i64 0] 24)) (bl.mono (by simp <;> omega)))
  have a0 : w0.cell? ⟨w.heap.size, 0, none⟩ = some (.int .i64 0) := cell_keep bl (by go_simp)
  have fa0 : w0.frozen? ⟨w.heap.size, 0, none⟩ = false := (bl.frozen (p := ⟨w.heap.size, 0, none⟩) (by simp <;> omega)).trans (by go_simp)
  have a1 : w0.cell? ⟨w.heap.size, 1, none⟩ = some (.int .i64 0) := cell_keep bl (by go_simp)
  have fa1 : w0.frozen? ⟨w.heap.size, 1, none⟩ = false := (bl.frozen (p := ⟨w.heap.size, 1, none⟩) (by simp <;> omega)).trans (by go_simp)
  have q0 : w0.cell? ⟨w.heap.size + 1, 0, none⟩ = some (.int .i64 0) := cell_keep bl (by go_simp)
  have fq0 : w0.frozen? ⟨w.heap.size + 1, 0, none⟩ = false := (bl.frozen (p := ⟨w.heap.size + 1, 0, none⟩) (by simp <;> omega)).trans (by go_simp)
  have q1 : w0.cell? ⟨w.heap.size + 1, 1, none⟩ = some (.int .i64 0) := cell_keep bl (by go_simp)
  have fq1 : w0.frozen? ⟨w.heap.size + 1, 1, none⟩ = false := (bl.frozen (p := ⟨w.heap.size + 1, 1, none⟩) (by simp <;> omega)).trans (by go_simp)
  simp at hz
  have RD0 : Hid (Rdr _ w0 (w.heap.size + 1 + 1) 0) := hid (by simpa using RD0.out)
  clear rd bl HV
  go_wp2_with fail
  refine (label_any _ w0 _ 0 RD0.out (by omega)).mono ?_
  rintro e w1 ⟨l1, m1, rfl, hl1, hm1, ⟨q, hq, rd⟩, gr⟩
  have RD1 := hid rd
  have BL1 := hid (Below.trans BL0.out (below_grown (n := w.heap.size) gr (by omega) (by omega)))
  have a0 := gr.cell a0 (by simp <;> omega)
  have fa0 := gfrozen gr (by simp <;> omega) (by simp <;> omega) fa0
  have a1 := gr.cell a1 (by simp <;> omega)
  have fa1 := gfrozen gr (by simp <;> omega) (by simp <;> omega) fa1
  have q0 := gr.cell q0 (by simp <;> omega)
  have fq0 := gfrozen gr (by simp <;> omega) (by simp <;> omega) fq0
  have q1 := gr.cell q1 (by simp <;> omega)
  have fq1 := gfrozen gr (by simp <;> omega) (by simp <;> omega) fq1
  have hz1 := gr.size
  clear rd gr
  go_wp2_with fail
  have RD2 := hid ((RD1.out.keep (below_alloc1 w1 (.cells #[.int .i64 l1, .int .i64 m1] 24))).drew)
  have BL2 := hid ((BL1.out.trans ((below_alloc1 w1 (.cells #[.int .i64 l1, .int .i64 m1] 24)).mono (by omega))).drew)
  have hne : ¬ w1.heap.size = w.heap.size + 1 + 1 := by omega
  clear RD1 BL1 RD0
  have NR := hid (near_any _ _ (w.heap.size + 1 + 1) q l1 m1 RD2.out (by omega) hl1)
  have u0 : (w1.alloc (.cells #[.int .i64 l1, .int .i64 m1] 24)).drew.cell? ⟨w1.heap.size, 0, none⟩ = some (.int .i64 l1) := by go_simp
  have u1 : (w1.alloc (.cells #[.int .i64 l1, .int .i64 m1] 24)).drew.cell? ⟨w1.heap.size, 1, none⟩ = some (.int .i64 m1) := by go_simp
  have da0 : (w1.alloc (.cells #[.int .i64 l1, .int .i64 m1] 24)).drew.cell? ⟨w.heap.size, 0, none⟩ = some (.int .i64 0) := cell_keep (below_alloc1 w1 _).drew a0
  have ga0 : (w1.alloc (.cells #[.int .i64 l1, .int .i64 m1] 24)).drew.frozen? ⟨w.heap.size, 0, none⟩ = false := ((below_alloc1 w1 _).drew.frozen (p := ⟨w.heap.size, 0, none⟩) (by simp <;> omega)).trans fa0
  have da1 : (w1.alloc (.cells #[.int .i64 l1, .int .i64 m1] 24)).drew.cell? ⟨w.heap.size, 1, none⟩ = some (.int .i64 0) := cell_keep (below_alloc1 w1 _).drew a1
  have ga1 : (w1.alloc (.cells #[.int .i64 l1, .int .i64 m1] 24)).drew.frozen? ⟨w.heap.size, 1, none⟩ = false := ((below_alloc1 w1 _).drew.frozen (p := ⟨w.heap.size, 1, none⟩) (by simp <;> omega)).trans fa1
  have dq0 : (w1.alloc (.cells #[.int .i64 l1, .int .i64 m1] 24)).drew.cell? ⟨w.heap.size + 1, 0, none⟩ = some (.int .i64 0) := cell_keep (below_alloc1 w1 _).drew q0
  have gq0 : (w1.alloc (.cells #[.int .i64 l1, .int .i64 m1] 24)).drew.frozen? ⟨w.heap.size + 1, 0, none⟩ = false := ((below_alloc1 w1 _).drew.frozen (p := ⟨w.heap.size + 1, 0, none⟩) (by simp <;> omega)).trans fq0
  have dq1 : (w1.alloc (.cells #[.int .i64 l1, .int .i64 m1] 24)).drew.cell? ⟨w.heap.size + 1, 1, none⟩ = some (.int .i64 0) := cell_keep (below_alloc1 w1 _).drew q1
  have gq1 : (w1.alloc (.cells #[.int .i64 l1, .int .i64 m1] 24)).drew.frozen? ⟨w.heap.size + 1, 1, none⟩ = false := ((below_alloc1 w1 _).drew.frozen (p := ⟨w.heap.size + 1, 1, none⟩) (by simp <;> omega)).trans fq1
  go_region_with ((go_at_call 34; refine NR.out.mono ?_; rintro e w2 ⟨l2, m2, rfl, _, gr⟩; have c0 := gr.cell u0 (by simp <;> omega); have c1 := gr.cell u1 (by simp <;> omega); have BL3 := hid (Below.trans BL2.out (below_grown (n := w.heap.size) gr (by omega) (by simp <;> omega))); have ea0 := gr.cell da0 (by simp <;> omega); have ha0 := gfrozen gr (by simp <;> omega) (by simp <;> omega) ga0; have ea1 := gr.cell da1 (by simp <;> omega); have ha1 := gfrozen gr (by simp <;> omega) (by simp <;> omega) ga1; have eq0 := gr.cell dq0 (by simp <;> omega); have hq0 := gfrozen gr (by simp <;> omega) (by simp <;> omega) gq0; have eq1 := gr.cell dq1 (by simp <;> omega); have hq1 := gfrozen gr (by simp <;> omega) (by simp <;> omega) gq1; clear gr))
  all_goals
    go_wp2
    refine bodyPost_ret (v := .tuple #[.agg #[.int .i64 l1, .int .i64 m1], .agg #[.int .i64 l2, .int .i64 m2]]) (by simp [results, Try.results17, go_sem, ea0, ea1, eq0, eq1]) rfl ?_
    exact ⟨l1, m1, l2, m2, rfl, (((BL3.out.setCell (by simp <;> omega) _).setCell (by simp <;> omega) _).setCell (by simp <;> omega) _).setCell (by simp <;> omega) _⟩
end Go.Proofs.Ytjblhjnicoggaaa
