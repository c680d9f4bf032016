/- What a guard lets through: the contract of the program's GrdDo. Conditions: the list reads as rules, the message as bytes. -/
import Derived.Test.YtlkmooefebenlaaGrdRange2
import Derived.Test.YtlkmooefebenlaaGrdOk
import Derived.Test.YtlkmooefebenlaaGrdThr
import Derived.Scope
import Derived.WalkMore
namespace Go.Proofs.Ytlkmooefebenlaa
open Go.ChangeShapes Go.WideShapes Go.ChangeAt Go.RowKit Go.Joins Go.Deep Go.Shelf
set_option linter.unusedVariables false
set_option maxRecDepth 4000
attribute [local go_sem] Oper.semAt_some

def fitAt (xs ms : List Int) (i : Nat) : Bool := fitB (xs.getD (i * 7) 0) (xs.getD (i * 7 + 1) 0) (xs.getD (i * 7 + 2) 0) (xs.getD (i * 7 + 3) 0) (xs.getD (i * 7 + 4) 0) ms
def thrAt (xs ms : List Int) (i : Nat) : List Int := thr (xs.getD (i * 7 + 5) 0) (xs.getD (i * 7 + 6) 0) ms
/-- the rule that decides -/
def doR (n : Nat) (xs ms : List Int) : Option Nat := if grdB n xs && decide (ms.length ≤ 8) then (List.range n).find? (fitAt xs ms) else none
def doL (n : Nat) (xs ms : List Int) : List Int := match doR n xs ms with | some i => thrAt xs ms i | none => []
theorem find_range {p : Nat → Bool} {k n : Nat} (h : ∀ i, i < k → p i = false) (hk : p k = true) (hn : k < n) : (List.range n).find? p = some k := by
  rw [List.find?_eq_some_iff_append]
  refine ⟨hk, List.range k, (List.range (n - k - 1)).map (· + (k + 1)), ?_, fun i hi => by rw [h i (List.mem_range.1 hi)]; rfl⟩
  apply List.ext_getElem
  · simp; omega
  · intro i h1 h2
    simp only [List.getElem_range, List.getElem_append, List.length_range]
    by_cases c : i < k
    · simp [c]
    · by_cases c2 : i = k
      · subst c2; simp
      · rw [dif_neg c]
        rw [List.getElem_cons, dif_neg (by omega)]
        simp; omega
theorem find_none {p : Nat → Bool} {n : Nat} (h : ∀ i, i < n → p i = false) : (List.range n).find? p = none := by
  rw [List.find?_eq_none]
  intro i hi
  rw [h i (List.mem_range.1 hi)]; decide
theorem rule_cut {mi ma t lo hi z c : Int} (h : ruleB mi ma t lo hi z c = true) : 0 ≤ c ∧ c ≤ 8 := by
  simp only [ruleB, Bool.and_eq_true] at h
  simpa [inB] using h.2.2.2.2.2.2
theorem grdB_at {n : Nat} {xs : List Int} (h : grdB n xs = true) {i : Nat} (hi : i < n) : ruleAt xs i = true := by
  simp only [grdB, Bool.and_eq_true] at h
  exact List.all_eq_true.1 h.2 i (List.mem_range.2 hi)
theorem own_kept {W W' : World} {B : Nat} {u : Value} {zs : List Int} {row : Option Nat} (h : Own W B u zs) (hg : W.grownBy W' row) (hr : ∀ r, row = some r → ∃ o : Obj, W.heap[r]? = some o ∧ o.isCells = false) : Own W' B u zs := by
  obtain ⟨h1, h2, h3⟩ := h
  refine ⟨h1, h2, ?_⟩
  rcases h3 with h3 | ⟨q, cap', cur, hv, hq, hh, r⟩
  · exact .inl h3
  · refine .inr ⟨q, cap', cur, hv, hq, ?_, r⟩
    have hlt : q < W.heap.size := by
      rcases Nat.lt_or_ge q W.heap.size with h' | h'
      · exact h'
      · rw [Array.getElem?_eq_none h'] at hh; cases hh
    rw [hg.block q hlt (fun e => by obtain ⟨o, ho, hoc⟩ := hr q e.symm; rw [hh] at ho; cases ho; cases hoc)]; exact hh

set_option maxHeartbeats 4000000 in
theorem grdDo_no (v : Value) (n : Nat) (xs : List Int) (m : Value) (ms : List Int) (w : World) (hv : RdI 7 w v n xs) (hm : Rd w m ms) (hno : (grdB n xs && decide (ms.length ≤ 8)) = false) :
    Calls Try.prog 29 #[v, m] w fun e w' => ∃ u, e = .returned (.tuple #[u, .bool (doR n xs ms).isSome]) ∧ Own w' w.heap.size u (doL n xs ms) ∧ Below w.heap.size w w' := by
  have HN := hid (show doR n xs ms = none by simp [doR, hno])
  have RV := hid (hv.keep (below_alloc1 w (.cells #[m] 22)))
  have RM := hid (hm.keep (below_alloc1 w (.cells #[m] 22)))
  obtain ⟨_, _, a, cap, rfl, _⟩ := hv
  obtain ⟨_, _, am, cm, rfl, _⟩ := hm
  cases g : grdB n xs
  · go_enter Try.func29, Try.ntmps29
    go_wp2_with fail
    go_step3
    go_wp2_with (go_at_call 32; refine (grdOk_any _ n xs _ RV.out).mono ?_; rintro e w1 ⟨rfl, b1⟩; have B1 := hid ((below_alloc1 w (.cells #[.slice am ms.length cm] 22)).trans (b1.mono (by simp))); clear b1)
    rw [Exit.noGoto_ret]
    refine bodyPost_ret (v := .tuple #[.slice none 0 0, .bool false]) (by simp [results, Try.results29, go_sem]) rfl ?_
    exact ⟨_, by rw [HN.out]; rfl, by unfold doL; rw [HN.out]; exact own_nil _, B1.out⟩
  · have d8 : decide (ms.length ≤ 8) = false := by rw [g, Bool.true_and] at hno; exact hno
    have q0 : (w.alloc (.cells #[.slice am ms.length cm] 22)).cell? ⟨w.heap.size, 0, none⟩ = some (.slice am ms.length cm) := by go_simp
    go_enter Try.func29, Try.ntmps29
    go_wp2_with fail
    go_step3
    go_wp2_with (first | (go_at_call 32; refine (grdOk_any _ n xs _ RV.out).mono ?_; rintro e w1 ⟨rfl, b1⟩; have q0 := cell_keep b1 q0; have RM1 := hid (RM.out.keep b1); have B1 := hid ((below_alloc1 w (.cells #[.slice am ms.length cm] 22)).trans (b1.mono (by simp))); clear b1) | (go_at_call 55; refine (implMsg_any _ ms _ RM1.out).mono ?_; rintro e w2 ⟨rfl, rfl⟩))
    rw [Exit.noGoto_ret]
    refine bodyPost_ret (v := .tuple #[.slice none 0 0, .bool false]) (by simp [results, Try.results29, go_sem]) rfl ?_
    exact ⟨_, by rw [HN.out]; rfl, by unfold doL; rw [HN.out]; exact own_nil _, B1.out⟩

theorem grefl0 (a : World) (g : Nat) : a.grownBy a (some g) := ⟨rfl, rfl, rfl, Nat.le_refl _, fun _ _ _ => rfl⟩
theorem wide_scope {c : Code} {n : Nat} {P : Program} {Q : Exit → Act → World → Prop} {a : Act} {w : World} (h : c.wpIn Fence.wide n P (Exit.noGoto Q) a w) : (Code.scope c).wpIn Fence.wide n P Q a w :=
  wpIn_wide.2 (wp_scope_straight (wpIn_wide.1 h))

set_option maxRecDepth 100000 in
set_option maxHeartbeats 4000000 in
theorem grdDo_yes (v : Value) (n : Nat) (xs : List Int) (am : Option Addr) (cm : Nat) (ms : List Int) (w : World) (hv : RdI 7 w v n xs) (hm : Rd w (.slice am ms.length cm) ms) (hcm : ms.length ≤ cm) (hg : grdB n xs = true) (h8 : ms.length ≤ 8) :
    Calls Try.prog 29 #[v, .slice am ms.length cm] w fun e w' => ∃ u, e = .returned (.tuple #[u, .bool (doR n xs ms).isSome]) ∧ Own w' w.heap.size u (doL n xs ms) ∧ Below w.heap.size w w' := by
  have HF := hid (show doR n xs ms = (List.range n).find? (fitAt xs ms) by simp [doR, hg, h8])
  have HR := hid (fun (i : Nat) (hi : i < n) => grdB_at hg hi)
  have RV0 := hid hv
  have RM0 := hid hm
  have RV := hid (hv.keep (below_alloc1 w (.cells #[.slice am ms.length cm] 22)))
  have RM := hid (hm.keep (below_alloc1 w (.cells #[.slice am ms.length cm] 22)))
  obtain ⟨_, _, a, cap, rfl, _⟩ := hv
  have d8 : decide (ms.length ≤ 8) = true := by simpa using h8
  have q0 : (w.alloc (.cells #[.slice am ms.length cm] 22)).cell? ⟨w.heap.size, 0, none⟩ = some (.slice am ms.length cm) := by go_simp
  refine (callsIn_wide (n := 5)).1 ?_
  refine callsIn_of_wp_marks (F := Fence.wide) Try.func29 rfl trivial ?_ rfl
  simp only [Try.ntmps29, List.size_toArray, List.length_cons, List.length_nil, Nat.reduceAdd, Nat.reduceSub, Array.replicate_succ, Array.replicate_zero, List.push_toArray, List.append_toArray, List.nil_append, List.cons_append]
  gi_wp2
  refine wide_scope ?_
  gi_wp2_with (first | (refine ⟨trivial, ?_⟩; gi_at_call 32; refine (callsIn_wide.2 (grdOk_any _ n xs _ RV.out)).mono ?_; rintro e w1 ⟨rfl, b1⟩; have q0 := cell_keep b1 q0; have RM1 := hid (RM.out.keep b1); have B1 := hid ((below_alloc1 w (.cells #[.slice am ms.length cm] 22)).trans (b1.mono (by simp))); have z1 := b1.size; clear b1) | (refine ⟨trivial, ?_⟩; gi_at_call 55; refine (callsIn_wide.2 (implMsg_any _ ms _ RM1.out)).mono ?_; rintro e w2 ⟨rfl, rfl⟩) | (refine ⟨trivial, ?_⟩; gi_at_call 68; refine (rules_in Fence.wide _ trivial rfl _ _ _ _).mono ?_; rintro e w' ⟨rfl, rfl⟩))
  refine wpIn_label ?_
  gi_wp2_with (refine ⟨trivial, ?_⟩; gi_at_call 68; refine (rules_in Fence.wide _ trivial rfl _ _ _ _).mono ?_; rintro e w' ⟨rfl, rfl⟩)
  have bO : (((w2.alloc (.cells #[.slice none 0 0] 22)).alloc (.cells #[.bool false] 4)).alloc (.cells #[.slice a n cap] 38)).cell? ⟨w2.heap.size, 0, none⟩ = some (.slice none 0 0) := by go_simp
  have fO : (((w2.alloc (.cells #[.slice none 0 0] 22)).alloc (.cells #[.bool false] 4)).alloc (.cells #[.slice a n cap] 38)).frozen? ⟨w2.heap.size, 0, none⟩ = false := by go_simp
  have bF : (((w2.alloc (.cells #[.slice none 0 0] 22)).alloc (.cells #[.bool false] 4)).alloc (.cells #[.slice a n cap] 38)).cell? ⟨w2.heap.size + 1, 0, none⟩ = some (.bool false) := by go_simp
  have fF : (((w2.alloc (.cells #[.slice none 0 0] 22)).alloc (.cells #[.bool false] 4)).alloc (.cells #[.slice a n cap] 38)).frozen? ⟨w2.heap.size + 1, 0, none⟩ = false := by go_simp
  have bA : (((w2.alloc (.cells #[.slice none 0 0] 22)).alloc (.cells #[.bool false] 4)).alloc (.cells #[.slice a n cap] 38)).cell? ⟨w2.heap.size + 1 + 1, 0, none⟩ = some (.slice a n cap) := by go_simp
  have b012 : Below w2.heap.size w2 (((w2.alloc (.cells #[.slice none 0 0] 22)).alloc (.cells #[.bool false] 4)).alloc (.cells #[.slice a n cap] 38)) := (((Below.refl _ w2).alloc (Nat.le_refl _) _).alloc (by simp) _).alloc (by simp; omega) _
  have bM := cell_keep b012 q0
  have hB0 : Below w.heap.size w (((w2.alloc (.cells #[.slice none 0 0] 22)).alloc (.cells #[.bool false] 4)).alloc (.cells #[.slice a n cap] 38)) := B1.out.trans (b012.mono B1.out.size)
  have hsz : (((w2.alloc (.cells #[.slice none 0 0] 22)).alloc (.cells #[.bool false] 4)).alloc (.cells #[.slice a n cap] 38)).heap.size = w2.heap.size + 3 := by simp
  have hzw : w.heap.size < w2.heap.size := by simp at z1; omega
  obtain ⟨W0, hW0⟩ : ∃ W0, (((w2.alloc (.cells #[.slice none 0 0] 22)).alloc (.cells #[.bool false] 4)).alloc (.cells #[.slice a n cap] 38)) = W0 := ⟨_, rfl⟩
  rw [hW0] at bO fO bF fF bA bM hB0 hsz ⊢
  clear hW0 b012
  refine wpIn_rangeFunc_ownH (F := Fence.wide) rfl (by omega) (gf := 84) (lb := #[.pointer (some ⟨w2.heap.size + 1 + 1, 0, none⟩)]) rfl trivial (enters_of Try.func84 (by kernel_rfl) rfl)
    (places_stops Fence.wide _ trivial rfl (by omega) (w2.heap.size + 1 + 1) w.heap.size _ n xs W0 w (by omega) (by omega) bA rfl RV0.out hB0) belowK_t (belowK_b (by omega)) (Below.refl _ _) (fun _ => rfl)
    (fun pre W => ((W.cell? ⟨w2.heap.size, 0, none⟩ = some (.slice none 0 0) ∧ W.frozen? ⟨w2.heap.size, 0, none⟩ = false) ∧ (W.cell? ⟨w2.heap.size + 1, 0, none⟩ = some (.bool false) ∧ W.frozen? ⟨w2.heap.size + 1, 0, none⟩ = false)) ∧ (W.cell? ⟨w.heap.size, 0, none⟩ = some (.slice am ms.length cm) ∧ ((∀ i ∈ pre, fitAt xs ms i.1 = false) ∧ (Below w.heap.size w W ∧ w2.heap.size + 3 ≤ W.heap.size))))
    (fun c pre W => c = .exit 0 ∧ ∃ p x u, pre = p ++ [x] ∧ (∀ i ∈ p, fitAt xs ms i.1 = false) ∧ fitAt xs ms x.1 = true ∧ ((W.cell? ⟨w2.heap.size, 0, none⟩ = some (u) ∧ W.frozen? ⟨w2.heap.size, 0, none⟩ = false) ∧ (W.cell? ⟨w2.heap.size + 1, 0, none⟩ = some (.bool true) ∧ W.frozen? ⟨w2.heap.size + 1, 0, none⟩ = false)) ∧ (Own W w.heap.size u (thrAt xs ms x.1) ∧ Below w.heap.size w W))
    (OwnFrom.and (Go.Own.from (fun s A B row hs hg hr => ⟨⟨cell_kept hs.1.1 hg hr, (frozen_kept hs.1.1 hg hr).trans hs.1.2⟩, ⟨cell_kept hs.2.1 hg hr, (frozen_kept hs.2.1 hg hr).trans hs.2.2⟩⟩) _) (OwnFrom.and (Go.Own.from (fun s A B row hs hg hr => cell_kept hs hg hr) _) (OwnFrom.and (fun _ _ _ _ hs _ _ => hs) (OwnFrom.and (ownFrom_below (Nat.le_refl _) (by omega)) (fun _ _ _ _ hs hg _ => Nat.le_trans hs hg.size)))))
    (fun c s A B row hs hg hr => by
      obtain ⟨rfl, p, x, u, e1, e2, e3, ⟨⟨k1, k2⟩, ⟨k3, k4⟩⟩, k5, k6⟩ := hs
      have hr' := fun r e => (hr r e).2
      exact ⟨rfl, p, x, u, e1, e2, e3, ⟨⟨cell_kept k1 hg hr', (frozen_kept k1 hg hr').trans k2⟩, ⟨cell_kept k3 hg hr', (frozen_kept k3 hg hr').trans k4⟩⟩, own_kept k5 hg hr', ownFrom_below (β := Unit) (Nat.le_refl _) (by omega) () A B row k6 hg hr⟩)
    ⟨⟨⟨bO, fO⟩, ⟨bF, fF⟩⟩, bM, by simp, hB0, by omega⟩
    (fun x a' W => ∃ Bx, w2.heap.size + 1 + 1 < Bx ∧ rbox xs x.1 W Bx ∧ a' = { tmps := #[.slice a n cap, .slice am ms.length cm, undef, .pointer (some ⟨w.heap.size, 0, none⟩), .slice none 0 0, .bool false, .pointer (some ⟨w2.heap.size, 0, none⟩), .pointer (some ⟨w2.heap.size + 1, 0, none⟩), .pointer (some ⟨Bx, 0, none⟩), .slice a n cap, .bool true, .bool false, .bool false, .slice am ms.length cm, .bool true, .bool false, .bool false, .slice a n cap, .func (.func 84) #[] #[.pointer (some ⟨w2.heap.size + 1 + 1, 0, none⟩)], Value.agg #[.int .i64 (xs.getD (x.1 * 7) 0), .int .i64 (xs.getD (x.1 * 7 + 1) 0), .int .i64 (xs.getD (x.1 * 7 + 2) 0), .int .i64 (xs.getD (x.1 * 7 + 3) 0), .int .i64 (xs.getD (x.1 * 7 + 4) 0), .int .i64 (xs.getD (x.1 * 7 + 5) 0), .int .i64 (xs.getD (x.1 * 7 + 6) 0)], undef, undef, undef, undef, undef, undef, undef, undef, undef], defers := [] })
    (fun x a' _ X Y row hs hg hr => by obtain ⟨Bx, h1, h2, h3⟩ := hs; exact ⟨Bx, h1, rbox_own xs x.1 Bx () X Y row h2 hg (fun r e => (hr r e).2), h3⟩)
    ?assign ?body ?done ?stop
  case assign =>
    rintro l pre x W K ⟨⟨⟨cO, fO⟩, ⟨cF, fF⟩⟩, cM, hp, hB1, hs1⟩ hK
    have HP := hid hp
    clear hp
    gi_wp2
    exact hK _ _ ((KeepsOthers.alloc _ _).from _) ((Below.refl _ W).alloc hB1.size _) ⟨⟨⟨cell_keep (below_alloc1 W _) cO, ((below_alloc1 W _).frozen (p := ⟨w2.heap.size, 0, none⟩) (by dsimp only; omega)).trans fO⟩, ⟨cell_keep (below_alloc1 W _) cF, ((below_alloc1 W _).frozen (p := ⟨w2.heap.size + 1, 0, none⟩) (by dsimp only; omega)).trans fF⟩⟩, cell_keep (below_alloc1 W _) cM, HP.out, hB1.alloc hB1.size _, by simp; omega⟩ ⟨W.heap.size, by omega, ⟨by go_simp, by go_simp, by go_simp, by go_simp, by go_simp, by go_simp, by go_simp⟩, rfl⟩
  case body =>
    rintro l pre x a' W hl0 ⟨r, hr⟩ ⟨⟨⟨cO, fO⟩, ⟨cF, fF⟩⟩, cM, hp, hB1, hs1⟩ ⟨Bx, hBx, ⟨c0, c1, c2, c3, c4, c5, c6⟩, rfl⟩ hlt
    have HP := hid hp
    have ltO : w2.heap.size < W.heap.size := by omega
    have ltF : w2.heap.size + 1 < W.heap.size := by omega
    have HB := hid hB1
    have RMW := hid (RM0.out.keep hB1)
    have HT := hid (rule_at (HR.out x.1 x.2)).1
    have HC0 := hid (rule_cut (HR.out x.1 x.2)).1
    have HC8 := hid (rule_cut (HR.out x.1 x.2)).2
    clear hp hB1
    cases hc : fitAt xs ms x.1
    · have hq : fitB (xs[x.1 * 7]?.getD 0) (xs[x.1 * 7 + 1]?.getD 0) (xs[x.1 * 7 + 2]?.getD 0) (xs[x.1 * 7 + 3]?.getD 0) (xs[x.1 * 7 + 4]?.getD 0) ms = false := hc
      have HC := hid hc
      clear hc
      gi_wp2_with (refine ⟨trivial, ?_⟩; gi_at_call 69; refine (CallsIn.inRound l (callsIn_wide.2 (fits_any (xs.getD (x.1 * 7) 0) (xs.getD (x.1 * 7 + 1) 0) (xs.getD (x.1 * 7 + 2) 0) (xs.getD (x.1 * 7 + 3) 0) (xs.getD (x.1 * 7 + 4) 0) (xs.getD (x.1 * 7 + 5) 0) (xs.getD (x.1 * 7 + 6) 0) _ ms _ RMW.out HT.out))).mono ?_; rintro e w3 ⟨rfl, b3⟩; have cO := cell_keep b3 cO; have cF := cell_keep b3 cF; have cM := cell_keep b3 cM; have c0 := cell_keep b3 c0; have c1 := cell_keep b3 c1; have c2 := cell_keep b3 c2; have c3 := cell_keep b3 c3; have c4 := cell_keep b3 c4; have c5 := cell_keep b3 c5; have c6 := cell_keep b3 c6; have fO := (b3.frozen (p := ⟨w2.heap.size, 0, none⟩) ltO).trans fO; have fF := (b3.frozen (p := ⟨w2.heap.size + 1, 0, none⟩) ltF).trans fF; have B3 := hid b3; have RM3 := hid (RMW.out.keep b3); have z3 := b3.size; clear b3)
      have hB3 := HB.out.trans (B3.out.mono HB.out.size)
      have KB := (Below.refl w.heap.size W).trans (B3.out.mono HB.out.size)
      exact ⟨((keeps_below B3.out).trans (KeepsOthers.setCell _ _ _)).from _, KB.setCell (p := ⟨w2.heap.size + 1, 0, none⟩) (by dsimp only; omega) _, ⟨⟨(World.cell?_setCell_other _ _ _ _ (by simp)).trans cO, by rw [World.frozen?_setCell]; exact fO⟩, ⟨World.cell?_setCell_same _ _ _ cF, by rw [World.frozen?_setCell]; exact fF⟩⟩, (World.cell?_setCell_other _ _ _ _ (by simp <;> omega)).trans cM, fun i hi => by
        rcases List.mem_append.1 hi with hi | hi
        · exact HP.out i hi
        · simp only [List.mem_singleton] at hi; subst hi; exact HC.out, hB3.setCell (p := ⟨w2.heap.size + 1, 0, none⟩) (by dsimp only; omega) _, by simp [World.setCell]; omega⟩
    · have hq : fitB (xs[x.1 * 7]?.getD 0) (xs[x.1 * 7 + 1]?.getD 0) (xs[x.1 * 7 + 2]?.getD 0) (xs[x.1 * 7 + 3]?.getD 0) (xs[x.1 * 7 + 4]?.getD 0) ms = true := hc
      have HC := hid hc
      clear hc
      gi_wp2
      refine ⟨trivial, ?_⟩
      refine (CallsIn.inRound l (callsIn_wide.2 (fits_any (xs.getD (x.1 * 7) 0) (xs.getD (x.1 * 7 + 1) 0) (xs.getD (x.1 * 7 + 2) 0) (xs.getD (x.1 * 7 + 3) 0) (xs.getD (x.1 * 7 + 4) 0) (xs.getD (x.1 * 7 + 5) 0) (xs.getD (x.1 * 7 + 6) 0) _ ms _ RMW.out HT.out))).mono ?_
      rintro e w3 ⟨rfl, b3⟩
      have cO := cell_keep b3 cO
      have cF := cell_keep b3 cF
      have cM := cell_keep b3 cM
      have c0 := cell_keep b3 c0
      have c1 := cell_keep b3 c1
      have c2 := cell_keep b3 c2
      have c3 := cell_keep b3 c3
      have c4 := cell_keep b3 c4
      have c5 := cell_keep b3 c5
      have c6 := cell_keep b3 c6
      have fO := (b3.frozen (p := ⟨w2.heap.size, 0, none⟩) ltO).trans fO
      have fF := (b3.frozen (p := ⟨w2.heap.size + 1, 0, none⟩) ltF).trans fF
      have B3 := hid b3
      have RM3 := hid (RMW.out.keep b3)
      have z3 := b3.size
      clear b3
      have b4 : Below w.heap.size w (w3.setCell ⟨w2.heap.size + 1, 0, none⟩ (.bool true)) := (HB.out.trans (B3.out.mono HB.out.size)).setCell (p := ⟨w2.heap.size + 1, 0, none⟩) (by dsimp only; omega) _
      have RM4 := hid (RM0.out.keep b4)
      have B4 := hid b4
      have cO4 : (w3.setCell ⟨w2.heap.size + 1, 0, none⟩ (.bool true)).cell? ⟨w2.heap.size, 0, none⟩ = some (.slice none 0 0) := (World.cell?_setCell_other _ _ _ _ (by simp)).trans cO
      have cF4 := World.cell?_setCell_same w3 ⟨w2.heap.size + 1, 0, none⟩ (.bool true) cF
      have fO4 : (w3.setCell ⟨w2.heap.size + 1, 0, none⟩ (.bool true)).frozen? ⟨w2.heap.size, 0, none⟩ = false := by (rw [World.frozen?_setCell]; exact fO)
      have fF4 : (w3.setCell ⟨w2.heap.size + 1, 0, none⟩ (.bool true)).frozen? ⟨w2.heap.size + 1, 0, none⟩ = false := by (rw [World.frozen?_setCell]; exact fF)
      have z4 : (w3.setCell ⟨w2.heap.size + 1, 0, none⟩ (.bool true)).heap.size = w3.heap.size := by simp [World.setCell]
      have ltO4 : w2.heap.size < (w3.setCell ⟨w2.heap.size + 1, 0, none⟩ (.bool true)).heap.size := by (rw [z4]; omega)
      have ltF4 : w2.heap.size + 1 < (w3.setCell ⟨w2.heap.size + 1, 0, none⟩ (.bool true)).heap.size := by (rw [z4]; omega)
      clear b4
      gi_wp2_with (refine ⟨trivial, ?_⟩; gi_at_call 70; refine (CallsIn.inRound l (callsIn_wide.2 (through_any (xs.getD (x.1 * 7) 0) (xs.getD (x.1 * 7 + 1) 0) (xs.getD (x.1 * 7 + 2) 0) (xs.getD (x.1 * 7 + 3) 0) (xs.getD (x.1 * 7 + 4) 0) (xs.getD (x.1 * 7 + 5) 0) (xs.getD (x.1 * 7 + 6) 0) am cm ms _ RM4.out hcm HC0.out HC8.out))).mono ?_; rintro e w5 ⟨u, rfl, o5, b5⟩; obtain ⟨ua, uc, hu, _⟩ := own_form o5; subst hu; have cO5 := cell_keep b5 cO4; have cF5 := cell_keep b5 cF4; have fO5 := (b5.frozen (p := ⟨w2.heap.size, 0, none⟩) ltO4).trans fO4; have fF5 := (b5.frozen (p := ⟨w2.heap.size + 1, 0, none⟩) ltF4).trans fF4; have B5 := hid b5; have O5 := hid o5; clear b5 o5)
      have hK5 : KeepsOthers W w5 := ((keeps_below B3.out).trans (KeepsOthers.setCell w3 ⟨w2.heap.size + 1, 0, none⟩ (.bool true))).trans (keeps_below B5.out)
      have hB5 : Below w.heap.size w w5 := B4.out.trans (B5.out.mono B4.out.size)
      exact ⟨(hK5.trans (KeepsOthers.setCell _ _ _)).from _, rfl, pre, x, _, rfl, HP.out, HC.out, ⟨⟨World.cell?_setCell_same _ _ _ cO5, by rw [World.frozen?_setCell]; exact fO5⟩, ⟨(World.cell?_setCell_other _ _ _ _ (by simp)).trans cF5, by rw [World.frozen?_setCell]; exact fF5⟩⟩, (O5.out.grown (grownI_set (grefl0 w5 w2.heap.size)) (fun k hk => by cases hk; rw [z4]; omega)).low (by rw [z4]; omega), hB5.setCell (p := ⟨w2.heap.size, 0, none⟩) (by dsimp only; omega) _⟩
  case done =>
    rintro D zs W hD hz ⟨⟨⟨cO, fO⟩, ⟨cF, fF⟩⟩, cM, hp, hB1, hs1⟩ hK
    have HN := hid (show doR n xs ms = none by
      rw [HF.out]
      refine find_none (fun i hi => ?_)
      have hm : i ∈ zs.map (·.1) := by rw [hz]; exact List.mem_range.2 hi
      obtain ⟨x, hx, rfl⟩ := List.mem_map.1 hm
      exact hp x hx)
    clear hp
    gi_wp2
    refine wpIn_wide.2 ?_
    go_quiet (fail)
    gi_wp2
    rw [Exit.noGoto_ret]
    have hK' : (W.drewN nq).heap[D]? = some (.deferred (some [])) := hK
    refine ⟨by simp, .inl ⟨_, _, rfl, run_takeDeferred hK', ?_⟩⟩
    exact ⟨.tuple #[.slice none 0 0, .bool false], by simp [results, Try.results29, go_sem], _, by rw [HN.out]; rfl, by unfold doL; rw [HN.out]; exact own_nil _, (hB1.trans (below_draws _ _ _)).trans (belowK_b (w := w) (Nat.le_refl _) _ D _ _ (by omega) hK' rfl rfl)⟩
  case stop =>
    rintro D c pre W hD ⟨k, hk, hpk⟩ ⟨rfl, p, x, u, e1, e2, e3, ⟨⟨k1, k2⟩, ⟨k3, k4⟩⟩, k5, k6⟩ hK
    have HN := hid (show doR n xs ms = some x.1 by
      rw [HF.out]
      have hpx : p.map (·.1) ++ [x.1] = List.range k := by rw [← hpk, e1]; simp
      have hkl : k = p.length + 1 := by have := congrArg List.length hpx; simp at this; omega
      rw [hkl, List.range_succ] at hpx
      have hpp := List.append_inj' hpx rfl
      have hx1 : x.1 = p.length := by simpa using hpp.2
      refine find_range (fun i hi => ?_) e3 x.2
      have hm : i ∈ p.map (·.1) := by rw [hpp.1]; exact List.mem_range.2 (by omega)
      obtain ⟨y, hy, rfl⟩ := List.mem_map.1 hm
      exact e2 y hy)
    clear e1 e2 e3 hpk
    obtain ⟨ua, uc, hu, _⟩ := own_form k5
    subst hu
    have K5 := hid k5
    have K6 := hid k6
    clear k5 k6
    gi_wp2
    refine wpIn_wide.2 ?_
    go_quiet (fail)
    gi_wp2
    rw [Exit.noGoto_ret]
    have hK' : (W.drewN nq).heap[D]? = some (.deferred (some [])) := hK
    refine ⟨by simp, .inl ⟨_, _, rfl, run_takeDeferred hK', ?_⟩⟩
    exact ⟨.tuple #[.slice ua (thrAt xs ms x.1).length uc, .bool true], by simp [results, Try.results29, go_sem], _, by rw [HN.out]; rfl, by unfold doL; rw [HN.out]; exact own_kept (K5.out.keep (below_draws _ _ _)) (grownBy_putObj' _ D (.deferred none)) (fun r e => by cases e; exact ⟨_, hK', rfl⟩), (K6.out.trans (below_draws _ _ _)).trans (belowK_b (w := w) (Nat.le_refl _) _ D _ _ (by omega) hK' rfl rfl)⟩

theorem grdDo_any (v : Value) (n : Nat) (xs : List Int) (am : Option Addr) (cm : Nat) (ms : List Int) (w : World) (hv : RdI 7 w v n xs) (hm : Rd w (.slice am ms.length cm) ms) (hcm : ms.length ≤ cm) :
    Calls Try.prog 29 #[v, .slice am ms.length cm] w fun e w' => ∃ u, e = .returned (.tuple #[u, .bool (doR n xs ms).isSome]) ∧ Own w' w.heap.size u (doL n xs ms) ∧ Below w.heap.size w w' := by
  cases h : (grdB n xs && decide (ms.length ≤ 8))
  · exact grdDo_no v n xs _ ms w hv hm h
  · rw [Bool.and_eq_true] at h
    exact grdDo_yes v n xs am cm ms w hv hm hcm h.1 (by simpa using h.2)
end Go.Proofs.Ytlkmooefebenlaa
