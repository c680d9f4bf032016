/- Whether a guard is ok: the contracts of the program and of the specification. Conditions: the list reads as rules. -/
import Derived.Test.YtlkmooefebenlaaGrdRange
import Derived.Test.YtlkmooefebenlaaGrdRule
namespace Go.Proofs.Ytlkmooefebenlaa
open Go.ChangeShapes Go.WideShapes Go.ChangeAt Go.RowKit Go.Joins Go.Deep
set_option linter.unusedVariables false
set_option maxRecDepth 4000

def ruleAt (xs : List Int) (i : Nat) : Bool := ruleB (xs.getD (i * 7) 0) (xs.getD (i * 7 + 1) 0) (xs.getD (i * 7 + 2) 0) (xs.getD (i * 7 + 3) 0) (xs.getD (i * 7 + 4) 0) (xs.getD (i * 7 + 5) 0) (xs.getD (i * 7 + 6) 0)
/-- whether a guard is ok -/
def grdB (n : Nat) (xs : List Int) : Bool := decide (n ≤ 4) && (List.range n).all (ruleAt xs)
theorem all_range_succ (p : Nat → Bool) (k : Nat) : (List.range (k + 1)).all p = ((List.range k).all p && p k) := by
  rw [List.range_succ, List.all_append]; simp
theorem grdB_long {n : Nat} {xs : List Int} (h : ¬ n ≤ 4) : grdB n xs = false := by simp [grdB, h]
theorem grdB_bad {n k : Nat} {xs : List Int} (hk : k < n) (h : ruleAt xs k = false) : grdB n xs = false := by
  have : (List.range n).all (ruleAt xs) = false := List.all_eq_false.2 ⟨k, by simpa using hk, by rw [h]; decide⟩
  simp [grdB, this]
theorem grdB_good {n : Nat} {xs : List Int} (hn : n ≤ 4) (h : (List.range n).all (ruleAt xs) = true) : grdB n xs = true := by
  simp only [grdB, h, Bool.and_true]; simpa using hn

set_option maxHeartbeats 4000000 in
theorem specGrdOk_any (v : Value) (n : Nat) (xs : List Int) (w : World) (hv : RdI 7 w v n xs) :
    Calls Try.prog 31 #[v] w fun e w' => e = .returned (.bool (grdB n xs)) ∧ Below w.heap.size w w' := by
  obtain ⟨h1, h2, a, cap, rfl, h3⟩ := hv
  by_cases hn : n ≤ 4
  · have d24 : decide ((4 : Int) < (n : Int)) = false := by simp; omega
    go_enter Try.func31, Try.ntmps31
    go_wp2_with fail
    go_loopw [3] (fun i wr => ∃ k : Nat, k ≤ n ∧ i = .int .i64 k ∧ (List.range k).all (ruleAt xs) = true ∧ Below w.heap.size w wr) (fun i _ => n - (intOf i).toNat)
    case atStart => exact ⟨0, Nat.zero_le _, rfl, rfl, Below.refl _ _⟩
    case round =>
      obtain ⟨k, hk, rfl, hall, hB⟩ := hrel
      by_cases hlt : k < n
      · rcases h3 with rfl | ⟨b, off, rfl, hc⟩
        · omega
        have hkk : k * 7 + 7 ≤ n * 7 := by omega
        have HA := hid (all_range_succ (ruleAt xs) k)
        rw [hall, Bool.true_and] at HA
        have HD : Hid (ruleAt xs k = ruleB (xs.getD (k * 7) 0) (xs.getD (k * 7 + 1) 0) (xs.getD (k * 7 + 2) 0) (xs.getD (k * 7 + 3) 0) (xs.getD (k * 7 + 4) 0) (xs.getD (k * 7 + 5) 0) (xs.getD (k * 7 + 6) 0)) := hid rfl
        have HBAD := hid (fun h => grdB_bad (xs := xs) hlt h)
        have r0 := cell_keep hB (hc (k * 7) (by omega))
        obtain ⟨y0, hy0⟩ : ∃ y, xs.getD (k * 7) 0 = y := ⟨_, rfl⟩
        rw [hy0] at r0
        have r1 := cell_keep hB (hc (k * 7 + 1) (by omega))
        obtain ⟨y1, hy1⟩ : ∃ y, xs.getD (k * 7 + 1) 0 = y := ⟨_, rfl⟩
        rw [hy1] at r1
        have r2 := cell_keep hB (hc (k * 7 + 2) (by omega))
        obtain ⟨y2, hy2⟩ : ∃ y, xs.getD (k * 7 + 2) 0 = y := ⟨_, rfl⟩
        rw [hy2] at r2
        have r3 := cell_keep hB (hc (k * 7 + 3) (by omega))
        obtain ⟨y3, hy3⟩ : ∃ y, xs.getD (k * 7 + 3) 0 = y := ⟨_, rfl⟩
        rw [hy3] at r3
        have r4 := cell_keep hB (hc (k * 7 + 4) (by omega))
        obtain ⟨y4, hy4⟩ : ∃ y, xs.getD (k * 7 + 4) 0 = y := ⟨_, rfl⟩
        rw [hy4] at r4
        have r5 := cell_keep hB (hc (k * 7 + 5) (by omega))
        obtain ⟨y5, hy5⟩ : ∃ y, xs.getD (k * 7 + 5) 0 = y := ⟨_, rfl⟩
        rw [hy5] at r5
        have r6 := cell_keep hB (hc (k * 7 + 6) (by omega))
        obtain ⟨y6, hy6⟩ : ∃ y, xs.getD (k * 7 + 6) 0 = y := ⟨_, rfl⟩
        rw [hy6] at r6
        simp only [hy0, hy1, hy2, hy3, hy4, hy5, hy6] at HD
        rw [← Nat.add_assoc] at r1; rw [← Nat.add_assoc] at r2; rw [← Nat.add_assoc] at r3; rw [← Nat.add_assoc] at r4; rw [← Nat.add_assoc] at r5; rw [← Nat.add_assoc] at r6
        have HB := hid hB
        clear hc hB hall hy0 hy1 hy2 hy3 hy4 hy5 hy6
        cases c0 : ruleB y0 y1 y2 y3 y4 y5 y6
        · rw [c0] at HD
          go_wp2_with (go_at_call 36; refine (specRule_any y0 y1 y2 y3 y4 y5 y6 _).mono ?_; rintro e w1 ⟨rfl, b1⟩; have B1 := hid (HB.out.trans (b1.mono HB.out.size)); clear b1)
          go_ret
          exact ⟨ret_bool (HBAD.out HD.out).symm, B1.out⟩
        · rw [c0] at HD
          go_wp2_with (go_at_call 36; refine (specRule_any y0 y1 y2 y3 y4 y5 y6 _).mono ?_; rintro e w1 ⟨rfl, b1⟩; have B1 := hid (HB.out.trans (b1.mono HB.out.size)); clear b1)
          go_roundw
          case rel => exact ⟨k + 1, by omega, by go_num, by rw [HA.out]; exact HD.out, B1.out⟩
          case measure => simp [intOf]; omega
      · obtain rfl : k = n := by omega
        have HB := hid hB
        have HG := hid (grdB_good hn hall)
        clear h3 hB hall
        go_wp2
        go_ret
        exact ⟨ret_bool HG.out.symm, HB.out⟩
  · have d24 : decide ((4 : Int) < (n : Int)) = true := by simp; omega
    have H := hid (grdB_long (xs := xs) hn)
    clear h3
    go_enter Try.func31, Try.ntmps31
    go_wp2
    go_ret
    exact ⟨ret_bool H.out.symm, Below.refl _ _⟩
end Go.Proofs.Ytlkmooefebenlaa
namespace Go.Proofs.Ytlkmooefebenlaa
open Go.ChangeShapes Go.WideShapes Go.ChangeAt Go.RowKit Go.Joins Go.Deep Go.Shelf
set_option linter.unusedVariables false
attribute [local go_sem] Oper.semAt_some
theorem keeps_below {W W' : World} (h : Below W.heap.size W W') : KeepsOthers W W' := ⟨h.size, fun k o hk _ => (h.block k (Array.getElem?_eq_some_iff.1 hk).1).trans hk⟩
/-- a rule's box -/
def rbox (xs : List Int) (x : Nat) (W : World) (B : Nat) : Prop := W.cell? ⟨B, 0, none⟩ = some (.int .i64 (xs.getD (x * 7) 0)) ∧ W.cell? ⟨B, 1, none⟩ = some (.int .i64 (xs.getD (x * 7 + 1) 0)) ∧ W.cell? ⟨B, 2, none⟩ = some (.int .i64 (xs.getD (x * 7 + 2) 0)) ∧ W.cell? ⟨B, 3, none⟩ = some (.int .i64 (xs.getD (x * 7 + 3) 0)) ∧ W.cell? ⟨B, 4, none⟩ = some (.int .i64 (xs.getD (x * 7 + 4) 0)) ∧ W.cell? ⟨B, 5, none⟩ = some (.int .i64 (xs.getD (x * 7 + 5) 0)) ∧ W.cell? ⟨B, 6, none⟩ = some (.int .i64 (xs.getD (x * 7 + 6) 0))
theorem rbox_own (xs : List Int) (x B : Nat) : Go.Own (fun (_ : Unit) W => rbox xs x W B) := fun _ A C row hs hg hr => by
  obtain ⟨h0, h1, h2, h3, h4, h5, h6⟩ := hs
  exact ⟨cell_kept h0 hg hr, cell_kept h1 hg hr, cell_kept h2 hg hr, cell_kept h3 hg hr, cell_kept h4 hg hr, cell_kept h5 hg hr, cell_kept h6 hg hr⟩
theorem resGrdOk {W : World} {b : Nat} {x : Value} (tmps : Array Value) (ht : tmps[2]?.getD undef = .pointer (some ⟨b, 0, none⟩)) (h0 : W.cell? ⟨b, 0, none⟩ = some x) :
    (results Try.f32 tmps).run Try.prog W = .ok x W := by
  simp [results, Try.results32, go_sem, ht, h0]
theorem list_all_range {p : Nat → Bool} {n : Nat} (h : ∀ i ∈ List.range n, p i = true) : (List.range n).all p = true := List.all_eq_true.2 h

set_option maxRecDepth 100000 in
set_option maxHeartbeats 4000000 in
theorem grdOk_any (v : Value) (n : Nat) (xs : List Int) (w : World) (hv : RdI 7 w v n xs) :
    Calls Try.prog 32 #[v] w fun e w' => e = .returned (.bool (grdB n xs)) ∧ Below w.heap.size w w' := by
  have RV := hid hv
  obtain ⟨hx, hl, a, cap, rfl, _⟩ := hv
  by_cases hn : n ≤ 4
  · refine (callsIn_wide (n := 5)).1 ?_
    have d24 : decide ((4 : Int) < (n : Int)) = false := by simp; omega
    refine callsIn_of_wp_marks (F := Fence.wide) Try.func32 rfl trivial ?_ rfl
    simp only [Try.ntmps32, List.size_toArray, List.length_cons, List.length_nil, Nat.reduceAdd, Nat.reduceSub, Array.replicate_succ, Array.replicate_zero, List.push_toArray, List.append_toArray, List.nil_append, List.cons_append]
    gi_wp2_with (refine ⟨trivial, ?_⟩; gi_at_call 68; refine (rules_in Fence.wide _ trivial rfl _ _ _ _).mono ?_; rintro e w' ⟨rfl, rfl⟩)
    have bR : ((w.alloc (.cells #[.bool false] 4)).alloc (.cells #[.slice a n cap] 38)).cell? ⟨w.heap.size, 0, none⟩ = some (.bool false) := by go_simp
    have fR : ((w.alloc (.cells #[.bool false] 4)).alloc (.cells #[.slice a n cap] 38)).frozen? ⟨w.heap.size, 0, none⟩ = false := by go_simp
    have bA : ((w.alloc (.cells #[.bool false] 4)).alloc (.cells #[.slice a n cap] 38)).cell? ⟨w.heap.size + 1, 0, none⟩ = some (.slice a n cap) := by go_simp
    have hB0 : Below w.heap.size w ((w.alloc (.cells #[.bool false] 4)).alloc (.cells #[.slice a n cap] 38)) := ((Below.refl _ w).alloc (Nat.le_refl _) _).alloc (by simp) _
    have hsz : ((w.alloc (.cells #[.bool false] 4)).alloc (.cells #[.slice a n cap] 38)).heap.size = w.heap.size + 2 := by simp
    obtain ⟨W0, hW0⟩ : ∃ W0, ((w.alloc (.cells #[.bool false] 4)).alloc (.cells #[.slice a n cap] 38)) = W0 := ⟨_, rfl⟩
    rw [hW0] at bR fR bA hB0 hsz ⊢
    clear hW0
    refine wpIn_rangeFunc_ownH (F := Fence.wide) rfl (by omega) (gf := 84) (lb := #[.pointer (some ⟨w.heap.size + 1, 0, none⟩)]) rfl trivial (enters_of Try.func84 (by kernel_rfl) rfl)
      (rules_stops Fence.wide _ trivial rfl (by omega) (w.heap.size + 1) w.heap.size _ n xs W0 w (by omega) (by omega) bA rfl RV.out hB0) belowK_t (belowK_b (by omega)) (Below.refl _ _) (fun _ => rfl)
      (fun pre W => (W.cell? ⟨w.heap.size, 0, none⟩ = some (.bool false) ∧ W.frozen? ⟨w.heap.size, 0, none⟩ = false) ∧ ((∀ i ∈ pre, ruleAt xs i = true) ∧ (Below w.heap.size w W ∧ w.heap.size + 2 ≤ W.heap.size)))
      (fun c pre W => (W.cell? ⟨w.heap.size, 0, none⟩ = some (.bool false) ∧ W.frozen? ⟨w.heap.size, 0, none⟩ = false) ∧ ((c = .ret ∧ ∃ i ∈ pre, ruleAt xs i = false) ∧ Below w.heap.size w W))
      (OwnFrom.and (Go.Own.from (fun s A B row hs hg hr => ⟨cell_kept hs.1 hg hr, (frozen_kept hs.1 hg hr).trans hs.2⟩) _) (OwnFrom.and (fun _ _ _ _ hs _ _ => hs) (OwnFrom.and (ownFrom_below (Nat.le_refl _) (by omega)) (fun _ _ _ _ hs hg _ => Nat.le_trans hs hg.size))))
      (fun c => OwnFrom.and (Go.Own.from (fun s A B row hs hg hr => ⟨cell_kept hs.1 hg hr, (frozen_kept hs.1 hg hr).trans hs.2⟩) _) (OwnFrom.and (fun _ _ _ _ hs _ _ => hs) (ownFrom_below (Nat.le_refl _) (by omega))))
      ⟨⟨bR, fR⟩, by simp, hB0, by omega⟩
      (fun x a' W => ∃ Bx, w.heap.size + 1 < Bx ∧ rbox xs x W Bx ∧ a' = { tmps := #[.slice a n cap, undef, .pointer (some ⟨w.heap.size, 0, none⟩), .pointer (some ⟨Bx, 0, none⟩), .slice a n cap, .int .i64 (n : Int), .bool false, .slice a n cap, .func (.func 84) #[] #[.pointer (some ⟨w.heap.size + 1, 0, none⟩)], Value.agg #[.int .i64 (xs.getD (x * 7) 0), .int .i64 (xs.getD (x * 7 + 1) 0), .int .i64 (xs.getD (x * 7 + 2) 0), .int .i64 (xs.getD (x * 7 + 3) 0), .int .i64 (xs.getD (x * 7 + 4) 0), .int .i64 (xs.getD (x * 7 + 5) 0), .int .i64 (xs.getD (x * 7 + 6) 0)], undef, undef, undef], defers := [] })
      (fun x a' _ X Y row hs hg hr => by obtain ⟨Bx, h1, h2, h3⟩ := hs; exact ⟨Bx, h1, rbox_own xs x Bx () X Y row h2 hg (fun r e => (hr r e).2), h3⟩)
      ?assign ?body ?done ?stop
    case assign =>
      rintro l pre x W K ⟨⟨cR, fR⟩, hp, hB1, hs1⟩ hK
      have HP := hid hp
      clear hp
      gi_wp2
      exact hK _ _ ((KeepsOthers.alloc _ _).from _) ((Below.refl _ W).alloc hB1.size _) ⟨⟨cell_keep (below_alloc1 W _) cR, ((below_alloc1 W _).frozen (p := ⟨w.heap.size, 0, none⟩) (by dsimp only; omega)).trans fR⟩, HP.out, hB1.alloc hB1.size _, by simp; omega⟩ ⟨W.heap.size, by omega, ⟨by go_simp, by go_simp, by go_simp, by go_simp, by go_simp, by go_simp, by go_simp⟩, rfl⟩
    case body =>
      rintro l pre x a' W hl0 ⟨r, hr⟩ ⟨⟨cR, fR⟩, hp, hB1, hs1⟩ ⟨Bx, hBx, ⟨c0, c1, c2, c3, c4, c5, c6⟩, rfl⟩ hlt
      have HP := hid hp
      have hlt1 : w.heap.size < W.heap.size := by omega
      have HB := hid hB1
      clear hp hB1
      cases hc : ruleAt xs x
      · have hq : ruleB (xs[x * 7]?.getD 0) (xs[x * 7 + 1]?.getD 0) (xs[x * 7 + 2]?.getD 0) (xs[x * 7 + 3]?.getD 0) (xs[x * 7 + 4]?.getD 0) (xs[x * 7 + 5]?.getD 0) (xs[x * 7 + 6]?.getD 0) = false := hc
        have HC := hid hc
        clear hc
        gi_wp2_with (refine ⟨trivial, ?_⟩; gi_at_call 71; refine (CallsIn.inRound l (callsIn_wide.2 (ruleOk_any (xs.getD (x * 7) 0) (xs.getD (x * 7 + 1) 0) (xs.getD (x * 7 + 2) 0) (xs.getD (x * 7 + 3) 0) (xs.getD (x * 7 + 4) 0) (xs.getD (x * 7 + 5) 0) (xs.getD (x * 7 + 6) 0) _))).mono ?_; rintro e w1 ⟨rfl, b1⟩; have cR := cell_keep b1 cR; have fR := (b1.frozen (p := ⟨w.heap.size, 0, none⟩) hlt1).trans fR; have B1 := hid b1; clear b1)
        exact ⟨((keeps_below B1.out).trans (KeepsOthers.setCell _ _ _)).from _, ⟨World.cell?_setCell_same _ _ _ cR, by rw [World.frozen?_setCell]; exact fR⟩, ⟨rfl, x, by simp, HC.out⟩, (HB.out.trans (B1.out.mono HB.out.size)).setCell (p := ⟨w.heap.size, 0, none⟩) (Nat.le_refl _) _⟩
      · have hq : ruleB (xs[x * 7]?.getD 0) (xs[x * 7 + 1]?.getD 0) (xs[x * 7 + 2]?.getD 0) (xs[x * 7 + 3]?.getD 0) (xs[x * 7 + 4]?.getD 0) (xs[x * 7 + 5]?.getD 0) (xs[x * 7 + 6]?.getD 0) = true := hc
        have HC := hid hc
        clear hc
        gi_wp2_with (refine ⟨trivial, ?_⟩; gi_at_call 71; refine (CallsIn.inRound l (callsIn_wide.2 (ruleOk_any (xs.getD (x * 7) 0) (xs.getD (x * 7 + 1) 0) (xs.getD (x * 7 + 2) 0) (xs.getD (x * 7 + 3) 0) (xs.getD (x * 7 + 4) 0) (xs.getD (x * 7 + 5) 0) (xs.getD (x * 7 + 6) 0) _))).mono ?_; rintro e w1 ⟨rfl, b1⟩; have cR := cell_keep b1 cR; have fR := (b1.frozen (p := ⟨w.heap.size, 0, none⟩) hlt1).trans fR; have B1 := hid b1; clear b1)
        exact ⟨(keeps_below B1.out).from _, B1.out.mono HB.out.size, ⟨cR, fR⟩, fun i hi => by
          rcases List.mem_append.1 hi with hi | hi
          · exact HP.out i hi
          · simp only [List.mem_singleton] at hi; subst hi; exact HC.out, HB.out.trans (B1.out.mono HB.out.size), Nat.le_trans hs1 B1.out.size⟩
    case done =>
      rintro D zs W hD rfl ⟨⟨cR, fR⟩, hp, hB1, hs1⟩ hK
      have HG := hid (grdB_good hn (list_all_range hp))
      clear hp
      gi_wp2
      have hK' := (KeepsOthers.setCell W ⟨w.heap.size, 0, none⟩ (.bool true)).same D _ hK rfl
      refine ⟨by simp, .inl ⟨_, _, rfl, run_takeDeferred hK', ?_⟩⟩
      exact ⟨_, resGrdOk _ rfl (cell_kept (World.cell?_setCell_same _ _ _ cR) (grownBy_putObj' _ D (.deferred none)) (fun r e => by cases e; exact ⟨_, hK', rfl⟩)), by rw [HG.out], (hB1.setCell (p := ⟨w.heap.size, 0, none⟩) (Nat.le_refl _) _).trans (belowK_b (w := w) (Nat.le_refl _) _ D _ _ (by omega) hK' rfl rfl)⟩
    case stop =>
      rintro D c pre W hD ⟨k, hk, rfl⟩ ⟨⟨cR, fR⟩, ⟨rfl, i, hi, hbad⟩, hB1⟩ hK
      have HG := hid (grdB_bad (n := n) (by have := List.mem_range.1 hi; omega) hbad)
      gi_wp2
      refine ⟨by simp, .inl ⟨_, _, rfl, run_takeDeferred hK, ?_⟩⟩
      exact ⟨_, resGrdOk _ rfl (cell_kept cR (grownBy_putObj' _ D (.deferred none)) (fun r e => by cases e; exact ⟨_, hK, rfl⟩)), by rw [HG.out], hB1.trans (belowK_b (w := w) (Nat.le_refl _) _ D _ _ (by omega) hK rfl rfl)⟩
  · have d24 : decide ((4 : Int) < (n : Int)) = true := by simp; omega
    have H := hid (grdB_long (xs := xs) hn)
    go_enter Try.func32, Try.ntmps32
    go_wp2
    go_returns
    exact ⟨by rw [H.out], by go_grown⟩
end Go.Proofs.Ytlkmooefebenlaa
