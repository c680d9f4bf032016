/- What is left in a ring, as a list: the contract of the ring's rest. Conditions: the ring lies as it was laid. -/
import Derived.Test.YtanmapgpplhecaaBoxOpen
import Derived.Test.YtanmapgpplhecaaMakeCap
import Derived.Deep.DeepAppendRoom
import Derived.Maps.AppendAt
namespace Go.Proofs.Ytanmapgpplhecaa
open Go.ChangeShapes Go.WideShapes Go.ChangeAt Go.RowKit Go.Joins Go.Deep
set_option linter.unusedVariables false
set_option maxRecDepth 4000

theorem ownsRow_chg {w w' : World} {B size n : Nat} {e : TypeId} {v : Value} {xs : List Value} {S : Nat → Prop} (h : w.ownsRow B e size v n xs) (hc : Chg S w w') (hs : ∀ j, v.ownBlock = some j → ¬ S j) : w'.ownsRow B e size v n xs := by
  obtain ⟨h2, h3⟩ := h
  refine ⟨h2, ?_⟩
  rcases h3 with h3 | ⟨q, cap', cur, hv, hq, hh, r⟩
  · exact .inl h3
  · refine .inr ⟨q, cap', cur, hv, hq, ?_, r⟩
    have hlt : q < w.heap.size := by
      rcases Nat.lt_or_ge q w.heap.size with h' | h'
      · exact h'
      · rw [Array.getElem?_eq_none h'] at hh; cases hh
    rw [hc.block q hlt (hs q (by rw [hv]; rfl))]; exact hh
theorem chg_grown {a b c : World} {S : Nat → Prop} {g : Nat} (h : Chg S a b) (k : b.grownBy c (some g)) (hg : a.heap.size ≤ g) : Chg S a c :=
  ⟨k.os.trans h.os, k.tape.trans h.tape, k.output.trans h.output, Nat.le_trans h.size k.size, fun j hj hs => (k.block j (Nat.lt_of_lt_of_le hj h.size) (fun e => by simp at e; omega)).trans (h.block j hj hs)⟩
def slen : Value → Nat
  | .slice _ n _ => n
  | _ => 0
theorem Ring.grown {w w' : World} {r g : Nat} {h : Nat → Value} {d f s : Nat} (k : Ring w r h d f s) (hg : w.grownBy w' (some g)) (hne : ¬ r = g) : Ring w' r h d f s := by
  obtain ⟨k1, k2, k3, k4, k5⟩ := k
  have hlt : r < w.heap.size := World.block_lt_of_cell? w ⟨r, 4, none⟩ k2
  have hn : some r ≠ some g := fun e => hne (by simpa using e)
  exact ⟨fun i hi => hg.cell (k1 i hi) hn, hg.cell k2 hn, hg.cell k3 hn, hg.cell k4 hn, fun i => by rw [World.frozen?_of_block (hg.block r hlt hn)]; exact k5 i⟩
theorem infoB' : ∃ i, Try.prog.info? 22 = some i ∧ i.size = 1 := by
  obtain ⟨i, hi, hzz⟩ := Option.map_eq_some_iff.1 infoB
  simp only [Prod.mk.injEq] at hzz
  exact ⟨i, hi, hzz.2.1⟩

/-- where the loop of rest stands: k things have come; the next one, or none -/
def RestAt (w wr : World) (r : Nat) (h : Nat → Value) (d f s k : Nat) (thing more : Value) : Prop :=
  wr.cell? ⟨r, 4, none⟩ = some (.int .i64 (d : Int)) ∧ ((k < s ∧ thing = h ((f + k) % 4) ∧ more = .bool true ∧ Ring wr r h d ((f + k + 1) % 4) (s - k - 1)) ∨ (k = s ∧ thing = .slice none 0 0 ∧ more = .bool false))

set_option maxHeartbeats 4000000 in
theorem rest_any (r : Nat) (h : Nat → Value) (d f s : Nat) (w : World) (hR : Ring w r h d f s) (hs : s ≤ 4) (hf : f < 4) (hsl : ∀ i, i < 4 → ∃ p l c, h i = .slice p l c) :
    Calls Try.prog 80 #[.pointer (some ⟨r, 0, none⟩)] w fun e w' => e = .returned (.slice (some ⟨w.heap.size, 0, none⟩) s s) ∧ w'.ownsRow w.heap.size 22 1 (.slice (some ⟨w.heap.size, 0, none⟩) s s) s ((List.range s).map fun i => h ((f + i) % 4)) ∧ Chg (fun j => j = r) w w' ∧ w'.cell? ⟨r, 4, none⟩ = some (.int .i64 (d : Int)) := by
  have hlr : r < w.heap.size := by
    obtain ⟨_, k2, _⟩ := hR
    exact World.block_lt_of_cell? w ⟨r, 4, none⟩ k2
  obtain ⟨ti, hti, hts⟩ := infoB'
  have hmk := run_make_cap (P := Try.prog) 23 22 (.slice none 0 0) 24 Try.underlying23 infoB rfl .i64 .i64 s (by omega) (by omega)
  have k6 : w.cell? ⟨r, 6, none⟩ = some (.int .i64 (s : Int)) := hR.2.2.2.1
  have HSL := hid hsl
  have O0 := hid (show (w.alloc (.cells (madeCells #[.slice none 0 0] s) 22)).ownsRow w.heap.size 22 1 (.slice (some ⟨w.heap.size, 0, none⟩) 0 s) 0 [] from World.ownsRow_made w _ _ (Nat.le_refl _) (by unfold maxLen; omega) (by rw [size_madeCells]; omega))
  have R0 := hid (hR.keep (below_alloc1 w (.cells (madeCells #[.slice none 0 0] s) 22)))
  have C0 := hid (Chg.of_below (S := fun j => j = r) (below_alloc1 w (.cells (madeCells #[.slice none 0 0] s) 22)))
  have start : Calls Try.prog 60 #[.pointer (some ⟨r, 0, none⟩)] (w.alloc (.cells (madeCells #[.slice none 0 0] s) 22)) fun e w' => ∃ p l c b, e = .returned (.tuple #[.slice p l c, .bool b]) ∧ RestAt w w' r h d f s 0 (.slice p l c) (.bool b) ∧ Chg (fun j => j = r) (w.alloc (.cells (madeCells #[.slice none 0 0] s) 22)) w' := by
    cases s with
    | zero =>
      refine (take_none r h d f _ R0.out).mono ?_
      rintro e w1 ⟨rfl, rfl⟩
      exact ⟨_, _, _, _, rfl, ⟨R0.out.2.1, .inr ⟨rfl, rfl, rfl⟩⟩, Chg.refl _ _⟩
    | succ s =>
      obtain ⟨p, l, c, e0⟩ := hsl f hf
      refine (take_any r h d f s p l c _ R0.out (by omega) hf e0).mono ?_
      rintro e w1 ⟨rfl, r1, c1⟩
      exact ⟨_, _, _, _, rfl, ⟨r1.2.1, .inl ⟨by omega, by rw [Nat.add_zero, Nat.mod_eq_of_lt hf]; exact e0.symm, rfl, by simpa using r1⟩⟩, c1⟩
  have ST := hid start
  clear start hsl hR
  go_enter Try.func80, Try.ntmps80
  go_wp2_with fail
  refine ST.out.mono ?_
  rintro e w1 ⟨p, l, c, b, rfl, ra, c1⟩
  have RA := hid ra
  have C1 := hid (C0.out.trans c1)
  have O1 := hid (ownsRow_chg O0.out c1 (fun j hj e => by have e : j = r := e; simp [Value.ownBlock] at hj; omega))
  have z1 : w.heap.size < w1.heap.size := by have := c1.size; simp at this; omega
  clear ra c1 hmk k6
  go_wp2_with fail
  go_loopw [3, 4, 5] (fun o t m wr => ∃ k : Nat, k ≤ s ∧ o = .slice (some ⟨w.heap.size, 0, none⟩) k s ∧ (∃ p l c, t = .slice p l c) ∧ RestAt w wr r h d f s k t m ∧ wr.ownsRow w.heap.size 22 1 (.slice (some ⟨w.heap.size, 0, none⟩) k s) k ((List.range k).map fun i => h ((f + i) % 4)) ∧ Chg (fun j => j = r) w wr ∧ w.heap.size < wr.heap.size) (fun o _ _ _ => s - slen o)
  case atStart => exact ⟨0, Nat.zero_le _, rfl, ⟨_, _, _, rfl⟩, RA.out, O1.out, C1.out, z1⟩
  case round =>
    obtain ⟨k, hk, rfl, ⟨p, l, c, rfl⟩, hra, ho, hc, hz⟩ := hrel
    have HO := hid ho
    have HC := hid hc
    clear ho hc
    obtain ⟨h4, hra⟩ := hra
    have H4 := hid h4
    clear h4
    rcases hra with ⟨hlt, ht, rfl, hRr⟩ | ⟨rfl, ht, rfl⟩
    · have HT := hid ht
      have HR := hid hRr
      clear ht hRr
      have next : ∀ wq : World, Ring wq r h d ((f + k + 1) % 4) (s - k - 1) → Calls Try.prog 60 #[.pointer (some ⟨r, 0, none⟩)] wq fun e w' => ∃ p l c b, e = .returned (.tuple #[.slice p l c, .bool b]) ∧ RestAt w w' r h d f s (k + 1) (.slice p l c) (.bool b) ∧ Chg (fun j => j = r) wq w' := by
        intro wq hq
        by_cases hl : k + 1 < s
        · obtain ⟨s', hs'⟩ : ∃ s', s - k - 1 = s' + 1 := ⟨s - k - 2, by omega⟩
          rw [hs'] at hq
          obtain ⟨p2, l2, c2, e2⟩ := HSL.out ((f + k + 1) % 4) (Nat.mod_lt _ (by omega))
          refine (take_any r h d _ s' p2 l2 c2 _ hq (by omega) (Nat.mod_lt _ (by omega)) e2).mono ?_
          rintro e w3 ⟨rfl, r3, c3⟩
          refine ⟨_, _, _, _, rfl, ⟨r3.2.1, .inl ⟨hl, e2.symm, rfl, ?_⟩⟩, c3⟩
          have e5 : ((f + k + 1) % 4 + 1) % 4 = (f + (k + 1) + 1) % 4 := by omega
          have e6 : s - (k + 1) - 1 = s' := by omega
          rw [e6, ← e5]; exact r3
        · rw [show s - k - 1 = 0 by omega] at hq
          refine (take_none r h d _ _ hq).mono ?_
          rintro e w3 ⟨rfl, rfl⟩
          exact ⟨_, _, _, _, rfl, ⟨hq.2.1, .inr ⟨by omega, rfl, rfl⟩⟩, Chg.refl _ _⟩
      have NX := hid next
      clear next
      go_wp2_with (at_builtin; refine wpList_append_own_spare _ rfl _ _ 23 rfl w.heap.size 22 ti 1 Try.underlying23 hti hts w.heap.size k s _ rfl (HO.out.alloc _) ⟨wr.heap.size, 0, none⟩ 1 1 [.slice p l c] rfl rfl ?c1 ?c2 ?c3 ?_)
      case c1 => exact cell_one_new _ _ _
      case c2 => intro u hu; simp at hu; subst hu; rfl
      case c3 => omega
      intro w2 ho2 hg2
      have R2 := hid ((HR.out.keep (below_alloc1 wr (.cells #[.slice p l c] 22))).grown hg2 (by omega))
      have C2 := hid (chg_grown (HC.out.trans (Chg.of_below (below_alloc1 wr (.cells #[.slice p l c] 22)))) hg2 (Nat.le_refl _))
      have O2 := hid ho2
      have z2 : w.heap.size < w2.heap.size := by have := hg2.size; simp at this; omega
      have HM := hid (show ((List.range k).map fun i => h ((f + i) % 4)) ++ [.slice p l c] = (List.range (k + 1)).map fun i => h ((f + i) % 4) by rw [List.range_succ, List.map_append, HT.out]; rfl)
      clear ho2 hg2 HR
      go_wp2_with fail
      refine (NX.out _ R2.out).mono ?_
      rintro e w3 ⟨p3, l3, c3, b3, rfl, ra3, cc3⟩
      have RA3 := hid ra3
      have O3 := hid (ownsRow_chg O2.out cc3 (fun j hj e => by have e : j = r := e; simp [Value.ownBlock] at hj; omega))
      have C3 := hid (C2.out.trans cc3)
      have z3 : w.heap.size < w3.heap.size := by have := cc3.size; omega
      clear ra3 cc3
      go_wp2
      go_roundw
      case rel => exact ⟨k + 1, by omega, rfl, ⟨_, _, _, rfl⟩, RA3.out, by rw [← HM.out]; exact O3.out, C3.out, z3⟩
      case measure => simp [slen]; omega
    · clear ht
      go_wp2
      go_ret
      exact ⟨rfl, HO.out, HC.out, H4.out⟩

theorem resBoxShut {W : World} {b : Nat} {x0 x1 : Value} (tmps : Array Value) (ht : tmps[2]?.getD undef = .pointer (some ⟨b, 0, none⟩)) (h0 : W.cell? ⟨b, 0, none⟩ = some x0) (h1 : W.cell? ⟨b, 1, none⟩ = some x1) :
    (results Try.f59 tmps).run Try.prog W = .ok (.agg #[x0, x1]) W := by
  simp [results, Try.results59, go_sem, ht, h0, h1]
theorem two_set {w : World} {b : Nat} {x0 x1 : Value} (v0 v1 : Value) (h0 : w.cell? ⟨b, 0, none⟩ = some x0) (h1 : w.cell? ⟨b, 1, none⟩ = some x1) : ((w.setCell ⟨b, 0, none⟩ v0).setCell ⟨b, 1, none⟩ v1).cell? ⟨b, 0, none⟩ = some v0 ∧ ((w.setCell ⟨b, 0, none⟩ v0).setCell ⟨b, 1, none⟩ v1).cell? ⟨b, 1, none⟩ = some v1 :=
  ⟨(World.cell?_setCell_other _ _ _ _ (by simp)).trans (World.cell?_setCell_same _ _ _ h0), World.cell?_setCell_same _ _ _ ((World.cell?_setCell_other _ _ _ _ (by simp)).trans h1)⟩

set_option maxHeartbeats 4000000 in
theorem boxShut_any (h : Nat → Value) (d f s : Nat) (w : World) (hs : s ≤ 4) (hf : f < 4) (hsl : ∀ i, i < 4 → ∃ p l c, h i = .slice p l c) :
    Calls Try.prog 59 #[.agg #[h 0, h 1, h 2, h 3, .int .i64 (d : Int), .int .i64 (f : Int), .int .i64 (s : Int)]] w fun e w' => ∃ g, e = .returned (.agg #[.int .i64 (d : Int), .slice (some ⟨g, 0, none⟩) s s]) ∧ w.heap.size ≤ g ∧ w'.ownsRow g 22 1 (.slice (some ⟨g, 0, none⟩) s s) s ((List.range s).map fun i => h ((f + i) % 4)) ∧ Below w.heap.size w w' := by
  obtain ⟨p0, l0, c0, e0⟩ := hsl 0 (by omega)
  obtain ⟨p1, l1, c1, e1⟩ := hsl 1 (by omega)
  obtain ⟨p2, l2, c2, e2⟩ := hsl 2 (by omega)
  obtain ⟨p3, l3, c3, e3⟩ := hsl 3 (by omega)
  rw [e0, e1, e2, e3]
  have HSL := hid hsl
  have KR := hid (show Ring (((w.alloc (.cells #[.slice p0 l0 c0, .slice p1 l1 c1, .slice p2 l2 c2, .slice p3 l3 c3, .int .i64 (d : Int), .int .i64 (f : Int), .int .i64 (s : Int)] 72)).alloc (.cells #[.int .i64 0, .slice none 0 0] 25)).drew) w.heap.size h d f s from ⟨fun i hi => by
    have hi' : i = 0 ∨ i = 1 ∨ i = 2 ∨ i = 3 := by omega
    rcases hi' with rfl | rfl | rfl | rfl
    · rw [e0]; go_simp
    · rw [e1]; go_simp
    · rw [e2]; go_simp
    · rw [e3]; go_simp, by go_simp, by go_simp, by go_simp, fun i => by go_simp⟩)
  have s0 : (((w.alloc (.cells #[.slice p0 l0 c0, .slice p1 l1 c1, .slice p2 l2 c2, .slice p3 l3 c3, .int .i64 (d : Int), .int .i64 (f : Int), .int .i64 (s : Int)] 72)).alloc (.cells #[.int .i64 0, .slice none 0 0] 25)).drew).cell? ⟨w.heap.size + 1, 0, none⟩ = some (.int .i64 0) := by go_simp
  have s1 : (((w.alloc (.cells #[.slice p0 l0 c0, .slice p1 l1 c1, .slice p2 l2 c2, .slice p3 l3 c3, .int .i64 (d : Int), .int .i64 (f : Int), .int .i64 (s : Int)] 72)).alloc (.cells #[.int .i64 0, .slice none 0 0] 25)).drew).cell? ⟨w.heap.size + 1, 1, none⟩ = some (.slice none 0 0) := by go_simp
  have f0 : (((w.alloc (.cells #[.slice p0 l0 c0, .slice p1 l1 c1, .slice p2 l2 c2, .slice p3 l3 c3, .int .i64 (d : Int), .int .i64 (f : Int), .int .i64 (s : Int)] 72)).alloc (.cells #[.int .i64 0, .slice none 0 0] 25)).drew).frozen? ⟨w.heap.size + 1, 0, none⟩ = false := by go_simp
  have f1 : (((w.alloc (.cells #[.slice p0 l0 c0, .slice p1 l1 c1, .slice p2 l2 c2, .slice p3 l3 c3, .int .i64 (d : Int), .int .i64 (f : Int), .int .i64 (s : Int)] 72)).alloc (.cells #[.int .i64 0, .slice none 0 0] 25)).drew).frozen? ⟨w.heap.size + 1, 1, none⟩ = false := by go_simp
  have HS := hid (And.intro (And.intro s0 s1) (And.intro f0 f1))
  have BB := hid (show Below w.heap.size w (((w.alloc (.cells #[.slice p0 l0 c0, .slice p1 l1 c1, .slice p2 l2 c2, .slice p3 l3 c3, .int .i64 (d : Int), .int .i64 (f : Int), .int .i64 (s : Int)] 72)).alloc (.cells #[.int .i64 0, .slice none 0 0] 25)).drew) from (((Below.refl w.heap.size w).alloc (Nat.le_refl _) _).alloc (by simp) _).drew)
  have z0 : (((w.alloc (.cells #[.slice p0 l0 c0, .slice p1 l1 c1, .slice p2 l2 c2, .slice p3 l3 c3, .int .i64 (d : Int), .int .i64 (f : Int), .int .i64 (s : Int)] 72)).alloc (.cells #[.int .i64 0, .slice none 0 0] 25)).drew).heap.size = w.heap.size + 2 := by simp
  clear e0 e1 e2 e3 s0 s1 f0 f1 hsl
  go_enter Try.func59, Try.ntmps59
  go_wp2_with fail
  go_region_with ((go_at_call 80; refine (rest_any w.heap.size h d f s _ KR.out hs hf HSL.out).mono ?_; rintro e w1 ⟨rfl, o1, c1, q4⟩; rw [z0] at o1 ⊢; obtain ⟨⟨s0, s1⟩, ⟨f0, f1⟩⟩ := HS.out; have s0 := c1.cell (p := ⟨w.heap.size + 1, 0, none⟩) (fun e => by have e : w.heap.size + 1 = w.heap.size := e; omega) s0; have s1 := c1.cell (p := ⟨w.heap.size + 1, 1, none⟩) (fun e => by have e : w.heap.size + 1 = w.heap.size := e; omega) s1; have f0 := (World.frozen?_of_block (a := ⟨w.heap.size + 1, 0, none⟩) (c1.block (w.heap.size + 1) (by rw [z0]; omega) (fun e => by have e : w.heap.size + 1 = w.heap.size := e; omega))).trans f0; have f1 := (World.frozen?_of_block (a := ⟨w.heap.size + 1, 1, none⟩) (c1.block (w.heap.size + 1) (by rw [z0]; omega) (fun e => by have e : w.heap.size + 1 = w.heap.size := e; omega))).trans f1; have O1 := hid o1; have B1 := hid (below_chg BB.out c1 (by rw [z0]; omega) (fun j hj => by have hj : j = w.heap.size := hj; omega)); clear o1 c1))
  all_goals
    obtain ⟨t0, t1⟩ := two_set (.int .i64 (d : Int)) (.slice (some ⟨w.heap.size + 2, 0, none⟩) s s) s0 s1
    have CG := hid (((Chg.refl (fun j => j = w.heap.size + 1) w1).set (p := ⟨w.heap.size + 1, 0, none⟩) rfl (.int .i64 (d : Int))).set (p := ⟨w.heap.size + 1, 1, none⟩) rfl (.slice (some ⟨w.heap.size + 2, 0, none⟩) s s))
    go_wp2_with fail
    refine bodyPost_ret (v := .agg #[.int .i64 (d : Int), .slice (some ⟨w.heap.size + 2, 0, none⟩) s s]) (resBoxShut _ rfl t0 t1) rfl ?_
    exact ⟨_, rfl, by omega, ownsRow_chg O1.out CG.out (fun j hj e => by have e : j = w.heap.size + 1 := e; simp [Value.ownBlock] at hj; omega), below_chg B1.out CG.out (by have := B1.out.size; omega) (fun j hj => by have hj : j = w.heap.size + 1 := hj; omega)⟩
end Go.Proofs.Ytanmapgpplhecaa
