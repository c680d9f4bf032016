/- A copy of a book: the contract of the specification's l13Copy. Conditions: the lists are as long as each other, and not empty. -/
import Derived.Test.YtioikijheilliaaHrdBase
import Derived.Test.YtioikijheilliaaNoughts
import Derived.Deep.DeepCutAuto
import Derived.Deep.RegionLaw
import Derived.Deep.RegionHeld3
namespace Go.Proofs.Ytioikijheilliaa
open Go.ChangeShapes Go.WideShapes Go.ChangeAt Go.RowKit Go.Joins Go.Deep
set_option linter.unusedVariables false
set_option linter.unusedSimpArgs false
set_option maxRecDepth 4000

theorem own_emp {w : World} {base g : Nat} {e : TypeId} (h : w.heap[g]? = some (.cells #[] e (0, 0))) (hb : base ≤ g) : w.ownsRow base e 1 (.slice (some ⟨g, 0, none⟩) 0 0) 0 [] :=
  ⟨by simp, .inr ⟨g, 0, #[], rfl, hb, h, Nat.le_refl _, by unfold maxLen; omega, by simp, by simp⟩⟩
theorem emp0 {e : TypeId} (w : World) : (w.alloc (.cells #[] e)).heap[w.heap.size]? = some (.cells #[] e (0, 0)) := (MapKept.heap_alloc w _).1
theorem emp1 {e : TypeId} (w : World) : (w.alloc (.cells #[] e)).drew.heap[w.heap.size]? = some (.cells #[] e (0, 0)) := (MapKept.heap_alloc w _).1
theorem emp2a {e : TypeId} (w : World) : ((w.alloc (.cells #[] e)).alloc (.cells #[] e)).drew.heap[w.heap.size]? = some (.cells #[] e (0, 0)) := ((MapKept.heap_alloc (w.alloc (.cells #[] e)) (.cells #[] e)).2 _ (by simp)).trans (emp0 w)
theorem emp2b {e : TypeId} (w : World) : ((w.alloc (.cells #[] e)).alloc (.cells #[] e)).drew.heap[w.heap.size + 1]? = some (.cells #[] e (0, 0)) := by
  have h := emp0 (e := e) (w.alloc (.cells #[] e))
  simp only [World.size_alloc] at h
  exact h
theorem kpAlloc {W : World} {a b : Addr} {x y : Value} (o : Obj) (h : W.cell? a = some x ∧ W.cell? b = some y) : (W.alloc o).cell? a = some x ∧ (W.alloc o).cell? b = some y := ⟨cell_keep (below_alloc1 _ _) h.1, cell_keep (below_alloc1 _ _) h.2⟩
theorem kpSet {W : World} {a b p q : Addr} {x y u v : Value} (h : W.cell? a = some x ∧ W.cell? b = some y) (h1 : p.block ≠ a.block) (h2 : p.block ≠ b.block) (h3 : q.block ≠ a.block) (h4 : q.block ≠ b.block) : ((W.setCell p u).setCell q v).cell? a = some x ∧ ((W.setCell p u).setCell q v).cell? b = some y := by
  have f : ∀ c d : Addr, c.block ≠ d.block → c ≠ d := fun c d hne e => hne (by rw [e])
  rw [World.cell?_setCell_other _ _ _ _ (f _ _ h3), World.cell?_setCell_other _ _ _ _ (f _ _ h1), World.cell?_setCell_other _ _ _ _ (f _ _ h4), World.cell?_setCell_other _ _ _ _ (f _ _ h2)]
  exact h
theorem own_from {w : World} {base g n cap : Nat} {e : TypeId} {xs : List Int} (h : w.ownsRow base e 1 (.slice (some ⟨g, 0, none⟩) (0 + n) cap) (0 + n) ([] ++ xs.map (Value.int .i64))) : OwnI e 1 w base (.slice (some ⟨g, 0, none⟩) n cap) n xs := by
  rw [Nat.zero_add] at h
  exact h
theorem at_or {q g H : Nat} (h : (Value.slice (some ⟨q, 0, none⟩) 0 0).ownBlock = some g ∨ g = H) : g = q ∨ g = H := by
  rcases h with h | h
  · simp [Value.ownBlock] at h; exact .inl h.symm
  · exact .inr h
theorem res_l13Copy {W : World} {b : Nat} {x0 x1 : Value} (tmps : Array Value) (ht : tmps[2]?.getD undef = .pointer (some ⟨b, 0, none⟩)) (h0 : W.cell? ⟨b, 0, none⟩ = some x0) (h1 : W.cell? ⟨b, 1, none⟩ = some x1) :
    (results Try.f72 tmps).run Try.prog W = .ok (.agg #[x0, x1]) W := by
  simp [results, Try.results72, go_sem, ht, h0, h1]
set_option maxHeartbeats 8000000 in
theorem copyBook_any (u v : Value) (n : Nat) (xs ys : List Int) (w : World) (hu : RdI 1 w u n xs) (hv : RdI 1 w v n ys) (hp : 0 < n) (hn : n ≤ 4) :
    Calls Try.prog 72 #[.agg #[u, v]] w fun e w' => ∃ u' v', e = .returned (.agg #[u', v']) ∧ OwnI 3 1 w' w.heap.size u' n xs ∧ OwnI 3 1 w' w.heap.size v' n ys ∧ (∀ j, u'.ownBlock = some j → v'.ownBlock ≠ some j) ∧ Below w.heap.size w w' := by
  obtain ⟨ti, hti, htz, hts, htb⟩ := infoI'
  obtain ⟨h1, h2, a1, c1, rfl, h3⟩ := hu
  obtain ⟨k1, k2, a2, c2, rfl, k3⟩ := hv
  rw [Nat.mul_one] at h1 k1
  rcases h3 with h3 | ⟨b, off, rfl, hc⟩
  · omega
  rcases k3 with k3 | ⟨b', off', rfl, hc'⟩
  · omega
  have LENxs : Hid ((xs.map (Value.int .i64)).length = n * 1) := hid (by simpa using h1)
  have LENys : Hid ((ys.map (Value.int .i64)).length = n * 1) := hid (by simpa using k1)
  have VA := hid ((vb_new w [.slice (some ⟨b, off, none⟩) n c1, .slice (some ⟨b', off', none⟩) n c2] 44).keep (below_alloc1 _ (.cells #[.slice none 0 0, .slice none 0 0] 44)))
  have VR : Hid (VB ((w.alloc (.cells #[.slice (some ⟨b, off, none⟩) n c1, .slice (some ⟨b', off', none⟩) n c2] 44)).alloc (.cells #[.slice none 0 0, .slice none 0 0] 44)) (w.heap.size + 1) [.slice none 0 0, .slice none 0 0]) := hid (by have := vb_new (w.alloc (.cells #[.slice (some ⟨b, off, none⟩) n c1, .slice (some ⟨b', off', none⟩) n c2] 44)) [.slice none 0 0, .slice none 0 0] 44; simpa using this)
  have B0 := hid (((Below.refl w.heap.size w).alloc (Nat.le_refl _) (.cells #[.slice (some ⟨b, off, none⟩) n c1, .slice (some ⟨b', off', none⟩) n c2] 44)).alloc (by simp) (.cells #[.slice none 0 0, .slice none 0 0] 44))
  have Nxs0 := hid (fun i hi => cell_keep B0.out (hc i hi))
  have Nys0 := hid (fun i hi => cell_keep B0.out (hc' i hi))
  have z0 : ((w.alloc (.cells #[.slice (some ⟨b, off, none⟩) n c1, .slice (some ⟨b', off', none⟩) n c2] 44)).alloc (.cells #[.slice none 0 0, .slice none 0 0] 44)).heap.size = w.heap.size + 1 + 1 := by simp
  clear hc hc'
  go_enter Try.func72, Try.ntmps72
  go_upto_region 1 with fail
  obtain ⟨wc, hwc⟩ : ∃ wc, (w.alloc (.cells #[.slice (some ⟨b, off, none⟩) n c1, .slice (some ⟨b', off', none⟩) n c2] 44)).alloc (.cells #[.slice none 0 0, .slice none 0 0] 44) = wc := ⟨_, rfl⟩
  rw [hwc] at VA VR B0 Nxs0 Nys0 z0 ⊢
  clear hwc
  have Z0 := hid z0
  clear z0
  have Nxs : Hid (∀ W', Below wc.heap.size wc W' → ∀ j u, (xs.map (Value.int .i64))[j]? = some u → W'.cell? ((⟨b, off, none⟩ : Addr).add j) = some u) := hid (fun W' hW' => news_rdI (fun i hi => cell_keep hW' (Nxs0.out i hi)))
  have Nys : Hid (∀ W', Below wc.heap.size wc W' → ∀ j u, (ys.map (Value.int .i64))[j]? = some u → W'.cell? ((⟨b', off', none⟩ : Addr).add j) = some u) := hid (fun W' hW' => news_rdI (fun i hi => cell_keep hW' (Nys0.out i hi)))
  have lA : w.heap.size < wc.heap.size := by have := Z0.out; omega
  have lR : w.heap.size + 1 < wc.heap.size := by have := Z0.out; omega
  obtain ⟨a0, a1⟩ := vb2 VA.out
  obtain ⟨r0, r1⟩ := vb2 VR.out
  have fr := VR.out.2.1
  have S0 : wc.drew.cell? ⟨w.heap.size, 0, none⟩ = some (.slice (some ⟨b, off, none⟩) n c1) ∧ wc.drew.cell? ⟨w.heap.size, 1, none⟩ = some (.slice (some ⟨b', off', none⟩) n c2) := ⟨a0, a1⟩
  go_region_held3 (fun wx => wx.cell? ⟨w.heap.size, 0, none⟩ = some (.slice (some ⟨b, off, none⟩) n c1) ∧ wx.cell? ⟨w.heap.size, 1, none⟩ = some (.slice (some ⟨b', off', none⟩) n c2)) (first | assumption | exact kpAlloc _ (by assumption) | exact kpSet (by assumption) (by simp) (by simp) (by simp) (by simp))
    (first | (have USE5 := G5.out; refine step_append_lies _ rfl (.tmp 3) (.tmp 5) 42 rfl wc.heap.size 3 ti (.int .i64 0) 1 8 Try.underlying42 hti htz hts htb rfl (by omega) (.slice (some ⟨_, 0, none⟩) 0 0) 0 [] rfl (by first | exact own_emp (emp0 _) (BL5.out.size) | exact own_emp ((USE5.block _ (by simp; try omega) (by simp [Value.ownBlock])).trans (emp2a _)) (by simp) | exact own_emp ((USE5.block _ (by simp; try omega) (by simp [Value.ownBlock])).trans (emp2b _)) (by simp)) ⟨b, off, none⟩ n c1 (xs.map (Value.int .i64)) rfl LENxs.out (by exact Nxs.out _ (by first | exact BL5.out | exact BL5.out.alloc BL5.out.size _)) (by intro y hy; simp at hy; obtain ⟨z, _, rfl⟩ := hy; rfl) hp (by unfold maxLen; omega) (by omega) (by first | exact BL5.out.size | (have := BL5.out.size; simp; try omega)) _ rfl ?_; intro g6 cap6 w6 ho6 hg6 hat6 hlt6; have BL6 : Hid (Below wc.heap.size wc w6) := hid (Below.grown (by first | exact BL5.out | exact BL5.out.alloc BL5.out.size _) hg6 (by first | exact BL5.out.size | (have := BL5.out.size; simp; try omega)) (by intro k hk; have := BL5.out.size; simp [Value.ownBlock] at hk; omega)); have O6 := hid (own_from ho6); have S6 : w6.cell? ⟨w.heap.size, 0, none⟩ = some (.slice (some ⟨b, off, none⟩) n c1) ∧ w6.cell? ⟨w.heap.size, 1, none⟩ = some (.slice (some ⟨b', off', none⟩) n c2) := vb2 (VA.out.keep BL6.out); have G6 := hid hg6; have T6 := hid (at_or hat6); clear USE5 a0 a1 r0 r1 fr ho6 hg6 hat6 hlt6; obtain ⟨r0, r1⟩ := vb2 (VR.out.keep BL6.out); have fr := (VR.out.keep BL6.out).2.1) | (have USE5 := G5.out; refine step_append_lies _ rfl (.tmp 7) (.tmp 9) 42 rfl wc.heap.size 3 ti (.int .i64 0) 1 8 Try.underlying42 hti htz hts htb rfl (by omega) (.slice (some ⟨_, 0, none⟩) 0 0) 0 [] rfl (by first | exact own_emp (emp0 _) (BL5.out.size) | exact own_emp ((USE5.block _ (by simp; try omega) (by simp [Value.ownBlock])).trans (emp2a _)) (by simp) | exact own_emp ((USE5.block _ (by simp; try omega) (by simp [Value.ownBlock])).trans (emp2b _)) (by simp)) ⟨b', off', none⟩ n c2 (ys.map (Value.int .i64)) rfl LENys.out (by exact Nys.out _ (by first | exact BL5.out | exact BL5.out.alloc BL5.out.size _)) (by intro y hy; simp at hy; obtain ⟨z, _, rfl⟩ := hy; rfl) hp (by unfold maxLen; omega) (by omega) (by first | exact BL5.out.size | (have := BL5.out.size; simp; try omega)) _ rfl ?_; intro g6 cap6 w6 ho6 hg6 hat6 hlt6; have BL6 : Hid (Below wc.heap.size wc w6) := hid (Below.grown (by first | exact BL5.out | exact BL5.out.alloc BL5.out.size _) hg6 (by first | exact BL5.out.size | (have := BL5.out.size; simp; try omega)) (by intro k hk; have := BL5.out.size; simp [Value.ownBlock] at hk; omega)); have O6 := hid (own_from ho6); have S6 : w6.cell? ⟨w.heap.size, 0, none⟩ = some (.slice (some ⟨b, off, none⟩) n c1) ∧ w6.cell? ⟨w.heap.size, 1, none⟩ = some (.slice (some ⟨b', off', none⟩) n c2) := vb2 (VA.out.keep BL6.out); have G6 := hid hg6; have T6 := hid (at_or hat6); clear USE5 a0 a1 r0 r1 fr ho6 hg6 hat6 hlt6; obtain ⟨r0, r1⟩ := vb2 (VR.out.keep BL6.out); have fr := (VR.out.keep BL6.out).2.1) | (refine step_append_lies _ rfl (.tmp 3) (.tmp 5) 42 rfl wc.heap.size 3 ti (.int .i64 0) 1 8 Try.underlying42 hti htz hts htb rfl (by omega) (.slice (some ⟨_, 0, none⟩) 0 0) 0 [] rfl (by first | exact own_emp (emp1 _) (by simp) | exact own_emp (emp2a _) (by simp) | exact own_emp (emp2b _) (by simp)) ⟨b, off, none⟩ n c1 (xs.map (Value.int .i64)) rfl LENxs.out (by exact Nxs.out _ (by (repeat' (first | exact Below.refl _ _ | assumption | exact Nat.le_refl _ | (refine Below.alloc ?_ ?_ _) | (refine Below.drew ?_) | (refine Below.setCell ?_ ?_ _) | (refine Below.trans ?_ (Below.mono (by assumption) ?_)) | (simp; done) | (simp; omega) | omega)))) (by intro y hy; simp at hy; obtain ⟨z, _, rfl⟩ := hy; rfl) hp (by unfold maxLen; omega) (by omega) (by simp; try omega) _ rfl ?_; intro g5 cap5 w5 ho5 hg5 hat5 hlt5; have BL5 : Hid (Below wc.heap.size wc w5) := hid (Below.grown (by (repeat' (first | exact Below.refl _ _ | assumption | exact Nat.le_refl _ | (refine Below.alloc ?_ ?_ _) | (refine Below.drew ?_) | (refine Below.setCell ?_ ?_ _) | (refine Below.trans ?_ (Below.mono (by assumption) ?_)) | (simp; done) | (simp; omega) | omega))) hg5 (by simp; try omega) (by intro k hk; simp [Value.ownBlock] at hk; omega)); have O5 := hid (own_from ho5); have S5 : w5.cell? ⟨w.heap.size, 0, none⟩ = some (.slice (some ⟨b, off, none⟩) n c1) ∧ w5.cell? ⟨w.heap.size, 1, none⟩ = some (.slice (some ⟨b', off', none⟩) n c2) := vb2 (VA.out.keep BL5.out); have G5 := hid hg5; have T5 := hid (at_or hat5); have L5 := hid hlt5; obtain ⟨a0, a1⟩ := vb2 (VA.out.keep BL5.out); obtain ⟨r0, r1⟩ := vb2 (VR.out.keep BL5.out); have fr := (VR.out.keep BL5.out).2.1; have lA5 := (VA.out.keep BL5.out).2.2; have lR5 := (VR.out.keep BL5.out).2.2; clear ho5 hg5 hat5 hlt5) | (refine step_append_lies _ rfl (.tmp 7) (.tmp 9) 42 rfl wc.heap.size 3 ti (.int .i64 0) 1 8 Try.underlying42 hti htz hts htb rfl (by omega) (.slice (some ⟨_, 0, none⟩) 0 0) 0 [] rfl (by first | exact own_emp (emp1 _) (by simp) | exact own_emp (emp2a _) (by simp) | exact own_emp (emp2b _) (by simp)) ⟨b', off', none⟩ n c2 (ys.map (Value.int .i64)) rfl LENys.out (by exact Nys.out _ (by (repeat' (first | exact Below.refl _ _ | assumption | exact Nat.le_refl _ | (refine Below.alloc ?_ ?_ _) | (refine Below.drew ?_) | (refine Below.setCell ?_ ?_ _) | (refine Below.trans ?_ (Below.mono (by assumption) ?_)) | (simp; done) | (simp; omega) | omega)))) (by intro y hy; simp at hy; obtain ⟨z, _, rfl⟩ := hy; rfl) hp (by unfold maxLen; omega) (by omega) (by simp; try omega) _ rfl ?_; intro g5 cap5 w5 ho5 hg5 hat5 hlt5; have BL5 : Hid (Below wc.heap.size wc w5) := hid (Below.grown (by (repeat' (first | exact Below.refl _ _ | assumption | exact Nat.le_refl _ | (refine Below.alloc ?_ ?_ _) | (refine Below.drew ?_) | (refine Below.setCell ?_ ?_ _) | (refine Below.trans ?_ (Below.mono (by assumption) ?_)) | (simp; done) | (simp; omega) | omega))) hg5 (by simp; try omega) (by intro k hk; simp [Value.ownBlock] at hk; omega)); have O5 := hid (own_from ho5); have S5 : w5.cell? ⟨w.heap.size, 0, none⟩ = some (.slice (some ⟨b, off, none⟩) n c1) ∧ w5.cell? ⟨w.heap.size, 1, none⟩ = some (.slice (some ⟨b', off', none⟩) n c2) := vb2 (VA.out.keep BL5.out); have G5 := hid hg5; have T5 := hid (at_or hat5); have L5 := hid hlt5; obtain ⟨a0, a1⟩ := vb2 (VA.out.keep BL5.out); obtain ⟨r0, r1⟩ := vb2 (VR.out.keep BL5.out); have fr := (VR.out.keep BL5.out).2.1; have lA5 := (VA.out.keep BL5.out).2.2; have lR5 := (VR.out.keep BL5.out).2.2; clear ho5 hg5 hat5 hlt5))
  all_goals
    have bs5 := BL5.out.size
    have l5 := L5.out
    have t5 := T5.out
    have t6 := T6.out
    simp at t5 t6
    have O5' : Hid (OwnI 3 1 w6 wc.heap.size (.slice (some ⟨g5, 0, none⟩) n cap5) n _) := hid (by
      first
      | exact O5.out.grown G6.out (by intro j hj hj'; simp [Value.ownBlock] at hj hj'; omega)
      | exact (O5.out.keep (below_alloc1 _ _)).grown G6.out (by intro j hj hj'; simp [Value.ownBlock] at hj hj'; omega))
    clear a0 a1
    go_wp2_with fail
    first
    | (obtain ⟨t0, t1⟩ := vb2 (vbset2 (.slice (some ⟨g5, 0, none⟩) n cap5) (.slice (some ⟨g6, 0, none⟩) n cap6) (VR.out.keep BL6.out))
       refine bodyPost_ret (v := .agg #[.slice (some ⟨g5, 0, none⟩) n cap5, .slice (some ⟨g6, 0, none⟩) n cap6]) (res_l13Copy _ rfl t0 t1) rfl ?_
       have CG := hid (vbchg2 (S := fun j => j = w.heap.size + 1) (w := w6) (b := w.heap.size + 1) (.slice (some ⟨g5, 0, none⟩) n cap5) (.slice (some ⟨g6, 0, none⟩) n cap6) rfl)
       have BT := hid (B0.out.trans (BL6.out.mono B0.out.size))
       refine ⟨_, _, rfl, (O5'.out.chg CG.out ?_).low (by omega), (O6.out.chg CG.out ?_).low (by omega), ?_, below_chg BT.out CG.out (by have := BT.out.size; omega) (fun j hj => by have hj : j = w.heap.size + 1 := hj; omega)⟩
       · intro j hj he
         have he : j = w.heap.size + 1 := he
         have := (O5'.out.blk j hj).1
         omega
       · intro j hj he
         have he : j = w.heap.size + 1 := he
         have := (O6.out.blk j hj).1
         omega
       · intro j hj hj'
         simp [Value.ownBlock] at hj hj'
         omega)
    | (obtain ⟨t0, t1⟩ := vb2 (vbset2 (.slice (some ⟨g6, 0, none⟩) n cap6) (.slice (some ⟨g5, 0, none⟩) n cap5) (VR.out.keep BL6.out))
       refine bodyPost_ret (v := .agg #[.slice (some ⟨g6, 0, none⟩) n cap6, .slice (some ⟨g5, 0, none⟩) n cap5]) (res_l13Copy _ rfl t0 t1) rfl ?_
       have CG := hid (vbchg2 (S := fun j => j = w.heap.size + 1) (w := w6) (b := w.heap.size + 1) (.slice (some ⟨g6, 0, none⟩) n cap6) (.slice (some ⟨g5, 0, none⟩) n cap5) rfl)
       have BT := hid (B0.out.trans (BL6.out.mono B0.out.size))
       refine ⟨_, _, rfl, (O6.out.chg CG.out ?_).low (by omega), (O5'.out.chg CG.out ?_).low (by omega), ?_, below_chg BT.out CG.out (by have := BT.out.size; omega) (fun j hj => by have hj : j = w.heap.size + 1 := hj; omega)⟩
       · intro j hj he
         have he : j = w.heap.size + 1 := he
         have := (O6.out.blk j hj).1
         omega
       · intro j hj he
         have he : j = w.heap.size + 1 := he
         have := (O5'.out.blk j hj).1
         omega
       · intro j hj hj'
         simp [Value.ownBlock] at hj hj'
         omega)
end Go.Proofs.Ytioikijheilliaa
