/- What is done to a machine, tried: the deferred closure's two contracts. Conditions: the machine's block is one. -/
import Derived.Test.YtbpomeegpkdekaaGiveTook
import Derived.Test.YtbpomeegpkdekaaGiveCopy
import Derived.Tactics2
import Derived.Defers
import Derived.Recover
import Derived.Laws.Pointers
namespace Go.Proofs.Ytbpomeegpkdekaa
open Go.ChangeShapes Go.WideShapes Go.ChangeAt Go.RowKit Go.Joins Go.Deep
set_option linter.unusedVariables false
set_option linter.unusedSimpArgs false
set_option maxRecDepth 4000
def fellV : Value := .iface 107 (.agg #[])
theorem as_no (w : World) : (Instr.typeAssert .nilIface 20 107 true).run Try.prog w = .ok (.tuple #[.agg #[], .bool false]) w := by
  kernel_rfl
theorem as_fell (w : World) : (Instr.typeAssert (.iface 107 (.agg #[])) 20 107 true).run Try.prog w = .ok (.tuple #[.agg #[], .bool true]) w := by
  kernel_rfl
set_option maxHeartbeats 1000000 in
theorem catch_idle (p q : Value) (w : World) :
    CallsD Try.prog 89 #[p, q] .returning w fun e u' w' => e = .returned (.tuple #[]) ∧ u' = .returning ∧ Below w.heap.size w w' := by
  refine callsD_of_wpS Try.func89 rfl fun c₀ cs hu => ?_
  apply wpS_seq
  apply wpS_region
  simp [wpOpsS, go_sem, recoverD, hu, Try.ntmps89, Exit.thenS, as_no]
  apply wpS_seq
  apply wpS_region
  simp [wpOpsS, go_sem, Exit.thenS]
  refine wpS_cond (t := false) (by simp [Act.eval, Array.replicate]) ?_
  simp only [Bool.false_eq_true, if_false]
  refine wpS_of_wp (wp_skip ?_)
  have hb := below_alloc1 w (.cells #[] 107)
  cases c₀
  simp_all [bodyPostS, results, Try.results89]
set_option maxHeartbeats 4000000 in
theorem catch_fall (b0 b1 : Nat) (pc ht : Int) (rs ms : List Int) (t6 vs : List Value) (w : World) (older : List PanicEntry) (h6 : t6.length = 6) (hw : Bod w b0 pc ht rs ms t6) (hv : VB w b1 vs) (hl : vs.length = 20) (ho : OneC (bvs pc ht rs ms t6)) (hn : ¬ b0 = b1) :
    CallsD Try.prog 89 #[.pointer (some ⟨b0, 0, none⟩), .pointer (some ⟨b1, 0, none⟩)] (.panicking ({ v := fellV, recovered := false } :: older)) w fun e u' w' => e = .returned (.tuple #[]) ∧ u' = .panicking ({ v := fellV, recovered := true } :: older) ∧ Bod w' b1 pc 2 rs ms t6 ∧ Chg (fun j => j = b1) w w' := by
  unfold fellV
  refine callsD_of_wpS Try.func89 rfl fun c₀ cs hu => ?_
  apply wpS_seq
  apply wpS_region
  simp [wpOpsS, go_sem, recoverD, hu, Try.ntmps89, Exit.thenS, as_fell]
  apply wpS_seq
  apply wpS_region
  simp [wpOpsS, go_sem, Exit.thenS]
  refine wpS_cond (t := true) (by simp [Act.eval, Array.replicate]) ?_
  simp only [if_true]
  refine wpS_of_wp ?_
  have B0 := below_alloc1 w (.cells #[] 107)
  have H0 := hw.keep B0
  have V1 := hv.keep B0
  refine wp_seq (copy_reg (b0 := b0) (b1 := b1) (M := bvs pc ht rs ms t6) (vs := vs) (by rfl) (by rfl) (by decide) (by simp) H0.vb V1 (by rw [bvs_len, hw.lr, hw.lm, h6]) hl ho ?_)
  have H2 : Bod ((w.alloc (.cells #[] 107)).setCells b1 0 (bvs pc ht rs ms t6)) b1 pc ht rs ms t6 := ⟨hw.lr, hw.lm, vb_store V1 (by rw [hl, bvs_len, hw.lr, hw.lm, h6])⟩
  have C2 : Chg (fun j => j = b1) w ((w.alloc (.cells #[] 107)).setCells b1 0 (bvs pc ht rs ms t6)) := Chg.trans (Chg.of_below B0) (chg_setCellsL _ _ _ _)
  obtain ⟨W2, hW2⟩ : ∃ W, (w.alloc (.cells #[] 107)).setCells b1 0 (bvs pc ht rs ms t6) = W := ⟨_, rfl⟩
  rw [hW2] at H2 C2 ⊢
  clear hW2 H0 V1 B0
  have HF := hid (H2.setH 2)
  have CF := hid (Chg.trans C2 ((Chg.refl (fun j => j = b1) W2).set (p := ⟨b1, 13, none⟩) rfl (.int .i64 2)))
  have c13 := H2.halt
  have f13 := H2.fr
  have hlb := H2.lt
  clear H2 C2 hw hv
  change Code.wp _ _ _ _ _
  go_wp2
  clear c13 f13 hlb
  have h1 := HF.out
  have h2 := CF.out
  cases c₀
  simp_all [bodyPostS, results, Try.results89]
theorem resTried {W : World} {b : Nat} {M : List Value} (tmps : Array Value) (ht : tmps.getD 4 undef = .pointer (some ⟨b, 0, none⟩)) (h : VB W b M) (hl : M.length = 20) :
    (results Try.f50 tmps).run Try.prog W = .ok (.agg M.toArray) W := by
  have e := run_loadVar_mid (P := Try.prog) W b 0 75 M _ (vb_range h) Try.underlying75 rfl (by rw [hl]; exact szBody)
  rw [results_cell Try.results50, ht, run_asAddr]
  exact e
/-- what is done to a machine in its block, at the world where tried calls it -/
def Does (K : Nat) (cap : Array Value) (b : Nat) (w : World) (pc ht : Int) (rs ms : List Int) (t6 : List Value) (E : Ending) (pc' ht' : Int) (rs' ms' : List Int) (t6' : List Value) : Prop :=
  ∀ w1, Below w.heap.size w w1 → w1.heap.size = b + 1 → Bod w1 b pc ht rs ms t6 → Calls Try.prog K (#[.pointer (some ⟨b, 0, none⟩)] ++ cap) w1 fun e w2 => e = E ∧ Bod w2 b pc' ht' rs' ms' t6' ∧ Chg (fun j => j = b) w1 w2
theorem Bod.copy {w : World} {b b1 : Nat} {pc ht : Int} {rs ms : List Int} {t6 vs : List Value} (h : Bod w b pc ht rs ms t6) (hv : VB w b1 vs) (hl : vs.length = 20) (h6 : t6.length = 6) : Bod (w.setCells b1 0 (bvs pc ht rs ms t6)) b1 pc ht rs ms t6 :=
  ⟨h.lr, h.lm, vb_store hv (by rw [hl, bvs_len, h.lr, h.lm, h6])⟩
theorem Bod.l20 {w : World} {b : Nat} {pc ht : Int} {rs ms : List Int} {t6 : List Value} (h : Bod w b pc ht rs ms t6) (h6 : t6.length = 6) : (bvs pc ht rs ms t6).length = 20 := by rw [bvs_len, h.lr, h.lm, h6]
theorem setCells_size (b : Nat) : ∀ (vs : List Value) (o : Nat) (w : World), (w.setCells b o vs).heap.size = w.heap.size
  | [], _, _ => rfl
  | v :: r, o, w => (setCells_size b r (o + 1) _).trans (by simp [World.setCell])
def z20 : List Value := [.int .i64 0, .int .i64 0, .int .i64 0, .int .i64 0, .int .i64 0, .int .i64 0, .int .i64 0, .int .i64 0, .int .i64 0, .int .i64 0, .int .i64 0, .int .i64 0, .int .i64 0, .int .i64 0, .int .i64 0, .int .i64 0, .slice none 0 0, .int .i64 0, .int .i64 0, .int .i64 0]
set_option maxHeartbeats 4000000 in
theorem tried_ok (K : Nat) (cap : Array Value) (hcf : ∀ (xs : Array Value) (w : World), (callFunc K xs).run Try.prog w = .ok (.enter K xs) w) (pc ht pc' ht' : Int) (rs ms rs' ms' : List Int) (t6 t6' : List Value) (w : World) (lr : rs.length = 4) (lm : ms.length = 8) (h6 : t6.length = 6) (h6' : t6'.length = 6) (ho : OneC (bvs pc ht rs ms t6)) (ho' : OneC (bvs pc' ht' rs' ms' t6'))
    (hd : Does K cap (w.heap.size + 1) w pc ht rs ms t6 (.returned (.tuple #[])) pc' ht' rs' ms' t6') :
    Calls Try.prog 50 #[.agg (bvs pc ht rs ms t6).toArray, .func (.func K) #[] cap] w fun e w' => e = .returned (.agg (bvs pc' ht' rs' ms' t6').toArray) ∧ Below w.heap.size w w' := by
  have hmf : ∀ (fn : Fn) (first cap : Array Value) (w : World), (Instr.makeFunc fn first cap).run Try.prog w = .ok (.func fn first cap) w := fun _ _ _ _ => rfl
  go_enter_defers Try.func50, Try.ntmps50
  go_upto_region 1 with fail
  obtain ⟨WA, hWA⟩ : ∃ W, w.alloc (.cells (bvs pc ht rs ms t6).toArray 75) = W := ⟨_, rfl⟩
  have HA : Bod WA w.heap.size pc ht rs ms t6 := by rw [← hWA]; exact ⟨lr, lm, vb_new w _ _⟩
  have BA : Below w.heap.size w WA := by rw [← hWA]; exact below_alloc1 _ _
  have zA : WA.heap.size = w.heap.size + 1 := by rw [← hWA]; simp
  have VA := vb_new WA z20 75
  have BB := below_alloc1 WA (.cells z20.toArray 75)
  have HB := HA.keep BB
  have BC := BA.trans (BB.mono BA.size)
  have zB : (WA.alloc (.cells z20.toArray 75)).heap.size = w.heap.size + 2 := by simp [zA]
  rw [zA] at VA
  try rw [hWA]
  obtain ⟨WB, hWB⟩ : ∃ W, WA.alloc (.cells z20.toArray 75) = W := ⟨_, rfl⟩
  rw [hWB] at VA HB BC zB
  try rw [show WA.alloc (.cells #[.int .i64 0, .int .i64 0, .int .i64 0, .int .i64 0, .int .i64 0, .int .i64 0, .int .i64 0, .int .i64 0, .int .i64 0, .int .i64 0, .int .i64 0, .int .i64 0, .int .i64 0, .int .i64 0, .int .i64 0, .int .i64 0, .slice none 0 0, .int .i64 0, .int .i64 0, .int .i64 0] 75) = WB from hWB]
  clear hWA hWB HA BA BB zA
  have H1 := hid (HB.copy VA rfl h6)
  have B1 := hid (below_chg BC (chg_setCellsL (w.heap.size + 1) (bvs pc ht rs ms t6) 0 WB) BC.size (fun j hj => by have hj : j = w.heap.size + 1 := hj; omega))
  have Z1 := hid (show (WB.setCells (w.heap.size + 1) 0 (bvs pc ht rs ms t6)).heap.size = w.heap.size + 1 + 1 by rw [setCells_size]; exact zB)
  refine copy_reg (b0 := w.heap.size) (b1 := w.heap.size + 1) (M := bvs pc ht rs ms t6) (vs := z20) rfl rfl (by decide) (by simp) HB.vb VA (HB.l20 h6) rfl ho ?_
  obtain ⟨W1, hW1⟩ : ∃ W, WB.setCells (w.heap.size + 1) 0 (bvs pc ht rs ms t6) = W := ⟨_, rfl⟩
  rw [hW1] at H1 B1 Z1 ⊢
  clear hW1 HB VA BC zB
  have HD := hid (hd W1 B1.out Z1.out H1.out)
  clear hd
  simp only [List.setIfInBounds_toArray, List.set_cons_zero, List.set_cons_succ]
  go_wp2_with fail
  refine HD.out.mono ?_
  rintro e w2 ⟨rfl, h2, c2⟩
  have H2 := hid h2
  have B2 := hid (below_chg B1.out c2 B1.out.size (fun j hj => by have hj : j = w.heap.size + 1 := hj; omega))
  clear HD H1 B1 Z1 h2 c2
  go_upto_region 4 with fail
  refine copy_reg (b0 := w.heap.size + 1) (b1 := w.heap.size + 1) (M := bvs pc' ht' rs' ms' t6') (vs := bvs pc' ht' rs' ms' t6') rfl rfl (by decide) (by simp) H2.out.vb H2.out.vb (H2.out.l20 h6') (H2.out.l20 h6') ho' ?_
  have H3 := hid (H2.out.copy H2.out.vb (H2.out.l20 h6') h6')
  have B3 := hid (below_chg B2.out (chg_setCellsL (w.heap.size + 1) (bvs pc' ht' rs' ms' t6') 0 w2) B2.out.size (fun j hj => by have hj : j = w.heap.size + 1 := hj; omega))
  obtain ⟨W3, hW3⟩ : ∃ W, w2.setCells (w.heap.size + 1) 0 (bvs pc' ht' rs' ms' t6') = W := ⟨_, rfl⟩
  rw [hW3] at H3 B3 ⊢
  clear hW3 H2 B2
  simp only [List.setIfInBounds_toArray, List.set_cons_zero, List.set_cons_succ]
  go_wp2_with fail
  change Leaves _ _ _ _ _ _ _
  refine leaves_cons (f := 89) (args := #[.pointer (some ⟨w.heap.size, 0, none⟩), .pointer (some ⟨w.heap.size + 1, 0, none⟩)]) (by simp) (by simp [go_sem]) ?_
  refine (catch_idle _ _ _).mono ?_
  rintro e u' w4 ⟨rfl, rfl, b4⟩
  exact ⟨_, resTried _ rfl (H3.out.vb.keep b4) (H3.out.l20 h6'), rfl, B3.out.trans (b4.mono B3.out.size)⟩
set_option maxHeartbeats 4000000 in
theorem tried_fall (K : Nat) (cap : Array Value) (hcf : ∀ (xs : Array Value) (w : World), (callFunc K xs).run Try.prog w = .ok (.enter K xs) w) (pc ht pc' ht' : Int) (rs ms rs' ms' : List Int) (t6 t6' : List Value) (w : World) (lr : rs.length = 4) (lm : ms.length = 8) (h6 : t6.length = 6) (h6' : t6'.length = 6) (ho : OneC (bvs pc ht rs ms t6))
    (hd : Does K cap (w.heap.size + 1) w pc ht rs ms t6 (.panicked [{ v := fellV, recovered := false }]) pc' ht' rs' ms' t6') :
    Calls Try.prog 50 #[.agg (bvs pc ht rs ms t6).toArray, .func (.func K) #[] cap] w fun e w' => e = .returned (.agg (bvs pc 2 rs ms t6).toArray) ∧ Below w.heap.size w w' := by
  have hmf : ∀ (fn : Fn) (first cap : Array Value) (w : World), (Instr.makeFunc fn first cap).run Try.prog w = .ok (.func fn first cap) w := fun _ _ _ _ => rfl
  go_enter_defers Try.func50, Try.ntmps50
  go_upto_region 1 with fail
  obtain ⟨WA, hWA⟩ : ∃ W, w.alloc (.cells (bvs pc ht rs ms t6).toArray 75) = W := ⟨_, rfl⟩
  have HA : Bod WA w.heap.size pc ht rs ms t6 := by rw [← hWA]; exact ⟨lr, lm, vb_new w _ _⟩
  have BA : Below w.heap.size w WA := by rw [← hWA]; exact below_alloc1 _ _
  have zA : WA.heap.size = w.heap.size + 1 := by rw [← hWA]; simp
  have VA := vb_new WA z20 75
  have BB := below_alloc1 WA (.cells z20.toArray 75)
  have HB := HA.keep BB
  have BC := BA.trans (BB.mono BA.size)
  have zB : (WA.alloc (.cells z20.toArray 75)).heap.size = w.heap.size + 2 := by simp [zA]
  rw [zA] at VA
  try rw [hWA]
  obtain ⟨WB, hWB⟩ : ∃ W, WA.alloc (.cells z20.toArray 75) = W := ⟨_, rfl⟩
  rw [hWB] at VA HB BC zB
  try rw [show WA.alloc (.cells #[.int .i64 0, .int .i64 0, .int .i64 0, .int .i64 0, .int .i64 0, .int .i64 0, .int .i64 0, .int .i64 0, .int .i64 0, .int .i64 0, .int .i64 0, .int .i64 0, .int .i64 0, .int .i64 0, .int .i64 0, .int .i64 0, .slice none 0 0, .int .i64 0, .int .i64 0, .int .i64 0] 75) = WB from hWB]
  clear hWA hWB HA BA BB zA
  have HC0 := hid (HB.chg (chg_setCellsL (w.heap.size + 1) (bvs pc ht rs ms t6) 0 WB) (fun e => by have e : w.heap.size = w.heap.size + 1 := e; omega))
  have H1 := hid (HB.copy VA rfl h6)
  have B1 := hid (below_chg BC (chg_setCellsL (w.heap.size + 1) (bvs pc ht rs ms t6) 0 WB) BC.size (fun j hj => by have hj : j = w.heap.size + 1 := hj; omega))
  have Z1 := hid (show (WB.setCells (w.heap.size + 1) 0 (bvs pc ht rs ms t6)).heap.size = w.heap.size + 1 + 1 by rw [setCells_size]; exact zB)
  refine copy_reg (b0 := w.heap.size) (b1 := w.heap.size + 1) (M := bvs pc ht rs ms t6) (vs := z20) rfl rfl (by decide) (by simp) HB.vb VA (HB.l20 h6) rfl ho ?_
  obtain ⟨W1, hW1⟩ : ∃ W, WB.setCells (w.heap.size + 1) 0 (bvs pc ht rs ms t6) = W := ⟨_, rfl⟩
  rw [hW1] at H1 B1 Z1 HC0 ⊢
  clear hW1 HB VA BC zB
  have HD := hid (hd W1 B1.out Z1.out H1.out)
  clear hd
  simp only [List.setIfInBounds_toArray, List.set_cons_zero, List.set_cons_succ]
  go_wp2_with fail
  refine HD.out.mono ?_
  rintro e w2 ⟨rfl, h2, c2⟩
  have H2 := hid h2
  have HC := hid (HC0.out.chg c2 (fun e => by have e : w.heap.size = w.heap.size + 1 := e; omega))
  have B2 := hid (below_chg B1.out c2 B1.out.size (fun j hj => by have hj : j = w.heap.size + 1 := hj; omega))
  clear HD H1 Z1 h2 c2
  change Leaves _ _ _ _ _ _ _
  refine leaves_cons (f := 89) (args := #[.pointer (some ⟨w.heap.size, 0, none⟩), .pointer (some ⟨w.heap.size + 1, 0, none⟩)]) (by simp) (by simp [go_sem]) ?_
  refine (catch_fall w.heap.size (w.heap.size + 1) pc ht rs ms t6 (bvs pc' ht' rs' ms' t6') w2 [] h6 HC.out H2.out.vb (H2.out.l20 h6') ho (by omega)).mono ?_
  rintro e u' w4 ⟨rfl, rfl, h4, c4⟩
  exact ⟨_, resTried _ rfl h4.vb (h4.l20 h6), rfl, below_chg B2.out c4 B2.out.size (fun j hj => by have hj : j = w.heap.size + 1 := hj; omega)⟩
end Go.Proofs.Ytbpomeegpkdekaa
