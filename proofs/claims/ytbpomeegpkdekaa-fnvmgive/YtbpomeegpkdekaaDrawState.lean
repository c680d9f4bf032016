/- The draw of a machine: whatever is drawn reads as two lists; the reader goes on. Conditions: the reader lies as it was opened. -/
import Derived.Test.YtbpomeegpkdekaaDrawRow
import Derived.Test.YtbpomeegpkdekaaVmNew
import Derived.Test.YtbpomeegpkdekaaVBk
import Derived.Deep.DeepCutAuto
import Derived.Deep.AppendLies
import Derived.Maps.AppendAt
namespace Go.Proofs.Ytbpomeegpkdekaa
open Go.ChangeShapes Go.WideShapes Go.ChangeAt Go.RowKit Go.Joins Go.Deep
set_option linter.unusedVariables false
set_option linter.unusedSimpArgs false
set_option maxRecDepth 4000
/-- a machine that is being drawn: the result's block, its own, its two rows -/
def StX (lo R B : Nat) (u v : Value) (n m : Nat) (w : World) : Prop :=
  VB w R [.int .i64 0, .slice none 0 0, .slice none 0 0, .int .i64 0] ∧ (∃ pc ht : Int, VB w B [.int .i64 pc, u, v, .int .i64 ht]) ∧ ∃ xs ys, OwnI 3 1 w lo u n xs ∧ OwnI 3 1 w lo v m ys
theorem stx_stands {lo R B n m g : Nat} {u v : Value} (hg : g < lo) (hR : ¬ R = g) (hB : ¬ B = g) : Stands g (StX lo R B u v n m) := by
  rintro w w' hb ⟨h1, ⟨pc, ht, h2⟩, xs, ys, h3, h4⟩
  refine ⟨h1.grown hb (by simpa using hR), ⟨pc, ht, h2.grown hb (by simpa using hB)⟩, xs, ys, h3.grown hb ?_, h4.grown hb ?_⟩
  · rintro j hj he
    have := (h3.blk j he).1
    simp at hj; omega
  · rintro j hj he
    have := (h4.blk j he).1
    simp at hj; omega
theorem stx_store1 {lo R B n m gu gv cu cv k : Nat} (hu : ¬ R = gu ∧ ¬ B = gu ∧ ¬ gv = gu) (hk : k < n) (w : World) (y : Int) (h : StX lo R B (.slice (some ⟨gu, 0, none⟩) n cu) (.slice (some ⟨gv, 0, none⟩) m cv) n m w) :
    (Instr.storeAt 3 (.pointer (some ⟨gu, k, none⟩)) (.int .i64 y)).run Try.prog w = .ok () (w.setCell ⟨gu, k, none⟩ (.int .i64 y)) ∧ StX lo R B (.slice (some ⟨gu, 0, none⟩) n cu) (.slice (some ⟨gv, 0, none⟩) m cv) n m (w.setCell ⟨gu, k, none⟩ (.int .i64 y)) := by
  obtain ⟨h1, ⟨pc, ht, h2⟩, xs, ys, h3, h4⟩ := h
  have hl := h3.len
  obtain ⟨c1, c2, _, _⟩ := ownI_cell h3 (i := k) (by omega)
  refine ⟨?_, h1.off (by omega), ⟨pc, ht, h2.off (by omega)⟩, xs.set k y, ys, ownI_set h3 (by omega), ownI_setOff h4 (by simp [Value.ownBlock]; omega)⟩
  clear h1 h2 h3 h4
  go_simp
theorem stx_store2 {lo R B n m gu gv cu cv k : Nat} (hu : ¬ R = gv ∧ ¬ B = gv ∧ ¬ gv = gu) (hk : k < m) (w : World) (y : Int) (h : StX lo R B (.slice (some ⟨gu, 0, none⟩) n cu) (.slice (some ⟨gv, 0, none⟩) m cv) n m w) :
    (Instr.storeAt 3 (.pointer (some ⟨gv, k, none⟩)) (.int .i64 y)).run Try.prog w = .ok () (w.setCell ⟨gv, k, none⟩ (.int .i64 y)) ∧ StX lo R B (.slice (some ⟨gu, 0, none⟩) n cu) (.slice (some ⟨gv, 0, none⟩) m cv) n m (w.setCell ⟨gv, k, none⟩ (.int .i64 y)) := by
  obtain ⟨h1, ⟨pc, ht, h2⟩, xs, ys, h3, h4⟩ := h
  have hl := h4.len
  obtain ⟨c1, c2, _, _⟩ := ownI_cell h4 (i := k) (by omega)
  refine ⟨?_, h1.off (by omega), ⟨pc, ht, h2.off (by omega)⟩, xs, ys.set k y, ownI_setOff h3 (by simp [Value.ownBlock]; omega), ownI_set h4 (by omega)⟩
  clear h1 h2 h3 h4
  go_simp
theorem stx_field0 {lo R B n m : Nat} {u v : Value} (hR : ¬ B = R) (hu : u.ownBlock ≠ some B) (hv : v.ownBlock ≠ some B) (w : World) (y : Int) (h : StX lo R B u v n m w) :
    (Instr.storeAt 3 (.pointer (some ⟨B, 0, none⟩)) (.int .i64 y)).run Try.prog w = .ok () (w.setCell ⟨B, 0, none⟩ (.int .i64 y)) ∧ StX lo R B u v n m (w.setCell ⟨B, 0, none⟩ (.int .i64 y)) := by
  obtain ⟨h1, ⟨pc, ht, h2⟩, xs, ys, h3, h4⟩ := h
  obtain ⟨c0, c1, c2, c3⟩ := vb4 h2
  have ff := h2.2.1
  refine ⟨?_, h1.off hR, ⟨y, ht, h2.set (i := 0) (by simp) _⟩, xs, ys, ownI_setOff h3 hu, ownI_setOff h4 hv⟩
  clear h1 h2 h3 h4
  go_simp
theorem stx_field3 {lo R B n m : Nat} {u v : Value} (hR : ¬ B = R) (hu : u.ownBlock ≠ some B) (hv : v.ownBlock ≠ some B) (w : World) (y : Int) (h : StX lo R B u v n m w) :
    (Instr.storeAt 3 (.pointer (some ⟨B, 3, none⟩)) (.int .i64 y)).run Try.prog w = .ok () (w.setCell ⟨B, 3, none⟩ (.int .i64 y)) ∧ StX lo R B u v n m (w.setCell ⟨B, 3, none⟩ (.int .i64 y)) := by
  obtain ⟨h1, ⟨pc, ht, h2⟩, xs, ys, h3, h4⟩ := h
  obtain ⟨c0, c1, c2, c3⟩ := vb4 h2
  have ff := h2.2.1
  refine ⟨?_, h1.off hR, ⟨pc, y, h2.set (i := 3) (by simp) _⟩, xs, ys, ownI_setOff h3 hu, ownI_setOff h4 hv⟩
  clear h1 h2 h3 h4
  go_simp
theorem stx_load1 {lo R B n m : Nat} {u v : Value} (w : World) (h : StX lo R B u v n m w) : (Instr.loadAt 23 (.pointer (some ⟨B, 1, none⟩))).run Try.prog w = .ok u w := by
  obtain ⟨pc, ht, h2⟩ := h.2.1
  obtain ⟨c0, c1, c2, c3⟩ := vb4 h2
  clear h h2
  go_simp
theorem stx_load2 {lo R B n m : Nat} {u v : Value} (w : World) (h : StX lo R B u v n m w) : (Instr.loadAt 23 (.pointer (some ⟨B, 2, none⟩))).run Try.prog w = .ok v w := by
  obtain ⟨pc, ht, h2⟩ := h.2.1
  obtain ⟨c0, c1, c2, c3⟩ := vb4 h2
  clear h h2
  go_simp
theorem res_state {W : World} {b : Nat} {x0 x1 x2 x3 : Value} (tmps : Array Value) (ht : tmps[4]?.getD undef = .pointer (some ⟨b, 0, none⟩)) (h0 : W.cell? ⟨b, 0, none⟩ = some x0) (h1 : W.cell? ⟨b, 1, none⟩ = some x1) (h2 : W.cell? ⟨b, 2, none⟩ = some x2) (h3 : W.cell? ⟨b, 3, none⟩ = some x3) :
    (results Try.f47 tmps).run Try.prog W = .ok (.agg #[x0, x1, x2, x3]) W := by
  simp [results, Try.results47, go_sem, ht, h0, h1, h2, h3]
/-- what a draw of a machine leaves -/
def StDrawn (W w : World) (g p : Nat) (u v : Value) (w' : World) : Prop :=
  ∃ m xs ys, OwnI 3 1 w' w.heap.size u 4 xs ∧ OwnI 3 1 w' w.heap.size v m ys ∧ m ≤ 9 ∧ (∃ q, q ≤ p + 300 ∧ Rdr W w' g q) ∧ w.grownBy w' (some g)
/-- a place of a row that stands by -/
def Ty.plc (G n : Nat) : Ty := ⟨fun _ _ v _ => ∃ k, v = .pointer (some ⟨G, k, none⟩) ∧ k < n, fun _ h => h, fun _ h => h⟩
section
variable {ops : Array Oper} {a0 : Act} {W w0 : World} {g lo p K : Nat} {Rs : List (Nat × Nat)} {tys : List Ty} {X : World → Prop}
theorem rx_idxAny {i d s r G n c m : Nat} {ty : TypeId} {pos : String} {after : Array Edge} {gd : Option (Nat × Bool)} (j l : Nat) (hmn : m ≤ n)
    (hw : waits ⟨some d, .indexAddr 23 (.tmp s) (.tmp r), ty, pos, after, gd⟩ j = true) (hs : (ops[j]?).bind (·.dst) = some s) (hj : tys.getD j .any = .is (.slice (some ⟨G, 0, none⟩) n c))
    (hw2 : waits ⟨some d, .indexAddr 23 (.tmp s) (.tmp r), ty, pos, after, gd⟩ l = true) (hs2 : (ops[l]?).bind (·.dst) = some r) (hl : tys.getD l .any = .rng m) (ht : tys.getD i .any = .plc G n) :
    ObW Try.prog ops a0 (Fs g lo tys) (DV W w0 g lo p K Rs X) i ⟨some d, .indexAddr 23 (.tmp s) (.tmp r), ty, pos, after, gd⟩ :=
  ob_val fun nn a w hn hI hat => by
    have e := is_in j hat hw hs hj
    obtain ⟨x, hx, x0, x1⟩ := fs_in hat hw2 hs2 hl
    obtain ⟨y, rfl⟩ := Int.eq_ofNat_of_zero_le x0
    have hy : y < n := by omega
    have := idx_row (q := G) (c := c) hy w
    refine ⟨.pointer (some ⟨G, y, none⟩), w, ?_, by unfold Fs; rw [ht]; exact ⟨y, rfl, hy⟩, ⟨hI.1.same, hI.2⟩, fun _ _ _ h => h⟩
    simp only [execOp, eval_tmp, e, hx]
    simp only [Sem.run_bind, this]
    rfl
theorem rx_storeAny {i s G n : Nat} {o : Operand} {ty : TypeId} {pos : String} {after : Array Edge} {gd : Option (Nat × Bool)} (j : Nat) (hg : ¬ G = g) (hlo : lo ≤ G) (hlo' : w0.heap.size ≤ G)
    (hb : ∀ (k : Nat) (w : World) (y : Int), k < n → X w → (Instr.storeAt 3 (.pointer (some ⟨G, k, none⟩)) (.int .i64 y)).run Try.prog w = .ok () (w.setCell ⟨G, k, none⟩ (.int .i64 y)) ∧ X (w.setCell ⟨G, k, none⟩ (.int .i64 y)))
    (hw : waits ⟨none, .store 3 (.tmp s) o, ty, pos, after, gd⟩ j = true) (hs : (ops[j]?).bind (·.dst) = some s) (hj : tys.getD j .any = .plc G n)
    (hO : OI ops a0 g lo tys ⟨none, .store 3 (.tmp s) o, ty, pos, after, gd⟩ o) (ht : tys.getD i .any = .any) :
    ObW Try.prog ops a0 (Fs g lo tys) (DV W w0 g lo p K Rs X) i ⟨none, .store 3 (.tmp s) o, ty, pos, after, gd⟩ := by
  refine ob_skip fun nn a w hn hI hat => ?_
  obtain ⟨y, hy⟩ := hO a w hat
  obtain ⟨k, e, hk⟩ := fs_in hat hw hs hj
  obtain ⟨h1, h2⟩ := hb k w y hk hI.2
  refine ⟨w.setCell ⟨G, k, none⟩ (.int .i64 y), ?_, ?_, ⟨(hI.1.set y hg hlo hlo').same, h2⟩, fs_mono (ext_set y)⟩
  · simp only [execOp, eval_tmp, e, hy]
    simp only [Sem.run_bind, h1]
    rfl
  · unfold Fs; rw [ht]; trivial
end
set_option maxHeartbeats 16000000 in
theorem drawState_any (W w : World) (g q N : Nat) (hr : Rdr W w g q) (hN1 : N ≤ 900000) (hq : q + 300 < 900000) :
    Calls Try.prog 47 #[.pointer (some ⟨g, 0, none⟩), .int .i64 (N : Int)] w fun e w' => ∃ (pc ht : Int) (u v : Value), e = .returned (.agg #[.int .i64 pc, u, v, .int .i64 ht]) ∧ StDrawn W w g q u v w' := by
  have hgl := (DW.start (K := 1) hr).rd_lt
  have HGL := hid hgl
  have D0 : Hid (DV W w g w.heap.size q 1 [] (fun w' => VB w' w.heap.size [.int .i64 0, .slice none 0 0, .slice none 0 0, .int .i64 0]) 0 (w.alloc (.cells #[.int .i64 0, .slice none 0 0, .slice none 0 0, .int .i64 0] 25))) := hid ⟨(DW.start (K := 1) hr).keep (below_alloc1 w (.cells #[.int .i64 0, .slice none 0 0, .slice none 0 0, .int .i64 0] 25)), vb_new w [.int .i64 0, .slice none 0 0, .slice none 0 0, .int .i64 0] 25⟩
  clear hr hgl
  go_enter Try.func47, Try.ntmps47
  go_wp2_with fail
  refine (specVmNew_any _).mono ?_
  rintro e w2 ⟨u, v, rfl, o1, o2, ap, b2⟩
  obtain ⟨a1, cu, rfl, e1⟩ := ownI_form o1
  obtain ⟨a2, cv, rfl, e2⟩ := ownI_form o2
  obtain ⟨gu, rfl⟩ : ∃ gu, a1 = some ⟨gu, 0, none⟩ := by rcases e1 with e1 | e1; omega; exact e1
  obtain ⟨gv, rfl⟩ : ∃ gv, a2 = some ⟨gv, 0, none⟩ := by rcases e2 with e2 | e2; omega; exact e2
  have k1 := o1.blk gu rfl
  have k2 := o2.blk gv rfl
  have k3 : ¬ gv = gu := fun e => by subst e; exact ap gv rfl rfl
  have k4 := D0.out.2.2.2
  have k5 := D0.out.1.2.2.2.1
  have Z2 := hid b2.size
  obtain ⟨B, hB⟩ : ∃ B, w2.heap.size = B := ⟨_, rfl⟩
  have HG1 := hid (show ¬ gu = g ∧ w.heap.size ≤ gu from ⟨by have := HGL.out; omega, by omega⟩)
  have HG2 := hid (show ¬ gv = g ∧ w.heap.size ≤ gv from ⟨by have := HGL.out; omega, by omega⟩)
  have HN1 := hid (show ¬ w.heap.size = gu ∧ ¬ B = gu ∧ ¬ gv = gu from ⟨by omega, by omega, k3⟩)
  have HN2 := hid (show ¬ w.heap.size = gv ∧ ¬ B = gv ∧ ¬ gv = gu from ⟨by omega, by omega, k3⟩)
  have HRB := hid (show w.heap.size < B by omega)
  have D2 : Hid (DV W w g w.heap.size q 1 [] (StX w.heap.size w.heap.size B (.slice (some ⟨gu, 0, none⟩) 4 cu) (.slice (some ⟨gv, 0, none⟩) 8 cv) 4 8) 0 (w2.alloc (.cells #[.int .i64 0, .slice (some ⟨gu, 0, none⟩) 4 cu, .slice (some ⟨gv, 0, none⟩) 8 cv, .int .i64 0] 25))) := hid ⟨(D0.out.1.keep b2).keep (below_alloc1 _ _), (D0.out.2.keep b2).keep (below_alloc1 _ _), ⟨0, 0, by rw [← hB]; exact vb_new w2 [.int .i64 0, .slice (some ⟨gu, 0, none⟩) 4 cu, .slice (some ⟨gv, 0, none⟩) 8 cv, .int .i64 0] 25⟩, _, _, (o1.low (by omega)).keep (below_alloc1 _ _), (o2.low (by omega)).keep (below_alloc1 _ _)⟩
  have HX : Stands g (StX w.heap.size w.heap.size B (.slice (some ⟨gu, 0, none⟩) 4 cu) (.slice (some ⟨gv, 0, none⟩) 8 cv) 4 8) := stx_stands HGL.out (by have := HGL.out; omega) (by have := HGL.out; omega)
  clear o1 o2 ap b2 e1 e2 k1 k2 k3 k4 k5 D0
  have qN : IntKind.i64.wrap ((N : Int) + 1) = ((N : Int) + 1) := by rw [IntKind.wrap_i64]; omega
  go_wp2_with fail
  obtain ⟨W3, hW3⟩ : ∃ W3, w2.alloc (.cells #[.int .i64 0, .slice (some ⟨gu, 0, none⟩) 4 cu, .slice (some ⟨gv, 0, none⟩) 8 cv, .int .i64 0] 25) = W3 := ⟨_, rfl⟩
  rw [hW3] at D2
  try rw [hW3]
  try rw [hB]
  clear hW3 hB Z2
  refine (pick_dv ((N : Int) + 1) D2.out HX (by omega) (by omega) (by omega)).mono ?_
  rintro e w4 ⟨x, rfl, -, -, D4⟩
  have K4 := hid (D4.out.2.2.1)
  have NX : ∀ (w' : World) (i : Nat) (y : Int), i = 0 ∨ i = 3 → ∀ p', DV W w g w.heap.size p' 1 [] (StX w.heap.size w.heap.size B (.slice (some ⟨gu, 0, none⟩) 4 cu) (.slice (some ⟨gv, 0, none⟩) 8 cv) 4 8) 0 w' → DV W w g w.heap.size p' 1 [] (StX w.heap.size w.heap.size B (.slice (some ⟨gu, 0, none⟩) 4 cu) (.slice (some ⟨gv, 0, none⟩) 8 cv) 4 8) 0 (w'.setCell ⟨B, i, none⟩ (.int .i64 y)) := by
    intro w' i y hi p' hD
    refine ⟨hD.1.setV _ (by have := HGL.out; have := HRB.out; omega) (by have := HRB.out; omega) (by have := HRB.out; omega), ?_⟩
    rcases hi with rfl | rfl
    · exact (stx_field0 (by have := HRB.out; omega) (by have := HN1.out; simp [Value.ownBlock]; omega) (by have := HN2.out; simp [Value.ownBlock]; omega) w' y hD.2).2
    · exact (stx_field3 (by have := HRB.out; omega) (by have := HN1.out; simp [Value.ownBlock]; omega) (by have := HN2.out; simp [Value.ownBlock]; omega) w' y hD.2).2
  have D5 := hid (NX w4 0 x (.inl rfl) _ D4.out)
  obtain ⟨pc0, ht0, hvb⟩ := K4.out
  obtain ⟨c0, c1, c2, c3⟩ := vb4 hvb
  have fb := hvb.2.1
  clear hvb D2 K4 D4
  go_wp2_with fail
  obtain ⟨W6, hW6⟩ : ∃ W6, w4.setCell ⟨B, 0, none⟩ (.int .i64 x) = W6 := ⟨_, rfl⟩
  rw [hW6] at D5
  try rw [hW6]
  clear hW6 c0 c1 c2 c3 fb qN
  go_loopw [6] (fun i wr => ∃ k : Nat, k ≤ 4 ∧ i = .int .i64 (k : Int) ∧ DV W w g w.heap.size (q + 1 + 12 * k) 1 [] (StX w.heap.size w.heap.size B (.slice (some ⟨gu, 0, none⟩) 4 cu) (.slice (some ⟨gv, 0, none⟩) 8 cv) 4 8) 0 wr) (fun i _ => 4 - (intOf i).toNat)
  case atStart => exact ⟨0, by omega, rfl, D5.out⟩
  case round =>
    clear D5
    obtain ⟨k, hk, rfl, hD⟩ := hrel
    have DD := hid hD
    clear hD
    by_cases hlt : k < 4
    · have HK := hid hlt
      have hlt' : (k : Int) < 4 := by omega
      have qk : IntKind.i64.wrap ((k : Int) + 1) = ((k + 1 : Nat) : Int) := by rw [IntKind.wrap_i64]; omega
      go_upto_region 6 with fail
      refine region_facts (Fs g w.heap.size [.is (.pointer (some ⟨B, 1, none⟩)), .is (.slice (some ⟨gu, 0, none⟩) 4 cu), .is (.int .i64 (k : Int)), .is (.pointer (some ⟨g, 0, none⟩)), .rng 256, .row 7, .is (.pointer (some ⟨g, 0, none⟩)), .rng 7, .at, .int, .is (.pointer (some ⟨gu, k, none⟩)), .any]) (DV W w g w.heap.size (q + 1 + 12 * k) 1 [] (StX w.heap.size w.heap.size B (.slice (some ⟨gu, 0, none⟩) 4 cu) (.slice (some ⟨gv, 0, none⟩) 8 cv) 4 8)) (by kernel_rfl) (by kernel_rfl) (DD.out.drew HX) ⟨?_, ?_, ?_, ?_, ?_, ?_, ?_, ?_, ?_, ?_, ?_, ?_, trivial⟩ ?_
      · exact ob_un (rx_field (fun w => by go_simp) rfl rfl rfl)
      · exact ob_un (rx_load 0 (fun w h => stx_load1 w h) rfl rfl rfl rfl)
      · exact ob_un (dv_lift HX fun _ HLO => rt_move (.int .i64 (k : Int)) rfl rfl rfl)
      · exact ob_un (dv_lift HX fun _ HLO => rt_move (.pointer (some ⟨g, 0, none⟩)) rfl rfl rfl)
      · exact ob_un (dv_lift HX fun _ HLO => rt_pick (m := 256) 3 (by omega) (by simp <;> omega) (by omega) (by omega) rfl rfl rfl rfl)
      · exact ob_un (dv_lift HX fun _ HLO => rt_row (E := 3) (fun f w => by go_simp) rfl ⟨oi_const 0, oi_const 1, oi_const 2, oi_const 7, oi_const 8, oi_const 255, oi_rng 4 256 rfl rfl rfl, trivial⟩ rfl)
      · exact ob_un (dv_lift HX fun _ HLO => rt_move (.pointer (some ⟨g, 0, none⟩)) rfl rfl rfl)
      · exact ob_un (dv_lift HX fun _ HLO => rt_pick (m := 7) 6 (by omega) (by simp <;> omega) (by omega) (by omega) rfl rfl rfl rfl)
      · exact ob_un (dv_lift HX fun _ HLO => rt_idx 5 7 (by omega) (by omega) rfl rfl rfl rfl rfl rfl rfl)
      · exact ob_un (dv_lift HX fun _ HLO => rt_load 8 rfl rfl rfl rfl)
      · exact ob_un (rx_idx 1 2 (fun w _ => idx_row HK.out w) rfl rfl rfl rfl rfl rfl rfl)
      · exact ob_un (rx_store 10 HG1.out.1 HG1.out.2 HG1.out.2 (fun w y h => stx_store1 HN1.out HK.out w y h) rfl rfl rfl (oi_in 9 rfl rfl rfl) rfl)
      intro u6 w6 hI hF
      obtain ⟨f0, f1, f2, f3, f4, f5, f6, f7, f8, f9, f10, f11, -⟩ := hF
      have DD := hid (hI.re (K' := 1) (p' := q + 1 + 12 * (k + 1)) (by simp; omega))
      clear f0 f1 f2 f3 f4 f5 f6 f7 f8 f9 f10 f11 hI
      simp only [outTmps, List.setIfInBounds_toArray, List.set_cons_zero, List.set_cons_succ]
      go_wp2_with fail
      go_roundw
      case rel => exact ⟨k + 1, by omega, rfl, DD.out⟩
      case measure => simp [intOf]; omega
    · obtain rfl : k = 4 := by omega
      clear hlt hk
      go_wp2_with fail
      go_loopw [7] (fun i wr => ∃ k : Nat, k ≤ 8 ∧ i = .int .i64 (k : Int) ∧ DV W w g w.heap.size (q + 49 + 7 * k) 1 [] (StX w.heap.size w.heap.size B (.slice (some ⟨gu, 0, none⟩) 4 cu) (.slice (some ⟨gv, 0, none⟩) 8 cv) 4 8) 0 wr) (fun i _ => 8 - (intOf i).toNat)
      case atStart => exact ⟨0, by omega, rfl, DD.out⟩
      case round =>
        clear DD
        obtain ⟨k, hk, rfl, hD⟩ := hrel
        have DD := hid hD
        clear hD
        by_cases hlt : k < 8
        · have HK := hid hlt
          have hlt' : (k : Int) < 8 := by omega
          have qk : IntKind.i64.wrap ((k : Int) + 1) = ((k + 1 : Nat) : Int) := by rw [IntKind.wrap_i64]; omega
          go_upto_region 10 with fail
          refine region_facts (Fs g w.heap.size [.is (.pointer (some ⟨B, 2, none⟩)), .is (.slice (some ⟨gv, 0, none⟩) 8 cv), .is (.int .i64 (k : Int)), .is (.pointer (some ⟨g, 0, none⟩)), .rng 256, .is (.pointer (some ⟨gv, k, none⟩)), .any]) (DV W w g w.heap.size (q + 49 + 7 * k) 1 [] (StX w.heap.size w.heap.size B (.slice (some ⟨gu, 0, none⟩) 4 cu) (.slice (some ⟨gv, 0, none⟩) 8 cv) 4 8)) (by kernel_rfl) (by kernel_rfl) (DD.out.drew HX) ⟨?_, ?_, ?_, ?_, ?_, ?_, ?_, trivial⟩ ?_
          · exact ob_un (rx_field (fun w => by go_simp) rfl rfl rfl)
          · exact ob_un (rx_load 0 (fun w h => stx_load2 w h) rfl rfl rfl rfl)
          · exact ob_un (dv_lift HX fun _ HLO => rt_move (.int .i64 (k : Int)) rfl rfl rfl)
          · exact ob_un (dv_lift HX fun _ HLO => rt_move (.pointer (some ⟨g, 0, none⟩)) rfl rfl rfl)
          · exact ob_un (dv_lift HX fun _ HLO => rt_pick (m := 256) 3 (by omega) (by simp <;> omega) (by omega) (by omega) rfl rfl rfl rfl)
          · exact ob_un (rx_idx 1 2 (fun w _ => idx_row HK.out w) rfl rfl rfl rfl rfl rfl rfl)
          · exact ob_un (rx_store 5 HG2.out.1 HG2.out.2 HG2.out.2 (fun w y h => stx_store2 HN2.out HK.out w y h) rfl rfl rfl (oi_rng 4 256 rfl rfl rfl) rfl)
          intro u10 w10 hI hF
          obtain ⟨f0, f1, f2, f3, f4, f5, f6, -⟩ := hF
          have DD := hid (hI.re (K' := 1) (p' := q + 49 + 7 * (k + 1)) (by simp; omega))
          clear f0 f1 f2 f3 f4 f5 f6 hI
          simp only [outTmps, List.setIfInBounds_toArray, List.set_cons_zero, List.set_cons_succ]
          go_wp2_with fail
          go_roundw
          case rel => exact ⟨k + 1, by omega, rfl, DD.out⟩
          case measure => simp [intOf]; omega
        · obtain rfl : k = 8 := by omega
          clear hlt hk
          go_wp2_with fail
          refine (pick_dv 8 DD.out HX (by omega) (by omega) (by omega)).mono ?_
          rintro e wa ⟨x8, rfl, -, -, DD⟩
          go_upto_if 41 with fail
          go_cut [] (fun wx => DV W w g w.heap.size (q + 107) 1 [] (StX w.heap.size w.heap.size B (.slice (some ⟨gu, 0, none⟩) 4 cu) (.slice (some ⟨gv, 0, none⟩) 8 cv) 4 8) 0 wx)
          case first =>
            by_cases e8 : x8 = 0
            · subst e8
              go_wp2_with fail
              refine (pick_dv 3 DD.out HX (by omega) (by omega) (by omega)).mono ?_
              rintro e wb ⟨x3, rfl, -, -, DD⟩
              obtain ⟨pc1, ht1, hvb⟩ := DD.out.2.2.1
              obtain ⟨c0, c1, c2, c3⟩ := vb4 hvb
              have fb := hvb.2.1
              clear hvb
              go_wp2_with fail
              go_meet
              case rel => exact NX wb 3 x3 (.inr rfl) _ (DD.out.re (by omega))
            · have d8 : (x8 == 0) = false := by simpa using e8
              go_wp2_with fail
              go_meet
              case rel => exact (DD.out.re (by omega))
          case rest =>
            clear DD
            have DD := hid hcut
            clear hcut
            go_wp2_with fail
            refine (pick_dv 24 DD.out HX (by omega) (by omega) (by omega)).mono ?_
            rintro e wb ⟨t, rfl, lt, ut, DD⟩
            have FIN : ∀ (w' : World) (pc' ht' : Int) (u' v' : Value) (m' : Nat) (p' : Nat), p' ≤ q + 300 → m' ≤ 9 → DW W w g w.heap.size p' 1 [] 0 w' → VB w' w.heap.size [.int .i64 0, .slice none 0 0, .slice none 0 0, .int .i64 0] → (∃ xs ys, OwnI 3 1 w' w.heap.size u' 4 xs ∧ OwnI 3 1 w' w.heap.size v' m' ys ∧ u'.ownBlock ≠ some w.heap.size ∧ v'.ownBlock ≠ some w.heap.size) →
                VB ((((w'.setCell ⟨w.heap.size, 0, none⟩ (.int .i64 pc')).setCell ⟨w.heap.size, 1, none⟩ u').setCell ⟨w.heap.size, 2, none⟩ v').setCell ⟨w.heap.size, 3, none⟩ (.int .i64 ht')) w.heap.size [.int .i64 pc', u', v', .int .i64 ht'] ∧ StDrawn W w g q u' v' ((((w'.setCell ⟨w.heap.size, 0, none⟩ (.int .i64 pc')).setCell ⟨w.heap.size, 1, none⟩ u').setCell ⟨w.heap.size, 2, none⟩ v').setCell ⟨w.heap.size, 3, none⟩ (.int .i64 ht')) := by
              intro w' pc' ht' u' v' m' p' hp' hm' hD hV hO
              obtain ⟨xs, ys, o1, o2, a1, a2⟩ := hO
              refine ⟨vbset4 (.int .i64 pc') u' v' (.int .i64 ht') hV, m', xs, ys, ownI_setOff (ownI_setOff (ownI_setOff (ownI_setOff o1 a1) a1) a1) a1, ownI_setOff (ownI_setOff (ownI_setOff (ownI_setOff o2 a2) a2) a2) a2, hm', ?_, gset (gset (gset (gset hD.2.1 (by simp) _) (by simp) _) (by simp) _) (by simp) _⟩
              obtain ⟨qq, hq1, hrd⟩ := hD.1
              have hng : ¬ w.heap.size = g := by have := HGL.out; omega
              exact ⟨qq, by omega, rdr_setN (rdr_setN (rdr_setN (rdr_setN hrd hng hD.2.2.2.2.2 _) hng hD.2.2.2.2.2 _) hng hD.2.2.2.2.2 _) hng hD.2.2.2.2.2 _⟩
            by_cases e0 : t = 0
            · subst e0
              go_upto_region 15 with fail
              refine region_plain (Fs g w.heap.size [.row 3, .is (.pointer (some ⟨g, 0, none⟩)), .rng 3, .at, .int, .is (.pointer (some ⟨B, 0, none⟩)), .any]) (DV W w g w.heap.size (q + 108) 1 [] (StX w.heap.size w.heap.size B (.slice (some ⟨gu, 0, none⟩) 4 cu) (.slice (some ⟨gv, 0, none⟩) 8 cv) 4 8)) (by kernel_rfl) DD.out ⟨?_, ?_, ?_, ?_, ?_, ?_, ?_, trivial⟩ ?_
              · exact ob_un (dv_lift HX fun _ HLO => rt_row (E := 3) (fun f w => by go_simp) rfl ⟨oi_const (-1), oi_const 24, oi_const 25, trivial⟩ rfl)
              · exact ob_un (dv_lift HX fun _ HLO => rt_move (.pointer (some ⟨g, 0, none⟩)) rfl rfl rfl)
              · exact ob_un (dv_lift HX fun _ HLO => rt_pick (m := 3) 1 (by omega) (by simp <;> omega) (by omega) (by omega) rfl rfl rfl rfl)
              · exact ob_un (dv_lift HX fun _ HLO => rt_idx 0 2 (by omega) (by omega) rfl rfl rfl rfl rfl rfl rfl)
              · exact ob_un (dv_lift HX fun _ HLO => rt_load 3 rfl rfl rfl rfl)
              · exact ob_un (rx_field (fun w => by go_simp) rfl rfl rfl)
              · exact ob_un (rx_store 5 (by have := HGL.out; have := HRB.out; omega) (by have := HRB.out; omega) (by have := HRB.out; omega) (fun w y h => stx_field0 (by have := HRB.out; omega) (by have := HN1.out; simp [Value.ownBlock]; omega) (by have := HN2.out; simp [Value.ownBlock]; omega) w y h) rfl rfl rfl (oi_in 4 rfl rfl rfl) rfl)
              intro u15 w15 hI hF
              obtain ⟨f0, f1, f2, f3, f4, f5, f6, -⟩ := hF
              have DD := hid (hI.re (K' := 1) (p' := q + 108 + 7) (by simp))
              clear f0 f1 f2 f3 f4 f5 f6 hI
              simp only [outTmps, List.setIfInBounds_toArray, List.set_cons_zero, List.set_cons_succ]
              obtain ⟨hvr, ⟨pc', ht', hvb⟩, xs, ys, o1, o2⟩ := DD.out.2
              obtain ⟨c0, c1, c2, c3⟩ := vb4 hvb
              obtain ⟨r0, r1, r2, r3⟩ := vb4 hvr
              have fr := hvr.2.1
              have FF := hid (FIN _ pc' ht' (.slice (some ⟨gu, 0, none⟩) 4 cu) (.slice (some ⟨gv, 0, none⟩) 8 cv) 8 ((q + 108) + 7) (by omega) (by omega) DD.out.1 hvr ⟨xs, ys, o1, o2, by simp [Value.ownBlock]; have := HN1.out; omega, by simp [Value.ownBlock]; have := HN2.out; omega⟩)
              clear hvr hvb o1 o2 FIN
              go_wp2_with fail
              obtain ⟨t0, t1, t2, t3⟩ := vb4 FF.out.1
              refine bodyPost_ret (res_state _ rfl t0 t1 t2 t3) rfl ?_
              exact ⟨_, _, _, _, rfl, FF.out.2⟩
            have d0 : (t == 0) = false := by simpa using e0
            by_cases e1 : t = 1
            · subst e1
              go_upto_region 17 with fail
              refine region_facts (Fs g w.heap.size [.is (.pointer (some ⟨B, 1, none⟩)), .is (.slice (some ⟨gu, 0, none⟩) 4 cu), .is (.pointer (some ⟨g, 0, none⟩)), .rng 4, .row 2, .is (.pointer (some ⟨g, 0, none⟩)), .rng 2, .at, .int, .plc gu 4, .any]) (DV W w g w.heap.size (q + 108) 1 [] (StX w.heap.size w.heap.size B (.slice (some ⟨gu, 0, none⟩) 4 cu) (.slice (some ⟨gv, 0, none⟩) 8 cv) 4 8)) (by kernel_rfl) (by kernel_rfl) (DD.out.drew HX) ⟨?_, ?_, ?_, ?_, ?_, ?_, ?_, ?_, ?_, ?_, ?_, trivial⟩ ?_
              · exact ob_un (rx_field (fun w => by go_simp) rfl rfl rfl)
              · exact ob_un (rx_load 0 (fun w h => stx_load1 w h) rfl rfl rfl rfl)
              · exact ob_un (dv_lift HX fun _ HLO => rt_move (.pointer (some ⟨g, 0, none⟩)) rfl rfl rfl)
              · exact ob_un (dv_lift HX fun _ HLO => rt_pick (m := 4) 2 (by omega) (by simp <;> omega) (by omega) (by omega) rfl rfl rfl rfl)
              · exact ob_un (dv_lift HX fun _ HLO => rt_row (E := 3) (fun f w => by go_simp) rfl ⟨oi_const (-1), oi_const 256, trivial⟩ rfl)
              · exact ob_un (dv_lift HX fun _ HLO => rt_move (.pointer (some ⟨g, 0, none⟩)) rfl rfl rfl)
              · exact ob_un (dv_lift HX fun _ HLO => rt_pick (m := 2) 5 (by omega) (by simp <;> omega) (by omega) (by omega) rfl rfl rfl rfl)
              · exact ob_un (dv_lift HX fun _ HLO => rt_idx 4 6 (by omega) (by omega) rfl rfl rfl rfl rfl rfl rfl)
              · exact ob_un (dv_lift HX fun _ HLO => rt_load 7 rfl rfl rfl rfl)
              · exact ob_un (rx_idxAny 1 3 (by omega) rfl rfl rfl rfl rfl rfl rfl)
              · exact ob_un (rx_storeAny 9 HG1.out.1 HG1.out.2 HG1.out.2 (fun k w y hk h => stx_store1 HN1.out hk w y h) rfl rfl rfl (oi_in 8 rfl rfl rfl) rfl)
              intro u17 w17 hI hF
              obtain ⟨f0, f1, f2, f3, f4, f5, f6, f7, f8, f9, f10, -⟩ := hF
              have DD := hid (hI.re (K' := 1) (p' := q + 108 + 11) (by simp))
              clear f0 f1 f2 f3 f4 f5 f6 f7 f8 f9 f10 hI
              simp only [outTmps, List.setIfInBounds_toArray, List.set_cons_zero, List.set_cons_succ]
              obtain ⟨hvr, ⟨pc', ht', hvb⟩, xs, ys, o1, o2⟩ := DD.out.2
              obtain ⟨c0, c1, c2, c3⟩ := vb4 hvb
              obtain ⟨r0, r1, r2, r3⟩ := vb4 hvr
              have fr := hvr.2.1
              have FF := hid (FIN _ pc' ht' (.slice (some ⟨gu, 0, none⟩) 4 cu) (.slice (some ⟨gv, 0, none⟩) 8 cv) 8 ((q + 108) + 11) (by omega) (by omega) DD.out.1 hvr ⟨xs, ys, o1, o2, by simp [Value.ownBlock]; have := HN1.out; omega, by simp [Value.ownBlock]; have := HN2.out; omega⟩)
              clear hvr hvb o1 o2 FIN
              go_wp2_with fail
              obtain ⟨t0, t1, t2, t3⟩ := vb4 FF.out.1
              refine bodyPost_ret (res_state _ rfl t0 t1 t2 t3) rfl ?_
              exact ⟨_, _, _, _, rfl, FF.out.2⟩
            have d1 : (t == 1) = false := by simpa using e1
            by_cases e2 : t = 2
            · subst e2
              obtain ⟨hvr, ⟨pc', ht', hvb⟩, xs, ys, o1, o2⟩ := DD.out.2
              have HD := hid DD.out.1
              have HVR := hid hvr
              have HVB := hid hvb
              have HO1 := hid o1
              have HO2 := hid o2
              obtain ⟨ti, hti, htz, hts, htb⟩ := infoI'
              obtain ⟨c0, c1, c2, c3⟩ := vb4 hvb
              have fb := hvb.2.1
              have hB' := hvb.2.2
              have hs1 := DD.out.1.2.2.2.1
              clear hvr hvb o1 o2 DD
              go_wp2_with (at_builtin; go_must (refine wpList_append_lies _ (by rfl) _ _ 23 (by rfl) w.heap.size 3 ti (.int .i64 0) 1 8 Try.underlying23 hti htz hts htb rfl (by omega) _ 8 (ys.map (Value.int .i64)) (by rfl) (HO2.out.alloc _) ⟨wb.heap.size, 0, none⟩ 1 1 [.int .i64 0] (by rfl) rfl (cell_one_new _ _ _) (by intro y hy; simp at hy; subst hy; rfl) (by omega) (by unfold maxLen; omega) (by omega) (by simp; omega) (wb.heap.size + 1) (by simp) ?_))
              intro gg cap2 w3 ho2 hg2 hat hlt2
              have O3 := hid (ownI_more ho2)
              have B0 := hid (below_alloc1 wb (.cells #[.int .i64 0] 3))
              have D3 := hid ((HD.out.keep B0.out).row hg2 HG2.out.1 HG2.out.2 HG2.out.2)
              have R3 := hid ((HVR.out.keep B0.out).grown hg2 (by have := HN2.out; simp [Value.ownBlock]; omega))
              have V3 := hid ((HVB.out.keep B0.out).grown hg2 (by have := HN2.out; simp [Value.ownBlock]; omega))
              have P3 := hid ((HO1.out.keep B0.out).grown hg2 (by have := HN2.out; simp [Value.ownBlock]; omega))
              clear ho2 hg2 hat hlt2 c0 c1 c2 c3 fb hB' hs1 HVB HVR HO1 HO2 HD B0
              obtain ⟨c0, c1, c2, c3⟩ := vb4 V3.out
              have fb := V3.out.2.1
              have i0 := (ownI_cell O3.out (i := 1) (by have := O3.out.len; simp at this ⊢; omega)).1
              have gB : ¬ gg = B := fun e => by subst e; rw [c1] at i0; simp at i0
              obtain ⟨r0, r1, r2, r3⟩ := vb4 R3.out
              have gR : ¬ gg = w.heap.size := fun e => by subst e; rw [r1] at i0; simp at i0
              have fr := R3.out.2.1
              clear i0
              have FF := hid (FIN _ pc' ht' (.slice (some ⟨gu, 0, none⟩) 4 cu) (.slice (some ⟨gg, 0, none⟩) (8 + 1) cap2) (8 + 1) (q + 108) (by omega) (by omega) (D3.out.setV (b := B) (i := 2) (.slice (some ⟨gg, 0, none⟩) (8 + 1) cap2) (by have := HGL.out; have := HRB.out; omega) (by have := HRB.out; omega) (by have := HRB.out; omega)) (R3.out.off (by have := HRB.out; omega)) ⟨xs, ys ++ [0], ownI_setOff P3.out (by have := HN1.out; simp [Value.ownBlock]; omega), ownI_setOff O3.out (by simp [Value.ownBlock]; exact gB), by have := HN1.out; simp [Value.ownBlock]; omega, by simp [Value.ownBlock]; exact gR⟩)
              clear FIN
              have nRB : ¬ B = w.heap.size := by have := HRB.out; omega
              have nBR : ¬ w.heap.size = B := by have := HRB.out; omega
              go_wp2_with fail
              obtain ⟨t0, t1, t2, t3⟩ := vb4 FF.out.1
              refine bodyPost_ret (res_state _ rfl t0 t1 t2 t3) rfl ?_
              exact ⟨_, _, _, _, rfl, FF.out.2⟩
            have d2 : (t == 2) = false := by simpa using e2
            by_cases e3 : t = 3
            · subst e3
              go_upto_region 21 with fail
              refine region_plain (Fs g w.heap.size [.row 2, .is (.pointer (some ⟨g, 0, none⟩)), .rng 2, .at, .int, .is (.pointer (some ⟨B, 3, none⟩)), .any]) (DV W w g w.heap.size (q + 108) 1 [] (StX w.heap.size w.heap.size B (.slice (some ⟨gu, 0, none⟩) 4 cu) (.slice (some ⟨gv, 0, none⟩) 8 cv) 4 8)) (by kernel_rfl) DD.out ⟨?_, ?_, ?_, ?_, ?_, ?_, ?_, trivial⟩ ?_
              · exact ob_un (dv_lift HX fun _ HLO => rt_row (E := 3) (fun f w => by go_simp) rfl ⟨oi_const (-1), oi_const 3, trivial⟩ rfl)
              · exact ob_un (dv_lift HX fun _ HLO => rt_move (.pointer (some ⟨g, 0, none⟩)) rfl rfl rfl)
              · exact ob_un (dv_lift HX fun _ HLO => rt_pick (m := 2) 1 (by omega) (by simp <;> omega) (by omega) (by omega) rfl rfl rfl rfl)
              · exact ob_un (dv_lift HX fun _ HLO => rt_idx 0 2 (by omega) (by omega) rfl rfl rfl rfl rfl rfl rfl)
              · exact ob_un (dv_lift HX fun _ HLO => rt_load 3 rfl rfl rfl rfl)
              · exact ob_un (rx_field (fun w => by go_simp) rfl rfl rfl)
              · exact ob_un (rx_store 5 (by have := HGL.out; have := HRB.out; omega) (by have := HRB.out; omega) (by have := HRB.out; omega) (fun w y h => stx_field3 (by have := HRB.out; omega) (by have := HN1.out; simp [Value.ownBlock]; omega) (by have := HN2.out; simp [Value.ownBlock]; omega) w y h) rfl rfl rfl (oi_in 4 rfl rfl rfl) rfl)
              intro u21 w21 hI hF
              obtain ⟨f0, f1, f2, f3, f4, f5, f6, -⟩ := hF
              have DD := hid (hI.re (K' := 1) (p' := q + 108 + 7) (by simp))
              clear f0 f1 f2 f3 f4 f5 f6 hI
              simp only [outTmps, List.setIfInBounds_toArray, List.set_cons_zero, List.set_cons_succ]
              obtain ⟨hvr, ⟨pc', ht', hvb⟩, xs, ys, o1, o2⟩ := DD.out.2
              obtain ⟨c0, c1, c2, c3⟩ := vb4 hvb
              obtain ⟨r0, r1, r2, r3⟩ := vb4 hvr
              have fr := hvr.2.1
              have FF := hid (FIN _ pc' ht' (.slice (some ⟨gu, 0, none⟩) 4 cu) (.slice (some ⟨gv, 0, none⟩) 8 cv) 8 ((q + 108) + 7) (by omega) (by omega) DD.out.1 hvr ⟨xs, ys, o1, o2, by simp [Value.ownBlock]; have := HN1.out; omega, by simp [Value.ownBlock]; have := HN2.out; omega⟩)
              clear hvr hvb o1 o2 FIN
              go_wp2_with fail
              obtain ⟨t0, t1, t2, t3⟩ := vb4 FF.out.1
              refine bodyPost_ret (res_state _ rfl t0 t1 t2 t3) rfl ?_
              exact ⟨_, _, _, _, rfl, FF.out.2⟩
            have d3 : (t == 3) = false := by simpa using e3
            by_cases e4 : t = 4
            · subst e4
              go_upto_region 23 with fail
              refine region_facts (Fs g w.heap.size [.is (.pointer (some ⟨B, 2, none⟩)), .is (.slice (some ⟨gv, 0, none⟩) 8 cv), .is (.pointer (some ⟨g, 0, none⟩)), .rng 8, .plc gv 8, .any]) (DV W w g w.heap.size (q + 108) 1 [] (StX w.heap.size w.heap.size B (.slice (some ⟨gu, 0, none⟩) 4 cu) (.slice (some ⟨gv, 0, none⟩) 8 cv) 4 8)) (by kernel_rfl) (by kernel_rfl) (DD.out.drew HX) ⟨?_, ?_, ?_, ?_, ?_, ?_, trivial⟩ ?_
              · exact ob_un (rx_field (fun w => by go_simp) rfl rfl rfl)
              · exact ob_un (rx_load 0 (fun w h => stx_load2 w h) rfl rfl rfl rfl)
              · exact ob_un (dv_lift HX fun _ HLO => rt_move (.pointer (some ⟨g, 0, none⟩)) rfl rfl rfl)
              · exact ob_un (dv_lift HX fun _ HLO => rt_pick (m := 8) 2 (by omega) (by simp <;> omega) (by omega) (by omega) rfl rfl rfl rfl)
              · exact ob_un (rx_idxAny 1 3 (by omega) rfl rfl rfl rfl rfl rfl rfl)
              · exact ob_un (rx_storeAny 4 HG2.out.1 HG2.out.2 HG2.out.2 (fun k w y hk h => stx_store2 HN2.out hk w y h) rfl rfl rfl (oi_const 256) rfl)
              intro u23 w23 hI hF
              obtain ⟨f0, f1, f2, f3, f4, f5, -⟩ := hF
              have DD := hid (hI.re (K' := 1) (p' := q + 108 + 6) (by simp))
              clear f0 f1 f2 f3 f4 f5 hI
              simp only [outTmps, List.setIfInBounds_toArray, List.set_cons_zero, List.set_cons_succ]
              obtain ⟨hvr, ⟨pc', ht', hvb⟩, xs, ys, o1, o2⟩ := DD.out.2
              obtain ⟨c0, c1, c2, c3⟩ := vb4 hvb
              obtain ⟨r0, r1, r2, r3⟩ := vb4 hvr
              have fr := hvr.2.1
              have FF := hid (FIN _ pc' ht' (.slice (some ⟨gu, 0, none⟩) 4 cu) (.slice (some ⟨gv, 0, none⟩) 8 cv) 8 ((q + 108) + 6) (by omega) (by omega) DD.out.1 hvr ⟨xs, ys, o1, o2, by simp [Value.ownBlock]; have := HN1.out; omega, by simp [Value.ownBlock]; have := HN2.out; omega⟩)
              clear hvr hvb o1 o2 FIN
              go_wp2_with fail
              obtain ⟨t0, t1, t2, t3⟩ := vb4 FF.out.1
              refine bodyPost_ret (res_state _ rfl t0 t1 t2 t3) rfl ?_
              exact ⟨_, _, _, _, rfl, FF.out.2⟩
            have d4 : (t == 4) = false := by simpa using e4
            obtain ⟨hvr, ⟨pc', ht', hvb⟩, xs, ys, o1, o2⟩ := DD.out.2
            obtain ⟨c0, c1, c2, c3⟩ := vb4 hvb
            obtain ⟨r0, r1, r2, r3⟩ := vb4 hvr
            have fr := hvr.2.1
            have FF := hid (FIN _ pc' ht' (.slice (some ⟨gu, 0, none⟩) 4 cu) (.slice (some ⟨gv, 0, none⟩) 8 cv) 8 (q + 108) (by omega) (by omega) DD.out.1 hvr ⟨xs, ys, o1, o2, by simp [Value.ownBlock]; have := HN1.out; omega, by simp [Value.ownBlock]; have := HN2.out; omega⟩)
            clear hvr hvb o1 o2 FIN
            go_wp2_with fail
            obtain ⟨t0, t1, t2, t3⟩ := vb4 FF.out.1
            refine bodyPost_ret (res_state _ rfl t0 t1 t2 t3) rfl ?_
            exact ⟨_, _, _, _, rfl, FF.out.2⟩
end Go.Proofs.Ytbpomeegpkdekaa
