/- A machine's body is copied from its block into another one: a plain region of a load and a store. Conditions: both blocks have twenty cells. -/
import Derived.Test.YtbpomeegpkdekaaGiveBody
import Derived.Test.YtbpomeegpkdekaaVbStore
import Derived.Test.YtbpomeegpkdekaaRegCg
import Derived.Deep.MidRow
namespace Go.Proofs.Ytbpomeegpkdekaa
open Go.ChangeShapes Go.WideShapes Go.ChangeAt Go.RowKit Go.Joins Go.Deep
set_option linter.unusedVariables false
set_option linter.unusedSimpArgs false
set_option maxRecDepth 4000
def OneC (M : List Value) : Prop := ∀ v ∈ M, v.oneCell' = true
theorem vb_range {w : World} {b : Nat} {M : List Value} (h : VB w b M) : w.rangeAt b 0 M := fun j v hj => by
  have hl : j < M.length := by
    rcases Nat.lt_or_ge j M.length with h' | h'
    · exact h'
    · rw [List.getElem?_eq_none h'] at hj; cases hj
  rw [Nat.zero_add, h.1 j hl, List.getD_eq_getElem?_getD, hj]
  rfl
theorem ld_body {w : World} {b : Nat} {M : List Value} (h : VB w b M) (hl : M.length = 20) : (Instr.loadAt 75 (.pointer (some ⟨b, 0, none⟩))).run Try.prog w = .ok (.agg M.toArray) w :=
  run_loadAt_mid w b 0 75 M _ (vb_range h) Try.underlying75 rfl (by rw [hl]; exact szBody)
theorem st_body {w : World} {b : Nat} {M vs : List Value} (h : VB w b vs) (hv : vs.length = 20) (hl : M.length = 20) (ho : OneC M) : (Instr.storeAt 75 (.pointer (some ⟨b, 0, none⟩)) (.agg M.toArray)).run Try.prog w = .ok () (w.setCells b 0 M) :=
  run_storeAt_mid w b 0 75 M.toArray (there_of h (by simp [hv, hl])) (by rw [List.size_toArray, hl]; exact szBody) (all_oneCell_toArray ho)
theorem wp_valO {P : Program} {o : Oper} {a : Act} {w w' : World} {v : Value} {K : Act → World → Prop} {Q : Exit → Act → World → Prop} (hr : (execOp a.eval o).run P w = .ok (.value v) w') (h : K (a.put o.dst v) w') : o.wp P a w K Q := by
  unfold Oper.wp
  rw [hr]
  exact h
theorem wp_skipO {P : Program} {o : Oper} {a : Act} {w w' : World} {K : Act → World → Prop} {Q : Exit → Act → World → Prop} (hr : (execOp a.eval o).run P w = .ok .skip w') (h : K (a.put o.dst undef) w') : o.wp P a w K Q := by
  unfold Oper.wp
  rw [hr]
  exact h
theorem copy_reg {id d x y : Nat} {T1 T2 : TypeId} {p1 p2 : String} {after : Array Edge} {Q : Exit → Act → World → Prop} {a : Act} {w : World} {b0 b1 : Nat} {M vs : List Value}
    (hx : a.tmps[x]?.getD undef = .pointer (some ⟨b0, 0, none⟩)) (hy : a.tmps[y]?.getD undef = .pointer (some ⟨b1, 0, none⟩)) (hyd : ¬ y = d) (hd : d < a.tmps.size)
    (h0 : VB w b0 M) (h1 : VB w b1 vs) (hM : M.length = 20) (hvs : vs.length = 20) (ho : OneC M)
    (hQ : Q .normal ⟨a.tmps.setIfInBounds d (.agg M.toArray), a.defers⟩ (w.setCells b1 0 M)) :
    (Code.region id #[⟨some d, .load 75 (.tmp x), T1, p1, #[], none⟩, ⟨none, .store 75 (.tmp y) (.tmp d), T2, p2, after, none⟩] false).wp Try.prog Q a w := by
  have e1 := ld_body h0 hM
  have e2 := st_body h1 hvs hM ho
  refine wp_region ?_
  have hy' : (a.tmps.setIfInBounds d (.agg M.toArray))[y]?.getD undef = .pointer (some ⟨b1, 0, none⟩) := by
    rw [Array.getElem?_setIfInBounds_ne (fun e => hyd e.symm)]; exact hy
  have hd' : (a.tmps.setIfInBounds d (.agg M.toArray))[d]?.getD undef = .agg M.toArray := by simp [hd]
  show wpOps _ _ _ [0, 1] a w
  have r1 : (execOp a.eval ⟨some d, .load 75 (.tmp x), T1, p1, #[], none⟩).run Try.prog w = .ok (.value (.agg M.toArray)) w := by
    simp only [execOp, eval_tmp, hx]
    simp only [Sem.run_bind, e1]
    rfl
  have r2 : (execOp (Act.eval ⟨a.tmps.setIfInBounds d (.agg M.toArray), a.defers⟩) ⟨none, .store 75 (.tmp y) (.tmp d), T2, p2, after, none⟩).run Try.prog w = .ok .skip (w.setCells b1 0 M) := by
    simp only [execOp, eval_tmp, hy', hd']
    simp only [Sem.run_bind, e2]
    rfl
  rw [wpOps_cons]
  unfold wpOp
  refine (if_pos rfl).mpr (.inl ?_)
  refine wp_valO r1 ?_
  show wpOps _ _ _ [1] ⟨a.tmps.setIfInBounds d (.agg M.toArray), a.defers⟩ w
  rw [wpOps_cons]
  unfold wpOp
  refine (if_pos rfl).mpr (.inl ?_)
  exact wp_skipO r2 hQ
end Go.Proofs.Ytbpomeegpkdekaa
