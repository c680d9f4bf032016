/- The operations of a plain region, one by one, where their runs are told by equations; of no program in particular. Conditions: no guards. -/
import Derived.Test.YtbpomeegpkdekaaRegs
namespace Go.Proofs.Ytbpomeegpkdekaa
open Go.ChangeShapes Go.WideShapes Go.ChangeAt Go.RowKit Go.Joins Go.Deep
set_option linter.unusedVariables false
set_option linter.unusedSimpArgs false
section
variable {P : Program} {ops : Array Oper} {Q : Exit → Act → World → Prop} {a : Act} {w w' : World} {i d s r : Nat} {rest : List Nat} {T : TypeId} {ty : TypeId} {pos : String} {after : Array Edge}
theorem ops_val {op : Op} {v : Value} (ho : ops[i]? = some ⟨some d, op, ty, pos, after, none⟩) (hr : (execOp a.eval ⟨some d, op, ty, pos, after, none⟩).run P w = .ok (.value v) w')
    (h : wpOps P ops Q rest ⟨a.tmps.setIfInBounds d v, a.defers⟩ w') : wpOps P ops Q (i :: rest) a w := by
  unfold wpOps
  rw [ho]
  refine (if_pos rfl).mpr (.inl ?_)
  unfold Oper.wp
  rw [hr]
  exact h
theorem ops_load {p v : Value} (ho : ops[i]? = some ⟨some d, .load T (.tmp s), ty, pos, after, none⟩) (hs : a.tmps[s]?.getD undef = p) (hr : (Instr.loadAt T p).run P w = .ok v w)
    (h : wpOps P ops Q rest ⟨a.tmps.setIfInBounds d v, a.defers⟩ w) : wpOps P ops Q (i :: rest) a w := by
  refine ops_val ho ?_ h
  simp only [execOp, eval_tmp, hs]
  simp only [Sem.run_bind, hr]
  rfl
theorem ops_store {p v : Value} (ho : ops[i]? = some ⟨none, .store T (.tmp s) (.tmp r), ty, pos, after, none⟩) (hs : a.tmps[s]?.getD undef = p) (hv : a.tmps[r]?.getD undef = v) (hr : (Instr.storeAt T p v).run P w = .ok () w')
    (h : wpOps P ops Q rest a w') : wpOps P ops Q (i :: rest) a w := by
  unfold wpOps
  rw [ho]
  refine (if_pos rfl).mpr (.inl ?_)
  unfold Oper.wp
  have e : (execOp a.eval ⟨none, .store T (.tmp s) (.tmp r), ty, pos, after, none⟩).run P w = .ok .skip w' := by
    simp only [execOp, eval_tmp, hs, hv]
    simp only [Sem.run_bind, hr]
    rfl
  rw [e]
  exact h
theorem ops_call {f : Nat} {l : List Operand} {tys : Array TypeId} {vs : List Value} (ho : ops[i]? = some ⟨some d, .call ⟨.value (.func f), l.toArray, tys⟩, ty, pos, after, none⟩)
    (hc : ∀ (xs : Array Value) (w : World), (callFunc f xs).run P w = .ok (.enter f xs) w) (hv : l.map a.eval = vs)
    (h : Calls P f vs.toArray w fun e w' => ∃ v, e = .returned v ∧ wpOps P ops Q rest ⟨a.tmps.setIfInBounds d v, a.defers⟩ w') : wpOps P ops Q (i :: rest) a w := by
  unfold wpOps
  rw [ho]
  refine (if_pos rfl).mpr (.inl ?_)
  subst hv
  unfold Oper.wp
  have e : (execOp a.eval ⟨some d, .call ⟨.value (.func f), l.toArray, tys⟩, ty, pos, after, none⟩).run P w = .ok (.enter f (l.toArray.map a.eval)) w := by
    simp [execOp, resolve, go_sem, Act.eval, hc]
  rw [e, List.map_toArray]
  refine Calls.mono h ?_
  rintro e w' ⟨v, rfl, hk⟩
  exact hk
theorem ops_mkfunc {fn : Fn} {l : List Operand} {vs : List Value} (ho : ops[i]? = some ⟨some d, .makeFunc fn #[] l.toArray, ty, pos, after, none⟩) (hv : l.map a.eval = vs)
    (h : wpOps P ops Q rest ⟨a.tmps.setIfInBounds d (.func fn #[] vs.toArray), a.defers⟩ w) : wpOps P ops Q (i :: rest) a w := by
  refine ops_val (v := .func fn #[] vs.toArray) ho ?_ h
  subst hv
  have hmf : ∀ (fn : Fn) (first cap : Array Value) (w : World), (Instr.makeFunc fn first cap).run P w = .ok (.func fn first cap) w := fun _ _ _ _ => rfl
  simp [execOp, Sem.run_bind, hmf, Result.andThen]
end
end Go.Proofs.Ytbpomeegpkdekaa
