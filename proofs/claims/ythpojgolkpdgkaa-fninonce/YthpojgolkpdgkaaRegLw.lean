/- A region of a law, all orders at once, where every value is known: the operations' ways. Conditions: those that each lemma names. -/
import Derived.Test.YthpojgolkpdgkaaRegs
import Derived.Test.YthpojgolkpdgkaaIBk
namespace Go.Proofs.Ythpojgolkpdgkaa
open Go.ChangeShapes Go.WideShapes Go.ChangeAt Go.RowKit Go.Joins Go.Deep
set_option linter.unusedVariables false
set_option linter.unusedSimpArgs false
set_option maxRecDepth 4000

/-- the world within a region of a law: nothing old has changed, the blocks that stand by are as they were -/
def LW (w0 : World) (L : List (Nat × List Int)) (n : Nat) (w : World) : Prop := Below w0.heap.size w0 w ∧ ∀ x ∈ L, IB w x.1 x.2
theorem LW.start {w0 w : World} {L : List (Nat × List Int)} (h : Below w0.heap.size w0 w) (hL : ∀ x ∈ L, IB w x.1 x.2) : LW w0 L 0 w := ⟨h, hL⟩
theorem LW.drew {w0 w : World} {L : List (Nat × List Int)} {n : Nat} (h : LW w0 L n w) : LW w0 L n w.drew := ⟨h.1.drew, fun x hx => (h.2 x hx).drew⟩
theorem LW.next {w0 w w' : World} {L : List (Nat × List Int)} {n m : Nat} (h : LW w0 L n w) (hb : Below w.heap.size w w') : LW w0 L m w' := ⟨h.1.trans (hb.mono h.1.size), fun x hx => (h.2 x hx).keep hb⟩
/-- what the operations leave: a value that is known, or nothing that is said of it -/
def Vf (vals : List (Option Value)) (j : Nat) (v : Value) (w : World) : Prop := ∀ x, vals.getD j none = some x → v = x
theorem vf_of {vals : List (Option Value)} {j : Nat} {v x : Value} {w : World} (h : vals.getD j none = some x) (e : v = x) : Vf vals j v w := fun y hy => by rw [h] at hy; rw [e]; exact Option.some.inj hy
section
variable {P : Program} {ops : Array Oper} {a0 : Act} {w0 : World} {L : List (Nat × List Int)} {vals : List (Option Value)}
/-- an operand whose value is known -/
def OV (ops : Array Oper) (a0 : Act) (vals : List (Option Value)) (o : Oper) (x : Operand) (v : Value) : Prop := ∀ a w, At ops a0 (Vf vals) o a w → a.eval x = v
theorem ov_const {o : Oper} (v : Value) : OV ops a0 vals o (.const v) v := fun a w _ => rfl
theorem ov_in {o : Oper} {s : Nat} {v : Value} (j : Nat) (hw : waits o j = true) (hs : (ops[j]?).bind (·.dst) = some s) (hv : vals.getD j none = some v) : OV ops a0 vals o (.tmp s) v := fun a w hat => by
  rw [eval_tmp]; exact at_in hat hw hs v hv
theorem ov_out {o : Oper} {s : Nat} {v : Value} (hf : fresh ops s = true) (hv : a0.tmps[s]?.getD undef = v) : OV ops a0 vals o (.tmp s) v := fun a w hat => by rw [eval_tmp]; exact at_out hat hf hv
theorem lw_val {i d : Nat} {op : Op} {ty : TypeId} {pos : String} {after : Array Edge} {g : Option (Nat × Bool)} {v : Value} (hv : vals.getD i none = some v)
    (h : ∀ n a w, LW w0 L n w → At ops a0 (Vf vals) ⟨some d, op, ty, pos, after, g⟩ a w → (execOp a.eval ⟨some d, op, ty, pos, after, g⟩).run P w = .ok (.value v) w) :
    ObW P ops a0 (Vf vals) (LW w0 L) i ⟨some d, op, ty, pos, after, g⟩ :=
  ob_val fun n a w hn hI hat => ⟨v, w, h n a w hI hat, vf_of hv rfl, hI, fun _ _ _ h => h⟩
theorem lw_move {i d : Nat} {x : Operand} {ty : TypeId} {pos : String} {after : Array Edge} {g : Option (Nat × Bool)} {v : Value} (hv : vals.getD i none = some v)
    (hx : OV ops a0 vals ⟨some d, .move x, ty, pos, after, g⟩ x v) : ObW P ops a0 (Vf vals) (LW w0 L) i ⟨some d, .move x, ty, pos, after, g⟩ :=
  lw_val hv fun n a w hI hat => by have := hx a w hat; simp only [execOp, this]; rfl
theorem lw_assign {i d : Nat} {x : Operand} {ty : TypeId} {pos : String} {after : Array Edge} {g : Option (Nat × Bool)} {v : Value} (hv : vals.getD i none = some v)
    (hx : OV ops a0 vals ⟨some d, .assign x, ty, pos, after, g⟩ x v) : ObW P ops a0 (Vf vals) (LW w0 L) i ⟨some d, .assign x, ty, pos, after, g⟩ :=
  lw_val hv fun n a w hI hat => by have := hx a w hat; simp only [execOp, this]; rfl
theorem lw_bin {i d : Nat} {op : BinOp} {T U : TypeId} {x y : Operand} {ty : TypeId} {pos : String} {after : Array Edge} {g : Option (Nat × Bool)} {v vx vy : Value}
    (hr : ∀ w, (do eqGuard op T x y vx vy; binOp op T vx vy : Sem Value).run P w = .ok v w)
    (hx : OV ops a0 vals ⟨some d, .binOp op T x y U, ty, pos, after, g⟩ x vx) (hy : OV ops a0 vals ⟨some d, .binOp op T x y U, ty, pos, after, g⟩ y vy) (hv : vals.getD i none = some v) :
    ObW P ops a0 (Vf vals) (LW w0 L) i ⟨some d, .binOp op T x y U, ty, pos, after, g⟩ :=
  lw_val hv fun n a w hI hat => by
    have h1 := hx a w hat
    have h2 := hy a w hat
    have := hr w
    simp only [execOp, h1, h2]
    simp only [Sem.run_bind, this]
    first | done | rfl | simp [this]
theorem lw_un {i d : Nat} {op : UnOp} {T : TypeId} {x : Operand} {ty : TypeId} {pos : String} {after : Array Edge} {g : Option (Nat × Bool)} {v vx : Value}
    (hr : ∀ w, (Op.unary op vx : Sem Value).run P w = .ok v w)
    (hx : OV ops a0 vals ⟨some d, .unOp op T x, ty, pos, after, g⟩ x vx) (hv : vals.getD i none = some v) :
    ObW P ops a0 (Vf vals) (LW w0 L) i ⟨some d, .unOp op T x, ty, pos, after, g⟩ :=
  lw_val hv fun n a w hI hat => by
    have h1 := hx a w hat
    have := hr w
    simp only [execOp, h1]
    simp only [Sem.run_bind, this]
    rfl
theorem lw_pick {i d : Nat} {c x y : Operand} {ty : TypeId} {pos : String} {after : Array Edge} {g : Option (Nat × Bool)} {v : Value} (b : Bool)
    (hc : OV ops a0 vals ⟨some d, .pick c x y, ty, pos, after, g⟩ c (.bool b)) (hx : OV ops a0 vals ⟨some d, .pick c x y, ty, pos, after, g⟩ (if b then x else y) v) (hv : vals.getD i none = some v) :
    ObW P ops a0 (Vf vals) (LW w0 L) i ⟨some d, .pick c x y, ty, pos, after, g⟩ :=
  lw_val hv fun n a w hI hat => by
    have h1 := hc a w hat
    have h2 : (if b then a.eval x else a.eval y) = v := by
      have := hx a w hat
      cases b <;> simpa using this
    simp only [execOp, h1]
    generalize a.eval x = X at *
    generalize a.eval y = Y at *
    cases b <;> simp at h2 <;> subst h2 <;> simp [go_sem, asBool]
theorem lw_load {i d : Nat} {T : TypeId} {x : Operand} {ty : TypeId} {pos : String} {after : Array Edge} {g : Option (Nat × Bool)} {v p : Value}
    (hr : ∀ w, (∀ x ∈ L, IB w x.1 x.2) → (Instr.loadAt T p).run P w = .ok v w)
    (hx : OV ops a0 vals ⟨some d, .load T x, ty, pos, after, g⟩ x p) (hv : vals.getD i none = some v) :
    ObW P ops a0 (Vf vals) (LW w0 L) i ⟨some d, .load T x, ty, pos, after, g⟩ :=
  lw_val hv fun n a w hI hat => by
    have h1 := hx a w hat
    have := hr w hI.2
    simp only [execOp, h1]
    simp only [Sem.run_bind, this]
    rfl
theorem lw_fieldAddr {i d k : Nat} {T : TypeId} {x : Operand} {ty : TypeId} {pos : String} {after : Array Edge} {g : Option (Nat × Bool)} {v p : Value}
    (hr : ∀ w, (Instr.fieldAt T p k).run P w = .ok v w)
    (hx : OV ops a0 vals ⟨some d, .fieldAddr T x k, ty, pos, after, g⟩ x p) (hv : vals.getD i none = some v) :
    ObW P ops a0 (Vf vals) (LW w0 L) i ⟨some d, .fieldAddr T x k, ty, pos, after, g⟩ :=
  lw_val hv fun n a w hI hat => by
    have h1 := hx a w hat
    have := hr w
    simp only [execOp, h1]
    simp only [Sem.run_bind, this]
    rfl
theorem lw_field {i d k : Nat} {T : TypeId} {x : Operand} {ty : TypeId} {pos : String} {after : Array Edge} {g : Option (Nat × Bool)} {v p : Value}
    (hr : ∀ w, (Instr.field T p k).run P w = .ok v w)
    (hx : OV ops a0 vals ⟨some d, .field T x k, ty, pos, after, g⟩ x p) (hv : vals.getD i none = some v) :
    ObW P ops a0 (Vf vals) (LW w0 L) i ⟨some d, .field T x k, ty, pos, after, g⟩ :=
  lw_val hv fun n a w hI hat => by
    have h1 := hx a w hat
    have := hr w
    simp only [execOp, h1]
    simp only [Sem.run_bind, this]
    rfl
theorem lw_extract {i d k : Nat} {x : Operand} {ty : TypeId} {pos : String} {after : Array Edge} {g : Option (Nat × Bool)} {v p : Value}
    (hr : ∀ w, (Instr.extract p k).run P w = .ok v w)
    (hx : OV ops a0 vals ⟨some d, .extract x k, ty, pos, after, g⟩ x p) (hv : vals.getD i none = some v) :
    ObW P ops a0 (Vf vals) (LW w0 L) i ⟨some d, .extract x k, ty, pos, after, g⟩ :=
  lw_val hv fun n a w hI hat => by
    have h1 := hx a w hat
    have := hr w
    simp only [execOp, h1]
    simp only [Sem.run_bind, this]
    rfl
/-- the operands of a call -/
def OVs (ops : Array Oper) (a0 : Act) (vals : List (Option Value)) (o : Oper) : List Operand → List Value → Prop
  | [], [] => True
  | x :: xs, v :: vs => OV ops a0 vals o x v ∧ OVs ops a0 vals o xs vs
  | _, _ => False
theorem OVs.at {o : Oper} {a : Act} {w : World} (hat : At ops a0 (Vf vals) o a w) : ∀ {xs : List Operand} {vs : List Value}, OVs ops a0 vals o xs vs → xs.map a.eval = vs
  | [], [], _ => rfl
  | x :: xs, v :: vs, h => by simp only [List.map_cons, h.1 a w hat, OVs.at hat h.2]
theorem lw_call {i d f : Nat} {args : List Operand} {vs : List Value} {tys : Array TypeId} {ty : TypeId} {pos : String} {after : Array Edge} {g : Option (Nat × Bool)} {v : Value}
    (hc : ∀ (xs : Array Value) (w : World), (callFunc f xs).run P w = .ok (.enter f xs) w)
    (hf : ∀ w, (∀ x ∈ L, IB w x.1 x.2) → Calls P f vs.toArray w fun e w' => e = .returned v ∧ Below w.heap.size w w')
    (hx : OVs ops a0 vals ⟨some d, .call ⟨.value (.func f), args.toArray, tys⟩, ty, pos, after, g⟩ args vs) (hv : vals.getD i none = some v) :
    ObW P ops a0 (Vf vals) (LW w0 L) i ⟨some d, .call ⟨.value (.func f), args.toArray, tys⟩, ty, pos, after, g⟩ := by
  refine ob_call hc fun n a w hn hI hat => ?_
  have e : args.toArray.map a.eval = vs.toArray := by rw [List.map_toArray, OVs.at hat hx]
  rw [e]
  refine (hf w hI.2).mono ?_
  rintro e w' ⟨rfl, hb⟩
  exact ⟨v, rfl, vf_of hv rfl, hI.next hb, fun _ _ _ h => h⟩
/-- an operation that its guard keeps away, of which nothing is said -/
theorem lw_off {i : Nat} {d : Option Tmp} {op : Op} {ty : TypeId} {pos : String} {after : Array Edge} (j : Nat) (b : Bool) (hw : waits ⟨d, op, ty, pos, after, some (j, b)⟩ j = true)
    (hF : vals.getD j none = some (.bool (!b))) (hi : vals.getD i none = none) : Ob P ops a0 (Vf vals) (LW w0 L) i ⟨d, op, ty, pos, after, some (j, b)⟩ :=
  ob_off j b hw (fun v w h => h _ hF) (fun w x hx => by rw [hi] at hx; cases hx) fun n w h => h
theorem lw_on {i : Nat} {d : Option Tmp} {op : Op} {ty : TypeId} {pos : String} {after : Array Edge} (j : Nat) (b : Bool) (hw : waits ⟨d, op, ty, pos, after, some (j, b)⟩ j = true)
    (hF : vals.getD j none = some (.bool b)) (h : ObW P ops a0 (Vf vals) (LW w0 L) i ⟨d, op, ty, pos, after, some (j, b)⟩) : Ob P ops a0 (Vf vals) (LW w0 L) i ⟨d, op, ty, pos, after, some (j, b)⟩ :=
  ob_on j b hw (fun v w h => h _ hF) h
/-- a law's region that draws its order -/
theorem region_law {Q : Exit → Act → World → Prop} {id : Nat} {w1 : World} (L : List (Nat × List Int)) (vals : List (Option Value)) (hm : P.follows .mixedOrders = true) (hok : opsOk ops a0.tmps.size = true) (hb : Below w0.heap.size w0 w1) (hL : ∀ x ∈ L, IB w1 x.1 x.2)
    (step : AllFrom (Ob P ops a0 (Vf vals) (LW w0 L)) 0 ops.toList)
    (fin : ∀ (u : Nat → Value) (w : World), Below w0.heap.size w0 w → (∀ x ∈ L, IB w x.1 x.2) → AllFrom (fun i o => Vf vals i ((o.dst.map u).getD undef) w) 0 ops.toList → Q .normal ⟨outTmps u ops.toList a0.tmps, a0.defers⟩ w) :
    (Code.region id ops true).wp P Q a0 w1 :=
  region_facts (Vf vals) (LW w0 L) hm hok (LW.drew ⟨hb, hL⟩) step fun u w hI hF => fin u w hI.1 hI.2 hF
end
end Go.Proofs.Ythpojgolkpdgkaa
