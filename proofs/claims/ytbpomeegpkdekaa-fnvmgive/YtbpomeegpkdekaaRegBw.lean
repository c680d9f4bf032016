/- A region of a law, all orders at once, where nothing old is changed: each operation leaves what is said of it. Conditions: those that each lemma names. -/
import Derived.Test.YtbpomeegpkdekaaRegs
namespace Go.Proofs.Ytbpomeegpkdekaa
open Go.ChangeShapes Go.WideShapes Go.ChangeAt Go.RowKit Go.Joins Go.Deep
set_option linter.unusedVariables false
set_option linter.unusedSimpArgs false
set_option maxRecDepth 4000

/-- what is said of the operations' values: a list, by number; it must last where nothing old changes -/
def Pf (ps : List (Value → World → Prop)) (j : Nat) (v : Value) (w : World) : Prop := (ps.getD j (fun _ _ => True)) v w
/-- what is said lasts -/
def Lasts (p : Value → World → Prop) : Prop := ∀ v w w', Below w.heap.size w w' → p v w → p v w'
def AllLast : List (Value → World → Prop) → Prop
  | [] => True
  | p :: ps => Lasts p ∧ AllLast ps
theorem AllLast.at : ∀ {ps : List (Value → World → Prop)}, AllLast ps → ∀ j, Lasts (ps.getD j (fun _ _ => True))
  | [], _, j => fun v w w' _ _ => by simp
  | p :: ps, h, 0 => by simpa using h.1
  | p :: ps, h, j + 1 => by simpa using AllLast.at h.2 j
theorem lasts_val (x : Value) : Lasts (fun v _ => v = x) := fun _ _ _ _ h => h
theorem lasts_true : Lasts (fun _ _ => True) := fun _ _ _ _ h => h
/-- nothing old has changed since the region's beginning -/
def BW (w0 : World) (n : Nat) (w : World) : Prop := Below w0.heap.size w0 w
section
variable {P : Program} {ops : Array Oper} {a0 : Act} {w0 : World} {ps : List (Value → World → Prop)}
/-- an operand whose value is known -/
def OK (ops : Array Oper) (a0 : Act) (ps : List (Value → World → Prop)) (o : Oper) (x : Operand) (v : Value) : Prop := ∀ a w, At ops a0 (Pf ps) o a w → a.eval x = v
theorem ok_const {o : Oper} (v : Value) : OK ops a0 ps o (.const v) v := fun a w _ => rfl
theorem ok_in {o : Oper} {s : Nat} {v : Value} (j : Nat) (hw : waits o j = true) (hs : (ops[j]?).bind (·.dst) = some s) (hv : ps.getD j (fun _ _ => True) = fun u _ => u = v) : OK ops a0 ps o (.tmp s) v := fun a w hat => by
  rw [eval_tmp]
  have h := at_in hat hw hs
  unfold Pf at h
  rw [hv] at h
  exact h
theorem ok_out {o : Oper} {s : Nat} {v : Value} (hf : fresh ops s = true) (hv : a0.tmps[s]?.getD undef = v) : OK ops a0 ps o (.tmp s) v := fun a w hat => by rw [eval_tmp]; exact at_out hat hf hv
/-- what is said of an operand that another operation has left -/
theorem ok_of {o : Oper} {s : Nat} {p : Value → World → Prop} (j : Nat) (hw : waits o j = true) (hs : (ops[j]?).bind (·.dst) = some s) (hp : ps.getD j (fun _ _ => True) = p) {a : Act} {w : World} (hat : At ops a0 (Pf ps) o a w) : p (a.eval (.tmp s)) w := by
  rw [eval_tmp]
  have h := at_in hat hw hs
  unfold Pf at h
  rwa [hp] at h
theorem bw_val {i d : Nat} {op : Op} {ty : TypeId} {pos : String} {after : Array Edge} {g : Option (Nat × Bool)} {v : Value} (hv : ps.getD i (fun _ _ => True) = fun u _ => u = v)
    (h : ∀ n a w, BW w0 n w → At ops a0 (Pf ps) ⟨some d, op, ty, pos, after, g⟩ a w → (execOp a.eval ⟨some d, op, ty, pos, after, g⟩).run P w = .ok (.value v) w) :
    ObW P ops a0 (Pf ps) (BW w0) i ⟨some d, op, ty, pos, after, g⟩ :=
  ob_val fun n a w hn hI hat => ⟨v, w, h n a w hI hat, by unfold Pf; rw [hv], hI, fun _ _ _ h => h⟩
theorem bw_move {i d : Nat} {x : Operand} {ty : TypeId} {pos : String} {after : Array Edge} {g : Option (Nat × Bool)} {v : Value} (hv : ps.getD i (fun _ _ => True) = fun u _ => u = v)
    (hx : OK ops a0 ps ⟨some d, .move x, ty, pos, after, g⟩ x v) : ObW P ops a0 (Pf ps) (BW w0) i ⟨some d, .move x, ty, pos, after, g⟩ :=
  bw_val hv fun n a w hI hat => by have := hx a w hat; simp only [execOp, this]; rfl
theorem bw_assign {i d : Nat} {x : Operand} {ty : TypeId} {pos : String} {after : Array Edge} {g : Option (Nat × Bool)} {v : Value} (hv : ps.getD i (fun _ _ => True) = fun u _ => u = v)
    (hx : OK ops a0 ps ⟨some d, .assign x, ty, pos, after, g⟩ x v) : ObW P ops a0 (Pf ps) (BW w0) i ⟨some d, .assign x, ty, pos, after, g⟩ :=
  bw_val hv fun n a w hI hat => by have := hx a w hat; simp only [execOp, this]; rfl
theorem bw_bin {i d : Nat} {op : BinOp} {T U : TypeId} {x y : Operand} {ty : TypeId} {pos : String} {after : Array Edge} {g : Option (Nat × Bool)} {v vx vy : Value}
    (hr : ∀ w, (do eqGuard op T x y vx vy; binOp op T vx vy : Sem Value).run P w = .ok v w)
    (hx : OK ops a0 ps ⟨some d, .binOp op T x y U, ty, pos, after, g⟩ x vx) (hy : OK ops a0 ps ⟨some d, .binOp op T x y U, ty, pos, after, g⟩ y vy) (hv : ps.getD i (fun _ _ => True) = fun u _ => u = v) :
    ObW P ops a0 (Pf ps) (BW w0) i ⟨some d, .binOp op T x y U, ty, pos, after, g⟩ :=
  bw_val hv fun n a w hI hat => by
    have h1 := hx a w hat
    have h2 := hy a w hat
    have := hr w
    simp only [execOp, h1, h2]
    simp only [Sem.run_bind, this]
    first | done | rfl | simp [this]
theorem bw_un {i d : Nat} {op : UnOp} {T : TypeId} {x : Operand} {ty : TypeId} {pos : String} {after : Array Edge} {g : Option (Nat × Bool)} {v vx : Value}
    (hr : ∀ w, (Op.unary op vx : Sem Value).run P w = .ok v w)
    (hx : OK ops a0 ps ⟨some d, .unOp op T x, ty, pos, after, g⟩ x vx) (hv : ps.getD i (fun _ _ => True) = fun u _ => u = v) :
    ObW P ops a0 (Pf ps) (BW w0) i ⟨some d, .unOp op T x, ty, pos, after, g⟩ :=
  bw_val hv fun n a w hI hat => by
    have h1 := hx a w hat
    have := hr w
    simp only [execOp, h1]
    simp only [Sem.run_bind, this]
    rfl
theorem bw_load {i d : Nat} {T : TypeId} {x : Operand} {ty : TypeId} {pos : String} {after : Array Edge} {g : Option (Nat × Bool)} {v p : Value}
    (hr : ∀ w, Below w0.heap.size w0 w → (Instr.loadAt T p).run P w = .ok v w)
    (hx : OK ops a0 ps ⟨some d, .load T x, ty, pos, after, g⟩ x p) (hv : ps.getD i (fun _ _ => True) = fun u _ => u = v) :
    ObW P ops a0 (Pf ps) (BW w0) i ⟨some d, .load T x, ty, pos, after, g⟩ :=
  bw_val hv fun n a w hI hat => by
    have h1 := hx a w hat
    have := hr w hI
    simp only [execOp, h1]
    simp only [Sem.run_bind, this]
    rfl
theorem bw_fieldAddr {i d k : Nat} {T : TypeId} {x : Operand} {ty : TypeId} {pos : String} {after : Array Edge} {g : Option (Nat × Bool)} {v p : Value}
    (hr : ∀ w, (Instr.fieldAt T p k).run P w = .ok v w)
    (hx : OK ops a0 ps ⟨some d, .fieldAddr T x k, ty, pos, after, g⟩ x p) (hv : ps.getD i (fun _ _ => True) = fun u _ => u = v) :
    ObW P ops a0 (Pf ps) (BW w0) i ⟨some d, .fieldAddr T x k, ty, pos, after, g⟩ :=
  bw_val hv fun n a w hI hat => by
    have h1 := hx a w hat
    have := hr w
    simp only [execOp, h1]
    simp only [Sem.run_bind, this]
    rfl
theorem bw_idx {i d : Nat} {T : TypeId} {x y : Operand} {ty : TypeId} {pos : String} {after : Array Edge} {g : Option (Nat × Bool)} {v p q : Value}
    (hr : ∀ w, (Instr.indexAt T p q).run P w = .ok v w)
    (hx : OK ops a0 ps ⟨some d, .indexAddr T x y, ty, pos, after, g⟩ x p) (hy : OK ops a0 ps ⟨some d, .indexAddr T x y, ty, pos, after, g⟩ y q) (hv : ps.getD i (fun _ _ => True) = fun u _ => u = v) :
    ObW P ops a0 (Pf ps) (BW w0) i ⟨some d, .indexAddr T x y, ty, pos, after, g⟩ :=
  bw_val hv fun n a w hI hat => by
    have h1 := hx a w hat
    have h2 := hy a w hat
    have := hr w
    simp only [execOp, h1, h2]
    simp only [Sem.run_bind, this]
    rfl
theorem bw_sliceHi {i d : Nat} {T : TypeId} {x y : Operand} {ty : TypeId} {pos : String} {after : Array Edge} {g : Option (Nat × Bool)} {v p q : Value}
    (hr : ∀ w, (Instr.sliceAt T p none (some q) none).run P w = .ok v w)
    (hx : OK ops a0 ps ⟨some d, .slice T x none (some y) none, ty, pos, after, g⟩ x p) (hy : OK ops a0 ps ⟨some d, .slice T x none (some y) none, ty, pos, after, g⟩ y q) (hv : ps.getD i (fun _ _ => True) = fun u _ => u = v) :
    ObW P ops a0 (Pf ps) (BW w0) i ⟨some d, .slice T x none (some y) none, ty, pos, after, g⟩ :=
  bw_val hv fun n a w hI hat => by
    have h1 := hx a w hat
    have h2 := hy a w hat
    have := hr w
    simp only [execOp, h1, Option.map_none, Option.map_some, h2]
    simp only [Sem.run_bind, this]
    rfl
theorem bw_len {i d : Nat} {x : Operand} {tys : Array TypeId} {ty : TypeId} {pos : String} {after : Array Edge} {g : Option (Nat × Bool)} {a : Option Addr} {l c : Nat}
    (hr : ∀ w, (Builtin.len_ tys ty #[.slice a l c]).run P w = .ok (.int .i64 (l : Int)) w)
    (hx : OK ops a0 ps ⟨some d, .call ⟨.builtin .len, #[x], tys⟩, ty, pos, after, g⟩ x (.slice a l c)) (hv : ps.getD i (fun _ _ => True) = fun u _ => u = .int .i64 (l : Int)) :
    ObW P ops a0 (Pf ps) (BW w0) i ⟨some d, .call ⟨.builtin .len, #[x], tys⟩, ty, pos, after, g⟩ :=
  bw_val hv fun n act w hI hat => by
    have h1 := hx act w hat
    have e : (#[x].map act.eval) = #[.slice a l c] := by simp [h1]
    have := hr w
    simp only [execOp, resolve, e]
    go_simp
    all_goals simp only [this]
theorem bw_pick {i d : Nat} {c x y : Operand} {ty : TypeId} {pos : String} {after : Array Edge} {g : Option (Nat × Bool)} {v : Value} (b : Bool)
    (hc : OK ops a0 ps ⟨some d, .pick c x y, ty, pos, after, g⟩ c (.bool b)) (hx : OK ops a0 ps ⟨some d, .pick c x y, ty, pos, after, g⟩ (if b then x else y) v) (hv : ps.getD i (fun _ _ => True) = fun u _ => u = v) :
    ObW P ops a0 (Pf ps) (BW w0) i ⟨some d, .pick c x y, ty, pos, after, g⟩ :=
  bw_val hv fun n a w hI hat => by
    have h1 := hc a w hat
    have h2 : (if b then a.eval x else a.eval y) = v := by
      have := hx a w hat
      cases b <;> simpa using this
    simp only [execOp, h1]
    generalize a.eval x = X at *
    generalize a.eval y = Y at *
    cases b <;> simp at h2 <;> subst h2 <;> simp [go_sem, asBool]
/-- a call: its contract where the operands are what they are -/
theorem bw_call {i d f : Nat} {args : Array Operand} {tys : Array TypeId} {ty : TypeId} {pos : String} {after : Array Edge} {g : Option (Nat × Bool)}
    (hl : AllLast ps)
    (hc : ∀ (xs : Array Value) (w : World), (callFunc f xs).run P w = .ok (.enter f xs) w)
    (hf : ∀ a w, Below w0.heap.size w0 w → At ops a0 (Pf ps) ⟨some d, .call ⟨.value (.func f), args, tys⟩, ty, pos, after, g⟩ a w →
      Calls P f (args.map a.eval) w fun e w' => ∃ v, e = .returned v ∧ (ps.getD i (fun _ _ => True)) v w' ∧ Below w.heap.size w w') :
    ObW P ops a0 (Pf ps) (BW w0) i ⟨some d, .call ⟨.value (.func f), args, tys⟩, ty, pos, after, g⟩ := by
  refine ob_call hc fun n a w hn hI hat => ?_
  refine (hf a w hI hat).mono ?_
  rintro e w' ⟨v, rfl, hp, hb⟩
  exact ⟨v, rfl, hp, Below.trans hI (hb.mono (Below.size hI)), fun j u _ h => hl.at j u w w' hb h⟩
/-- an operation that its guard keeps away, of which nothing is said -/
theorem bw_off {i : Nat} {d : Option Tmp} {op : Op} {ty : TypeId} {pos : String} {after : Array Edge} (j : Nat) (b : Bool) (hw : waits ⟨d, op, ty, pos, after, some (j, b)⟩ j = true)
    (hF : ps.getD j (fun _ _ => True) = fun u _ => u = .bool (!b)) (hi : ps.getD i (fun _ _ => True) = fun _ _ => True) : Ob P ops a0 (Pf ps) (BW w0) i ⟨d, op, ty, pos, after, some (j, b)⟩ :=
  ob_off j b hw (fun v w h => by unfold Pf at h; rw [hF] at h; exact h) (fun w => by unfold Pf; rw [hi]; trivial) fun n w h => h
theorem bw_on {i : Nat} {d : Option Tmp} {op : Op} {ty : TypeId} {pos : String} {after : Array Edge} (j : Nat) (b : Bool) (hw : waits ⟨d, op, ty, pos, after, some (j, b)⟩ j = true)
    (hF : ps.getD j (fun _ _ => True) = fun u _ => u = .bool b) (h : ObW P ops a0 (Pf ps) (BW w0) i ⟨d, op, ty, pos, after, some (j, b)⟩) : Ob P ops a0 (Pf ps) (BW w0) i ⟨d, op, ty, pos, after, some (j, b)⟩ :=
  ob_on j b hw (fun v w h => by unfold Pf at h; rw [hF] at h; exact h) h
/-- a law's region that draws its order -/
theorem region_bw {Q : Exit → Act → World → Prop} {id : Nat} (ps : List (Value → World → Prop)) (hm : P.follows .mixedOrders = true) (hok : opsOk ops a0.tmps.size = true)
    (step : AllFrom (Ob P ops a0 (Pf ps) (BW w0)) 0 ops.toList)
    (fin : ∀ (u : Nat → Value) (w : World), Below w0.heap.size w0 w → AllFrom (fun i o => Pf ps i ((o.dst.map u).getD undef) w) 0 ops.toList → Q .normal ⟨outTmps u ops.toList a0.tmps, a0.defers⟩ w) :
    (Code.region id ops true).wp P Q a0 w0 :=
  region_facts (Pf ps) (BW w0) hm hok ((Below.refl w0.heap.size w0).drew) step fun u w hI hF => fin u w hI hF
/-- one that draws nothing -/
theorem region_bwp {Q : Exit → Act → World → Prop} {id : Nat} (ps : List (Value → World → Prop)) (hok : opsOk ops a0.tmps.size = true)
    (step : AllFrom (Ob P ops a0 (Pf ps) (BW w0)) 0 ops.toList)
    (fin : ∀ (u : Nat → Value) (w : World), Below w0.heap.size w0 w → AllFrom (fun i o => Pf ps i ((o.dst.map u).getD undef) w) 0 ops.toList → Q .normal ⟨outTmps u ops.toList a0.tmps, a0.defers⟩ w) :
    (Code.region id ops false).wp P Q a0 w0 :=
  region_plain (Pf ps) (BW w0) hok (Below.refl w0.heap.size w0) step fun u w hI hF => fin u w hI hF
end
end Go.Proofs.Ytbpomeegpkdekaa
