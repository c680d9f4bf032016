/- A region, all orders at once, where of what is old some blocks alone are changed: each operation leaves what is said of it. Conditions: those that each lemma names. -/
import Derived.Test.YtbpomeegpkdekaaRegs
import Derived.Test.YtbpomeegpkdekaaChg
import Derived.Test.YtbpomeegpkdekaaVBk
namespace Go.Proofs.Ytbpomeegpkdekaa
open Go.ChangeShapes Go.WideShapes Go.ChangeAt Go.RowKit Go.Joins Go.Deep
set_option linter.unusedVariables false
set_option linter.unusedSimpArgs false
set_option maxRecDepth 4000

/-- what is said of the operations' values: a list, by number; it must last where nothing old changes -/
def Pg (ps : List (Value → World → Prop)) (j : Nat) (v : Value) (w : World) : Prop := (ps.getD j (fun _ _ => True)) v w
/-- what is said lasts -/
def LastsC (S : Nat → Prop) (p : Value → World → Prop) : Prop := ∀ v w w', Chg S w w' → p v w → p v w'
def AllLastC (S : Nat → Prop) : List (Value → World → Prop) → Prop
  | [] => True
  | p :: ps => LastsC S p ∧ AllLastC S ps
theorem AllLastC.at {S : Nat → Prop} : ∀ {ps : List (Value → World → Prop)}, AllLastC S ps → ∀ j, LastsC S (ps.getD j (fun _ _ => True))
  | [], _, j => fun v w w' _ _ => by simp
  | p :: ps, h, 0 => by simpa using h.1
  | p :: ps, h, j + 1 => by simpa using AllLastC.at h.2 j
theorem lastc_but {S : Nat → Prop} (p : Value → World → Prop) : ∀ {ps : List (Value → World → Prop)}, AllLastC S ps → ∀ j, j ≠ ps.length → LastsC S ((ps ++ [p]).getD j (fun _ _ => True))
  | [], _, 0, h => (h rfl).elim
  | [], _, j + 1, _ => fun v w w' _ _ => by simp
  | q :: ps, h, 0, _ => by simpa using h.1
  | q :: ps, h, j + 1, hj => by
    have := lastc_but p h.2 j (fun e => hj (by rw [e]; rfl))
    simpa using this
theorem lastc_val {S : Nat → Prop} (x : Value) : LastsC S (fun v _ => v = x) := fun _ _ _ _ h => h
theorem lastc_true {S : Nat → Prop} : LastsC S (fun _ _ => True) := fun _ _ _ _ h => h
/-- what is said lasts where nothing old changes -/
def LastB (p : Value → World → Prop) : Prop := ∀ v w w', Below w.heap.size w w' → p v w → p v w'
def AllLastB : List (Value → World → Prop) → Prop
  | [] => True
  | p :: ps => LastB p ∧ AllLastB ps
theorem AllLastB.at : ∀ {ps : List (Value → World → Prop)}, AllLastB ps → ∀ j, LastB (ps.getD j (fun _ _ => True))
  | [], _, j => fun v w w' _ _ => by simp
  | p :: ps, h, 0 => by simpa using h.1
  | p :: ps, h, j + 1 => by simpa using AllLastB.at h.2 j
theorem lastb_val (x : Value) : LastB (fun v _ => v = x) := fun _ _ _ _ h => h
theorem lastb_of {S : Nat → Prop} {ps : List (Value → World → Prop)} (h : AllLastC S ps) (j : Nat) : LastB (ps.getD j (fun _ _ => True)) := fun v w w' hb hp => h.at j v w w' (Chg.of_below hb) hp
/-- nothing old has changed since the region's beginning -/
def CW (S : Nat → Prop) (X : World → Prop) (w0 : World) (n : Nat) (w : World) : Prop := Chg S w0 w ∧ X w
section
variable {P : Program} {ops : Array Oper} {a0 : Act} {w0 : World} {ps : List (Value → World → Prop)} {S : Nat → Prop} {X : World → Prop}
/-- an operand whose value is known -/
def OC (ops : Array Oper) (a0 : Act) (ps : List (Value → World → Prop)) (o : Oper) (x : Operand) (v : Value) : Prop := ∀ a w, At ops a0 (Pg ps) o a w → a.eval x = v
theorem oc_const {o : Oper} (v : Value) : OC ops a0 ps o (.const v) v := fun a w _ => rfl
theorem oc_in {o : Oper} {s : Nat} {v : Value} (j : Nat) (hw : waits o j = true) (hs : (ops[j]?).bind (·.dst) = some s) (hv : ps.getD j (fun _ _ => True) = fun u _ => u = v) : OC ops a0 ps o (.tmp s) v := fun a w hat => by
  rw [eval_tmp]
  have h := at_in hat hw hs
  unfold Pg at h
  rw [hv] at h
  exact h
theorem oc_out {o : Oper} {s : Nat} {v : Value} (hf : fresh ops s = true) (hv : a0.tmps[s]?.getD undef = v) : OC ops a0 ps o (.tmp s) v := fun a w hat => by rw [eval_tmp]; exact at_out hat hf hv
/-- what is said of an operand that another operation has left -/
theorem oc_of {o : Oper} {s : Nat} {p : Value → World → Prop} (j : Nat) (hw : waits o j = true) (hs : (ops[j]?).bind (·.dst) = some s) (hp : ps.getD j (fun _ _ => True) = p) {a : Act} {w : World} (hat : At ops a0 (Pg ps) o a w) : p (a.eval (.tmp s)) w := by
  rw [eval_tmp]
  have h := at_in hat hw hs
  unfold Pg at h
  rwa [hp] at h
theorem cg_val {i d : Nat} {op : Op} {ty : TypeId} {pos : String} {after : Array Edge} {g : Option (Nat × Bool)} {v : Value} (hv : ps.getD i (fun _ _ => True) = fun u _ => u = v)
    (h : ∀ n a w, CW S X w0 n w → At ops a0 (Pg ps) ⟨some d, op, ty, pos, after, g⟩ a w → (execOp a.eval ⟨some d, op, ty, pos, after, g⟩).run P w = .ok (.value v) w) :
    ObW P ops a0 (Pg ps) (CW S X w0) i ⟨some d, op, ty, pos, after, g⟩ :=
  ob_val fun n a w hn hI hat => ⟨v, w, h n a w hI hat, by unfold Pg; rw [hv], hI, fun _ _ _ h => h⟩
theorem cg_move {i d : Nat} {x : Operand} {ty : TypeId} {pos : String} {after : Array Edge} {g : Option (Nat × Bool)} {v : Value} (hv : ps.getD i (fun _ _ => True) = fun u _ => u = v)
    (hx : OC ops a0 ps ⟨some d, .move x, ty, pos, after, g⟩ x v) : ObW P ops a0 (Pg ps) (CW S X w0) i ⟨some d, .move x, ty, pos, after, g⟩ :=
  cg_val hv fun n a w hI hat => by have := hx a w hat; simp only [execOp, this]; rfl
theorem cg_assign {i d : Nat} {x : Operand} {ty : TypeId} {pos : String} {after : Array Edge} {g : Option (Nat × Bool)} {v : Value} (hv : ps.getD i (fun _ _ => True) = fun u _ => u = v)
    (hx : OC ops a0 ps ⟨some d, .assign x, ty, pos, after, g⟩ x v) : ObW P ops a0 (Pg ps) (CW S X w0) i ⟨some d, .assign x, ty, pos, after, g⟩ :=
  cg_val hv fun n a w hI hat => by have := hx a w hat; simp only [execOp, this]; rfl
theorem cg_bin {i d : Nat} {op : BinOp} {T U : TypeId} {x y : Operand} {ty : TypeId} {pos : String} {after : Array Edge} {g : Option (Nat × Bool)} {v vx vy : Value}
    (hr : ∀ w, (do eqGuard op T x y vx vy; binOp op T vx vy : Sem Value).run P w = .ok v w)
    (hx : OC ops a0 ps ⟨some d, .binOp op T x y U, ty, pos, after, g⟩ x vx) (hy : OC ops a0 ps ⟨some d, .binOp op T x y U, ty, pos, after, g⟩ y vy) (hv : ps.getD i (fun _ _ => True) = fun u _ => u = v) :
    ObW P ops a0 (Pg ps) (CW S X w0) i ⟨some d, .binOp op T x y U, ty, pos, after, g⟩ :=
  cg_val hv fun n a w hI hat => by
    have h1 := hx a w hat
    have h2 := hy a w hat
    have := hr w
    simp only [execOp, h1, h2]
    simp only [Sem.run_bind, this]
    first | done | rfl | simp [this]
theorem cg_un {i d : Nat} {op : UnOp} {T : TypeId} {x : Operand} {ty : TypeId} {pos : String} {after : Array Edge} {g : Option (Nat × Bool)} {v vx : Value}
    (hr : ∀ w, (Op.unary op vx : Sem Value).run P w = .ok v w)
    (hx : OC ops a0 ps ⟨some d, .unOp op T x, ty, pos, after, g⟩ x vx) (hv : ps.getD i (fun _ _ => True) = fun u _ => u = v) :
    ObW P ops a0 (Pg ps) (CW S X w0) i ⟨some d, .unOp op T x, ty, pos, after, g⟩ :=
  cg_val hv fun n a w hI hat => by
    have h1 := hx a w hat
    have := hr w
    simp only [execOp, h1]
    simp only [Sem.run_bind, this]
    rfl
theorem cg_load {i d : Nat} {T : TypeId} {x : Operand} {ty : TypeId} {pos : String} {after : Array Edge} {g : Option (Nat × Bool)} {v p : Value}
    (hr : ∀ w, Chg S w0 w → (Instr.loadAt T p).run P w = .ok v w)
    (hx : OC ops a0 ps ⟨some d, .load T x, ty, pos, after, g⟩ x p) (hv : ps.getD i (fun _ _ => True) = fun u _ => u = v) :
    ObW P ops a0 (Pg ps) (CW S X w0) i ⟨some d, .load T x, ty, pos, after, g⟩ :=
  cg_val hv fun n a w hI hat => by
    have h1 := hx a w hat
    have := hr w hI.1
    simp only [execOp, h1]
    simp only [Sem.run_bind, this]
    rfl
theorem cg_fieldAddr {i d k : Nat} {T : TypeId} {x : Operand} {ty : TypeId} {pos : String} {after : Array Edge} {g : Option (Nat × Bool)} {v p : Value}
    (hr : ∀ w, (Instr.fieldAt T p k).run P w = .ok v w)
    (hx : OC ops a0 ps ⟨some d, .fieldAddr T x k, ty, pos, after, g⟩ x p) (hv : ps.getD i (fun _ _ => True) = fun u _ => u = v) :
    ObW P ops a0 (Pg ps) (CW S X w0) i ⟨some d, .fieldAddr T x k, ty, pos, after, g⟩ :=
  cg_val hv fun n a w hI hat => by
    have h1 := hx a w hat
    have := hr w
    simp only [execOp, h1]
    simp only [Sem.run_bind, this]
    rfl
theorem cg_idx {i d : Nat} {T : TypeId} {x y : Operand} {ty : TypeId} {pos : String} {after : Array Edge} {g : Option (Nat × Bool)} {v p q : Value}
    (hr : ∀ w, (Instr.indexAt T p q).run P w = .ok v w)
    (hx : OC ops a0 ps ⟨some d, .indexAddr T x y, ty, pos, after, g⟩ x p) (hy : OC ops a0 ps ⟨some d, .indexAddr T x y, ty, pos, after, g⟩ y q) (hv : ps.getD i (fun _ _ => True) = fun u _ => u = v) :
    ObW P ops a0 (Pg ps) (CW S X w0) i ⟨some d, .indexAddr T x y, ty, pos, after, g⟩ :=
  cg_val hv fun n a w hI hat => by
    have h1 := hx a w hat
    have h2 := hy a w hat
    have := hr w
    simp only [execOp, h1, h2]
    simp only [Sem.run_bind, this]
    rfl
theorem cg_sliceHi {i d : Nat} {T : TypeId} {x y : Operand} {ty : TypeId} {pos : String} {after : Array Edge} {g : Option (Nat × Bool)} {v p q : Value}
    (hr : ∀ w, (Instr.sliceAt T p none (some q) none).run P w = .ok v w)
    (hx : OC ops a0 ps ⟨some d, .slice T x none (some y) none, ty, pos, after, g⟩ x p) (hy : OC ops a0 ps ⟨some d, .slice T x none (some y) none, ty, pos, after, g⟩ y q) (hv : ps.getD i (fun _ _ => True) = fun u _ => u = v) :
    ObW P ops a0 (Pg ps) (CW S X w0) i ⟨some d, .slice T x none (some y) none, ty, pos, after, g⟩ :=
  cg_val hv fun n a w hI hat => by
    have h1 := hx a w hat
    have h2 := hy a w hat
    have := hr w
    simp only [execOp, h1, Option.map_none, Option.map_some, h2]
    simp only [Sem.run_bind, this]
    rfl
theorem cg_len {i d : Nat} {x : Operand} {tys : Array TypeId} {ty : TypeId} {pos : String} {after : Array Edge} {g : Option (Nat × Bool)} {a : Option Addr} {l c : Nat}
    (hr : ∀ w, (Builtin.len_ tys ty #[.slice a l c]).run P w = .ok (.int .i64 (l : Int)) w)
    (hx : OC ops a0 ps ⟨some d, .call ⟨.builtin .len, #[x], tys⟩, ty, pos, after, g⟩ x (.slice a l c)) (hv : ps.getD i (fun _ _ => True) = fun u _ => u = .int .i64 (l : Int)) :
    ObW P ops a0 (Pg ps) (CW S X w0) i ⟨some d, .call ⟨.builtin .len, #[x], tys⟩, ty, pos, after, g⟩ :=
  cg_val hv fun n act w hI hat => by
    have h1 := hx act w hat
    have e : (#[x].map act.eval) = #[.slice a l c] := by simp [h1]
    have := hr w
    simp only [execOp, resolve, e]
    go_simp
    all_goals simp only [this]
theorem cg_pick {i d : Nat} {c x y : Operand} {ty : TypeId} {pos : String} {after : Array Edge} {g : Option (Nat × Bool)} {v : Value} (b : Bool)
    (hc : OC ops a0 ps ⟨some d, .pick c x y, ty, pos, after, g⟩ c (.bool b)) (hx : OC ops a0 ps ⟨some d, .pick c x y, ty, pos, after, g⟩ (if b then x else y) v) (hv : ps.getD i (fun _ _ => True) = fun u _ => u = v) :
    ObW P ops a0 (Pg ps) (CW S X w0) i ⟨some d, .pick c x y, ty, pos, after, g⟩ :=
  cg_val hv fun n a w hI hat => by
    have h1 := hc a w hat
    have h2 : (if b then a.eval x else a.eval y) = v := by
      have := hx a w hat
      cases b <;> simpa using this
    simp only [execOp, h1]
    generalize a.eval x = X at *
    generalize a.eval y = Y at *
    cases b <;> simp at h2 <;> subst h2 <;> simp [go_sem, asBool]
/-- a call: its contract where the operands are what they are -/
theorem cg_call {i d f : Nat} {args : Array Operand} {tys : Array TypeId} {ty : TypeId} {pos : String} {after : Array Edge} {g : Option (Nat × Bool)}
    (hl : AllLastB ps) (hX : ∀ w w', Below w.heap.size w w' → X w → X w')
    (hc : ∀ (xs : Array Value) (w : World), (callFunc f xs).run P w = .ok (.enter f xs) w)
    (hf : ∀ a w, Chg S w0 w → At ops a0 (Pg ps) ⟨some d, .call ⟨.value (.func f), args, tys⟩, ty, pos, after, g⟩ a w →
      Calls P f (args.map a.eval) w fun e w' => ∃ v, e = .returned v ∧ (ps.getD i (fun _ _ => True)) v w' ∧ Below w.heap.size w w') :
    ObW P ops a0 (Pg ps) (CW S X w0) i ⟨some d, .call ⟨.value (.func f), args, tys⟩, ty, pos, after, g⟩ := by
  refine ob_call hc fun n a w hn hI hat => ?_
  refine (hf a w hI.1 hat).mono ?_
  rintro e w' ⟨v, rfl, hp, hb⟩
  exact ⟨v, rfl, hp, ⟨Chg.trans hI.1 (Chg.of_below hb), hX w w' hb hI.2⟩, fun j u _ h => hl.at j u w w' hb h⟩
/-- an operation without a value: a store -/
theorem cg_skip {i : Nat} {op : Op} {ty : TypeId} {pos : String} {after : Array Edge} {g : Option (Nat × Bool)} (hl : ∀ j, j ≠ i → LastsC S (ps.getD j (fun _ _ => True)))
    (h : ∀ a w, Chg S w0 w → X w → At ops a0 (Pg ps) ⟨none, op, ty, pos, after, g⟩ a w → ∃ w', (execOp a.eval ⟨none, op, ty, pos, after, g⟩).run P w = .ok .skip w' ∧ Chg S w w' ∧ X w' ∧ (ps.getD i (fun _ _ => True)) undef w') :
    ObW P ops a0 (Pg ps) (CW S X w0) i ⟨none, op, ty, pos, after, g⟩ :=
  ob_skip fun n a w hn hI hat => by
    obtain ⟨w', hr, hc, hx, hp⟩ := h a w hI.1 hI.2 hat
    exact ⟨w', hr, hp, ⟨Chg.trans hI.1 hc, hx⟩, fun j u hne h => hl j hne u w w' hc h⟩
/-- an operation whose value is told by what is said of it, in the same world -/
theorem cg_some {i d : Nat} {op : Op} {ty : TypeId} {pos : String} {after : Array Edge} {g : Option (Nat × Bool)}
    (h : ∀ a w, Chg S w0 w → At ops a0 (Pg ps) ⟨some d, op, ty, pos, after, g⟩ a w → ∃ v, (execOp a.eval ⟨some d, op, ty, pos, after, g⟩).run P w = .ok (.value v) w ∧ (ps.getD i (fun _ _ => True)) v w) :
    ObW P ops a0 (Pg ps) (CW S X w0) i ⟨some d, op, ty, pos, after, g⟩ :=
  ob_val fun n a w hn hI hat => by
    obtain ⟨v, hr, hp⟩ := h a w hI.1 hat
    exact ⟨v, w, hr, hp, hI, fun _ _ _ h => h⟩
/-- an operation that its guard keeps away, of which nothing is said -/
theorem cg_off {i : Nat} {d : Option Tmp} {op : Op} {ty : TypeId} {pos : String} {after : Array Edge} (j : Nat) (b : Bool) (hw : waits ⟨d, op, ty, pos, after, some (j, b)⟩ j = true)
    (hF : ps.getD j (fun _ _ => True) = fun u _ => u = .bool (!b)) (hi : ps.getD i (fun _ _ => True) = fun _ _ => True) : Ob P ops a0 (Pg ps) (CW S X w0) i ⟨d, op, ty, pos, after, some (j, b)⟩ :=
  ob_off j b hw (fun v w h => by unfold Pg at h; rw [hF] at h; exact h) (fun w => by unfold Pg; rw [hi]; trivial) fun n w h => h
theorem cg_on {i : Nat} {d : Option Tmp} {op : Op} {ty : TypeId} {pos : String} {after : Array Edge} (j : Nat) (b : Bool) (hw : waits ⟨d, op, ty, pos, after, some (j, b)⟩ j = true)
    (hF : ps.getD j (fun _ _ => True) = fun u _ => u = .bool b) (h : ObW P ops a0 (Pg ps) (CW S X w0) i ⟨d, op, ty, pos, after, some (j, b)⟩) : Ob P ops a0 (Pg ps) (CW S X w0) i ⟨d, op, ty, pos, after, some (j, b)⟩ :=
  ob_on j b hw (fun v w h => by unfold Pg at h; rw [hF] at h; exact h) h
/-- a law's region that draws its order -/
theorem region_cg {Q : Exit → Act → World → Prop} {id : Nat} (ps : List (Value → World → Prop)) (hm : P.follows .mixedOrders = true) (hok : opsOk ops a0.tmps.size = true) (h0 : X w0.drew)
    (step : AllFrom (Ob P ops a0 (Pg ps) (CW S X w0)) 0 ops.toList)
    (fin : ∀ (u : Nat → Value) (w : World), Chg S w0 w → X w → AllFrom (fun i o => Pg ps i ((o.dst.map u).getD undef) w) 0 ops.toList → Q .normal ⟨outTmps u ops.toList a0.tmps, a0.defers⟩ w) :
    (Code.region id ops true).wp P Q a0 w0 :=
  region_facts (Pg ps) (CW S X w0) hm hok ⟨Chg.of_below ((Below.refl w0.heap.size w0).drew), h0⟩ step fun u w hI hF => fin u w hI.1 hI.2 hF
/-- one that draws nothing -/
theorem region_cgp {Q : Exit → Act → World → Prop} {id : Nat} (ps : List (Value → World → Prop)) (hok : opsOk ops a0.tmps.size = true) (h0 : X w0)
    (step : AllFrom (Ob P ops a0 (Pg ps) (CW S X w0)) 0 ops.toList)
    (fin : ∀ (u : Nat → Value) (w : World), Chg S w0 w → X w → AllFrom (fun i o => Pg ps i ((o.dst.map u).getD undef) w) 0 ops.toList → Q .normal ⟨outTmps u ops.toList a0.tmps, a0.defers⟩ w) :
    (Code.region id ops false).wp P Q a0 w0 :=
  region_plain (Pg ps) (CW S X w0) hok ⟨Chg.refl S w0, h0⟩ step fun u w hI hF => fin u w hI.1 hI.2 hF
end
end Go.Proofs.Ytbpomeegpkdekaa
