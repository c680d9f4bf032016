/- A region of a draw where something more stands by than blocks of ints: structs with slices in them, rows of one's own. Conditions: those that each lemma names. -/
import Derived.Test.YtbpomeegpkdekaaRegTy
namespace Go.Proofs.Ytbpomeegpkdekaa
open Go.ChangeShapes Go.WideShapes Go.ChangeAt Go.RowKit Go.Joins Go.Deep
set_option linter.unusedVariables false
set_option linter.unusedSimpArgs false
set_option maxRecDepth 4000

/-- the world of a draw, and what else stands by -/
def DV (W w0 : World) (g lo p K : Nat) (Rs : List (Nat × Nat)) (X : World → Prop) (n : Nat) (w : World) : Prop := DW W w0 g lo p K Rs n w ∧ X w
/-- what stands by lasts where only the reader and what is new change -/
def Stands (g : Nat) (X : World → Prop) : Prop := ∀ w w', w.grownBy w' (some g) → X w → X w'
theorem DW.rebase {W w0 w : World} {g lo p K n : Nat} {Rs : List (Nat × Nat)} (h : DW W w0 g lo p K Rs n w) : DW W w g lo p K Rs n w :=
  ⟨h.1, grefl w g, Nat.le_trans h.2.2.1 h.2.2.2.1, Nat.le_refl _, h.2.2.2.2.1, h.2.2.2.2.2⟩
theorem DW.onto {W w0 w w' : World} {g lo p K n m : Nat} {Rs : List (Nat × Nat)} (h : DW W w0 g lo p K Rs n w) (h' : DW W w g lo p K Rs m w') : DW W w0 g lo p K Rs m w' :=
  ⟨h'.1, gtrans h.2.1 h'.2.1, h.2.2.1, Nat.le_trans h.2.2.2.1 h'.2.2.2.1, h'.2.2.2.2.1, h.2.2.2.2.2⟩
theorem DV.re {W w0 w : World} {g lo p p' K K' n : Nat} {Rs : List (Nat × Nat)} {X : World → Prop} (h : DV W w0 g lo p K Rs X n w) (hp : p + n * K ≤ p') : DV W w0 g lo p' K' Rs X 0 w := ⟨h.1.re hp, h.2⟩
theorem DV.drew {W w0 w : World} {g lo p K n : Nat} {Rs : List (Nat × Nat)} {X : World → Prop} (h : DV W w0 g lo p K Rs X n w) (hX : Stands g X) : DV W w0 g lo p K Rs X n w.drew := ⟨h.1.drew, hX _ _ (gdrew (grefl w g)) h.2⟩
section
variable {ops : Array Oper} {a0 : Act} {W w0 : World} {g lo p K : Nat} {Rs : List (Nat × Nat)} {tys : List Ty} {X : World → Prop}
/-- an operation that touches nothing that stands by -/
theorem dv_lift {i : Nat} {o : Oper} (hX : Stands g X) (h : ∀ w0 : World, lo ≤ w0.heap.size → ObW Try.prog ops a0 (Fs g lo tys) (DW W w0 g lo p K Rs) i o) :
    ObW Try.prog ops a0 (Fs g lo tys) (DV W w0 g lo p K Rs X) i o := by
  intro n a w hn hI hat
  refine Oper.wp_to ?_ (h w (Nat.le_trans hI.1.2.2.1 hI.1.2.2.2.1) n a w hn hI.1.rebase hat)
  rintro a' w' ⟨v, rfl, hv, hD, hF⟩
  exact ⟨v, rfl, hv, ⟨hI.1.onto hD, hX w w' hD.2.1 hI.2⟩, hF⟩
/-- an operation whose value is known where what stands by does -/
theorem dv_val {i d : Nat} {op : Op} {ty : TypeId} {pos : String} {after : Array Edge} {gd : Option (Nat × Bool)} {v : Value} (ht : tys.getD i .any = .is v)
    (h : ∀ a w, X w → At ops a0 (Fs g lo tys) ⟨some d, op, ty, pos, after, gd⟩ a w → (execOp a.eval ⟨some d, op, ty, pos, after, gd⟩).run Try.prog w = .ok (.value v) w) :
    ObW Try.prog ops a0 (Fs g lo tys) (DV W w0 g lo p K Rs X) i ⟨some d, op, ty, pos, after, gd⟩ :=
  ob_val fun n a w hn hI hat => ⟨v, w, h a w hI.2 hat, by unfold Fs; rw [ht]; rfl, ⟨hI.1.same, hI.2⟩, fun _ _ _ h => h⟩
theorem is_in {o : Oper} {s : Nat} {v : Value} {a : Act} {w : World} (j : Nat) (hat : At ops a0 (Fs g lo tys) o a w) (hw : waits o j = true) (hs : (ops[j]?).bind (·.dst) = some s) (ht : tys.getD j .any = .is v) : a.tmps[s]?.getD undef = v := fs_in hat hw hs ht
/-- a field of a struct whose place is known from outside -/
theorem rx_field {i d s k : Nat} {T : TypeId} {ty : TypeId} {pos : String} {after : Array Edge} {gd : Option (Nat × Bool)} {v u : Value}
    (hb : ∀ (w : World), (Instr.fieldAt T u k).run Try.prog w = .ok v w)
    (hf : fresh ops s = true) (hv : a0.tmps[s]?.getD undef = u) (ht : tys.getD i .any = .is v) :
    ObW Try.prog ops a0 (Fs g lo tys) (DV W w0 g lo p K Rs X) i ⟨some d, .fieldAddr T (.tmp s) k, ty, pos, after, gd⟩ :=
  dv_val ht fun a w hX hat => by
    have e := at_out hat hf hv
    have := hb w
    simp only [execOp, eval_tmp, e]
    simp only [Sem.run_bind, this]
    rfl
/-- what stands by is read -/
theorem rx_load {i d s : Nat} {T : TypeId} {ty : TypeId} {pos : String} {after : Array Edge} {gd : Option (Nat × Bool)} {v u : Value} (j : Nat)
    (hb : ∀ (w : World), X w → (Instr.loadAt T u).run Try.prog w = .ok v w)
    (hw : waits ⟨some d, .load T (.tmp s), ty, pos, after, gd⟩ j = true) (hs : (ops[j]?).bind (·.dst) = some s) (hj : tys.getD j .any = .is u) (ht : tys.getD i .any = .is v) :
    ObW Try.prog ops a0 (Fs g lo tys) (DV W w0 g lo p K Rs X) i ⟨some d, .load T (.tmp s), ty, pos, after, gd⟩ :=
  dv_val ht fun a w hX hat => by
    have e := is_in j hat hw hs hj
    have := hb w hX
    simp only [execOp, eval_tmp, e]
    simp only [Sem.run_bind, this]
    rfl
/-- an int of what stands by is read -/
theorem rx_loadI {i d s : Nat} {T : TypeId} {ty : TypeId} {pos : String} {after : Array Edge} {gd : Option (Nat × Bool)} {u : Value} (j : Nat)
    (hb : ∀ (w : World), X w → ∃ x : Int, (Instr.loadAt T u).run Try.prog w = .ok (.int .i64 x) w)
    (hw : waits ⟨some d, .load T (.tmp s), ty, pos, after, gd⟩ j = true) (hs : (ops[j]?).bind (·.dst) = some s) (hj : tys.getD j .any = .is u) (ht : tys.getD i .any = .int) :
    ObW Try.prog ops a0 (Fs g lo tys) (DV W w0 g lo p K Rs X) i ⟨some d, .load T (.tmp s), ty, pos, after, gd⟩ :=
  ob_val fun n a w hn hI hat => by
    have e := is_in j hat hw hs hj
    obtain ⟨x, this⟩ := hb w hI.2
    refine ⟨.int .i64 x, w, ?_, by unfold Fs; rw [ht]; exact ⟨x, rfl⟩, ⟨hI.1.same, hI.2⟩, fun _ _ _ h => h⟩
    simp only [execOp, eval_tmp, e]
    simp only [Sem.run_bind, this]
    rfl
/-- what stands by is read, off a place from outside -/
theorem rx_loadOut {i d s : Nat} {T : TypeId} {ty : TypeId} {pos : String} {after : Array Edge} {gd : Option (Nat × Bool)} {v u : Value}
    (hb : ∀ (w : World), X w → (Instr.loadAt T u).run Try.prog w = .ok v w)
    (hf : fresh ops s = true) (hv : a0.tmps[s]?.getD undef = u) (ht : tys.getD i .any = .is v) :
    ObW Try.prog ops a0 (Fs g lo tys) (DV W w0 g lo p K Rs X) i ⟨some d, .load T (.tmp s), ty, pos, after, gd⟩ :=
  dv_val ht fun a w hX hat => by
    have e := at_out hat hf hv
    have := hb w hX
    simp only [execOp, eval_tmp, e]
    simp only [Sem.run_bind, this]
    rfl
/-- a place of a row that stands by -/
theorem rx_idx {i d s r : Nat} {T : TypeId} {ty : TypeId} {pos : String} {after : Array Edge} {gd : Option (Nat × Bool)} {v u x : Value} (j l : Nat)
    (hb : ∀ (w : World), X w → (Instr.indexAt T u x).run Try.prog w = .ok v w)
    (hw : waits ⟨some d, .indexAddr T (.tmp s) (.tmp r), ty, pos, after, gd⟩ j = true) (hs : (ops[j]?).bind (·.dst) = some s) (hj : tys.getD j .any = .is u)
    (hw2 : waits ⟨some d, .indexAddr T (.tmp s) (.tmp r), ty, pos, after, gd⟩ l = true) (hs2 : (ops[l]?).bind (·.dst) = some r) (hl : tys.getD l .any = .is x) (ht : tys.getD i .any = .is v) :
    ObW Try.prog ops a0 (Fs g lo tys) (DV W w0 g lo p K Rs X) i ⟨some d, .indexAddr T (.tmp s) (.tmp r), ty, pos, after, gd⟩ :=
  dv_val ht fun a w hX hat => by
    have e := is_in j hat hw hs hj
    have e2 := is_in l hat hw2 hs2 hl
    have := hb w hX
    simp only [execOp, eval_tmp, e, e2]
    simp only [Sem.run_bind, this]
    rfl
/-- an int is stored into what stands by -/
theorem rx_store {i s r b k : Nat} {T : TypeId} {ty : TypeId} {pos : String} {after : Array Edge} {gd : Option (Nat × Bool)} (j : Nat) (hg : ¬ b = g) (hlo : lo ≤ b) (hlo' : w0.heap.size ≤ b)
    (hb : ∀ (w : World) (y : Int), X w → (Instr.storeAt T (.pointer (some ⟨b, k, none⟩)) (.int .i64 y)).run Try.prog w = .ok () (w.setCell ⟨b, k, none⟩ (.int .i64 y)) ∧ X (w.setCell ⟨b, k, none⟩ (.int .i64 y)))
    (hw : waits ⟨none, .store T (.tmp s) (.tmp r), ty, pos, after, gd⟩ j = true) (hs : (ops[j]?).bind (·.dst) = some s) (hj : tys.getD j .any = .is (.pointer (some ⟨b, k, none⟩)))
    (hO : OI ops a0 g lo tys ⟨none, .store T (.tmp s) (.tmp r), ty, pos, after, gd⟩ (.tmp r)) (ht : tys.getD i .any = .any) :
    ObW Try.prog ops a0 (Fs g lo tys) (DV W w0 g lo p K Rs X) i ⟨none, .store T (.tmp s) (.tmp r), ty, pos, after, gd⟩ := by
  refine ob_skip fun n a w hn hI hat => ?_
  obtain ⟨y, hy⟩ := hO a w hat
  rw [eval_tmp] at hy
  have e := is_in j hat hw hs hj
  obtain ⟨h1, h2⟩ := hb w y hI.2
  refine ⟨w.setCell ⟨b, k, none⟩ (.int .i64 y), ?_, ?_, ⟨(hI.1.set y hg hlo hlo').same, h2⟩, fs_mono (ext_set y)⟩
  · simp only [execOp, eval_tmp, e, hy]
    simp only [Sem.run_bind, h1]
    rfl
  · unfold Fs; rw [ht]; trivial
/-- the draw's pick, where something more stands by -/
theorem pick_dv (n : Int) {w : World} (h : DV W w0 g lo p K Rs X 0 w) (hX : Stands g X) (hp : p < 1000000) (n1 : 1 ≤ n) (n2 : n ≤ 1000000) :
    Calls Try.prog 48 #[.pointer (some ⟨g, 0, none⟩), .int .i64 n] w fun e w' => ∃ x : Int, e = .returned (.int .i64 x) ∧ 0 ≤ x ∧ x < n ∧ Hid (DV W w0 g lo (p + 1) K Rs X 0 w') := by
  refine (pick_dw n (h.1.rebase) hp n1 n2).mono ?_
  rintro e w' ⟨x, e1, e2, e3, D, -⟩
  exact ⟨x, e1, e2, e3, hid ⟨DW.onto ((h.1.re (p' := p + 1) (K' := K) (by simp))) D.out, hX w w' D.out.2.1 h.2⟩⟩
end
end Go.Proofs.Ytbpomeegpkdekaa
