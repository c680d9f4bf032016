/- Kinds of values that a draw has in its slots, and what its operations make of them, in a region that draws its order. Conditions: those that each lemma names. -/
import Derived.Test.YtbpomeegpkdekaaDrawRdr
namespace Go.Proofs.Ytbpomeegpkdekaa
open Go.ChangeShapes Go.WideShapes Go.ChangeAt Go.RowKit Go.Joins Go.Deep
set_option linter.unusedVariables false
set_option linter.unusedSimpArgs false
set_option maxRecDepth 4000

/-- a block of n ints, not the reader's, no older than lo -/
def Good (g lo : Nat) (w : World) (b n : Nat) : Prop := ¬ b = g ∧ lo ≤ b ∧ ∃ xs : List Int, xs.length = n ∧ IB w b xs
/-- all blocks of ints stay blocks of ints -/
def Ext (g lo : Nat) (w w' : World) : Prop := ∀ b n, Good g lo w b n → Good g lo w' b n
theorem Good.low {g lo lo' : Nat} {w : World} {b n : Nat} (h : Good g lo' w b n) (hl : lo ≤ lo') : Good g lo w b n := ⟨h.1, by have := h.2.1; omega, h.2.2⟩
/-- kinds of values: what a value is, and that it stays so -/
structure Ty where
  sem : Nat → Nat → Value → World → Prop
  mono : ∀ {g lo : Nat} {w w' : World} {v : Value}, Ext g lo w w' → sem g lo v w → sem g lo v w'
  low : ∀ {g lo lo' : Nat} {w : World} {v : Value}, lo ≤ lo' → sem g lo' v w → sem g lo v w
def Ty.any : Ty := ⟨fun _ _ _ _ => True, fun _ h => h, fun _ h => h⟩
def Ty.is (u : Value) : Ty := ⟨fun _ _ v _ => v = u, fun _ h => h, fun _ h => h⟩
def Ty.int : Ty := ⟨fun _ _ v _ => ∃ x : Int, v = .int .i64 x, fun _ h => h, fun _ h => h⟩
def Ty.rng (n : Nat) : Ty := ⟨fun _ _ v _ => ∃ x : Int, v = .int .i64 x ∧ 0 ≤ x ∧ x < (n : Int), fun _ h => h, fun _ h => h⟩
def Ty.bool : Ty := ⟨fun _ _ v _ => ∃ b, v = .bool b, fun _ h => h, fun _ h => h⟩
def Ty.row (n : Nat) : Ty := ⟨fun g lo v w => ∃ b, v = .slice (some ⟨b, 0, none⟩) n n ∧ Good g lo w b n, fun h ⟨b, h1, h2⟩ => ⟨b, h1, h _ _ h2⟩, fun hl ⟨b, h1, h2⟩ => ⟨b, h1, h2.low hl⟩⟩
def Ty.at : Ty := ⟨fun g lo v w => ∃ b k n, v = .pointer (some ⟨b, k, none⟩) ∧ k < n ∧ Good g lo w b n, fun h ⟨b, k, n, h1, h2, h3⟩ => ⟨b, k, n, h1, h2, h _ _ h3⟩, fun hl ⟨b, k, n, h1, h2, h3⟩ => ⟨b, k, n, h1, h2, h3.low hl⟩⟩
def Ty.blk (n : Nat) : Ty := ⟨fun g lo v w => ∃ b, v = .pointer (some ⟨b, 0, none⟩) ∧ Good g lo w b n, fun h ⟨b, h1, h2⟩ => ⟨b, h1, h _ _ h2⟩, fun hl ⟨b, h1, h2⟩ => ⟨b, h1, h2.low hl⟩⟩
def Ty.agg (n : Nat) : Ty := ⟨fun _ _ v _ => ∃ xs : List Int, xs.length = n ∧ v = .agg (xs.map (Value.int .i64)).toArray, fun _ h => h, fun _ h => h⟩
def Ty.tup (n k : Nat) : Ty := ⟨fun _ _ v _ => ∃ xs ys : List Int, xs.length = n ∧ ys.length = k ∧ v = .tuple (.agg (xs.map (Value.int .i64)).toArray :: ys.map (Value.int .i64)).toArray, fun _ h => h, fun _ h => h⟩
theorem ext_grown {g lo : Nat} {w w' : World} (h : w.grownBy w' (some g)) : Ext g lo w w' := fun b n ⟨h1, h2, xs, h3, h4⟩ => ⟨h1, h2, xs, h3, h4.grown h (by simpa using h1)⟩
theorem ext_refl {g lo : Nat} {w : World} : Ext g lo w w := fun _ _ h => h
theorem ext_trans {g lo : Nat} {a b c : World} (h : Ext g lo a b) (k : Ext g lo b c) : Ext g lo a c := fun _ _ x => k _ _ (h _ _ x)
theorem ext_set {g lo : Nat} {w : World} {c i : Nat} (y : Int) : Ext g lo w (w.setCell ⟨c, i, none⟩ (.int .i64 y)) := by
  rintro b n ⟨h1, h2, xs, h3, h4⟩
  by_cases hc : c = b
  · subst hc
    by_cases hi : i < xs.length
    · exact ⟨h1, h2, xs.set i y, by simpa using h3, h4.set hi y⟩
    · refine ⟨h1, h2, xs, h3, fun j hj => ?_, fun o => by simpa using h4.2.1 o, by simpa [World.setCell] using h4.2.2⟩
      rw [World.cell?_setCell_other _ _ _ _ (fun e => by have := (Addr.mk.inj e).2.1; omega)]
      exact h4.1 j hj
  · exact ⟨h1, h2, xs, h3, h4.off hc⟩
theorem good_new {g lo : Nat} (w : World) (xs : List Int) (t : TypeId) (hl : lo ≤ w.heap.size) (hg : g < w.heap.size) : Good g lo (w.alloc (.cells (xs.map (Value.int .i64)).toArray t)) w.heap.size xs.length :=
  ⟨by omega, hl, xs, rfl, ib_new w xs t⟩
/-- the world within a region of a draw: the reader, what has grown, the blocks that stand by -/
def DW (W w0 : World) (g lo p K : Nat) (Rs : List (Nat × Nat)) (n : Nat) (w : World) : Prop :=
  (∃ q, q ≤ p + n * K ∧ Rdr W w g q) ∧ w0.grownBy w (some g) ∧ lo ≤ w0.heap.size ∧ w0.heap.size ≤ w.heap.size ∧ (∀ x ∈ Rs, Good g lo w x.1 x.2) ∧ W.heap.size ≤ lo
theorem DW.rd_lt {W w0 w : World} {g lo p K n : Nat} {Rs : List (Nat × Nat)} (h : DW W w0 g lo p K Rs n w) : g < w.heap.size := by
  obtain ⟨⟨q, _, hr⟩, _⟩ := h
  obtain ⟨v, xs, _, _, _, h, _⟩ := hr
  exact World.block_lt_of_cell? w ⟨g, 0, none⟩ h
theorem DW.same {W w0 w : World} {g lo p K n : Nat} {Rs : List (Nat × Nat)} (h : DW W w0 g lo p K Rs n w) : DW W w0 g lo p K Rs (n + 1) w := by
  obtain ⟨⟨q, h1, h2⟩, h3⟩ := h
  exact ⟨⟨q, by rw [Nat.add_mul]; omega, h2⟩, h3⟩
theorem DW.alloc {W w0 w : World} {g lo p K n : Nat} {Rs : List (Nat × Nat)} (h : DW W w0 g lo p K Rs n w) (O : Obj) : DW W w0 g lo p K Rs (n + 1) (w.alloc O) := by
  obtain ⟨⟨q, h1, h2⟩, h3, h4, h5, h6, h7⟩ := h
  exact ⟨⟨q, by rw [Nat.add_mul]; omega, h2.keep (below_alloc1 _ _)⟩, galloc h3 _, h4, by simp; omega, fun x hx => ext_grown (galloc (grefl w g) O) _ _ (h6 x hx), h7⟩
theorem rdr_setN {W w : World} {g p : Nat} (h : Rdr W w g p) {c i : Nat} (hg : ¬ c = g) (hW : W.heap.size ≤ c) (v : Value) : Rdr W (w.setCell ⟨c, i, none⟩ v) g p := by
  obtain ⟨u, xs, h1, h2, h3, h4, h5, h6⟩ := h
  have hne : ∀ o, (⟨c, i, none⟩ : Addr) ≠ ⟨g, o, none⟩ := fun o e => hg (by simpa using congrArg Addr.block e)
  refine ⟨u, xs, h1, h2.setCell (by simpa using hW) _, h3, ?_, ?_, ?_⟩
  · rw [World.cell?_setCell_other _ _ _ _ (hne 0)]; exact h4
  · rw [World.cell?_setCell_other _ _ _ _ (hne 1)]; exact h5
  · simpa using h6
theorem DW.set {W w0 w : World} {g lo p K n c i : Nat} {Rs : List (Nat × Nat)} (h : DW W w0 g lo p K Rs n w) (y : Int) (hg : ¬ c = g) (hl : lo ≤ c) (hc : w0.heap.size ≤ c) : DW W w0 g lo p K Rs n (w.setCell ⟨c, i, none⟩ (.int .i64 y)) := by
  obtain ⟨⟨q, h1, h2⟩, h3, h4, h5, h6, h7⟩ := h
  exact ⟨⟨q, h1, rdr_setN h2 hg (by omega) _⟩, gset h3 hc _, h4, by simpa [World.setCell] using h5, fun x hx => ext_set y _ _ (h6 x hx), h7⟩
theorem Good.drew {g lo : Nat} {w : World} {b n : Nat} (h : Good g lo w b n) : Good g lo w.drew b n := ⟨h.1, h.2.1, h.2.2.elim fun xs hx => ⟨xs, hx.1, hx.2.drew⟩⟩
theorem DW.start {W w : World} {g p K : Nat} (hr : Rdr W w g p) : DW W w g w.heap.size p K [] 0 w :=
  ⟨⟨p, by omega, hr⟩, grefl w g, Nat.le_refl _, Nat.le_refl _, fun _ h => (by cases h), by
    obtain ⟨v, xs, _, _, hg, h, _⟩ := hr
    have := World.block_lt_of_cell? w ⟨g, 0, none⟩ h
    simp at this; omega⟩
theorem DW.push {W w0 w : World} {g lo p K n : Nat} {Rs : List (Nat × Nat)} (h : DW W w0 g lo p K Rs n w) (xs : List Int) (t : TypeId) : DW W w0 g lo p K ((w.heap.size, xs.length) :: Rs) n (w.alloc (.cells (xs.map (Value.int .i64)).toArray t)) := by
  have hg := h.rd_lt
  obtain ⟨⟨q, h1, h2⟩, h3, h4, h5, h6, h7⟩ := h
  refine ⟨⟨q, h1, h2.keep (below_alloc1 _ _)⟩, galloc h3 _, h4, by simp; omega, fun x hx => ?_, h7⟩
  rcases List.mem_cons.1 hx with rfl | hx
  · exact good_new w xs t (by omega) hg
  · exact ext_grown (galloc (grefl w g) _) _ _ (h6 x hx)
theorem DW.drew {W w0 w : World} {g lo p K n : Nat} {Rs : List (Nat × Nat)} (h : DW W w0 g lo p K Rs n w) : DW W w0 g lo p K Rs n w.drew := by
  obtain ⟨⟨q, h1, h2⟩, h3, h4, h5, h6, h7⟩ := h
  exact ⟨⟨q, h1, rdr_drew h2⟩, gdrew h3, h4, h5, fun x hx => (h6 x hx).drew, h7⟩
theorem DW.re {W w0 w : World} {g lo p p' K K' n : Nat} {Rs : List (Nat × Nat)} (h : DW W w0 g lo p K Rs n w) (hp : p + n * K ≤ p') : DW W w0 g lo p' K' Rs 0 w := by
  obtain ⟨⟨q, h1, h2⟩, h3⟩ := h
  exact ⟨⟨q, by omega, h2⟩, h3⟩
theorem DW.add {W w0 w : World} {g lo p K n b m : Nat} {Rs : List (Nat × Nat)} (h : DW W w0 g lo p K Rs n w) (hg : Good g lo w b m) : DW W w0 g lo p K ((b, m) :: Rs) n w := by
  obtain ⟨h1, h3, h4, h5, h6, h7⟩ := h
  exact ⟨h1, h3, h4, h5, fun x hx => by
    rcases List.mem_cons.1 hx with rfl | hx
    · exact hg
    · exact h6 x hx, h7⟩
theorem DW.pick {W w0 w w' : World} {g lo p K q : Nat} {Rs : List (Nat × Nat)} (h : DW W w0 g lo p K Rs 0 w) (hq : q ≤ p + 1) (hr : Rdr W w' g q) (hz : w'.heap.size = w.heap.size) (hg : w.grownBy w' (some g)) : DW W w0 g lo (p + 1) K Rs 0 w' := by
  obtain ⟨_, h3, h4, h5, h6, h7⟩ := h
  exact ⟨⟨q, by omega, hr⟩, gtrans h3 hg, h4, by omega, fun x hx => ext_grown hg _ _ (h6 x hx), h7⟩
/-- pick, where the world of a draw is known -/
theorem pick_dw (n : Int) {W w0 w : World} {g lo p K : Nat} {Rs : List (Nat × Nat)} (h : DW W w0 g lo p K Rs 0 w) (hp : p < 1000000) (n1 : 1 ≤ n) (n2 : n ≤ 1000000) :
    Calls Try.prog 48 #[.pointer (some ⟨g, 0, none⟩), .int .i64 n] w fun e w' => ∃ x : Int, e = .returned (.int .i64 x) ∧ 0 ≤ x ∧ x < n ∧ Hid (DW W w0 g lo (p + 1) K Rs 0 w') ∧ Hid (Ext g lo w w') := by
  obtain ⟨⟨q, h1, h2⟩, _⟩ := id h
  refine (pick_any n W w g q h2 (by omega) n1 n2).mono ?_
  rintro e w' ⟨x, e1, e2, e3, rd, hc, hf, hz, gr⟩
  exact ⟨x, e1, e2, e3, hid (h.pick (by omega) rd hz gr), hid (ext_grown gr)⟩
theorem ext_alloc {g lo : Nat} {w : World} (O : Obj) : Ext g lo w (w.alloc O) := ext_grown (galloc (grefl w g) O)

section
variable {ops : Array Oper} {a0 : Act} {W w0 : World} {g lo p K : Nat} {Rs : List (Nat × Nat)} {tys : List Ty}
/-- the facts of the slots, by kind -/
def Fs (g lo : Nat) (tys : List Ty) (j : Nat) (v : Value) (w : World) : Prop := (tys.getD j .any).sem g lo v w
theorem fs_mono {w w' : World} (h : Ext g lo w w') {i : Nat} : ∀ j u, j ≠ i → Fs g lo tys j u w → Fs g lo tys j u w' := fun j u _ hs => (tys.getD j .any).mono h hs
theorem fs_in {o : Oper} {a : Act} {w : World} {s j : Nat} {t : Ty} (hat : At ops a0 (Fs g lo tys) o a w) (hw : waits o j = true) (hs : (ops[j]?).bind (·.dst) = some s) (ht : tys.getD j .any = t) : t.sem g lo (a.tmps[s]?.getD undef) w := by
  have h := at_in hat hw hs
  unfold Fs at h
  rwa [ht] at h
/-- an operand that is an int -/
def OI (ops : Array Oper) (a0 : Act) (g lo : Nat) (tys : List Ty) (o : Oper) (x : Operand) : Prop := ∀ a w, At ops a0 (Fs g lo tys) o a w → ∃ n : Int, a.eval x = .int .i64 n
theorem oi_const {o : Oper} (n : Int) : OI ops a0 g lo tys o (.const (.int .i64 n)) := fun a w _ => ⟨n, rfl⟩
theorem oi_in {o : Oper} {s : Nat} (j : Nat) (hw : waits o j = true) (hs : (ops[j]?).bind (·.dst) = some s) (ht : tys.getD j .any = .int) : OI ops a0 g lo tys o (.tmp s) := fun a w hat => by
  rw [eval_tmp]; exact fs_in hat hw hs ht
theorem oi_rng {o : Oper} {s : Nat} (j n : Nat) (hw : waits o j = true) (hs : (ops[j]?).bind (·.dst) = some s) (ht : tys.getD j .any = .rng n) : OI ops a0 g lo tys o (.tmp s) := fun a w hat => by
  obtain ⟨x, hx, _⟩ := fs_in hat hw hs ht
  exact ⟨x, by rw [eval_tmp]; exact hx⟩
theorem oi_out {o : Oper} {s : Nat} (n : Int) (hf : fresh ops s = true) (hv : a0.tmps[s]?.getD undef = .int .i64 n) : OI ops a0 g lo tys o (.tmp s) := fun a w hat => ⟨n, by rw [eval_tmp]; exact at_out hat hf hv⟩

/-- a slot from outside is copied -/
theorem rt_move {i d s : Nat} {ty : TypeId} {pos : String} {after : Array Edge} {gd : Option (Nat × Bool)} (v : Value) (hf : fresh ops s = true) (hv : a0.tmps[s]?.getD undef = v) (ht : tys.getD i .any = .is v) :
    ObW Try.prog ops a0 (Fs g lo tys) (DW W w0 g lo p K Rs) i ⟨some d, .move (.tmp s), ty, pos, after, gd⟩ := by
  refine ob_val fun n a w hn hI hat => ⟨v, w, ?_, ?_, hI.same, fun _ _ _ h => h⟩
  · have := at_out hat hf hv
    simp [execOp, go_sem, this]
  · unfold Fs; rw [ht]; rfl
theorem rt_copy {i d s : Nat} {t : Ty} {ty : TypeId} {pos : String} {after : Array Edge} {gd : Option (Nat × Bool)} (j : Nat)
    (hw : waits ⟨some d, .assign (.tmp s), ty, pos, after, gd⟩ j = true) (hs : (ops[j]?).bind (·.dst) = some s) (hj : tys.getD j .any = t) (ht : tys.getD i .any = t) :
    ObW Try.prog ops a0 (Fs g lo tys) (DW W w0 g lo p K Rs) i ⟨some d, .assign (.tmp s), ty, pos, after, gd⟩ := by
  refine ob_val fun n a w hn hI hat => ⟨a.tmps[s]?.getD undef, w, ?_, ?_, hI.same, fun _ _ _ h => h⟩
  · simp [execOp, go_sem]
  · unfold Fs; rw [ht]; exact fs_in hat hw hs hj
theorem cf_pick (xs : Array Value) (w : World) : (callFunc 48 xs).run Try.prog w = .ok (.enter 48 xs) w := by
  go_simp
theorem rt_pick {i d s m : Nat} {args : Array TypeId} {ty : TypeId} {pos : String} {after : Array Edge} {gd : Option (Nat × Bool)} (j : Nat) (hK : 1 ≤ K) (hp : p + ops.size * K < 1000000) (hm : 1 ≤ m) (hm2 : m ≤ 1000000)
    (hw : waits ⟨some d, .call ⟨.value (.func 48), #[.tmp s, .const (.int .i64 (m : Int))], args⟩, ty, pos, after, gd⟩ j = true) (hs : (ops[j]?).bind (·.dst) = some s) (hj : tys.getD j .any = .is (.pointer (some ⟨g, 0, none⟩))) (ht : tys.getD i .any = .rng m) :
    ObW Try.prog ops a0 (Fs g lo tys) (DW W w0 g lo p K Rs) i ⟨some d, .call ⟨.value (.func 48), #[.tmp s, .const (.int .i64 (m : Int))], args⟩, ty, pos, after, gd⟩ := by
  refine ob_call cf_pick fun n a w hn hI hat => ?_
  have h := fs_in hat hw hs hj
  have e : (#[Operand.tmp s, .const (.int .i64 (m : Int))].map a.eval) = #[.pointer (some ⟨g, 0, none⟩), .int .i64 (m : Int)] := by
    have h' : a.tmps[s]?.getD undef = .pointer (some ⟨g, 0, none⟩) := h
    simp [eval_tmp, h']
    rfl
  rw [e]
  obtain ⟨⟨q, h1, h2⟩, h3, h4, h5, h6, h7⟩ := hI
  have hb : n * K < ops.size * K := Nat.mul_lt_mul_of_pos_right hn (by omega)
  refine (pick_any (m : Int) W w g q h2 (by omega) (by omega) (by omega)).mono ?_
  rintro e w' ⟨x, rfl, l, u, rd, hc, hf, hz, gr⟩
  have hx := fun lo => ext_grown (lo := lo) gr
  refine ⟨_, rfl, ?_, ⟨⟨q + 1, by rw [Nat.add_mul]; omega, rd⟩, gtrans h3 gr, h4, by omega, fun x hx' => hx lo _ _ (h6 x hx'), h7⟩, fs_mono (hx lo)⟩
  unfold Fs; rw [ht]; exact ⟨x, rfl, l, u⟩
/-- an operation on two ints that gives an int -/
theorem rt_bin {i d : Nat} {op : BinOp} {x y : Operand} {ty : TypeId} {pos : String} {after : Array Edge} {gd : Option (Nat × Bool)}
    (hop : ∀ (a b : Int) (w : World), ∃ c : Int, (do eqGuard op 3 x y (Value.int .i64 a) (Value.int .i64 b); binOp op 3 (Value.int .i64 a) (Value.int .i64 b) : Sem Value).run Try.prog w = .ok (.int .i64 c) w)
    (hx : OI ops a0 g lo tys ⟨some d, .binOp op 3 x y 3, ty, pos, after, gd⟩ x) (hy : OI ops a0 g lo tys ⟨some d, .binOp op 3 x y 3, ty, pos, after, gd⟩ y) (ht : tys.getD i .any = .int) :
    ObW Try.prog ops a0 (Fs g lo tys) (DW W w0 g lo p K Rs) i ⟨some d, .binOp op 3 x y 3, ty, pos, after, gd⟩ := by
  refine ob_val fun n a w hn hI hat => ?_
  obtain ⟨k, hk⟩ := hx a w hat
  obtain ⟨l, hl⟩ := hy a w hat
  obtain ⟨c, hc⟩ := hop k l w
  refine ⟨.int .i64 c, w, ?_, ?_, hI.same, fun _ _ _ h => h⟩
  · have := hc
    simp only [execOp, hk, hl]
    simp only [Sem.run_bind, this]
    first | done | rfl | simp [this]
  · unfold Fs; rw [ht]; exact ⟨c, rfl⟩

/-- every operand is an int -/
def OIs (ops : Array Oper) (a0 : Act) (g lo : Nat) (tys : List Ty) (o : Oper) : List (Nat × Operand) → Prop
  | [] => True
  | x :: xs => OI ops a0 g lo tys o x.2 ∧ OIs ops a0 g lo tys o xs
theorem OIs.at {o : Oper} : ∀ {l : List (Nat × Operand)} (h : OIs ops a0 g lo tys o l) {x : Nat × Operand}, x ∈ l → OI ops a0 g lo tys o x.2
  | [], _, x, hx => by cases hx
  | y :: ys, h, x, hx => by
    rcases List.mem_cons.1 hx with rfl | hx
    · exact h.1
    · exact OIs.at h.2 hx
/-- the int that an operand is -/
def iv (a : Act) (x : Operand) : Int := match a.eval x with | .int .i64 n => n | _ => 0
theorem iv_at {o : Oper} {a : Act} {w : World} {x : Operand} (h : OI ops a0 g lo tys o x) (hat : At ops a0 (Fs g lo tys) o a w) : a.eval x = .int .i64 (iv a x) := by
  obtain ⟨n, hn⟩ := h a w hat
  unfold iv; rw [hn]
theorem iv_parts {o : Oper} {a : Act} {w : World} {parts : Array (Nat × Operand)} (h : OIs ops a0 g lo tys o parts.toList) (hat : At ops a0 (Fs g lo tys) o a w) :
    (parts.map fun (i, x) => (i, a.eval x)) = parts.map fun (i, x) => (i, Value.int .i64 (iv a x)) :=
  Array.map_congr_left fun ⟨i, x⟩ hm => by
    have := iv_at (h.at (x := (i, x)) (by simpa using hm)) hat
    simp only [this]
/-- a row of ints is made -/
theorem bin_add {x y : Operand} : ∀ (a b : Int) (w : World), ∃ c : Int, (do eqGuard .add 3 x y (Value.int .i64 a) (Value.int .i64 b); binOp .add 3 (Value.int .i64 a) (Value.int .i64 b) : Sem Value).run Try.prog w = .ok (.int .i64 c) w := fun a b w => ⟨_, by go_simp; rfl⟩
theorem bin_sub {x y : Operand} : ∀ (a b : Int) (w : World), ∃ c : Int, (do eqGuard .sub 3 x y (Value.int .i64 a) (Value.int .i64 b); binOp .sub 3 (Value.int .i64 a) (Value.int .i64 b) : Sem Value).run Try.prog w = .ok (.int .i64 c) w := fun a b w => ⟨_, by go_simp; rfl⟩
theorem bin_mul {x y : Operand} : ∀ (a b : Int) (w : World), ∃ c : Int, (do eqGuard .mul 3 x y (Value.int .i64 a) (Value.int .i64 b); binOp .mul 3 (Value.int .i64 a) (Value.int .i64 b) : Sem Value).run Try.prog w = .ok (.int .i64 c) w := fun a b w => ⟨_, by go_simp; rfl⟩
theorem rt_row {i d k : Nat} {T E : TypeId} {parts : Array (Nat × Operand)} {ty : TypeId} {pos : String} {after : Array Edge} {gd : Option (Nat × Bool)}
    (hb : ∀ (f : Operand → Int) (w : World), (Instr.buildSlice T k (parts.map fun (i, x) => (i, Value.int .i64 (f x)))).run Try.prog w = .ok (.slice (some ⟨w.heap.size, 0, none⟩) k k) (w.alloc (.cells ((parts.toList.map fun ix => f ix.2).map (Value.int .i64)).toArray E)))
    (hl : parts.toList.length = k)
    (hO : OIs ops a0 g lo tys ⟨some d, .buildSlice T k parts, ty, pos, after, gd⟩ parts.toList) (ht : tys.getD i .any = .row k) :
    ObW Try.prog ops a0 (Fs g lo tys) (DW W w0 g lo p K Rs) i ⟨some d, .buildSlice T k parts, ty, pos, after, gd⟩ := by
  refine ob_val fun n a w hn hI hat => ?_
  have hg := hI.rd_lt
  refine ⟨.slice (some ⟨w.heap.size, 0, none⟩) k k, w.alloc (.cells ((parts.toList.map fun ix => iv a ix.2).map (Value.int .i64)).toArray E), ?_, ?_, hI.alloc _, fs_mono (ext_alloc _)⟩
  · have := hb (iv a) w
    simp only [execOp, iv_parts hO hat]
    simp only [Sem.run_bind, this]
    rfl
  · unfold Fs; rw [ht]
    have := good_new (g := g) (lo := lo) w (parts.toList.map fun ix => iv a ix.2) E (by have := hI.2.2.1; have := hI.2.2.2.1; omega) hg
    refine ⟨_, rfl, ?_⟩
    rwa [List.length_map, hl] at this
/-- a struct of ints is put together -/
theorem rt_build {i d k : Nat} {T : TypeId} {parts : Array (Nat × Operand)} {ty : TypeId} {pos : String} {after : Array Edge} {gd : Option (Nat × Bool)}
    (hb : ∀ (f : Operand → Int) (w : World), ∃ xs : List Int, xs.length = k ∧ (Instr.build T (parts.map fun (i, x) => (i, Value.int .i64 (f x)))).run Try.prog w = .ok (.agg (xs.map (Value.int .i64)).toArray) w)
    (hO : OIs ops a0 g lo tys ⟨some d, .build T parts, ty, pos, after, gd⟩ parts.toList) (ht : tys.getD i .any = .agg k) :
    ObW Try.prog ops a0 (Fs g lo tys) (DW W w0 g lo p K Rs) i ⟨some d, .build T parts, ty, pos, after, gd⟩ := by
  refine ob_val fun n a w hn hI hat => ?_
  obtain ⟨xs, hl, this⟩ := hb (iv a) w
  refine ⟨.agg (xs.map (Value.int .i64)).toArray, w, ?_, ?_, hI.same, fun _ _ _ h => h⟩
  · simp only [execOp, iv_parts hO hat]
    simp only [Sem.run_bind, this]
    rfl
  · unfold Fs; rw [ht]
    exact ⟨xs, hl, rfl⟩
/-- a struct of ints is made -/
theorem rt_alloc {i d k : Nat} {T : TypeId} {ty : TypeId} {pos : String} {after : Array Edge} {gd : Option (Nat × Bool)}
    (hb : ∀ (w : World), (Instr.alloc T true (.tuple #[])).run Try.prog w = .ok (.pointer (some ⟨w.heap.size, 0, none⟩)) (w.alloc (.cells ((List.replicate k 0).map (Value.int .i64)).toArray T)))
    (ht : tys.getD i .any = .blk k) :
    ObW Try.prog ops a0 (Fs g lo tys) (DW W w0 g lo p K Rs) i ⟨some d, .alloc T, ty, pos, after, gd⟩ := by
  refine ob_val fun n a w hn hI hat => ?_
  have hg := hI.rd_lt
  refine ⟨.pointer (some ⟨w.heap.size, 0, none⟩), w.alloc (.cells ((List.replicate k 0).map (Value.int .i64)).toArray T), ?_, ?_, hI.alloc _, fs_mono (ext_alloc _)⟩
  · simp only [execOp]
    simp only [Sem.run_bind, hb w]
    rfl
  · unfold Fs; rw [ht]
    have := good_new (g := g) (lo := lo) w (List.replicate k 0) T (by have := hI.2.2.1; have := hI.2.2.2.1; omega) hg
    refine ⟨_, rfl, ?_⟩
    rwa [List.length_replicate] at this
/-- a place of a row of ints -/
theorem rt_idx {i d s r m k : Nat} {ty : TypeId} {pos : String} {after : Array Edge} {gd : Option (Nat × Bool)} (j l : Nat) (hmk : m ≤ k) (hk : k < 1000000)
    (hw : waits ⟨some d, .indexAddr 23 (.tmp s) (.tmp r), ty, pos, after, gd⟩ j = true) (hs : (ops[j]?).bind (·.dst) = some s) (hj : tys.getD j .any = .row k)
    (hw2 : waits ⟨some d, .indexAddr 23 (.tmp s) (.tmp r), ty, pos, after, gd⟩ l = true) (hs2 : (ops[l]?).bind (·.dst) = some r) (hl : tys.getD l .any = .rng m) (ht : tys.getD i .any = .at) :
    ObW Try.prog ops a0 (Fs g lo tys) (DW W w0 g lo p K Rs) i ⟨some d, .indexAddr 23 (.tmp s) (.tmp r), ty, pos, after, gd⟩ := by
  refine ob_val fun n a w hn hI hat => ?_
  obtain ⟨b, hb, hgd⟩ := fs_in hat hw hs hj
  obtain ⟨x, hx, x0, x1⟩ := fs_in hat hw2 hs2 hl
  have x2 : x < (k : Int) := by omega
  refine ⟨.pointer (some ⟨b, x.toNat, none⟩), w, ?_, ?_, hI.same, fun _ _ _ h => h⟩
  · simp only [execOp, eval_tmp, hb, hx]
    clear hb hx hgd hat hI
    go_simp
  · unfold Fs; rw [ht]
    exact ⟨b, x.toNat, k, rfl, by omega, hgd⟩
/-- an int is read -/
theorem rt_load {i d s : Nat} {ty : TypeId} {pos : String} {after : Array Edge} {gd : Option (Nat × Bool)} (j : Nat)
    (hw : waits ⟨some d, .load 3 (.tmp s), ty, pos, after, gd⟩ j = true) (hs : (ops[j]?).bind (·.dst) = some s) (hj : tys.getD j .any = .at) (ht : tys.getD i .any = .int) :
    ObW Try.prog ops a0 (Fs g lo tys) (DW W w0 g lo p K Rs) i ⟨some d, .load 3 (.tmp s), ty, pos, after, gd⟩ := by
  refine ob_val fun n a w hn hI hat => ?_
  obtain ⟨b, k, m, hb, hk, _, _, xs, hl, hib⟩ := fs_in hat hw hs hj
  have hc := hib.1 k (by omega)
  refine ⟨.int .i64 (xs.getD k 0), w, ?_, ?_, hI.same, fun _ _ _ h => h⟩
  · simp only [execOp, eval_tmp, hb]
    clear hb hat hI hib
    go_simp
  · unfold Fs; rw [ht]
    exact ⟨_, rfl⟩
/-- ints stored one behind the other -/
def setL : World → Nat → Nat → List Int → World
  | w, _, _, [] => w
  | w, b, i, x :: xs => setL (w.setCell ⟨b, i, none⟩ (.int .i64 x)) b (i + 1) xs
theorem setL_ext {g lo b : Nat} : ∀ (xs : List Int) (i : Nat) (w : World), Ext g lo w (setL w b i xs)
  | [], i, w => ext_refl
  | x :: xs, i, w => ext_trans (ext_set x) (setL_ext xs (i + 1) _)
theorem setL_dw {b n : Nat} (hg : ¬ b = g) (hl : lo ≤ b) (hc : w0.heap.size ≤ b) : ∀ (xs : List Int) (i : Nat) (w : World), DW W w0 g lo p K Rs n w → DW W w0 g lo p K Rs n (setL w b i xs)
  | [], i, w, h => h
  | x :: xs, i, w, h => setL_dw hg hl hc xs (i + 1) _ (h.set x hg hl hc)
/-- a struct of ints is stored -/
theorem rt_store {i s r k : Nat} {T : TypeId} {ty : TypeId} {pos : String} {after : Array Edge} {gd : Option (Nat × Bool)} (j l : Nat) (h0 : w0.heap.size ≤ lo)
    (hb : ∀ (b : Nat) (ys xs : List Int) (w : World), IB w b ys → ys.length = k → xs.length = k → (Instr.storeAt T (.pointer (some ⟨b, 0, none⟩)) (.agg (xs.map (Value.int .i64)).toArray)).run Try.prog w = .ok () (setL w b 0 xs))
    (hw : waits ⟨none, .store T (.tmp s) (.tmp r), ty, pos, after, gd⟩ j = true) (hs : (ops[j]?).bind (·.dst) = some s) (hj : tys.getD j .any = .blk k)
    (hw2 : waits ⟨none, .store T (.tmp s) (.tmp r), ty, pos, after, gd⟩ l = true) (hs2 : (ops[l]?).bind (·.dst) = some r) (hl : tys.getD l .any = .agg k) (ht : tys.getD i .any = .any) :
    ObW Try.prog ops a0 (Fs g lo tys) (DW W w0 g lo p K Rs) i ⟨none, .store T (.tmp s) (.tmp r), ty, pos, after, gd⟩ := by
  refine ob_skip fun n a w hn hI hat => ?_
  obtain ⟨b, hbv, hng, hlo, ys, hy, hib⟩ := fs_in hat hw hs hj
  obtain ⟨xs, hx, hxv⟩ := fs_in hat hw2 hs2 hl
  refine ⟨setL w b 0 xs, ?_, ?_, (setL_dw hng hlo (by omega) xs 0 w hI).same, fs_mono (setL_ext xs 0 w)⟩
  · have := hb b ys xs w hib hy hx
    simp only [execOp, eval_tmp, hbv, hxv]
    simp only [Sem.run_bind, this]
    rfl
  · unfold Fs; rw [ht]; trivial
/-- a field of a struct of ints that stands by -/
theorem rt_field {i d s k m : Nat} {T : TypeId} {ty : TypeId} {pos : String} {after : Array Edge} {gd : Option (Nat × Bool)} (b : Nat) (hR : (b, k) ∈ Rs) (hm : m < k)
    (hb : ∀ (w : World), (Instr.fieldAt T (.pointer (some ⟨b, 0, none⟩)) m).run Try.prog w = .ok (.pointer (some ⟨b, m, none⟩)) w)
    (hf : fresh ops s = true) (hv : a0.tmps[s]?.getD undef = .pointer (some ⟨b, 0, none⟩)) (ht : tys.getD i .any = .at) :
    ObW Try.prog ops a0 (Fs g lo tys) (DW W w0 g lo p K Rs) i ⟨some d, .fieldAddr T (.tmp s) m, ty, pos, after, gd⟩ := by
  refine ob_val fun n a w hn hI hat => ?_
  have hG := hI.2.2.2.2.1 (b, k) hR
  have e := at_out hat hf hv
  refine ⟨.pointer (some ⟨b, m, none⟩), w, ?_, ?_, hI.same, fun _ _ _ h => h⟩
  · have := hb w
    simp only [execOp, eval_tmp, e]
    simp only [Sem.run_bind, this]
    rfl
  · unfold Fs; rw [ht]
    exact ⟨b, m, k, rfl, hm, hG⟩
/-- a struct of ints that stands by is read -/
theorem rt_loadOut {i d s k : Nat} {T : TypeId} {ty : TypeId} {pos : String} {after : Array Edge} {gd : Option (Nat × Bool)} (b : Nat) (hR : (b, k) ∈ Rs)
    (hb : ∀ (b : Nat) (xs : List Int) (w : World), IB w b xs → xs.length = k → (Instr.loadAt T (.pointer (some ⟨b, 0, none⟩))).run Try.prog w = .ok (.agg (xs.map (Value.int .i64)).toArray) w)
    (hf : fresh ops s = true) (hv : a0.tmps[s]?.getD undef = .pointer (some ⟨b, 0, none⟩)) (ht : tys.getD i .any = .agg k) :
    ObW Try.prog ops a0 (Fs g lo tys) (DW W w0 g lo p K Rs) i ⟨some d, .load T (.tmp s), ty, pos, after, gd⟩ := by
  refine ob_val fun n a w hn hI hat => ?_
  obtain ⟨_, _, xs, hl, hib⟩ := hI.2.2.2.2.1 (b, k) hR
  have e := at_out hat hf hv
  refine ⟨.agg (xs.map (Value.int .i64)).toArray, w, ?_, ?_, hI.same, fun _ _ _ h => h⟩
  · have := hb b xs w hib hl
    simp only [execOp, eval_tmp, e]
    simp only [Sem.run_bind, this]
    rfl
  · unfold Fs; rw [ht]
    exact ⟨xs, hl, rfl⟩
/-- a struct of ints is stored into one that stands by -/
theorem rt_storeOut {i s r k : Nat} {T : TypeId} {ty : TypeId} {pos : String} {after : Array Edge} {gd : Option (Nat × Bool)} (b l : Nat) (h0 : w0.heap.size ≤ lo) (hR : (b, k) ∈ Rs)
    (hb : ∀ (b : Nat) (ys xs : List Int) (w : World), IB w b ys → ys.length = k → xs.length = k → (Instr.storeAt T (.pointer (some ⟨b, 0, none⟩)) (.agg (xs.map (Value.int .i64)).toArray)).run Try.prog w = .ok () (setL w b 0 xs))
    (hf : fresh ops s = true) (hv : a0.tmps[s]?.getD undef = .pointer (some ⟨b, 0, none⟩))
    (hw2 : waits ⟨none, .store T (.tmp s) (.tmp r), ty, pos, after, gd⟩ l = true) (hs2 : (ops[l]?).bind (·.dst) = some r) (hl : tys.getD l .any = .agg k) (ht : tys.getD i .any = .any) :
    ObW Try.prog ops a0 (Fs g lo tys) (DW W w0 g lo p K Rs) i ⟨none, .store T (.tmp s) (.tmp r), ty, pos, after, gd⟩ := by
  refine ob_skip fun n a w hn hI hat => ?_
  obtain ⟨hng, hlo, ys, hy, hib⟩ := hI.2.2.2.2.1 (b, k) hR
  have e := at_out hat hf hv
  obtain ⟨xs, hx, hxv⟩ := fs_in hat hw2 hs2 hl
  refine ⟨setL w b 0 xs, ?_, ?_, (setL_dw hng hlo (by dsimp only at hlo; omega) xs 0 w hI).same, fs_mono (setL_ext xs 0 w)⟩
  · have := hb b ys xs w hib hy hx
    simp only [execOp, eval_tmp, e, hxv]
    simp only [Sem.run_bind, this]
    rfl
  · unfold Fs; rw [ht]; trivial
/-- the end of a draw: nothing old has changed -/
theorem DW.below {w w' : World} {g p K n : Nat} {Rs : List (Nat × Nat)} (h : DW w w g w.heap.size p K Rs n w') (hg : w.heap.size ≤ g) : Below w.heap.size w w' :=
  ⟨h.2.1.os, h.2.1.tape, h.2.1.output, h.2.1.size, fun k hk => h.2.1.block k hk (by simp; omega)⟩
theorem dw_open {W w : World} {K n cap : Nat} {a : Option Addr} {xs : List Int} {Rs : List (Nat × Nat)} (O : Obj) (hv : Rd W (.slice a n cap) xs) (hb : Below W.heap.size W w)
    (hR : ∀ x ∈ Rs, W.heap.size ≤ x.1 ∧ x.1 < w.heap.size ∧ ∃ xs : List Int, xs.length = x.2 ∧ IB w x.1 xs)
    (h0 : (w.alloc O).cell? ⟨w.heap.size, 0, none⟩ = some (.slice a n cap)) (h1 : (w.alloc O).cell? ⟨w.heap.size, 1, none⟩ = some (.int .i64 ((0 : Nat) : Int))) (hf : (w.alloc O).frozen? ⟨w.heap.size, 1, none⟩ = false) :
    DW W W w.heap.size W.heap.size 0 K Rs 0 (w.alloc O) := by
  have hbb := hb.alloc hb.size O
  refine ⟨⟨0, by omega, _, xs, hv, hbb, hb.size, h0, h1, hf⟩, ⟨hbb.os, hbb.tape, hbb.output, hbb.size, fun k hk _ => hbb.block k hk⟩, Nat.le_refl _, hbb.size, fun x hx => ?_, Nat.le_refl _⟩
  obtain ⟨e1, e2, ys, e3, e4⟩ := hR x hx
  exact ⟨by omega, e1, ys, e3, e4.keep (below_alloc1 _ _)⟩
set_option maxHeartbeats 1000000 in
/-- the reader is opened -/
theorem open_dw {K : Nat} {Rs : List (Nat × Nat)} (a : Option Addr) (len cap : Nat) (xs : List Int) (W w : World) (hn : xs.length = len) (hv : Rd W (.slice a len cap) xs) (hcap : len ≤ cap) (hb : Below W.heap.size W w)
    (hR : ∀ x ∈ Rs, W.heap.size ≤ x.1 ∧ x.1 < w.heap.size ∧ ∃ xs : List Int, xs.length = x.2 ∧ IB w x.1 xs) :
    Calls Try.prog 45 #[.slice a len cap] w fun e w' => e = .returned (.pointer (some ⟨w.heap.size, 0, none⟩)) ∧ Hid (DW W W w.heap.size W.heap.size 0 K Rs 0 w') := by
  have HV := hid hv
  have HB := hid hb
  have HR := hid hR
  have h2 := hv.2.1
  by_cases hl : len ≤ 2000
  · have hd : decide ((2000 : Int) < (len : Int)) = false := by simp; omega
    clear hv hn hb hR
    go_enter Try.func45, Try.ntmps45
    go_wp2
    go_ret
    exact ⟨rfl, hid (dw_open _ HV.out HB.out HR.out (by go_simp) (by go_simp) (by go_simp))⟩
  · have hd : decide ((2000 : Int) < (len : Int)) = true := by simp; omega
    subst hn
    have HT := hid (rd_take (n := 2000) hv (by omega))
    have hc1 : (2000 : Int) ≤ (cap : Int) := by omega
    have hc2 : 2000 ≤ cap := by omega
    clear hv hb hR
    go_enter Try.func45, Try.ntmps45
    go_wp2
    go_ret
    exact ⟨rfl, hid (dw_open _ HT.out HB.out HR.out (by go_simp) (by go_simp) (by go_simp))⟩
theorem at_row {w w3 : World} {g : Nat} (L : List Int) (t : TypeId) (i : Int) (h0 : 0 ≤ i) (h1 : i < L.length) (hg : ¬ w.heap.size = g)
    (hc : ∀ b o, ¬ b = g → w3.cell? ⟨b, o, none⟩ = (w.alloc (.cells (L.map (Value.int .i64)).toArray t)).cell? ⟨b, o, none⟩) :
    ∃ m ∈ L, w3.cell? ⟨w.heap.size, i.toNat, none⟩ = some (.int .i64 m) := by
  obtain ⟨n, rfl⟩ := Int.eq_ofNat_of_zero_le h0
  rw [Int.toNat_natCast]
  have hn : n < L.length := by omega
  exact ⟨L[n], List.getElem_mem hn, (hc _ _ hg).trans (by simp [hn])⟩
theorem setL_below {B : Nat} {w : World} : ∀ {w' : World} (_ : Below B w w') (b : Nat) (xs : List Int) (i : Nat) (_ : B ≤ b), Below B w (setL w' b i xs)
  | w', h, b, [], i, hb => h
  | w', h, b, x :: xs, i, hb => setL_below (h.setCell (by simpa using hb) _) b xs (i + 1) hb
/-- what a draw of one value answers: a value of its kind, the reader at most c places further -/
def Draws (f c : Nat) (t : Ty) : Prop := ∀ (W w : World) (g q : Nat), Rdr W w g q → q + c < 1000000 →
  Calls Try.prog f #[.pointer (some ⟨g, 0, none⟩)] w fun e w' => ∃ v, e = .returned v ∧ t.sem g w.heap.size v w' ∧ (∃ q', q' ≤ q + c ∧ Rdr W w' g q') ∧ w.grownBy w' (some g)
theorem draw_dw {f c : Nat} {t : Ty} (hf : Draws f c t) {W w0 w : World} {g lo p K : Nat} {Rs : List (Nat × Nat)} (h : DW W w0 g lo p K Rs 0 w) (hp : p + c < 1000000) :
    Calls Try.prog f #[.pointer (some ⟨g, 0, none⟩)] w fun e w' => ∃ v, e = .returned v ∧ Hid (t.sem g lo v w') ∧ Hid (DW W w0 g lo (p + c) K Rs 0 w') ∧ Hid (Ext g lo w w') := by
  obtain ⟨⟨q, h1, h2⟩, h3, h4, h5, h6, h7⟩ := h
  refine (hf W w g q h2 (by omega)).mono ?_
  rintro e w' ⟨v, rfl, hv, ⟨q', hq', rd⟩, gr⟩
  have hx := fun lo => ext_grown (lo := lo) gr
  exact ⟨v, rfl, hid (t.low (by omega) hv), hid ⟨⟨q', by omega, rd⟩, gtrans h3 gr, h4, by have := gr.size; omega, fun x hx' => hx lo _ _ (h6 x hx'), h7⟩, hid (hx lo)⟩
/-- a draw within a draw -/
theorem rt_draw {i d s c f : Nat} {t : Ty} {args : Array TypeId} {ty : TypeId} {pos : String} {after : Array Edge} {gd : Option (Nat × Bool)} (j : Nat) (hf : Draws f c t) (hcf : ∀ (xs : Array Value) (w : World), (callFunc f xs).run Try.prog w = .ok (.enter f xs) w) (hK : c ≤ K) (hp : p + ops.size * K < 1000000)
    (hw : waits ⟨some d, .call ⟨.value (.func f), #[.tmp s], args⟩, ty, pos, after, gd⟩ j = true) (hs : (ops[j]?).bind (·.dst) = some s) (hj : tys.getD j .any = .is (.pointer (some ⟨g, 0, none⟩))) (ht : tys.getD i .any = t) :
    ObW Try.prog ops a0 (Fs g lo tys) (DW W w0 g lo p K Rs) i ⟨some d, .call ⟨.value (.func f), #[.tmp s], args⟩, ty, pos, after, gd⟩ := by
  refine ob_call hcf fun n a w hn hI hat => ?_
  have h := fs_in hat hw hs hj
  have e : (#[Operand.tmp s].map a.eval) = #[.pointer (some ⟨g, 0, none⟩)] := by
    have h' : a.tmps[s]?.getD undef = .pointer (some ⟨g, 0, none⟩) := h
    simp [eval_tmp, h']
  rw [e]
  obtain ⟨⟨q, h1, h2⟩, h3, h4, h5, h6, h7⟩ := hI
  have hb : (n + 1) * K ≤ ops.size * K := Nat.mul_le_mul_right _ (by omega)
  rw [Nat.add_mul] at hb
  refine (hf W w g q h2 (by omega)).mono ?_
  rintro e w' ⟨v, rfl, hv, ⟨q', hq', rd⟩, gr⟩
  have hx := fun lo => ext_grown (lo := lo) gr
  refine ⟨v, rfl, ?_, ⟨⟨q', by rw [Nat.add_mul]; omega, rd⟩, gtrans h3 gr, h4, by have := gr.size; omega, fun x hx' => hx lo _ _ (h6 x hx'), h7⟩, fs_mono (hx lo)⟩
  unfold Fs; rw [ht]; exact t.low (by omega) hv
/-- an int is stored -/
theorem rt_stInt {i s r : Nat} {ty : TypeId} {pos : String} {after : Array Edge} {gd : Option (Nat × Bool)} (j : Nat) (h0 : w0.heap.size ≤ lo)
    (hw : waits ⟨none, .store 3 (.tmp s) (.tmp r), ty, pos, after, gd⟩ j = true) (hs : (ops[j]?).bind (·.dst) = some s) (hj : tys.getD j .any = .at)
    (hO : OI ops a0 g lo tys ⟨none, .store 3 (.tmp s) (.tmp r), ty, pos, after, gd⟩ (.tmp r)) (ht : tys.getD i .any = .any) :
    ObW Try.prog ops a0 (Fs g lo tys) (DW W w0 g lo p K Rs) i ⟨none, .store 3 (.tmp s) (.tmp r), ty, pos, after, gd⟩ := by
  refine ob_skip fun n a w hn hI hat => ?_
  obtain ⟨b, k, m, hb, hk, hng, hlo, xs, hl, hib⟩ := fs_in hat hw hs hj
  obtain ⟨y, hy⟩ := hO a w hat
  rw [eval_tmp] at hy
  have hc := hib.1 k (by omega)
  have hf := hib.2.1 k
  refine ⟨w.setCell ⟨b, k, none⟩ (.int .i64 y), ?_, ?_, (hI.set y hng hlo (by omega)).same, fs_mono (ext_set y)⟩
  · simp only [execOp, eval_tmp, hb, hy]
    clear hb hy hat hI hib
    go_simp
  · unfold Fs; rw [ht]; trivial
end
end Go.Proofs.Ytbpomeegpkdekaa
