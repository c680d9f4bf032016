/- A region that draws its order, all orders at once: each operation is shown once, from what the operations that it waits for have left; of no program in particular. Conditions: each slot written once, no edge forward. -/
import Derived.Test.YtbpomeegpkdekaaAid
import Derived.Orders
namespace Go.Proofs.Ytbpomeegpkdekaa
open Go.ChangeShapes Go.WideShapes Go.ChangeAt Go.RowKit Go.Joins Go.Deep
set_option linter.unusedVariables false
set_option linter.unusedSimpArgs false

/-- the operations wait for earlier ones alone, and each writes a slot of its own -/
def opsOk (ops : Array Oper) (n : Nat) : Bool :=
  (List.range ops.size).all fun i => match ops[i]? with
    | none => true
    | some o => (o.after.all fun e => !Region.binds .any e || decide (e.on < i)) &&
      match o.dst with
      | none => true
      | some d => decide (d < n) && (List.range ops.size).all fun j => j == i || ((ops[j]?).map fun o' => o'.dst != some d).getD true

/-- p of each operation with its place -/
def AllFrom (p : Nat → Oper → Prop) : Nat → List Oper → Prop
  | _, [] => True
  | i, o :: os => p i o ∧ AllFrom p (i + 1) os
theorem AllFrom.at {p : Nat → Oper → Prop} : ∀ {k : Nat} {l : List Oper} (h : AllFrom p k l) {i : Nat} {o : Oper}, l[i]? = some o → p (k + i) o
  | k, [], _, i, o, hi => by simp at hi
  | k, x :: xs, h, 0, o, hi => by simp at hi; subst hi; exact h.1
  | k, x :: xs, h, i + 1, o, hi => by
    have := h.2.at (i := i) (o := o) (by simpa using hi)
    rw [show k + (i + 1) = k + 1 + i from by omega]; exact this
theorem allFrom_of {p : Nat → Oper → Prop} : ∀ {k : Nat} {l : List Oper} (h : ∀ i o, l[i]? = some o → p (k + i) o), AllFrom p k l
  | k, [], _ => trivial
  | k, x :: xs, h => ⟨h 0 x (by simp), allFrom_of (k := k + 1) (l := xs) fun i o hi => by
      have := h (i + 1) o (by simpa using hi)
      rw [show k + (i + 1) = k + 1 + i from by omega] at this; exact this⟩

theorem opsOk_at {ops : Array Oper} {n i : Nat} {o : Oper} (h : opsOk ops n = true) (hi : ops[i]? = some o) :
    (∀ e ∈ o.after, Region.binds .any e = true → e.on < i) ∧ (∀ d, o.dst = some d → d < n ∧ ∀ j o', ops[j]? = some o' → j ≠ i → o'.dst ≠ some d) := by
  have hlt : i < ops.size := (Array.getElem?_eq_some_iff.1 hi).1
  have h1 := (List.all_eq_true.1 h) i (List.mem_range.2 hlt)
  simp only [hi] at h1
  rw [Bool.and_eq_true] at h1
  refine ⟨fun e he hb => ?_, fun d hd => ?_⟩
  · have := (Array.all_eq_true_iff_forall_mem.1 h1.1) e he
    simpa [hb] using this
  · have h2 := h1.2
    simp only [hd] at h2
    rw [Bool.and_eq_true] at h2
    refine ⟨by simpa using h2.1, fun j o' hj hne => ?_⟩
    have hjl : j < ops.size := (Array.getElem?_eq_some_iff.1 hj).1
    have := (List.all_eq_true.1 h2.2) j (List.mem_range.2 hjl)
    simp only [hj, Option.map_some, Option.getD_some, Bool.or_eq_true, beq_iff_eq, bne_iff_ne] at this
    exact this.resolve_left hne

/-- the value in the slot d -/
def sl (a : Act) (d : Nat) : Value := a.tmps[d]?.getD undef
/-- what operation number j has left in its slot -/
def osl (ops : Array Oper) (a : Act) (j : Nat) : Value := (((ops[j]?).bind (·.dst)).map (sl a)).getD undef

/-- the slots behind the operations: u says what is in those that they write -/
def outTmps (u : Nat → Value) : List Oper → Array Value → Array Value
  | [], t => t
  | o :: os, t => outTmps u os (match o.dst with | some d => t.setIfInBounds d (u d) | none => t)
theorem outTmps_size (u : Nat → Value) : ∀ (l : List Oper) (t : Array Value), (outTmps u l t).size = t.size
  | [], t => rfl
  | o :: os, t => by
    unfold outTmps
    rw [outTmps_size u os]
    cases o.dst <;> simp
theorem outTmps_at (u : Nat → Value) : ∀ (l : List Oper) (t : Array Value) (k : Nat),
    (outTmps u l t)[k]? = if k < t.size ∧ ∃ o ∈ l, o.dst = some k then some (u k) else t[k]?
  | [], t, k => by simp [outTmps]
  | o :: os, t, k => by
    unfold outTmps
    rw [outTmps_at u os]
    cases hd : o.dst with
    | none => simp [hd]
    | some d =>
      by_cases hk : d = k
      · subst hk
        by_cases hl : d < t.size
        · by_cases hx : ∃ o ∈ os, o.dst = some d <;> simp [hl, hd, hx]
        · simp [hl, hd]
      · simp [hd, hk, Array.getElem?_setIfInBounds_ne hk]

/-- the state within a region: n operations have come up -/
structure RgSt (ops : Array Oper) (a0 : Act) (F : Nat → Value → World → Prop) (I : Nat → World → Prop) (n : Nat) (listed : Array Bool) (a : Act) (w : World) : Prop where
  lsize : listed.size = ops.size
  left : listed.toList.count false + n = ops.size
  size : a.tmps.size = a0.tmps.size
  defers : a.defers = a0.defers
  other : ∀ (t : Nat), (∀ (j : Nat) (o : Oper), ops[j]? = some o → o.dst ≠ some t) → a.tmps[t]? = a0.tmps[t]?
  fact : ∀ (i : Nat) (o : Oper), ops[i]? = some o → listed.getD i false = true → F i (osl ops a i) w
  inv : I n w

theorem count_set {l : List Bool} : ∀ {i : Nat}, l[i]? = some false → (l.set i true).count false + 1 = l.count false := by
  induction l with
  | nil => intro i h; simp at h
  | cons x xs ih =>
    intro i h
    cases i with
    | zero => simp at h; subst h; simp
    | succ i =>
      have := ih (i := i) (by simpa using h)
      simp only [List.set_cons_succ, List.count_cons]
      omega

section
variable {P : Program} {ops : Array Oper} {Q : Exit → Act → World → Prop} {a0 : Act} {F : Nat → Value → World → Prop} {I : Nat → World → Prop}

theorem rg_all {n : Nat} {listed : Array Bool} {a : Act} {w : World} (hok : opsOk ops a0.tmps.size = true) (hst : RgSt ops a0 F I n listed a w)
    (hr : Region.ready .any ops listed = []) : ∀ k, ∀ i, i < k → i < ops.size → listed.getD i false = true := by
  intro k
  induction k with
  | zero => intro i hi; omega
  | succ k ih =>
    intro i hi hlt
    by_cases hik : i < k
    · exact ih i hik hlt
    · obtain rfl : i = k := by omega
      cases hl : listed.getD i false with
      | true => rfl
      | false =>
        exfalso
        have hlt' : i < listed.size := by rw [hst.lsize]; exact hlt
        have hm : i ∈ Region.ready .any ops listed := by
          rw [mem_ready]
          refine ⟨by simpa [hlt'] using hl, ops[i], by simp [hlt], fun e he hb => ?_⟩
          have := (opsOk_at hok (i := i) (o := ops[i]) (by simp [hlt])).1 e he hb
          exact ih e.on this (by omega)
        rw [hr] at hm
        cases hm

theorem Oper.wp_to {o : Oper} {a : Act} {w : World} {K K' : Act → World → Prop} {Q' : Exit → Act → World → Prop} (h : ∀ a w, K a w → K' a w)
    (hh : o.wp P a w K (fun _ _ _ => False)) : o.wp P a w K' Q' := by
  unfold Oper.wp at *
  generalize (execOp a.eval o).run P w = r at *
  cases r with
  | ok n w' =>
    cases n <;> simp only [Oper.upon] at hh ⊢ <;>
      first
        | exact h _ _ hh
        | exact Calls.mono hh (fun e w'' he => by
            cases e with
            | returned v => exact h _ _ he
            | panicked c => exact he.elim
            | outgrown => obtain ⟨_, _, hx⟩ := he; exact hx.elim)
        | exact Rows.mono hh (fun _ _ he => h _ _ he)
  | halt x w' => cases x <;> simp only [Oper.upon] at hh ⊢ <;> exact hh.elim

theorem osl_put_ne {a : Act} {i j : Nat} {o : Oper} {v : Value} (hok : opsOk ops a0.tmps.size = true) (hi : ops[i]? = some o) (hne : j ≠ i) :
    osl ops (a.put o.dst v) j = osl ops a j := by
  unfold osl
  cases hj : ops[j]? with
  | none => rfl
  | some oj =>
    cases hdj : oj.dst with
    | none => simp [hdj]
    | some dj =>
      cases hd : o.dst with
      | none => simp [Act.put, sl]
      | some d =>
        have := ((opsOk_at hok hi).2 d hd).2 j oj hj hne
        have hne' : d ≠ dj := fun e => this (by rw [hdj, e])
        simp [hdj, Act.put, sl, Array.getElem?_setIfInBounds_ne hne']

theorem rg_step {i n : Nat} {o : Oper} {listed : Array Bool} {a : Act} {w w' : World} {v : Value} (hok : opsOk ops a0.tmps.size = true) (hst : RgSt ops a0 F I n listed a w)
    (hi : ops[i]? = some o) (hl : listed.getD i true = false) (hv : F i (match o.dst with | some _ => v | none => undef) w') (hI : I (n + 1) w') (hF : ∀ j u, j ≠ i → F j u w → F j u w') :
    RgSt ops a0 F I (n + 1) (listed.setIfInBounds i true) (a.put o.dst v) w' := by
  have hlt : i < ops.size := (Array.getElem?_eq_some_iff.1 hi).1
  have hll : i < listed.size := by rw [hst.lsize]; exact hlt
  refine ⟨by simp [hst.lsize], ?_, ?_, ?_, ?_, ?_, hI⟩
  · have h1 : listed.toList[i]? = some false := by
      simp [hll] at hl ⊢; exact hl
    have h2 := count_set h1
    have h3 := hst.left
    simp only [Array.setIfInBounds, hll, dif_pos, Array.toList_set]
    omega
  · cases o.dst <;> simp [Act.put, hst.size]
  · cases o.dst <;> simp [Act.put, hst.defers]
  · intro t ht
    cases hd : o.dst with
    | none => simpa [Act.put] using hst.other t ht
    | some d =>
      have hne : d ≠ t := fun e => ht i o hi (by rw [hd, e])
      simpa [Act.put, Array.getElem?_setIfInBounds_ne hne] using hst.other t ht
  · intro j oj hj hlj
    by_cases hji : j = i
    · subst hji
      obtain rfl : o = oj := by rw [hi] at hj; exact Option.some.inj hj
      cases hd : o.dst with
      | none => simp only [hd] at hv; simpa [osl, hi, hd] using hv
      | some d =>
        simp only [hd] at hv
        have hds : d < a.tmps.size := by rw [hst.size]; exact ((opsOk_at hok hi).2 d hd).1
        simpa [osl, hi, hd, Act.put, sl, hds] using hv
    · rw [osl_put_ne hok hi hji]
      refine hF j _ hji (hst.fact j oj hj ?_)
      rwa [getD_set_ne false (Ne.symm hji)] at hlj

/-- no operation writes the slot t -/
def fresh (ops : Array Oper) (t : Nat) : Bool := ops.toList.all fun o => o.dst != some t
/-- the operation o waits for number j -/
def waits (o : Oper) (j : Nat) : Bool := o.after.toList.any fun e => e.on == j && Region.binds .any e
theorem waits_at {o : Oper} {j : Nat} (h : waits o j = true) : ∃ e ∈ o.after, Region.binds .any e = true ∧ e.on = j := by
  obtain ⟨e, he, h⟩ := List.any_eq_true.1 h
  rw [Bool.and_eq_true, beq_iff_eq] at h
  exact ⟨e, by simpa using he, h.2, h.1⟩
theorem fresh_at {ops : Array Oper} {t : Nat} (h : fresh ops t = true) : ∀ (j : Nat) (o : Oper), ops[j]? = some o → o.dst ≠ some t := by
  intro j o hj
  obtain ⟨hl, he⟩ := Array.getElem?_eq_some_iff.1 hj
  have := (List.all_eq_true.1 h) o (by rw [← he]; simp)
  simpa using this
/-- what is known of the slots when the operation o comes up -/
def At (ops : Array Oper) (a0 : Act) (F : Nat → Value → World → Prop) (o : Oper) (a : Act) (w : World) : Prop :=
  (∀ j, waits o j = true → F j (osl ops a j) w) ∧ ∀ t, fresh ops t = true → a.tmps[t]? = a0.tmps[t]?
/-- what is to be shown of operation number i, where it is wanted -/
def ObW (P : Program) (ops : Array Oper) (a0 : Act) (F : Nat → Value → World → Prop) (I : Nat → World → Prop) (i : Nat) (o : Oper) : Prop :=
  ∀ (n : Nat) (a : Act) (w : World), n < ops.size → I n w → At ops a0 F o a w →
    o.wp P a w (fun a' w' => ∃ v, a' = a.put o.dst v ∧ F i (match o.dst with | some _ => v | none => undef) w' ∧ I (n + 1) w' ∧ ∀ j u, j ≠ i → F j u w → F j u w') (fun _ _ _ => False)
/-- what is to be shown of operation number i -/
def Ob (P : Program) (ops : Array Oper) (a0 : Act) (F : Nat → Value → World → Prop) (I : Nat → World → Prop) (i : Nat) (o : Oper) : Prop :=
  ∀ (n : Nat) (a : Act) (w : World), n < ops.size → I n w → At ops a0 F o a w →
    (Region.wanted o (yielded ops a.tmps) = true → o.wp P a w (fun a' w' => ∃ v, a' = a.put o.dst v ∧ F i (match o.dst with | some _ => v | none => undef) w' ∧ I (n + 1) w' ∧ ∀ j u, j ≠ i → F j u w → F j u w') (fun _ _ _ => False)) ∧
    (Region.wanted o (yielded ops a.tmps) = false → F i undef w ∧ I (n + 1) w)
theorem yielded_osl {a : Act} {j : Nat} {b : Bool} (h : osl ops a j = .bool b) : yielded ops a.tmps j = some b := by
  unfold osl at h
  unfold yielded
  cases ho : ops[j]? with
  | none => simp [ho, undef] at h
  | some o =>
    cases hd : o.dst with
    | none => simp [ho, hd, undef] at h
    | some d =>
      simp [ho, hd, sl] at h ⊢
      cases ht : a.tmps[d]? with
      | none => simp [ht, undef] at h
      | some v => simp [ht] at h; subst h; rfl
/-- an operation without a guard -/
theorem ob_un {i : Nat} {d : Option Tmp} {op : Op} {ty : TypeId} {pos : String} {after : Array Edge} (h : ObW P ops a0 F I i ⟨d, op, ty, pos, after, none⟩) : Ob P ops a0 F I i ⟨d, op, ty, pos, after, none⟩ :=
  fun n a w hn hI hat => ⟨fun _ => h n a w hn hI hat, fun hw => by cases hw⟩
/-- one whose guard lets it come -/
theorem ob_on {i : Nat} {d : Option Tmp} {op : Op} {ty : TypeId} {pos : String} {after : Array Edge} (j : Nat) (b : Bool) (hw : waits ⟨d, op, ty, pos, after, some (j, b)⟩ j = true)
    (hF : ∀ v w, F j v w → v = .bool b) (h : ObW P ops a0 F I i ⟨d, op, ty, pos, after, some (j, b)⟩) : Ob P ops a0 F I i ⟨d, op, ty, pos, after, some (j, b)⟩ :=
  fun n a w hn hI hat => ⟨fun _ => h n a w hn hI hat, fun hx => by
    have h1 := yielded_osl (hF _ _ (hat.1 j hw))
    simp [Region.wanted, h1] at hx⟩
/-- one whose guard keeps it away -/
theorem ob_off {i : Nat} {d : Option Tmp} {op : Op} {ty : TypeId} {pos : String} {after : Array Edge} (j : Nat) (b : Bool) (hw : waits ⟨d, op, ty, pos, after, some (j, b)⟩ j = true)
    (hF : ∀ v w, F j v w → v = .bool (!b)) (hi : ∀ w, F i undef w) (hI' : ∀ n w, I n w → I (n + 1) w) : Ob P ops a0 F I i ⟨d, op, ty, pos, after, some (j, b)⟩ :=
  fun n a w hn hI hat => ⟨fun hx => by
    have h1 := yielded_osl (hF _ _ (hat.1 j hw))
    simp [Region.wanted, h1] at hx, fun _ => ⟨hi w, hI' n w hI⟩⟩
theorem rg_fin (hok : opsOk ops a0.tmps.size = true)
    (fin : ∀ (u : Nat → Value) (w : World), I ops.size w → AllFrom (fun i o => F i ((o.dst.map u).getD undef) w) 0 ops.toList → Q .normal ⟨outTmps u ops.toList a0.tmps, a0.defers⟩ w)
    (n : Nat) (listed : Array Bool) (a : Act) (w : World) (hst : RgSt ops a0 F I n listed a w) (hall : ∀ i, i < ops.size → listed.getD i false = true) : Q .normal a w := by
  have hc : listed.toList.count false = 0 := by
    rw [List.count_eq_zero]
    intro hmem
    obtain ⟨i, hi, he⟩ := List.mem_iff_getElem.1 hmem
    have hi' : i < listed.size := by simpa using hi
    have := hall i (by rw [← hst.lsize]; exact hi')
    simp [hi'] at this he
    rw [this] at he
    cases he
  have hn : n = ops.size := by have := hst.left; omega
  subst hn
  have ha : a = ⟨outTmps (sl a) ops.toList a0.tmps, a0.defers⟩ := by
    obtain ⟨t, d⟩ := a
    have hd := hst.defers
    simp only at hd
    subst hd
    congr 1
    apply Array.ext'
    apply List.ext_getElem?
    intro k
    have h1 := outTmps_at (sl ⟨t, a0.defers⟩) ops.toList a0.tmps k
    have hs : t.size = a0.tmps.size := hst.size
    rw [Array.getElem?_toList, Array.getElem?_toList, h1]
    by_cases hk : ∃ o ∈ ops.toList, o.dst = some k
    · by_cases hlt : k < a0.tmps.size
      · rw [if_pos ⟨hlt, hk⟩]
        simp [sl, hs, hlt]
      · rw [if_neg (by simp [hlt])]
        rw [Array.getElem?_eq_none (by omega), Array.getElem?_eq_none (by omega)]
    · rw [if_neg (fun h => hk h.2)]
      exact hst.other k fun j o hj hd => hk ⟨o, by
        have := Array.getElem?_eq_some_iff.1 hj
        obtain ⟨hl, he⟩ := this
        rw [← he]; simp, hd⟩
  rw [ha]
  refine fin (sl a) w hst.inv (allFrom_of fun i o hi => ?_)
  have hi' : ops[i]? = some o := by simpa using hi
  have hlt : i < ops.size := (Array.getElem?_eq_some_iff.1 hi').1
  have := hst.fact i o hi' (hall i hlt)
  rw [Nat.zero_add]
  simpa [osl, hi'] using this
theorem rg_first {w : World} (h0 : I 0 w) : RgSt ops a0 F I 0 (Array.replicate ops.size false) a0 w :=
  ⟨by simp, by simp, rfl, rfl, fun _ _ => rfl, fun i o hi hl => by
    have hlt : i < ops.size := (Array.getElem?_eq_some_iff.1 hi).1
    simp [hlt] at hl, h0⟩
theorem rg_next {n i : Nat} {o : Oper} {listed : Array Bool} {a : Act} {w : World} {K : Act → World → Prop} (hok : opsOk ops a0.tmps.size = true) (step : AllFrom (Ob P ops a0 F I) 0 ops.toList)
    (hst : RgSt ops a0 F I n listed a w) (hn : n < ops.size) (ho : ops[i]? = some o) (hl : listed.getD i true = false) (haft : ∀ e ∈ o.after, Region.binds .any e = true → listed.getD e.on false = true)
    (hK : ∀ a' w', RgSt ops a0 F I (n + 1) (listed.setIfInBounds i true) a' w' → K a' w') : wpOp P ops Q i K a w := by
  have hop := step.at (i := i) (o := o) (by simpa using ho)
  rw [Nat.zero_add] at hop
  have hat : At ops a0 F o a w := ⟨fun j hj => by
    obtain ⟨e, he, hb, rfl⟩ := waits_at hj
    have hlt := (opsOk_at hok ho).1 e he hb
    have hsz : e.on < ops.size := by have := (Array.getElem?_eq_some_iff.1 ho).1; omega
    exact hst.fact e.on ops[e.on] (by simp [hsz]) (haft e he hb), fun t ht => hst.other t (fresh_at ht)⟩
  obtain ⟨h1, h2⟩ := hop n a w hn hst.inv hat
  unfold wpOp
  simp only [ho]
  cases hw : Region.wanted o (yielded ops a.tmps) with
  | true =>
    simp only [if_true]
    refine .inl (Oper.wp_to ?_ (h1 hw))
    rintro a' w' ⟨v, rfl, hv, hI, hF⟩
    exact hK _ _ (rg_step hok hst ho hl hv hI hF)
  | false =>
    simp only [Bool.false_eq_true, if_false]
    obtain ⟨hv, hI⟩ := h2 hw
    exact hK _ _ (rg_step hok hst ho hl (by cases o.dst <;> exact hv) hI fun _ _ _ h => h)
/-- every order at once -/
theorem region_facts {id : Nat} {w0 : World} (F : Nat → Value → World → Prop) (I : Nat → World → Prop)
    (hm : P.follows .mixedOrders = true) (hok : opsOk ops a0.tmps.size = true) (h0 : I 0 w0.drew)
    (step : AllFrom (Ob P ops a0 F I) 0 ops.toList)
    (fin : ∀ (u : Nat → Value) (w : World), I ops.size w → AllFrom (fun i o => F i ((o.dst.map u).getD undef) w) 0 ops.toList → Q .normal ⟨outTmps u ops.toList a0.tmps, a0.defers⟩ w) :
    (Code.region id ops true).wp P Q a0 w0 := by
  refine wp_region_any hm ?_
  have hall : ∀ (n : Nat) (listed : Array Bool) (a : Act) (w : World), RgSt ops a0 F I n listed a w → Region.ready .any ops listed = [] → Q .normal a w := fun n listed a w hst hr =>
    rg_fin hok fin n listed a w hst fun i hi => rg_all hok hst hr (i + 1) i (by omega) hi
  have key : ∀ (fuel n : Nat) (listed : Array Bool) (a : Act) (w : World), n + fuel = ops.size → RgSt ops a0 F I n listed a w → wpAny P .any ops Q fuel listed a w := by
    intro fuel
    induction fuel with
    | zero =>
      intro n listed a w hn hst
      have hc : listed.toList.count false = 0 := by have := hst.left; omega
      have hr : Region.ready .any ops listed = [] := by
        apply List.eq_nil_iff_forall_not_mem.2
        intro i hi
        rw [mem_ready] at hi
        have h1 := hi.1
        obtain ⟨o, ho, _⟩ := hi.2
        have hlt : i < listed.size := by rw [hst.lsize]; exact (Array.getElem?_eq_some_iff.1 ho).1
        rw [List.count_eq_zero] at hc
        apply hc
        simp [hlt] at h1
        rw [← h1]
        simp
      exact ⟨hr, hall n listed a w hst hr⟩
    | succ fuel ih =>
      intro n listed a w hn hst
      refine ⟨hall n listed a w hst, fun i hi => ?_⟩
      rw [mem_ready] at hi
      obtain ⟨hl, o, ho, haft⟩ := hi
      exact rg_next hok step hst (by omega) ho hl haft fun a' w' h => ih (n + 1) _ _ _ (by omega) h
  exact key ops.size 0 _ a0 _ (by omega) (rg_first h0)
/-- a region that draws nothing, by the same facts -/
theorem region_plain {id : Nat} {w0 : World} (F : Nat → Value → World → Prop) (I : Nat → World → Prop)
    (hok : opsOk ops a0.tmps.size = true) (h0 : I 0 w0)
    (step : AllFrom (Ob P ops a0 F I) 0 ops.toList)
    (fin : ∀ (u : Nat → Value) (w : World), I ops.size w → AllFrom (fun i o => F i ((o.dst.map u).getD undef) w) 0 ops.toList → Q .normal ⟨outTmps u ops.toList a0.tmps, a0.defers⟩ w) :
    (Code.region id ops false).wp P Q a0 w0 := by
  refine wp_region ?_
  have key : ∀ (m k : Nat) (listed : Array Bool) (a : Act) (w : World), k + m = ops.size → (∀ i, i < ops.size → listed.getD i true = decide (i < k)) → RgSt ops a0 F I k listed a w → wpOps P ops Q (List.range' k m) a w := by
    intro m
    induction m with
    | zero =>
      intro k listed a w hk hl hst
      exact rg_fin hok fin k listed a w hst fun i hi => by
        have h1 : listed.getD i true = true := by rw [hl i hi]; simp; omega
        have h2 : i < listed.size := by rw [hst.lsize]; exact hi
        simpa [h2] using h1
    | succ m ih =>
      intro k listed a w hk hl hst
      rw [List.range'_succ, wpOps_cons]
      have hlt : k < ops.size := by omega
      have ho : ops[k]? = some ops[k] := by simp [hlt]
      refine rg_next hok step hst hlt ho (by rw [hl k hlt]; simp) (fun e he hb => ?_) fun a' w' h => ih (k + 1) _ _ _ (by omega) (fun i hi => ?_) h
      · have h1 := (opsOk_at hok ho).1 e he hb
        have h2 := hl e.on (by omega)
        have h3 : e.on < listed.size := by rw [hst.lsize]; omega
        simp [h3] at h2 ⊢
        rw [h2]; simp [h1]
      · by_cases hik : k = i
        · subst hik
          have h3 : k < listed.size := by rw [hst.lsize]; omega
          simp [h3]
        · rw [getD_set_ne true hik, hl i hi]
          simp; omega
  rw [List.range_eq_range']
  exact key ops.size 0 _ a0 _ (by omega) (fun i hi => by simp [hi]) (rg_first h0)

theorem ob_val {i d : Nat} {op : Op} {ty : TypeId} {pos : String} {after : Array Edge} {g : Option (Nat × Bool)}
    (h : ∀ n a w, n < ops.size → I n w → At ops a0 F ⟨some d, op, ty, pos, after, g⟩ a w → ∃ v w', (execOp a.eval ⟨some d, op, ty, pos, after, g⟩).run P w = .ok (.value v) w' ∧ F i v w' ∧ I (n + 1) w' ∧ ∀ j u, j ≠ i → F j u w → F j u w') :
    ObW P ops a0 F I i ⟨some d, op, ty, pos, after, g⟩ := by
  intro n a w hn hI hat
  obtain ⟨v, w', hr, hv, hI', hF⟩ := h n a w hn hI hat
  unfold Oper.wp
  rw [hr]
  exact ⟨v, rfl, hv, hI', hF⟩
theorem ob_skip {i : Nat} {op : Op} {ty : TypeId} {pos : String} {after : Array Edge} {g : Option (Nat × Bool)}
    (h : ∀ n a w, n < ops.size → I n w → At ops a0 F ⟨none, op, ty, pos, after, g⟩ a w → ∃ w', (execOp a.eval ⟨none, op, ty, pos, after, g⟩).run P w = .ok .skip w' ∧ F i undef w' ∧ I (n + 1) w' ∧ ∀ j u, j ≠ i → F j u w → F j u w') :
    ObW P ops a0 F I i ⟨none, op, ty, pos, after, g⟩ := by
  intro n a w hn hI hat
  obtain ⟨w', hr, hv, hI', hF⟩ := h n a w hn hI hat
  unfold Oper.wp
  rw [hr]
  exact ⟨undef, rfl, hv, hI', hF⟩
theorem ob_call {i d f : Nat} {args : Array Operand} {tys : Array TypeId} {ty : TypeId} {pos : String} {after : Array Edge} {g : Option (Nat × Bool)}
    (hc : ∀ (xs : Array Value) (w : World), (callFunc f xs).run P w = .ok (.enter f xs) w)
    (h : ∀ n a w, n < ops.size → I n w → At ops a0 F ⟨some d, .call ⟨.value (.func f), args, tys⟩, ty, pos, after, g⟩ a w →
      Calls P f (args.map a.eval) w fun e w' => ∃ v, e = .returned v ∧ F i v w' ∧ I (n + 1) w' ∧ ∀ j u, j ≠ i → F j u w → F j u w') :
    ObW P ops a0 F I i ⟨some d, .call ⟨.value (.func f), args, tys⟩, ty, pos, after, g⟩ := by
  intro n a w hn hI hat
  have hk := h n a w hn hI hat
  unfold Oper.wp
  have hr : (execOp a.eval ⟨some d, .call ⟨.value (.func f), args, tys⟩, ty, pos, after, g⟩).run P w = .ok (.enter f (args.map a.eval)) w := by
    simp [execOp, resolve, go_sem, Act.eval, hc]
  rw [hr]
  refine Calls.mono hk ?_
  rintro e w' ⟨v, rfl, h1, h2, h3⟩
  exact ⟨v, rfl, h1, h2, h3⟩
/-- the slot s, written outside the region, when an operation comes up -/
theorem at_out {o : Oper} {a : Act} {w : World} {s : Nat} {v : Value} (hat : At ops a0 F o a w) (hf : fresh ops s = true) (hv : a0.tmps[s]?.getD undef = v) : a.tmps[s]?.getD undef = v := by
  rw [hat.2 s hf]
  exact hv
/-- the slot s, written by number j, when an operation that waits for it comes up -/
theorem at_in {o : Oper} {a : Act} {w : World} {s j : Nat} (hat : At ops a0 F o a w) (hw : waits o j = true) (hs : (ops[j]?).bind (·.dst) = some s) : F j (a.tmps[s]?.getD undef) w := by
  have h := hat.1 j hw
  unfold osl at h
  rw [hs] at h
  exact h
theorem eval_tmp (a : Act) (s : Nat) : a.eval (.tmp s) = a.tmps[s]?.getD undef := by simp [Act.eval, Array.getD_eq_getD_getElem?]
end
end Go.Proofs.Ytbpomeegpkdekaa
