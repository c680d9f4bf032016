/- A region that draws its order, all orders at once, where of a store is said what lies at the pointer that it went to; of no program in particular. Conditions: as Regs; nobody waits for a store; a store waits for its pointer. -/
import Derived.Test.YtbpomeegpkdekaaRegBw
namespace Go.Proofs.Ytbpomeegpkdekaa
open Go.ChangeShapes Go.WideShapes Go.ChangeAt Go.RowKit Go.Joins Go.Deep
set_option linter.unusedVariables false
set_option linter.unusedSimpArgs false

/-- the operation that writes the slot d -/
def writerOf (ops : Array Oper) (d : Nat) (k : Nat) : Bool := ((ops[k]?).bind (·.dst)) == some d
/-- a store waits for the operation that writes the slot of its pointer (al), and nobody waits for a store -/
def alOk (ops : Array Oper) (al : Nat → Nat) : Bool :=
  (List.range ops.size).all fun j => match ops[j]? with
    | none => true
    | some o => (match o.dst with
      | some _ => true
      | none => (List.range ops.size).any fun k => writerOf ops (al j) k && waits o k) &&
      (List.range ops.size).all fun k => !waits o k || ((ops[k]?).bind (·.dst)).isSome
/-- what is said of operation number j is said of its slot, of a store's of its pointer's -/
def oslA (ops : Array Oper) (al : Nat → Nat) (a : Act) (j : Nat) : Value := match (ops[j]?).bind (·.dst) with | some d => sl a d | none => sl a (al j)
theorem oslA_some {ops : Array Oper} {al : Nat → Nat} {a : Act} {j : Nat} (h : ((ops[j]?).bind (·.dst)).isSome = true) : oslA ops al a j = osl ops a j := by
  unfold oslA osl
  cases hd : (ops[j]?).bind (·.dst) with
  | none => rw [hd] at h; cases h
  | some d => rfl
/-- what is to be shown of a store -/
def ObS (P : Program) (ops : Array Oper) (a0 : Act) (al : Nat → Nat) (F : Nat → Value → World → Prop) (I : Nat → World → Prop) (i : Nat) (o : Oper) : Prop :=
  o.guard = none ∧ ∀ (n : Nat) (a : Act) (w : World), n < ops.size → I n w → At ops a0 F o a w →
    ∃ w', (execOp a.eval o).run P w = .ok .skip w' ∧ F i (sl a (al i)) w' ∧ I (n + 1) w' ∧ ∀ j u, j ≠ i → F j u w → F j u w'
def ObA (P : Program) (ops : Array Oper) (a0 : Act) (al : Nat → Nat) (F : Nat → Value → World → Prop) (I : Nat → World → Prop) (i : Nat) (o : Oper) : Prop :=
  match o.dst with
  | some _ => Ob P ops a0 F I i o
  | none => ObS P ops a0 al F I i o
theorem obA_st {P : Program} {ops : Array Oper} {a0 : Act} {al : Nat → Nat} {F : Nat → Value → World → Prop} {I : Nat → World → Prop} {i : Nat} {op : Op} {ty : TypeId} {pos : String} {after : Array Edge} {g : Option (Nat × Bool)}
    (h : ObS P ops a0 al F I i ⟨none, op, ty, pos, after, g⟩) : ObA P ops a0 al F I i ⟨none, op, ty, pos, after, g⟩ := h
structure RgStA (ops : Array Oper) (a0 : Act) (al : Nat → Nat) (F : Nat → Value → World → Prop) (I : Nat → World → Prop) (n : Nat) (listed : Array Bool) (a : Act) (w : World) : Prop where
  lsize : listed.size = ops.size
  left : listed.toList.count false + n = ops.size
  size : a.tmps.size = a0.tmps.size
  defers : a.defers = a0.defers
  other : ∀ (t : Nat), (∀ (j : Nat) (o : Oper), ops[j]? = some o → o.dst ≠ some t) → a.tmps[t]? = a0.tmps[t]?
  fact : ∀ (i : Nat) (o : Oper), ops[i]? = some o → listed.getD i false = true → F i (oslA ops al a i) w
  closed : ∀ (i : Nat) (o : Oper), ops[i]? = some o → listed.getD i false = true → ∀ k, waits o k = true → listed.getD k false = true
  inv : I n w
section
variable {P : Program} {ops : Array Oper} {Q : Exit → Act → World → Prop} {a0 : Act} {al : Nat → Nat} {F : Nat → Value → World → Prop} {I : Nat → World → Prop}
theorem rgA_all {n : Nat} {listed : Array Bool} {a : Act} {w : World} (hok : opsOk ops a0.tmps.size = true) (hst : RgStA ops a0 al F I n listed a w)
    (hr : Region.ready .any ops listed = []) : ∀ k, ∀ i, i < k → i < ops.size → listed.getD i false = true := by
  intro k
  induction k with
  | zero => intro i hi; omega
  | succ k ih =>
    intro i hi hlt
    by_cases hik : i < k
    · exact ih i hik hlt
    · obtain rfl : i = k := by omega
      cases hl : listed.getD i false with
      | true => rfl
      | false =>
        exfalso
        have hlt' : i < listed.size := by rw [hst.lsize]; exact hlt
        have hm : i ∈ Region.ready .any ops listed := by
          rw [mem_ready]
          refine ⟨by simpa [hlt'] using hl, ops[i], by simp [hlt], fun e he hb => ?_⟩
          have := (opsOk_at hok (i := i) (o := ops[i]) (by simp [hlt])).1 e he hb
          exact ih e.on this (by omega)
        rw [hr] at hm
        cases hm
theorem alOk_at {j : Nat} {o : Oper} (h : alOk ops al = true) (hj : ops[j]? = some o) :
    (o.dst = none → ∃ k, (ops[k]?).bind (·.dst) = some (al j) ∧ waits o k = true) ∧ ∀ k, k < ops.size → waits o k = true → ((ops[k]?).bind (·.dst)).isSome = true := by
  have hlt : j < ops.size := (Array.getElem?_eq_some_iff.1 hj).1
  have h1 := (List.all_eq_true.1 h) j (List.mem_range.2 hlt)
  simp only [hj] at h1
  rw [Bool.and_eq_true] at h1
  refine ⟨fun hd => ?_, fun k hk hw => ?_⟩
  · have h2 := h1.1
    simp only [hd] at h2
    obtain ⟨k, hk, h3⟩ := List.any_eq_true.1 h2
    rw [Bool.and_eq_true] at h3
    exact ⟨k, by simpa [writerOf] using h3.1, h3.2⟩
  · have h2 := (List.all_eq_true.1 h1.2) k (List.mem_range.2 hk)
    rw [hw] at h2
    simpa using h2
theorem slput {a : Act} {d e : Nat} {v : Value} (h : d ≠ e) : sl (a.put (some d) v) e = sl a e := by
  simp [sl, Act.put, Array.getElem?_setIfInBounds_ne h]
theorem rgA_step {i n : Nat} {o : Oper} {listed : Array Bool} {a : Act} {w w' : World} {v : Value} (hok : opsOk ops a0.tmps.size = true) (hal : alOk ops al = true) (hst : RgStA ops a0 al F I n listed a w)
    (hi : ops[i]? = some o) (hl : listed.getD i true = false) (haft : ∀ k, waits o k = true → listed.getD k false = true) (hv : F i (match o.dst with | some _ => v | none => sl a (al i)) w') (hI : I (n + 1) w') (hF : ∀ j u, j ≠ i → F j u w → F j u w') :
    RgStA ops a0 al F I (n + 1) (listed.setIfInBounds i true) (a.put o.dst v) w' := by
  have hlt : i < ops.size := (Array.getElem?_eq_some_iff.1 hi).1
  have hll : i < listed.size := by rw [hst.lsize]; exact hlt
  have hgd : ∀ k, k ≠ i → (listed.setIfInBounds i true).getD k false = listed.getD k false := fun k hk => getD_set_ne false (Ne.symm hk)
  have hgi : (listed.setIfInBounds i true).getD i false = true := by simp [hll]
  refine ⟨by simp [hst.lsize], ?_, ?_, ?_, ?_, ?_, ?_, hI⟩
  · have h1 : listed.toList[i]? = some false := by
      simp [hll] at hl ⊢; exact hl
    have h2 := count_set h1
    have h3 := hst.left
    simp only [Array.setIfInBounds, hll, dif_pos, Array.toList_set]
    omega
  · cases o.dst <;> simp [Act.put, hst.size]
  · cases o.dst <;> simp [Act.put, hst.defers]
  · intro t ht
    cases hd : o.dst with
    | none => simpa [Act.put] using hst.other t ht
    | some d =>
      have hne : d ≠ t := fun e => ht i o hi (by rw [hd, e])
      simpa [Act.put, Array.getElem?_setIfInBounds_ne hne] using hst.other t ht
  · intro j oj hj hlj
    by_cases hji : j = i
    · subst hji
      obtain rfl : o = oj := by rw [hi] at hj; exact Option.some.inj hj
      cases hd : o.dst with
      | none => simp only [hd] at hv; simpa [oslA, hi, hd, Act.put] using hv
      | some d =>
        simp only [hd] at hv
        have hds : d < a.tmps.size := by rw [hst.size]; exact ((opsOk_at hok hi).2 d hd).1
        simpa [oslA, hi, hd, Act.put, sl, hds] using hv
    · have hlj' : listed.getD j false = true := by rwa [hgd j hji] at hlj
      have hsame : oslA ops al (a.put o.dst v) j = oslA ops al a j := by
        cases hd : o.dst with
        | none => rfl
        | some d =>
          unfold oslA
          cases hdj : (ops[j]?).bind (·.dst) with
          | some dj =>
            have h3 : oj.dst = some dj := by rw [hj] at hdj; simpa using hdj
            have := ((opsOk_at hok hi).2 d hd).2 j oj hj hji
            exact slput (fun e => this (by rw [h3, e]))
          | none =>
            have h3 : oj.dst = none := by rw [hj] at hdj; simpa using hdj
            obtain ⟨k, hk, hwk⟩ := (alOk_at hal hj).1 h3
            have hkl := hst.closed j oj hj hlj' k hwk
            have hki : k ≠ i := fun e => by
              subst e
              have : k < listed.size := hll
              simp [this] at hl hkl
              rw [hl] at hkl; cases hkl
            refine slput (fun e => ?_)
            cases hok2 : ops[k]? with
            | none => rw [hok2] at hk; cases hk
            | some ok =>
              rw [hok2] at hk
              exact ((opsOk_at hok hi).2 d hd).2 k ok hok2 hki (by rw [e]; simpa using hk)
      rw [hsame]
      exact hF j _ hji (hst.fact j oj hj hlj')
  · intro j oj hj hlj k hwk
    by_cases hki : k = i
    · subst hki; exact hgi
    · rw [hgd k hki]
      by_cases hji : j = i
      · subst hji
        obtain rfl : o = oj := by rw [hi] at hj; exact Option.some.inj hj
        exact haft k hwk
      · exact hst.closed j oj hj (by rwa [hgd j hji] at hlj) k hwk
theorem rgA_fin (hok : opsOk ops a0.tmps.size = true)
    (fin : ∀ (u : Nat → Value) (w : World), I ops.size w → AllFrom (fun i o => F i (match o.dst with | some d => u d | none => u (al i)) w) 0 ops.toList → Q .normal ⟨outTmps u ops.toList a0.tmps, a0.defers⟩ w)
    (n : Nat) (listed : Array Bool) (a : Act) (w : World) (hst : RgStA ops a0 al F I n listed a w) (hall : ∀ i, i < ops.size → listed.getD i false = true) : Q .normal a w := by
  have hc : listed.toList.count false = 0 := by
    rw [List.count_eq_zero]
    intro hmem
    obtain ⟨i, hi, he⟩ := List.mem_iff_getElem.1 hmem
    have hi' : i < listed.size := by simpa using hi
    have := hall i (by rw [← hst.lsize]; exact hi')
    simp [hi'] at this he
    rw [this] at he
    cases he
  have hn : n = ops.size := by have := hst.left; omega
  subst hn
  have ha : a = ⟨outTmps (sl a) ops.toList a0.tmps, a0.defers⟩ := by
    obtain ⟨t, d⟩ := a
    have hd := hst.defers
    simp only at hd
    subst hd
    congr 1
    apply Array.ext'
    apply List.ext_getElem?
    intro k
    have h1 := outTmps_at (sl ⟨t, a0.defers⟩) ops.toList a0.tmps k
    have hs : t.size = a0.tmps.size := hst.size
    rw [Array.getElem?_toList, Array.getElem?_toList, h1]
    by_cases hk : ∃ o ∈ ops.toList, o.dst = some k
    · by_cases hlt : k < a0.tmps.size
      · rw [if_pos ⟨hlt, hk⟩]
        simp [sl, hs, hlt]
      · rw [if_neg (by simp [hlt])]
        rw [Array.getElem?_eq_none (by omega), Array.getElem?_eq_none (by omega)]
    · rw [if_neg (fun h => hk h.2)]
      exact hst.other k fun j o hj hd => hk ⟨o, by
        have := Array.getElem?_eq_some_iff.1 hj
        obtain ⟨hl, he⟩ := this
        rw [← he]; simp, hd⟩
  rw [ha]
  refine fin (sl a) w hst.inv (allFrom_of fun i o hi => ?_)
  have hi' : ops[i]? = some o := by simpa using hi
  have hlt : i < ops.size := (Array.getElem?_eq_some_iff.1 hi').1
  have := hst.fact i o hi' (hall i hlt)
  rw [Nat.zero_add]
  unfold oslA at this
  rw [hi'] at this
  cases hd : o.dst with
  | none => simpa [hd] using this
  | some d => simpa [hd] using this
theorem rgA_next {n i : Nat} {o : Oper} {listed : Array Bool} {a : Act} {w : World} {K : Act → World → Prop} (hok : opsOk ops a0.tmps.size = true) (hal : alOk ops al = true) (step : AllFrom (ObA P ops a0 al F I) 0 ops.toList)
    (hst : RgStA ops a0 al F I n listed a w) (hn : n < ops.size) (ho : ops[i]? = some o) (hl : listed.getD i true = false) (haft : ∀ e ∈ o.after, Region.binds .any e = true → listed.getD e.on false = true)
    (hK : ∀ a' w', RgStA ops a0 al F I (n + 1) (listed.setIfInBounds i true) a' w' → K a' w') : wpOp P ops Q i K a w := by
  have hop := step.at (i := i) (o := o) (by simpa using ho)
  rw [Nat.zero_add] at hop
  have haw : ∀ k, waits o k = true → listed.getD k false = true := fun k hk => by
    obtain ⟨e, he, hb, rfl⟩ := waits_at hk
    exact haft e he hb
  have hat : At ops a0 F o a w := ⟨fun j hj => by
    obtain ⟨e, he, hb, rfl⟩ := waits_at hj
    have hlt := (opsOk_at hok ho).1 e he hb
    have hsz : e.on < ops.size := by have := (Array.getElem?_eq_some_iff.1 ho).1; omega
    have h1 := hst.fact e.on ops[e.on] (by simp [hsz]) (haft e he hb)
    rwa [oslA_some ((alOk_at hal ho).2 e.on hsz hj)] at h1, fun t ht => hst.other t (fresh_at ht)⟩
  unfold wpOp
  simp only [ho]
  cases hd : o.dst with
  | none =>
    unfold ObA at hop
    rw [hd] at hop
    obtain ⟨hg, hop⟩ := hop
    obtain ⟨w', hr, hv, hI, hF⟩ := hop n a w hn hst.inv hat
    have hw : Region.wanted o (yielded ops a.tmps) = true := by simp [Region.wanted, hg]
    simp only [hw, if_true]
    refine .inl ?_
    unfold Oper.wp
    rw [hr]
    have := rgA_step (v := undef) hok hal hst ho hl haw (by rw [hd]; exact hv) hI hF
    exact hK _ _ this
  | some d =>
    unfold ObA at hop
    rw [hd] at hop
    obtain ⟨h1, h2⟩ := hop n a w hn hst.inv hat
    cases hw : Region.wanted o (yielded ops a.tmps) with
    | true =>
      simp only [if_true]
      refine .inl (Oper.wp_to ?_ (h1 hw))
      rintro a' w' ⟨v, rfl, hv, hI, hF⟩
      rw [hd] at hv
      exact hK _ _ (rgA_step hok hal hst ho hl haw (by rw [hd]; exact hv) hI hF)
    | false =>
      simp only [Bool.false_eq_true, if_false]
      obtain ⟨hv, hI⟩ := h2 hw
      have := rgA_step (v := undef) hok hal hst ho hl haw (by rw [hd]; exact hv) hI fun _ _ _ h => h
      rw [hd] at this
      exact hK _ _ this
theorem rgA_first {w : World} (h0 : I 0 w) : RgStA ops a0 al F I 0 (Array.replicate ops.size false) a0 w :=
  ⟨by simp, by simp, rfl, rfl, fun _ _ => rfl, fun i o hi hl => by
    have hlt : i < ops.size := (Array.getElem?_eq_some_iff.1 hi).1
    simp [hlt] at hl, fun i o hi hl => by
    have hlt : i < ops.size := (Array.getElem?_eq_some_iff.1 hi).1
    simp [hlt] at hl, h0⟩
/-- every order at once -/
theorem region_al {id : Nat} {w0 : World} (al : Nat → Nat) (F : Nat → Value → World → Prop) (I : Nat → World → Prop)
    (hm : P.follows .mixedOrders = true) (hok : opsOk ops a0.tmps.size = true) (hal : alOk ops al = true) (h0 : I 0 w0.drew)
    (step : AllFrom (ObA P ops a0 al F I) 0 ops.toList)
    (fin : ∀ (u : Nat → Value) (w : World), I ops.size w → AllFrom (fun i o => F i (match o.dst with | some d => u d | none => u (al i)) w) 0 ops.toList → Q .normal ⟨outTmps u ops.toList a0.tmps, a0.defers⟩ w) :
    (Code.region id ops true).wp P Q a0 w0 := by
  refine wp_region_any hm ?_
  have hall : ∀ (n : Nat) (listed : Array Bool) (a : Act) (w : World), RgStA ops a0 al F I n listed a w → Region.ready .any ops listed = [] → Q .normal a w := fun n listed a w hst hr =>
    rgA_fin hok fin n listed a w hst fun i hi => rgA_all hok hst hr (i + 1) i (by omega) hi
  have key : ∀ (fuel n : Nat) (listed : Array Bool) (a : Act) (w : World), n + fuel = ops.size → RgStA ops a0 al F I n listed a w → wpAny P .any ops Q fuel listed a w := by
    intro fuel
    induction fuel with
    | zero =>
      intro n listed a w hn hst
      have hc : listed.toList.count false = 0 := by have := hst.left; omega
      have hr : Region.ready .any ops listed = [] := by
        apply List.eq_nil_iff_forall_not_mem.2
        intro i hi
        rw [mem_ready] at hi
        have h1 := hi.1
        obtain ⟨o, ho, _⟩ := hi.2
        have hlt : i < listed.size := by rw [hst.lsize]; exact (Array.getElem?_eq_some_iff.1 ho).1
        rw [List.count_eq_zero] at hc
        apply hc
        simp [hlt] at h1
        rw [← h1]
        simp
      exact ⟨hr, hall n listed a w hst hr⟩
    | succ fuel ih =>
      intro n listed a w hn hst
      refine ⟨hall n listed a w hst, fun i hi => ?_⟩
      rw [mem_ready] at hi
      obtain ⟨hl, o, ho, haft⟩ := hi
      exact rgA_next hok hal step hst (by omega) ho hl haft fun a' w' h => ih (n + 1) _ _ _ (by omega) h
  exact key ops.size 0 _ a0 _ (by omega) (rgA_first h0)
end
end Go.Proofs.Ytbpomeegpkdekaa
