/- A law's region that calls with copies of a machine, an ask and bytes, and lays the answer into a new block: what is said of its operations. Conditions: those that each lemma names. -/
import Derived.Test.YtbpomeegpkdekaaGiveBoth
import Derived.Test.YtbpomeegpkdekaaAskLw
import Derived.Test.YtbpomeegpkdekaaRegAl
import Derived.Test.YtbpomeegpkdekaaToVm
namespace Go.Proofs.Ytbpomeegpkdekaa
open Go.ChangeShapes Go.WideShapes Go.ChangeAt Go.RowKit Go.Joins Go.Deep
set_option linter.unusedVariables false
set_option linter.unusedSimpArgs false
set_option maxRecDepth 4000
/-- a machine in rows of one's own -/
def VmR (lo : Nat) (pc ht : Int) (nr nm : Nat) (xs ys : List Int) (u : Value) (w : World) : Prop :=
  ∃ a1 c1 a2 c2, u = .agg #[.int .i64 pc, .slice a1 nr c1, .slice a2 nm c2, .int .i64 ht] ∧ OwnI 3 1 w lo (.slice a1 nr c1) nr xs ∧ OwnI 3 1 w lo (.slice a2 nm c2) nm ys
def AskR (lo : Nat) (k y t g f : Int) (bs : List Int) (u : Value) (w : World) : Prop :=
  ∃ a c, u = .agg #[.int .i64 k, .int .i64 y, .slice a bs.length c, .int .i64 t, .int .i64 g, .int .i64 f] ∧ Own w lo (.slice a bs.length c) bs
def BytR (lo : Nat) (got : List Int) (u : Value) (w : World) : Prop := ∃ a c, u = .slice a got.length c ∧ Own w lo (.slice a got.length c) got
/-- a block of a machine's state -/
def TB (w : World) (b : Nat) : Prop := ∃ cs : Array Value, w.heap[b]? = some (.cells cs 25 (0, 0)) ∧ cs.size = 4
def PtR (lo : Nat) (u : Value) (w : World) : Prop := ∃ b, u = .pointer (some ⟨b, 0, none⟩) ∧ lo ≤ b ∧ TB w b
def LaidR (lo : Nat) (pc ht : Int) (nr nm : Nat) (xs ys : List Int) (u : Value) (w : World) : Prop :=
  ∃ b a1 c1 a2 c2, u = .pointer (some ⟨b, 0, none⟩) ∧ VB w b [.int .i64 pc, .slice a1 nr c1, .slice a2 nm c2, .int .i64 ht] ∧ OwnI 3 1 w lo (.slice a1 nr c1) nr xs ∧ OwnI 3 1 w lo (.slice a2 nm c2) nm ys ∧ lo ≤ b
theorem TB.lt {w : World} {b : Nat} (h : TB w b) : b < w.heap.size := by
  obtain ⟨cs, h1, _⟩ := h
  rcases Nat.lt_or_ge b w.heap.size with h | h
  · exact h
  · rw [Array.getElem?_eq_none h] at h1; cases h1
theorem TB.keep {w w' : World} {b : Nat} (h : TB w b) (hb : Below w.heap.size w w') : TB w' b := by
  have hl := h.lt
  obtain ⟨cs, h1, h2⟩ := h
  exact ⟨cs, (hb.block b hl).trans h1, h2⟩
theorem TB.set {w : World} {b : Nat} (h : TB w b) (c i : Nat) (v : Value) : TB (w.setCell ⟨c, i, none⟩ v) b := by
  obtain ⟨cs, h1, h2⟩ := h
  by_cases hc : c = b
  · subst hc
    refine ⟨cs.setIfInBounds i v, ?_, by simpa using h2⟩
    simp [World.setCell, Array.getElem?_modify, h1]
  · refine ⟨cs, ?_, h2⟩
    simp [World.setCell, Array.getElem?_modify, h1, hc]
theorem TB.vb {w : World} {b : Nat} (h : TB w b) : ∃ x y z t, VB w b [x, y, z, t] := by
  have hl := h.lt
  obtain ⟨⟨l⟩, h1, h2⟩ := h
  match l, h2 with
  | [x, y, z, t], _ =>
    refine ⟨x, y, z, t, fun i hi => ?_, fun o => by simp [World.frozen?, h1], hl⟩
    simp only [World.cell?, h1]
    rw [List.getD_eq_getElem?_getD]
    simp at hi
    simp [hi]
theorem ownI_neTB {w : World} {lo n b : Nat} {u : Value} {xs : List Int} (h : OwnI 3 1 w lo u n xs) (hb : TB w b) : ∀ j, u.ownBlock = some j → ¬ j = b := by
  rintro j hj rfl
  obtain ⟨cs, h1, _⟩ := hb
  rcases h.2 with ⟨rfl, _⟩ | ⟨g, cap, cur, rfl, _, hh, _⟩
  · simp [Value.ownBlock] at hj
  · simp [Value.ownBlock] at hj
    subst hj
    rw [hh] at h1
    simp at h1
theorem own_neTB {w : World} {lo b : Nat} {u : Value} {xs : List Int} (h : Own w lo u xs) (hb : TB w b) : ∀ j, u.ownBlock = some j → ¬ j = b := by
  rintro j hj rfl
  obtain ⟨cs, h1, _⟩ := hb
  rcases h.2.2 with ⟨rfl, _⟩ | ⟨g, cap, cur, rfl, _, hh, _⟩
  · simp [Value.ownBlock] at hj
  · simp [Value.ownBlock] at hj
    subst hj
    rw [hh] at h1
    simp at h1
theorem lasts_vmR {lo nr nm : Nat} {pc ht : Int} {xs ys : List Int} : Lasts (VmR lo pc ht nr nm xs ys) := fun v w w' hb ⟨a1, c1, a2, c2, h1, h2, h3⟩ => ⟨a1, c1, a2, c2, h1, h2.keep hb, h3.keep hb⟩
theorem lasts_askR {lo : Nat} {k y t g f : Int} {bs : List Int} : Lasts (AskR lo k y t g f bs) := fun v w w' hb ⟨a, c, h1, h2⟩ => ⟨a, c, h1, h2.keep hb⟩
theorem lasts_bytR {lo : Nat} {bs : List Int} : Lasts (BytR lo bs) := fun v w w' hb ⟨a, c, h1, h2⟩ => ⟨a, c, h1, h2.keep hb⟩
theorem lasts_ptR {lo : Nat} : Lasts (PtR lo) := fun v w w' hb ⟨b, h1, h2, h3⟩ => ⟨b, h1, h2, h3.keep hb⟩
theorem lasts_laidR {lo nr nm : Nat} {pc ht : Int} {xs ys : List Int} : Lasts (LaidR lo pc ht nr nm xs ys) := fun v w w' hb ⟨b, a1, c1, a2, c2, h1, h2, h3, h4, h5⟩ => ⟨b, a1, c1, a2, c2, h1, h2.keep hb, h3.keep hb, h4.keep hb, h5⟩
/-- what is said lasts when a block of a machine's state is written -/
def LastT (p : Value → World → Prop) : Prop := ∀ (v : Value) (w : World) (b : Nat) (x0 x1 x2 x3 : Value), TB w b → p v w → p v (st4 w b x0 x1 x2 x3)
theorem st4_chg (w : World) (b : Nat) (x0 x1 x2 x3 : Value) : Chg (fun j => j = b) w (st4 w b x0 x1 x2 x3) := vbchg4 x0 x1 x2 x3 rfl
theorem lastT_val (x : Value) : LastT (fun v _ => v = x) := fun _ _ _ _ _ _ _ _ h => h
theorem lastT_vmR {lo nr nm : Nat} {pc ht : Int} {xs ys : List Int} : LastT (VmR lo pc ht nr nm xs ys) := fun v w b x0 x1 x2 x3 hb ⟨a1, c1, a2, c2, h1, h2, h3⟩ => ⟨a1, c1, a2, c2, h1, h2.chg (st4_chg w b x0 x1 x2 x3) (ownI_neTB h2 hb), h3.chg (st4_chg w b x0 x1 x2 x3) (ownI_neTB h3 hb)⟩
theorem lastT_askR {lo : Nat} {k y t g f : Int} {bs : List Int} : LastT (AskR lo k y t g f bs) := fun v w b x0 x1 x2 x3 hb ⟨a, c, h1, h2⟩ => ⟨a, c, h1, own_chgA h2 (st4_chg w b x0 x1 x2 x3) (own_neTB h2 hb)⟩
theorem lastT_bytR {lo : Nat} {bs : List Int} : LastT (BytR lo bs) := fun v w b x0 x1 x2 x3 hb ⟨a, c, h1, h2⟩ => ⟨a, c, h1, own_chgA h2 (st4_chg w b x0 x1 x2 x3) (own_neTB h2 hb)⟩
theorem lastT_ptR {lo : Nat} : LastT (PtR lo) := fun v w b x0 x1 x2 x3 hb ⟨c, h1, h2, h3⟩ => ⟨c, h1, h2, (((h3.set b 0 x0).set b 1 x1).set b 2 x2).set b 3 x3⟩
def AllTBut (i : Nat) : Nat → List (Value → World → Prop) → Prop
  | _, [] => True
  | k, p :: ps => (k = i ∨ LastT p) ∧ AllTBut i (k + 1) ps
theorem AllTBut.at {i : Nat} : ∀ {ps : List (Value → World → Prop)} {k : Nat}, AllTBut i k ps → ∀ j, k + j ≠ i → LastT (ps.getD j (fun _ _ => True))
  | [], k, _, j, _ => fun _ _ _ _ _ _ _ _ _ => by simp
  | p :: ps, k, h, 0, hj => by rcases h.1 with e | e; exact absurd e (by simpa using hj); simpa using e
  | p :: ps, k, h, j + 1, hj => by
    have := AllTBut.at h.2 j (by omega)
    simpa using this
section
variable {ops : Array Oper} {a0 : Act} {w0 : World} {ps : List (Value → World → Prop)}
theorem bw_allocS {i d : Nat} {ty : TypeId} {pos : String} {after : Array Edge} {gd : Option (Nat × Bool)} (HL : AllLast ps) (hp : ps.getD i (fun _ _ => True) = PtR w0.heap.size) :
    ObW Try.prog ops a0 (Pf ps) (BW w0) i ⟨some d, .alloc 25, ty, pos, after, gd⟩ := by
  refine ob_val fun n a w hn hI hat => ?_
  have hb := below_alloc1 w (.cells #[.int .i64 0, .slice none 0 0, .slice none 0 0, .int .i64 0] 25)
  refine ⟨.pointer (some ⟨w.heap.size, 0, none⟩), w.alloc (.cells #[.int .i64 0, .slice none 0 0, .slice none 0 0, .int .i64 0] 25), ?_, by unfold Pf; rw [hp]; exact ⟨_, rfl, hI.size, _, heap_alloc_new w _, rfl⟩, hI.trans (hb.mono hI.size), fun j u hj h => HL.at j u w _ hb h⟩
  simp only [execOp]
  clear hat hI
  go_simp
theorem obS_store {i s r : Nat} {al : Nat → Nat} {ty : TypeId} {pos : String} {after : Array Edge} {pc ht : Int} {nr nm : Nat} {xs ys : List Int} (jp jv : Nat) (HT : AllTBut i 0 ps) (hal : al i = s)
    (hw : waits ⟨none, .store 25 (.tmp s) (.tmp r), ty, pos, after, none⟩ jp = true) (hs : (ops[jp]?).bind (·.dst) = some s) (hjp : ps.getD jp (fun _ _ => True) = PtR w0.heap.size)
    (hw2 : waits ⟨none, .store 25 (.tmp s) (.tmp r), ty, pos, after, none⟩ jv = true) (hs2 : (ops[jv]?).bind (·.dst) = some r) (hjv : ps.getD jv (fun _ _ => True) = VmR w0.heap.size pc ht nr nm xs ys)
    (hp : ps.getD i (fun _ _ => True) = LaidR w0.heap.size pc ht nr nm xs ys) :
    ObS Try.prog ops a0 al (Pf ps) (BW w0) i ⟨none, .store 25 (.tmp s) (.tmp r), ty, pos, after, none⟩ := by
  refine ⟨rfl, fun n a w hn hI hat => ?_⟩
  obtain ⟨b, e1, hb, tb⟩ := ok_of jp hw hs hjp hat
  obtain ⟨a1, c1, a2, c2, e2, o1, o2⟩ := ok_of jv hw2 hs2 hjv hat
  obtain ⟨x, y, z, t, vb⟩ := tb.vb
  have hst := st_state vb pc ht a1 a2 nr c1 nm c2
  refine ⟨_, ?_, ?_, below_chg hI (st4_chg w b (.int .i64 pc) (.slice a1 nr c1) (.slice a2 nm c2) (.int .i64 ht)) hI.size (fun j hj => by have hj : j = b := hj; omega), fun j u hj h => HT.at j (by omega) u w b _ _ _ _ tb h⟩
  · simp only [execOp, e1, e2]
    simp only [Sem.run_bind, hst]
    rfl
  · rw [hal]
    have e1' : sl a s = .pointer (some ⟨b, 0, none⟩) := by rw [← e1, eval_tmp]; rfl
    unfold Pf
    rw [hp, e1']
    exact ⟨b, a1, c1, a2, c2, rfl, vbset4 _ _ _ _ vb, o1.chg (st4_chg w b _ _ _ _) (ownI_neTB o1 tb), o2.chg (st4_chg w b _ _ _ _) (ownI_neTB o2 tb), hb⟩
end
def GiveN (PC HT : Int) (N M : Nat) (XS YS : List Int) (w : World) (e : Ending) (w' : World) : Prop :=
  ∃ a1 c1 a2 c2, e = .returned (.agg #[.int .i64 PC, .slice a1 N c1, .slice a2 M c2, .int .i64 HT]) ∧ OwnI 3 1 w' w.heap.size (.slice a1 N c1) N XS ∧ OwnI 3 1 w' w.heap.size (.slice a2 M c2) M YS ∧ (∀ j, (Value.slice a1 N c1).ownBlock = some j → (Value.slice a2 M c2).ownBlock ≠ some j) ∧ Below w.heap.size w w'
def GiveCt (f : Nat) (pc ht k y t g ff : Int) (bs got : List Int) (yes : Bool) (nr nm : Nat) (xs ys : List Int) (PC HT : Int) (N M : Nat) (XS YS : List Int) : Prop :=
  ∀ (ba : Option Addr) (bc : Nat) (gv u v : Value) (w : World), RdI 1 w u nr xs → RdI 1 w v nm ys → Rd w (.slice ba bs.length bc) bs → Rd w gv got → Calls Try.prog f #[.agg #[.int .i64 pc, u, v, .int .i64 ht], .agg #[.int .i64 k, .int .i64 y, .slice ba bs.length bc, .int .i64 t, .int .i64 g, .int .i64 ff], gv, .bool yes] w fun e w' => GiveN PC HT N M XS YS w e w'
theorem give_both (pc ht k y t g f : Int) (bs got : List Int) (yes : Bool) (nr nm : Nat) (xs ys : List Int) :
    ∃ PC HT N M XS YS, N ≤ 4 ∧ M ≤ 8 ∧ GiveCt 21 pc ht k y t g f bs got yes nr nm xs ys PC HT N M XS YS ∧ GiveCt 24 pc ht k y t g f bs got yes nr nm xs ys PC HT N M XS YS := by
  have key : ∀ {ok : Bool} {H : Int} {R M : List Int} {w w' : World} {e : Ending}, GivePost ok pc H R M w e w' → GiveN (if ok then pc else 0) (if ok then H else 0) (if ok then 4 else 0) (if ok then 8 else 0) (if ok then R else []) (if ok then M else []) w e w' := by
    rintro ok H R M w w' e ⟨u, v, rfl, o1, o2, ap, b⟩
    obtain ⟨a1, c1, rfl, _⟩ := ownI_form o1
    obtain ⟨a2, c2, rfl, _⟩ := ownI_form o2
    exact ⟨a1, c1, a2, c2, rfl, o1, o2, ap, b⟩
  refine ⟨_, _, _, _, _, _, ?_, ?_, fun ba bc gv u v w hu hv hb hgv => (vmGive_any pc ht k y t g f ba bc bs gv got yes u v nr nm xs ys w hu hv hb hgv).mono fun e w' h => key h, fun ba bc gv u v w hu hv hb hgv => (specVmGive_any pc ht k y t g f ba bc bs gv got yes u v nr nm xs ys w hu hv hb hgv).mono fun e w' h => key h⟩
  · split <;> omega
  · split <;> omega
end Go.Proofs.Ytbpomeegpkdekaa
