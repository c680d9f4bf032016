/- Appends of bytes within a region of a law, all orders at once (RegBw): append([]byte{}, row), and behind it append(that, byte). Conditions: those that each lemma names. -/
import Derived.Test.YthhgjnhfidhmpaaRegBw
import Derived.Test.YthhgjnhfidhmpaaBytes
import Derived.Test.YthhgjnhfidhmpaaByteStrG
import Derived.ArgAppend
namespace Go.Proofs.Ythhgjnhfidhmpaa
open Go.ChangeShapes Go.WideShapes Go.ChangeAt Go.RowKit Go.Joins Go.Deep
set_option linter.unusedVariables false
set_option linter.unusedSimpArgs false
set_option maxRecDepth 4000
/-- an empty row of one's own -/
def EmpS (B : Nat) (u : Value) : Prop := ∃ j, u = .slice (some ⟨j, 0, none⟩) 0 0 ∧ B ≤ j
/-- a row of one byte of one's own -/
def LitS (B : Nat) (z : Int) (u : Value) (w : World) : Prop := ∃ j, u = .slice (some ⟨j, 0, none⟩) 1 1 ∧ B ≤ j ∧ w.cell? ⟨j, 0, none⟩ = some (.int .u8 z)
/-- bytes in a row of one's own, with what is spare behind them -/
def RowS (B : Nat) (bs : List Int) (u : Value) (w : World) : Prop := ∃ g cap, u = .slice (some ⟨g, 0, none⟩) bs.length cap ∧ B ≤ g ∧ (bs = [] → cap = 0) ∧ (∀ i, i < bs.length → w.cell? ⟨g, i, none⟩ = some (.int .u8 (bs.getD i 0))) ∧ (∀ j, j < cap → (w.cell? ⟨g, j, none⟩).isSome = true ∧ w.frozen? ⟨g, j, none⟩ = false)
theorem lasts_emp (B : Nat) : Lasts (fun u _ => EmpS B u) := fun _ _ _ _ h => h
theorem lasts_lit (B : Nat) (z : Int) : Lasts (LitS B z) := fun v w w' hb ⟨j, h1, h2, h3⟩ => ⟨j, h1, h2, cell_keep hb h3⟩
theorem lasts_row (B : Nat) (bs : List Int) : Lasts (RowS B bs) := by
  rintro v w w' hb ⟨g, cap, h1, h2, h3, h4, h5⟩
  refine ⟨g, cap, h1, h2, h3, fun i hi => cell_keep hb (h4 i hi), fun j hj => ?_⟩
  obtain ⟨h6, h7⟩ := h5 j hj
  obtain ⟨x, hx⟩ := Option.isSome_iff_exists.1 h6
  exact ⟨by rw [cell_keep hb hx]; rfl, (hb.frozen (World.block_lt_of_cell? w _ hx)).trans h7⟩
/-- what is said lasts when a cell behind the beginning of a new row is written -/
def StP (B n : Nat) (p : Value → World → Prop) : Prop := ∀ (z : Value) (g : Nat) (u : Value) (w : World), B ≤ g → (w.cell? ⟨g, n, none⟩).isSome = true → p u w → p u (w.setCell ⟨g, n, none⟩ z)
def StAll (B n i : Nat) : Nat → List (Value → World → Prop) → Prop
  | _, [] => True
  | k, p :: ps => (k = i ∨ StP B n p) ∧ StAll B n i (k + 1) ps
theorem StAll.at {B n i : Nat} : ∀ {ps : List (Value → World → Prop)} {k : Nat}, StAll B n i k ps → ∀ j, k + j ≠ i → StP B n (ps.getD j (fun _ _ => True))
  | [], k, _, j, _ => fun _ _ _ _ _ _ _ => by simp
  | p :: ps, k, h, 0, hj => by rcases h.1 with e | e; exact absurd e (by simpa using hj); simpa using e
  | p :: ps, k, h, j + 1, hj => by
    have := StAll.at h.2 j (by omega)
    simpa using this
theorem st_val {B n : Nat} (x : Value) : StP B n (fun v _ => v = x) := fun _ _ _ _ _ _ h => h
theorem st_true {B n : Nat} : StP B n (fun _ _ => True) := fun _ _ _ _ _ _ h => h
theorem st_emp {B n : Nat} : StP B n (fun u _ => EmpS B u) := fun _ _ _ _ _ _ h => h
theorem st_lit {B n : Nat} {z : Int} (hn : 1 ≤ n) : StP B n (LitS B z) := by
  rintro y g u w hg hs ⟨j, h1, h2, h3⟩
  exact ⟨j, h1, h2, by rw [World.cell?_setCell_other _ _ _ _ (fun e => by have := (Addr.mk.inj e).2.1; omega)]; exact h3⟩
theorem st_row {B : Nat} {bs : List Int} : StP B bs.length (RowS B bs) := by
  rintro y g u w hg hs ⟨k, cap, h1, h2, h3, h4, h5⟩
  refine ⟨k, cap, h1, h2, h3, fun i hi => ?_, fun j hj => ?_⟩
  · rw [World.cell?_setCell_other _ _ _ _ (fun e => by have := (Addr.mk.inj e).2.1; omega)]; exact h4 i hi
  · obtain ⟨h6, h7⟩ := h5 j hj
    refine ⟨?_, by simpa using h7⟩
    by_cases e : (⟨g, bs.length, none⟩ : Addr) = ⟨k, j, none⟩
    · rw [← e] at h6 ⊢
      obtain ⟨x, hx⟩ := Option.isSome_iff_exists.1 h6
      rw [World.cell?_setCell_same' _ _ _ (by rw [hx]; rfl)]
      rfl
    · rw [World.cell?_setCell_other _ _ _ _ e]; exact h6
theorem row_of_own {w : World} {B : Nat} {v : Value} {bs : List Int} (h : w.ownsRow B 5 1 v bs.length (bs.map (Value.int .u8))) (hne : bs ≠ []) : RowS B bs v w := by
  rcases h.2 with ⟨_, h0⟩ | ⟨g, cap, cur, rfl, hg, hh, hn, _, hs, ht⟩
  · exact absurd (List.length_eq_zero_iff.1 h0) hne
  · have hc : ∀ j, j < cap → w.cell? ⟨g, j, none⟩ = cur[j]? := fun j hj => by
      simp [World.cell?, hh]
    refine ⟨g, cap, rfl, hg, fun e => absurd e hne, fun i hi => ?_, fun j hj => ⟨by rw [hc j hj]; simp; omega, by simp [World.frozen?, hh]⟩⟩
    rw [hc i (by omega)]
    have h1 : (cur.toList.take (bs.length * 1))[i]? = (bs.map (Value.int .u8))[i]? := by rw [ht]
    rw [List.getElem?_take_of_lt (by omega), Array.getElem?_toList] at h1
    rw [h1, List.getElem?_map, List.getD_eq_getElem?_getD, List.getElem?_eq_getElem hi]
    rfl
theorem run_app_empty {P : Program} (w : World) (t ty e : TypeId) (i : TypeInfo) (ht : P.underlying t = some (.slice e)) (hi : P.info? e = some i) (j : Nat) (a : Option Addr) (c : Nat) :
    (Builtin.append_ #[t, t] ty #[.slice (some ⟨j, 0, none⟩) 0 0, .slice a 0 c]).run P w = .ok (.slice (some ⟨j, 0, none⟩) 0 0) w := by
  cases a with
  | none => simp [Builtin.append_, run_underlying ht, sizeOf, typeInfo, hi, Builtin.lenOf, Builtin.firstCells, storeCells]
  | some a =>
    have := run_append_room_cells (P := P) w t ty e i ht hi j 0 0 0 a 0 c [] (by simp) (by simp) (by simp) (by omega) (by simp) (by simp)
    simpa [World.setCells] using this
section
variable {ops : Array Oper} {a0 : Act} {w0 : World} {ps : List (Value → World → Prop)}
theorem bw_lit {i d : Nat} {x : Operand} {z : Int} {ty : TypeId} {pos : String} {after : Array Edge} {gd : Option (Nat × Bool)} (HL : AllLast ps) (hz : 0 ≤ z ∧ z ≤ 255)
    (hx : OK ops a0 ps ⟨some d, .buildSlice 22 1 #[(0, x)], ty, pos, after, gd⟩ x (.int .u8 z))
    (hp : ps.getD i (fun _ _ => True) = LitS w0.heap.size z) : ObW Try.prog ops a0 (Pf ps) (BW w0) i ⟨some d, .buildSlice 22 1 #[(0, x)], ty, pos, after, gd⟩ := by
  refine ob_val fun n a w hn hI hat => ?_
  have e := hx a w hat
  have hb := below_alloc1 w (.cells #[.int .u8 z] 5)
  refine ⟨.slice (some ⟨w.heap.size, 0, none⟩) 1 1, w.alloc (.cells #[.int .u8 z] 5), ?_, by unfold Pf; rw [hp]; exact ⟨_, rfl, hI.size, by go_simp⟩, hI.trans (hb.mono hI.size), fun j u hj h => HL.at j u w _ hb h⟩
  simp only [execOp]
  rw [show (Array.map (fun x : Nat × Operand => (x.1, a.eval x.2)) #[(0, x)]) = #[(0, .int .u8 z)] from by simp [e]]
  clear hx e hat hI
  go_simp
theorem bw_emp {i d : Nat} {ty : TypeId} {pos : String} {after : Array Edge} {gd : Option (Nat × Bool)} (HL : AllLast ps)
    (hp : ps.getD i (fun _ _ => True) = fun u _ => EmpS w0.heap.size u) : ObW Try.prog ops a0 (Pf ps) (BW w0) i ⟨some d, .buildSlice 22 0 #[], ty, pos, after, gd⟩ := by
  refine ob_val fun n a w hn hI hat => ?_
  have hb := below_alloc1 w (.cells #[] 5)
  refine ⟨.slice (some ⟨w.heap.size, 0, none⟩) 0 0, w.alloc (.cells #[] 5), ?_, by unfold Pf; rw [hp]; exact ⟨_, rfl, hI.size⟩, hI.trans (hb.mono hI.size), fun j u hj h => HL.at j u w _ hb h⟩
  simp only [execOp]
  clear hat hI
  go_simp
theorem below_new {w w' : World} (h : w.grownBy w' none) : Below w.heap.size w w' := ⟨h.os, h.tape, h.output, h.size, fun j hj => h.block j hj (by simp)⟩
theorem bw_app1 {i d s x js : Nat} {a3 : Option Addr} {c3 : Nat} {bs : List Int} {ty : TypeId} {pos : String} {after : Array Edge} {gd : Option (Nat × Bool)} (HL : AllLast ps)
    (hw : waits ⟨some d, .call ⟨.builtin .append, #[.tmp s, .tmp x], #[22, 22]⟩, ty, pos, after, gd⟩ js = true) (hs : (ops[js]?).bind (·.dst) = some s) (hjs : ps.getD js (fun _ _ => True) = fun u _ => EmpS w0.heap.size u)
    (hx : OK ops a0 ps ⟨some d, .call ⟨.builtin .append, #[.tmp s, .tmp x], #[22, 22]⟩, ty, pos, after, gd⟩ (.tmp x) (.slice a3 bs.length c3))
    (hr : ∀ w, Below w0.heap.size w0 w → Rd w (.slice a3 bs.length c3) bs) (hl : bs.length ≤ 1000000)
    (hp : ps.getD i (fun _ _ => True) = RowS w0.heap.size bs) :
    ObW Try.prog ops a0 (Pf ps) (BW w0) i ⟨some d, .call ⟨.builtin .append, #[.tmp s, .tmp x], #[22, 22]⟩, ty, pos, after, gd⟩ := by
  refine ob_val fun n a w hn hI hat => ?_
  obtain ⟨ti, hti, htz, hts, htb⟩ := info8'
  obtain ⟨j, hj, hjB⟩ := ok_of js hw hs hjs hat
  have hxx := hx a w hat
  obtain ⟨_, _, a', c', hv, h3⟩ := hr w hI
  simp only [Value.slice.injEq, true_and] at hv
  obtain ⟨rfl, rfl⟩ := hv
  by_cases hb : bs = []
  · subst hb
    have hrun := run_app_empty (P := Try.prog) w 22 ty 5 ti Try.underlying22 hti j a3 c3
    refine ⟨.slice (some ⟨j, 0, none⟩) 0 0, w, ?_, by unfold Pf; rw [hp]; exact ⟨j, 0, rfl, hjB, fun _ => rfl, by simp, by simp⟩, hI, fun _ _ _ h => h⟩
    simp only [List.length_nil] at hxx
    simp [execOp, resolve, invoke, builtin, hj, hxx, hrun, Result.andThen]
  · rcases h3 with h3 | ⟨b, off, rfl, hc⟩
    · exact absurd h3 hb
    have hpos : 0 < bs.length := List.length_pos_iff.2 hb
    obtain ⟨v', w', hrun, ho, hg⟩ := run_append_arg_grows (P := Try.prog) w 22 ty 5 ti (.int .u8 0) 1 1 Try.underlying22 hti htz hts htb rfl (by omega) ⟨j, 0, none⟩ 0 0 [] (by simp) (by simp) ⟨b, off, none⟩ bs.length c3 (bs.map (Value.int .u8)) (by simp) (fun k u hk => by
      rw [Addr.add_lit]
      rw [List.getElem?_map] at hk
      by_cases hkl : k < bs.length
      · rw [hc k hkl, List.getD_eq_getElem?_getD]
        rw [List.getElem?_eq_getElem hkl] at hk ⊢
        simpa using hk
      · rw [List.getElem?_eq_none (by omega)] at hk
        cases hk) (by omega) (by unfold maxLen; omega) (by omega)
    have hb2 := below_new hg
    rw [Nat.zero_add, List.nil_append] at ho
    refine ⟨v', w', ?_, by unfold Pf; rw [hp]; exact row_of_own (ownsRow_le ho hI.size) hb, hI.trans (hb2.mono hI.size), fun k u hk h => HL.at k u w w' hb2 h⟩
    simp [execOp, resolve, invoke, builtin, hj, hxx, hrun, Result.andThen]
theorem bw_app2 {i d s x js jx : Nat} {z : Int} {bs I : List Int} {ty : TypeId} {pos : String} {after : Array Edge} {gd : Option (Nat × Bool)} (HL : AllLast ps) (HS : 1 ≤ bs.length → StAll w0.heap.size bs.length i 0 ps)
    (hw : waits ⟨some d, .call ⟨.builtin .append, #[.tmp s, .tmp x], #[22, 22]⟩, ty, pos, after, gd⟩ js = true) (hs : (ops[js]?).bind (·.dst) = some s) (hjs : ps.getD js (fun _ _ => True) = RowS w0.heap.size bs)
    (hw2 : waits ⟨some d, .call ⟨.builtin .append, #[.tmp s, .tmp x], #[22, 22]⟩, ty, pos, after, gd⟩ jx = true) (hs2 : (ops[jx]?).bind (·.dst) = some x) (hjx : ps.getD jx (fun _ _ => True) = LitS w0.heap.size z)
    (hb : ∀ y ∈ bs, 0 ≤ y ∧ y ≤ 255) (hz : 0 ≤ z ∧ z ≤ 255) (hl : bs.length ≤ 1000000) (hI : bs ++ [z] = I)
    (hp : ps.getD i (fun _ _ => True) = fun u w => Rd w u I) :
    ObW Try.prog ops a0 (Pf ps) (BW w0) i ⟨some d, .call ⟨.builtin .append, #[.tmp s, .tmp x], #[22, 22]⟩, ty, pos, after, gd⟩ := by
  refine ob_val fun n a w hn hB hat => ?_
  obtain ⟨ti, hti, htz, hts, htb⟩ := info8'
  subst hI
  obtain ⟨g, cap, e1, hg, h0, hc, hcap⟩ := ok_of js hw hs hjs hat
  obtain ⟨j, e2, hj, hjc⟩ := ok_of jx hw2 hs2 hjx hat
  have hall : ∀ y ∈ bs ++ [z], 0 ≤ y ∧ y ≤ 255 := fun y hy => by
    rcases List.mem_append.1 hy with h | h
    · exact hb y h
    · obtain rfl : y = z := by simpa using h
      exact hz
  have hnews : ∀ k u, [Value.int .u8 z][k]? = some u → w.cell? ((⟨j, 0, none⟩ : Addr).add k) = some u := fun k u hk => by
    cases k with
    | zero => rw [Addr.add_lit]; simpa [hjc] using hk
    | succ k => simp at hk
  by_cases hr : bs.length + 1 ≤ cap
  · have hpos : 1 ≤ bs.length := by
      rcases Nat.eq_zero_or_pos bs.length with h | h
      · have := h0 (List.length_eq_zero_iff.1 h); omega
      · exact h
    obtain ⟨s1, s2⟩ := hcap bs.length (by omega)
    have hrun := run_append_room_cells (P := Try.prog) w 22 ty 5 ti Try.underlying22 hti g 0 bs.length cap ⟨j, 0, none⟩ 1 1 [.int .u8 z] (by simp [hts]) hnews (by simp [Value.oneCell']) hr (fun k hk => by simp at hk; subst hk; simpa [hts] using s1) (fun k hk => by simp at hk; subst hk; simpa [hts] using s2)
    simp only [hts, Nat.zero_add, Nat.mul_one, World.setCells] at hrun
    refine ⟨.slice (some ⟨g, 0, none⟩) (bs.length + 1) cap, w.setCell ⟨g, bs.length, none⟩ (.int .u8 z), ?_, ?_, hB.setCell (by simpa using hg) _, fun k u hk h => (HS hpos).at k (by omega) _ g u w hg s1 h⟩
    · simp [execOp, resolve, invoke, builtin, e1, e2, hrun, Result.andThen]
    · unfold Pf; rw [hp]
      refine ⟨hall, by simp; omega, some ⟨g, 0, none⟩, cap, by simp, .inr ⟨g, 0, rfl, fun k hk => ?_⟩⟩
      rw [Nat.zero_add]
      simp only [List.length_append, List.length_cons, List.length_nil] at hk
      by_cases e : k = bs.length
      · subst e
        obtain ⟨y, hy⟩ := Option.isSome_iff_exists.1 s1
        rw [World.cell?_setCell_same' _ _ _ (by rw [hy]; rfl)]
        simp [List.getD_eq_getElem?_getD]
      · rw [World.cell?_setCell_other _ _ _ _ (fun e' => by have := (Addr.mk.inj e').2.1; omega), hc k (by omega)]
        rw [List.getD_eq_getElem?_getD, List.getD_eq_getElem?_getD, List.getElem?_append_left (by omega)]
  · obtain ⟨v', w', hrun, ho, hgr⟩ := run_append_arg_grows (P := Try.prog) w 22 ty 5 ti (.int .u8 0) 1 1 Try.underlying22 hti htz hts htb rfl (by omega) ⟨g, 0, none⟩ bs.length cap (bs.map (Value.int .u8)) (by simp) (fun k u hk => by
      rw [Addr.add_lit, Nat.zero_add]
      rw [List.getElem?_map] at hk
      by_cases hkl : k < bs.length
      · rw [hc k hkl, List.getD_eq_getElem?_getD]
        rw [List.getElem?_eq_getElem hkl] at hk ⊢
        simpa using hk
      · rw [List.getElem?_eq_none (by omega)] at hk
        cases hk) ⟨j, 0, none⟩ 1 1 [.int .u8 z] (by simp) hnews (by omega) (by unfold maxLen; omega) (by omega)
    have hb2 := below_new hgr
    have ho' : Own w' w.heap.size v' (bs ++ [z]) := ⟨hall, by simpa using ho⟩
    refine ⟨v', w', ?_, by unfold Pf; rw [hp]; exact ho'.rd (by simp; omega), hB.trans (hb2.mono hB.size), fun k u hk h => HL.at k u w w' hb2 h⟩
    simp [execOp, resolve, invoke, builtin, e1, e2, hrun, Result.andThen]
end
end Go.Proofs.Ythhgjnhfidhmpaa
