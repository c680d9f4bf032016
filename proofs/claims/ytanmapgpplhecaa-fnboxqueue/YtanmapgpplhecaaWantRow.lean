/- A row in the midst of a block of one's own: the first is taken off, one is put behind. Conditions: those that each lemma names. -/
import Derived.Test.YtanmapgpplhecaaBoxFullC
import Derived.Test.YtanmapgpplhecaaBoxSz2
import Derived.Test.YtanmapgpplhecaaBoxTakeC
import Derived.Test.YtanmapgpplhecaaRegBw
import Derived.ArgAppend
namespace Go.Proofs.Ytanmapgpplhecaa
open Go.ChangeShapes Go.WideShapes Go.ChangeAt Go.RowKit Go.Joins Go.Deep
set_option linter.unusedVariables false
set_option linter.unusedSimpArgs false
set_option maxRecDepth 4000
def WantF (w : World) (lo g off cap : Nat) (f : Nat → Value) (yss : List (List Int)) : Prop :=
  lo ≤ g ∧ g < w.heap.size ∧ yss.length ≤ cap ∧ (∀ j, j < cap → (w.cell? ⟨g, off + j, none⟩).isSome = true ∧ w.frozen? ⟨g, off + j, none⟩ = false) ∧
  ∀ i, i < yss.length → w.cell? ⟨g, off + i, none⟩ = some (f i) ∧ Own w lo (f i) (yss.getD i []) ∧ (f i).ownBlock ≠ some g
section
variable {w w' : World} {lo g off cap : Nat} {f : Nat → Value} {yss : List (List Int)}
theorem WantF.chg {S : Nat → Prop} (h : WantF w lo g off cap f yss) (hc : Chg S w w') (hs : ∀ j, S j → j < lo) : WantF w' lo g off cap f yss := by
  have hb := hc.block g h.2.1 (fun hx => by have := hs g hx; have := h.1; omega)
  refine ⟨h.1, Nat.lt_of_lt_of_le h.2.1 hc.size, h.2.2.1, fun j hj => ?_, fun i hi => ?_⟩
  · rw [World.cell?_of_block (a := ⟨g, off + j, none⟩) hb, World.frozen?_of_block (a := ⟨g, off + j, none⟩) hb]
    exact h.2.2.2.1 j hj
  · obtain ⟨h1, h2, h3⟩ := h.2.2.2.2 i hi
    exact ⟨(World.cell?_of_block (a := ⟨g, off + i, none⟩) hb).trans h1, OwnR.chg h2 hc (fun j hj hx => by have := hs j hx; have := (h2.blk j hj).1; omega), h3⟩
theorem WantF.keep (h : WantF w lo g off cap f yss) (hb : Below w.heap.size w w') : WantF w' lo g off cap f yss :=
  h.chg (S := fun _ => False) (Chg.of_below hb) (fun _ hx => hx.elim)
theorem WantF.rd (h : WantF w lo g off cap f yss) (hn : yss.length ≤ 2000000) (hy : ∀ i, i < yss.length → (yss.getD i []).length ≤ 2000000) : RdS w (.slice (some ⟨g, off, none⟩) yss.length cap) yss :=
  ⟨hn, _, _, rfl, .inr ⟨g, off, rfl, fun i hi => ⟨f i, (h.2.2.2.2 i hi).1, (h.2.2.2.2 i hi).2.1.rd (hy i hi)⟩⟩⟩
theorem getD_drop1 (yss : List (List Int)) (i : Nat) : (yss.drop 1).getD i [] = yss.getD (i + 1) [] := by
  rw [List.getD_eq_getElem?_getD, List.getElem?_drop, List.getD_eq_getElem?_getD, Nat.add_comm]
theorem WantF.drop (h : WantF w lo g off cap f yss) (h0 : 0 < yss.length) : WantF w lo g (off + 1) (cap - 1) (fun i => f (i + 1)) (yss.drop 1) := by
  refine ⟨h.1, h.2.1, by rw [List.length_drop]; have := h.2.2.1; omega, fun j hj => ?_, fun i hi => ?_⟩
  · have := h.2.2.2.1 (1 + j) (by omega)
    rw [show off + 1 + j = off + (1 + j) by omega]
    exact this
  · rw [List.length_drop] at hi
    have := h.2.2.2.2 (i + 1) (by omega)
    rw [show off + 1 + i = off + (i + 1) by omega, getD_drop1]
    exact this
theorem chg_setCells (w : World) (g o : Nat) (u : Value) : Chg (fun j => j = g) w (w.setCells g o [u]) := (Chg.refl (fun j => j = g) w).set (p := ⟨g, o, none⟩) rfl u
theorem grown_setCells (w : World) (g o : Nat) (u : Value) : w.grownBy (w.setCells g o [u]) (some g) :=
  have c := chg_setCells w g o u
  ⟨c.os, c.tape, c.output, c.size, fun k hk hne => c.block k hk (fun e => hne (by rw [e]))⟩
theorem WantF.room {u : Value} {ys : List Int} {n : Nat} (h : WantF w lo g off cap f yss) (hn : yss.length = n) (hr : n + 1 ≤ cap) (hu : Own w lo u ys) (hne : u.ownBlock ≠ some g) :
    WantF (w.setCells g (off + n * 1) [u]) lo g off cap (fun i => if i = n then u else f i) (yss ++ [ys]) := by
  subst hn
  have hc := chg_setCells w g (off + yss.length * 1) u
  refine ⟨h.1, Nat.lt_of_lt_of_le h.2.1 hc.size, by simpa using hr, fun j hj => ?_, fun i hi => ?_⟩
  · rw [World.frozen?_setCells]
    refine ⟨?_, (h.2.2.2.1 j hj).2⟩
    by_cases e : j = yss.length
    · subst e
      have := World.cell?_setCells_in g [u] (off + yss.length * 1) w (fun i hi => by
        have : i = 0 := by simpa using hi
        subst this
        have := (h.2.2.2.1 yss.length (by omega)).1
        simpa using this) 0 (by simp)
      simp only [Nat.mul_one, Nat.add_zero] at this ⊢
      rw [this]
      rfl
    · rw [World.cell?_setCells_out g [u] (off + yss.length * 1) w ⟨g, off + j, none⟩ (fun _ _ => by simp; omega)]
      exact (h.2.2.2.1 j hj).1
  · simp only [List.length_append, List.length_cons, List.length_nil] at hi
    by_cases e : i = yss.length
    · subst e
      simp only [if_true]
      refine ⟨?_, ?_, hne⟩
      · have := World.cell?_setCells_in g [u] (off + yss.length * 1) w (fun i hi => by
          have : i = 0 := by simpa using hi
          subst this
          have := (h.2.2.2.1 yss.length (by omega)).1
          simpa using this) 0 (by simp)
        simp only [Nat.mul_one, Nat.add_zero] at this ⊢
        exact this
      · simp only [List.getD_eq_getElem?_getD, List.getElem?_concat_length, Option.getD_some]
        exact OwnR.chg hu hc (fun j hj e => hne (by have e : j = g := e; rw [← e]; exact hj))
    · simp only [e, if_false]
      obtain ⟨h1, h2, h3⟩ := h.2.2.2.2 i (by omega)
      refine ⟨?_, ?_, h3⟩
      · rw [World.cell?_setCells_out g [u] (off + yss.length * 1) w ⟨g, off + i, none⟩ (fun _ _ => by simp; omega)]
        exact h1
      · rw [List.getD_eq_getElem?_getD, List.getElem?_append_left (by omega), ← List.getD_eq_getElem?_getD]
        exact OwnR.chg h2 hc (fun j hj e => h3 (by have e : j = g := e; rw [← e]; exact hj))
theorem WantF.grow {u v' : Value} {ys : List Int} {n : Nat} (h : WantF w lo g off cap f yss) (hn : yss.length = n) (hlo : lo ≤ w.heap.size) (hu : Own w lo u ys) (hg : w.grownBy w' none)
    (ho : w'.ownsRow w.heap.size 22 1 v' (n + 1) ((List.range n).map f ++ [u])) :
    ∃ g' cap', v' = .slice (some ⟨g', 0, none⟩) (n + 1) cap' ∧ WantF w' lo g' 0 cap' (fun i => if i = n then u else f i) (yss ++ [ys]) := by
  subst hn
  rcases ho.2 with ⟨_, h0⟩ | ⟨g', cap', cur, rfl, hb, hh, hnc, hcm, hcs, htk⟩
  · omega
  · have hlt : g' < w'.heap.size := by
      rcases Nat.lt_or_ge g' w'.heap.size with h' | h'
      · exact h'
      · rw [Array.getElem?_eq_none h'] at hh; cases hh
    have key : ∀ j y, ((List.range yss.length).map f ++ [u])[j]? = some y → w'.cell? ⟨g', 0 + j, none⟩ = some y := fun j y hy => by
      have := ho.cells (g := g') rfl j y hy
      rw [Addr.add_lit] at this
      exact this
    have hc : Chg (fun _ => False) w w' := Chg.of_grown hg (fun j hj => by cases hj)
    refine ⟨g', cap', rfl, by omega, hlt, by simpa using hnc, fun j hj => ⟨?_, ?_⟩, fun i hi => ?_⟩
    · have : j < cur.size := by omega
      simp [World.cell?, hh, this]
    · simp [World.frozen?, hh]
    · simp only [List.length_append, List.length_cons, List.length_nil] at hi
      by_cases e : i = yss.length
      · subst e
        simp only [if_true]
        refine ⟨key _ _ (by simp), ?_, fun hx => ?_⟩
        · simp only [List.getD_eq_getElem?_getD, List.getElem?_concat_length, Option.getD_some]
          exact OwnR.chg hu hc (fun _ _ hx => hx)
        · have := (hu.blk _ hx).2; omega
      · simp only [e, if_false]
        obtain ⟨h1, h2, h3⟩ := h.2.2.2.2 i (by omega)
        refine ⟨key _ _ (by rw [List.getElem?_append_left (by simp; omega)]; simp [show i < yss.length by omega]), ?_, fun hx => ?_⟩
        · rw [List.getD_eq_getElem?_getD, List.getElem?_append_left (by omega), ← List.getD_eq_getElem?_getD]
          exact OwnR.chg h2 hc (fun _ _ hx => hx)
        · have := (h2.blk _ hx).2; omega
end
theorem wpList_append_want (w : World) {ops : Array Oper} {rest : List Oper} {o : Oper} {a : Act} {Q : Exit → Act → World → Prop}
    (hgd : o.guard = none) (s x : Operand) (hop : o.op = Op.call { callee := Callee.builtin Builtin.append, args := #[s, x], argTypes := #[23, 23] })
    (lo g off cap n : Nat) (f : Nat → Value) (yss : List (List Int)) (ys : List Int) (u : Value) (ad : Addr) (c : Nat)
    (hs : a.eval s = .slice (some ⟨g, off, none⟩) n cap) (hn : yss.length = n) (h : WantF w lo g off cap f yss) (hx : a.eval x = .slice (some ad) 1 c) (hc : ∀ j y, [u][j]? = some y → w.cell? (ad.add j) = some y) (h1c : ∀ y ∈ [u], y.oneCell' = true)
    (hu : Own w lo u ys) (hne : u.ownBlock ≠ some g) (hlo : lo ≤ w.heap.size) (hn20 : n ≤ 1000)
    (k : ∀ g' off' cap' f' w', WantF w' lo g' off' cap' f' (yss ++ [ys]) → w.grownBy w' (some g) → wpList Try.prog ops Q rest (a.put o.dst (.slice (some ⟨g', off', none⟩) (n + 1) cap')) w') :
    wpList Try.prog ops Q (o :: rest) a w := by
  obtain ⟨ti, hti, htz, hts, htb⟩ := infoB2
  have hcs : ∀ j y, ((List.range n).map f)[j]? = some y → w.cell? ⟨g, off + j, none⟩ = some y := by
    intro j y hj
    rw [List.getElem?_map] at hj
    by_cases hjn : j < n
    · rw [List.getElem?_range hjn] at hj
      simp only [Option.map_some, Option.some.injEq] at hj
      rw [← hj]
      exact (h.2.2.2.2 j (by omega)).1
    · rw [List.getElem?_eq_none (by simp; omega)] at hj
      cases hj
  refine wpList_append_arg w hgd s x 23 hop 22 ti (.slice none 0 0) 1 24 Try.underlying23 hti htz hts htb rfl (by omega) g off n cap ((List.range n).map f) hs (by simp) hcs ad 1 c [u] hx rfl hc h1c ?_ (by unfold maxLen; omega) (by omega) ?_ ?_
  · intro hr j hj
    have : j = 0 := by simpa using hj
    subst this
    have := h.2.2.2.1 n (by omega)
    simpa using this
  · intro hr
    exact k g off cap _ _ (h.room hn hr hu hne) (grown_setCells _ _ _ _)
  · intro hr v' w' ho hg
    obtain ⟨g', cap', rfl, hw⟩ := h.grow hn hlo hu hg ho
    exact k g' 0 cap' _ w' hw ⟨hg.os, hg.tape, hg.output, hg.size, fun j hj _ => hg.block j hj (by simp)⟩
theorem own_two (w : World) (a b : Int) (h : (0 ≤ a ∧ a ≤ 255) ∧ (0 ≤ b ∧ b ≤ 255)) : Own (w.alloc (.cells #[.int .u8 a, .int .u8 b] 5)) w.heap.size (.slice (some ⟨w.heap.size, 0, none⟩) 2 2) [a, b] :=
  ⟨by simp; omega, by simp, .inr ⟨w.heap.size, 2, #[.int .u8 a, .int .u8 b], rfl, Nat.le_refl _, heap_alloc_new w _, by simp, by unfold maxLen; omega, by simp, by simp⟩⟩
end Go.Proofs.Ytanmapgpplhecaa
