/- Rows whose elements are so many ints each ([]int, slices of structs of ints): what a value reads as, a row of one's own, how both last, how a cell of one is written. Of no program in particular; no conditions beyond those that each lemma names. -/
import Derived.Test.YtbpomeegpkdekaaAid
import Derived.Deep.OwnRows
import Derived.Deep.Slices
import Derived.Laws.MakeOwn
namespace Go.Proofs.Ytbpomeegpkdekaa
open Go.ChangeShapes Go.WideShapes Go.ChangeAt Go.RowKit Go.Joins Go.Deep
set_option linter.unusedVariables false

/-- the slice value has n elements of k ints each, and they are these -/
def RdI (k : Nat) (w : World) (v : Value) (n : Nat) (xs : List Int) : Prop :=
  xs.length = n * k ∧ n ≤ 2000000 ∧ ∃ a cap, v = .slice a n cap ∧ (n = 0 ∨ ∃ b off, a = some ⟨b, off, none⟩ ∧ ∀ i, i < xs.length → w.cell? ⟨b, off + i, none⟩ = some (.int .i64 (xs.getD i 0)))
theorem RdI.keep {k n : Nat} {w w' : World} {v : Value} {xs : List Int} (h : RdI k w v n xs) (hb : Below w.heap.size w w') : RdI k w' v n xs := by
  obtain ⟨h1, h2, a, cap, hv, h3⟩ := h
  refine ⟨h1, h2, a, cap, hv, ?_⟩
  rcases h3 with h3 | ⟨b, off, ha, hc⟩
  · exact .inl h3
  · exact .inr ⟨b, off, ha, fun i hi => cell_keep hb (hc i hi)⟩
theorem RdI.other {k n : Nat} {w w' W : World} {v u : Value} {xs : List Int} (h : RdI k W u n xs) (hb : Below W.heap.size W w) (hg : w.grownBy w' v.ownBlock) (hv : ∀ k, v.ownBlock = some k → W.heap.size ≤ k) : RdI k w' u n xs :=
  h.keep (hb.grown hg hb.size hv)

/-- a row of one's own, in a block from B on -/
def OwnI (e : TypeId) (k : Nat) (w : World) (B : Nat) (v : Value) (n : Nat) (xs : List Int) : Prop := w.ownsRow B e k v n (xs.map (Value.int .i64))
theorem OwnI.len {e : TypeId} {k n B : Nat} {w : World} {v : Value} {xs : List Int} (h : OwnI e k w B v n xs) : xs.length = n * k := by simpa using h.1
theorem OwnI.rd {e : TypeId} {k n B : Nat} {w : World} {v : Value} {xs : List Int} (h : OwnI e k w B v n xs) (hn : n ≤ 2000000) : RdI k w v n xs := by
  have hl := h.len
  obtain ⟨h2, h3⟩ := h
  rcases h3 with ⟨hv, h0⟩ | ⟨g, cap, cur, hv, hg, hh, hnc, hm, hsz, hcur⟩
  · exact ⟨hl, hn, none, 0, by rw [hv, h0], .inl h0⟩
  · refine ⟨hl, hn, some ⟨g, 0, none⟩, cap, hv, .inr ⟨g, 0, rfl, fun i hi => ?_⟩⟩
    have e : cur[i]? = some (.int .i64 (xs.getD i 0)) := by
      have h4 : (cur.toList.take (n * k))[i]? = (xs.map (Value.int .i64))[i]? := by rw [hcur]
      rw [List.getElem?_take_of_lt (by omega)] at h4
      simp only [Array.getElem?_toList] at h4
      rw [h4]; simp [hi]
    simp only [Nat.zero_add]
    simp [World.cell?, hh, e]
theorem OwnI.blk {e : TypeId} {k n B : Nat} {w : World} {v : Value} {xs : List Int} (h : OwnI e k w B v n xs) : ∀ j, v.ownBlock = some j → B ≤ j ∧ j < w.heap.size := fun j hj => h.lt j hj
theorem OwnI.low {e : TypeId} {k n B B' : Nat} {w : World} {v : Value} {xs : List Int} (h : OwnI e k w B v n xs) (hb : B' ≤ B) : OwnI e k w B' v n xs := ownsRow_le h hb
theorem OwnI.keep {e : TypeId} {k n B : Nat} {w w' : World} {v : Value} {xs : List Int} (h : OwnI e k w B v n xs) (hb : Below w.heap.size w w') : OwnI e k w' B v n xs := by
  obtain ⟨h2, h3⟩ := h
  refine ⟨h2, ?_⟩
  rcases h3 with h3 | ⟨q, cap', cur, hv, hq, hh, r⟩
  · exact .inl h3
  · refine .inr ⟨q, cap', cur, hv, hq, ?_, r⟩
    have hlt : q < w.heap.size := by
      rcases Nat.lt_or_ge q w.heap.size with h' | h'
      · exact h'
      · rw [Array.getElem?_eq_none h'] at hh; cases hh
    rw [hb.block q hlt]; exact hh
/-- what is one's own stays so when another row has been written -/
theorem OwnI.grown {e : TypeId} {k n B : Nat} {w w' : World} {v : Value} {xs : List Int} {row : Option Nat} (h : OwnI e k w B v n xs) (hg : w.grownBy w' row) (hr : ∀ j, row = some j → v.ownBlock ≠ some j) : OwnI e k w' B v n xs := by
  obtain ⟨h2, h3⟩ := h
  refine ⟨h2, ?_⟩
  rcases h3 with h3 | ⟨q, cap', cur, hv, hq, hh, r⟩
  · exact .inl h3
  · refine .inr ⟨q, cap', cur, hv, hq, ?_, r⟩
    have hlt : q < w.heap.size := by
      rcases Nat.lt_or_ge q w.heap.size with h' | h'
      · exact h'
      · rw [Array.getElem?_eq_none h'] at hh; cases hh
    rw [hg.block q hlt (fun e => by have := hr q e.symm; rw [hv] at this; simp [Value.ownBlock] at this)]; exact hh
theorem ownI_form {e : TypeId} {k n B : Nat} {w : World} {v : Value} {xs : List Int} (h : OwnI e k w B v n xs) : ∃ a cap, v = .slice a n cap ∧ (n = 0 ∨ ∃ g, a = some ⟨g, 0, none⟩) := by
  obtain ⟨h2, h3⟩ := h
  rcases h3 with ⟨hv, hz⟩ | ⟨q, cap', cur, hv, _⟩
  · exact ⟨none, 0, by rw [hv, hz], .inl hz⟩
  · exact ⟨_, cap', hv, .inr ⟨q, rfl⟩⟩
theorem ownI_set {e : TypeId} {k n B g cap i : Nat} {w : World} {xs : List Int} {y : Int} (h : OwnI e k w B (.slice (some ⟨g, 0, none⟩) n cap) n xs) (hi : i < xs.length) :
    OwnI e k (w.setCell ⟨g, i, none⟩ (.int .i64 y)) B (.slice (some ⟨g, 0, none⟩) n cap) n (xs.set i y) := by
  have hl := h.len
  obtain ⟨h2, h3⟩ := h
  refine ⟨by simpa using hl, ?_⟩
  · rcases h3 with ⟨hv, _⟩ | ⟨q, cap', cur, hv, hq, hh, hnc, hm, hsz, hcur⟩
    · simp at hv
    · simp only [Value.slice.injEq, Option.some.injEq, Addr.mk.injEq, and_true, true_and] at hv
      obtain ⟨rfl, rfl⟩ := hv
      refine .inr ⟨g, cap, cur.setIfInBounds i (.int .i64 y), by simp, hq, block_setCell hh _, hnc, hm, by simpa using hsz, ?_⟩
      rw [Array.toList_setIfInBounds, List.take_set, hcur, List.map_set]
theorem ownI_cell {e : TypeId} {k n B g cap i : Nat} {w : World} {xs : List Int} (h : OwnI e k w B (.slice (some ⟨g, 0, none⟩) n cap) n xs) (hi : i < xs.length) :
    w.cell? ⟨g, i, none⟩ = some (.int .i64 (xs.getD i 0)) ∧ w.frozen? ⟨g, i, none⟩ = false ∧ B ≤ g ∧ g < w.heap.size := by
  have hl := h.len
  obtain ⟨h2, h3⟩ := h
  rcases h3 with ⟨hv, _⟩ | ⟨q, cap', cur, hv, hq, hh, hnc, hm, hsz, hcur⟩
  · simp at hv
  · simp only [Value.slice.injEq, Option.some.injEq, Addr.mk.injEq, and_true, true_and] at hv
    obtain ⟨rfl, rfl⟩ := hv
    have e : cur[i]? = some (.int .i64 (xs.getD i 0)) := by
      have h4 : (cur.toList.take (n * k))[i]? = (xs.map (Value.int .i64))[i]? := by rw [hcur]
      rw [List.getElem?_take_of_lt (by omega)] at h4
      simp only [Array.getElem?_toList] at h4
      rw [h4]; simp [hi]
    refine ⟨by simp [World.cell?, hh, e], unfrozen_of_block hh i, hq, ?_⟩
    rcases Nat.lt_or_ge g w.heap.size with h' | h'
    · exact h'
    · rw [Array.getElem?_eq_none h'] at hh; cases hh
theorem ownI_nil {e : TypeId} {k B : Nat} (w : World) : OwnI e k w B (.slice none 0 0) 0 [] := ⟨by simp, .inl ⟨rfl, rfl⟩⟩
theorem ownI_none {e : TypeId} {k : Nat} (w : World) : OwnI e k (w.alloc (.cells #[] e)) w.heap.size (.slice (some ⟨w.heap.size, 0, none⟩) 0 0) 0 [] := by
  have := World.ownsRow_made (size := k) w #[] (e := e) (base := w.heap.size) 0 (Nat.le_refl _) (by unfold maxLen; omega) (by simp)
  simpa [OwnI] using this

/-- the first j are there, the rest noughts -/
def mixI (xs : List Int) (j : Nat) : List Int := xs.take j ++ List.replicate (xs.length - j) 0
theorem mixI_len (xs : List Int) (j : Nat) (h : j ≤ xs.length) : (mixI xs j).length = xs.length := by simp [mixI]; omega
theorem mixI_all (xs : List Int) : mixI xs xs.length = xs := by simp [mixI]
theorem mixI_set (xs : List Int) (j : Nat) (h : j < xs.length) : (mixI xs j).set j (xs.getD j 0) = mixI xs (j + 1) := by
  apply List.ext_getElem
  · simp [mixI]; omega
  · intro i h1 h2
    simp only [List.getElem_set, mixI, List.getElem_append, List.length_take]
    by_cases e : j = i
    · subst e
      rw [if_pos rfl, dif_pos (by omega)]
      simp [h]
    · rw [if_neg e]
      by_cases c : i < j
      · rw [dif_pos (by omega), dif_pos (by omega)]; simp
      · rw [dif_neg (by omega), dif_neg (by omega)]; simp
theorem mixI_zero (xs : List Int) : (madeCells (Value.agg (List.replicate 1 (Value.int .i64 0)).toArray).cells xs.length).toList = (mixI xs 0).map (Value.int .i64) := by
  apply List.ext_getElem
  · simp [mixI, size_madeCells]
  · intro i h1 h2
    simp [madeCells, mixI, Value.cells, Nat.mod_one]
theorem made_noughts (z : Array Value) (hz : ∀ i, i < z.size → z[i]? = some (.int .i64 0)) (hp : 0 < z.size) (n : Nat) : (madeCells z n).toList = (List.replicate n (0 : Int)).map (Value.int .i64) := by
  apply List.ext_getElem
  · simp [size_madeCells]
  · intro i h1 h2
    have hm : i % z.size < z.size := Nat.mod_lt _ hp
    have e := hz (i % z.size) hm
    rw [Array.getElem?_eq_getElem hm] at e
    simp only [madeCells, Array.getElem_toList, Array.getElem_map, Array.getElem_range, List.getElem_map, List.getElem_replicate]
    rw [getElem!_pos z _ hm]
    exact Option.some.inj e

/-- the running number -/
def marksI (k : Int) (n : Nat) : List Int := (List.range n).map fun (i : Nat) => k + (i : Int)
theorem marksI_len (k : Int) (n : Nat) : (marksI k n).length = n := by simp [marksI]
theorem marksI_get (k : Int) (n i : Nat) (h : i < n) : (marksI k n).getD i 0 = k + i := by simp [marksI, h]
def halfI (k : Int) (xs : List Int) (i : Nat) : List Int := marksI k i ++ xs.drop i
theorem halfI_len (k : Int) (xs : List Int) (i : Nat) (h : i ≤ xs.length) : (halfI k xs i).length = xs.length := by simp [halfI, marksI_len]; omega
theorem halfI_set (k : Int) (xs : List Int) (i : Nat) (h : i < xs.length) : (halfI k xs i).set i (k + i) = halfI k xs (i + 1) := by
  apply List.ext_getElem
  · simp [halfI, marksI_len]; omega
  · intro j h1 h2
    simp only [List.getElem_set, halfI, List.getElem_append, marksI_len]
    by_cases e : i = j
    · subst e
      rw [if_pos rfl, dif_pos (by omega)]
      simp [marksI]
    · rw [if_neg e]
      by_cases c : j < i
      · rw [dif_pos c, dif_pos (by omega)]; simp [marksI]
      · rw [dif_neg c, dif_neg (by omega)]
        simp only [List.getElem_drop]
        congr 1
        omega
theorem halfI_all (k : Int) (xs : List Int) : halfI k xs xs.length = marksI k xs.length := by simp [halfI]
theorem halfI_zero (k : Int) (xs : List Int) : halfI k xs 0 = xs := by simp [halfI, marksI]
theorem grownI_set {w wr : World} {g o : Nat} {v : Value} (h : w.grownBy wr (some g)) : w.grownBy (wr.setCell ⟨g, o, none⟩ v) (some g) :=
  ⟨h.os, h.tape, h.output, by simpa [World.setCell] using h.size, fun k hk hne => (Below.heap_setCell _ _ _ _ (by simp at hne; exact hne)).trans (h.block k hk hne)⟩

/-- what the frame of a law tells of a slice of k ints an element that came in -/
def IsRowI (k : Nat) (w : World) (a : Option Addr) (len cap : Nat) (zs : List Int) : Prop :=
  (a = none ∧ len = 0 ∧ cap = 0 ∧ zs = []) ∨
  ∃ x, a = some x ∧ len ≤ cap ∧ cap ≤ maxLen ∧ zs.length = cap * k ∧ ∀ i, i < zs.length → w.cell? (x.add i) = some (.int .i64 (zs.getD i 0))
theorem IsRowI.rd {k : Nat} {w : World} {a : Option Addr} {len cap : Nat} {zs : List Int} (h : IsRowI k w a len cap zs) (hl : len ≤ 1048576) (hk : 0 < k) : ∃ xs, RdI k w (.slice a len cap) len xs := by
  rcases h with ⟨rfl, rfl, rfl, rfl⟩ | ⟨x, rfl, h1, h2, h3, h4⟩
  · exact ⟨[], by simp, by omega, none, 0, rfl, .inl rfl⟩
  · have hle : len * k ≤ cap * k := Nat.mul_le_mul_right k h1
    refine ⟨zs.take (len * k), by simp; omega, by omega, some x, cap, rfl, ?_⟩
    by_cases h0 : len = 0
    · exact .inl h0
    · have hp : 0 < len * k := Nat.mul_pos (by omega) hk
      obtain ⟨b, off, spot⟩ := x
      have hc := h4 0 (by omega)
      have hspot : spot = none := by simpa [Addr.add] using World.cell?_spot hc
      subst hspot
      refine .inr ⟨b, off, rfl, fun i hi => ?_⟩
      simp only [List.length_take] at hi
      have ea : (⟨b, off, none⟩ : Addr).add i = ⟨b, off + i, none⟩ := by
        unfold Addr.add
        split
        · rename_i e; subst e; rfl
        · rfl
      rw [← ea, h4 i (by omega), getD_take_lt _ _ _ _ (by omega)]
theorem IsRowI.max {k : Nat} {w : World} {a : Option Addr} {len cap : Nat} {zs : List Int} (h : IsRowI k w a len cap zs) : (len : Int) ≤ 9223372036854775807 := by
  rcases h with ⟨_, h, _⟩ | ⟨_, _, h, h', _⟩
  · omega
  · unfold maxLen at h'; omega
end Go.Proofs.Ytbpomeegpkdekaa
