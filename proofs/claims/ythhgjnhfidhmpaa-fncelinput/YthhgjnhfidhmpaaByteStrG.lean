/- Bytes read as a text; whether two rows of bytes are the same; a row in new memory. -/
import Derived.Test.YthhgjnhfidhmpaaBytesMark
import Derived.Test.YthhgjnhfidhmpaaInBase
import Derived.Deep.AppendLies
import Derived.Maps.AppendAt
import Derived.Deep.RegionLaw
import Derived.Test.YthhgjnhfidhmpaaBytesMark2
import Derived.Deep.DeepMust
import Derived.Laws.IdiomStrings
import Derived.Lib.LazyBuf
namespace Go.Proofs.Ythhgjnhfidhmpaa
open Go.ChangeShapes Go.WideShapes Go.ChangeAt Go.RowKit Go.Joins Go.Deep
set_option linter.unusedVariables false

set_option maxRecDepth 4000
theorem info8' : ∃ i, Try.prog.info? 5 = some i ∧ i.zero = some (.int .u8 0) ∧ i.size = 1 ∧ i.bytes = 1 := by
  obtain ⟨i, hi, hzz⟩ := Option.map_eq_some_iff.1 info8
  simp only [Prod.mk.injEq] at hzz
  exact ⟨i, hi, hzz.1, hzz.2.1, hzz.2.2⟩

theorem own_ints {w : World} {B : Nat} {v : Value} {xs : List Int} (h : Own w B v xs) : w.ownsRow B 5 1 v xs.length (xs.map (Value.int .u8)) := h.2
theorem own_drew {w : World} {base size n : Nat} {e : TypeId} {v : Value} {xs : List Value} (h : w.ownsRow base e size v n xs) : w.drew.ownsRow base e size v n xs := h
theorem cell_new1d (w : World) (x : Value) (t : TypeId) : ∀ (j : Nat) (u : Value), [x][j]? = some u → (w.alloc (.cells #[x] t)).drew.cell? ((⟨w.heap.size, 0, none⟩ : Addr).add j) = some u := fun j u h => cell_one_new w x t j u h
theorem own_more {w w' : World} {B n cap g : Nat} {v : Value} {xs : List Int} {Z : Int} (ho : Own w' B v xs) (hn : xs.length = n) (z0 : 0 ≤ Z) (z1 : Z ≤ 255) (h : w.ownsRow B 5 1 (.slice (some ⟨g, 0, none⟩) (n + 1) cap) (n + 1) (xs.map (Value.int .u8) ++ [.int .u8 Z])) :
    Own w B (.slice (some ⟨g, 0, none⟩) (n + 1) cap) (xs ++ [Z]) := by
  refine ⟨fun x hx => ?_, ?_⟩
  · rcases List.mem_append.1 hx with hx | hx
    · exact ho.1 x hx
    · simp at hx; subst hx; exact ⟨z0, z1⟩
  · have e : (xs ++ [Z]).length = n + 1 := by simp [hn]
    rw [e, List.map_append]; exact h
theorem news_rd {w : World} {b off : Nat} {ys : List Int} (h : ∀ i, i < ys.length → w.cell? ⟨b, off + i, none⟩ = some (.int .u8 (ys.getD i 0))) : ∀ j u, (ys.map (Value.int .u8))[j]? = some u → w.cell? ((⟨b, off, none⟩ : Addr).add j) = some u := by
  intro j u hu
  have hj : j < ys.length := by
    have := (List.getElem?_eq_some_iff.1 hu).1
    simpa using this
  have ea : (⟨b, off, none⟩ : Addr).add j = ⟨b, off + j, none⟩ := by
    unfold Addr.add
    split
    · rename_i e; subst e; rfl
    · rfl
  rw [ea, h j hj]
  simp only [List.getElem?_map, List.getElem?_eq_getElem hj, Option.map_some, Option.some.injEq] at hu
  rw [← hu]; simp [hj]
/-- bytes as a text -/
def bstr (xs : List Int) : ByteArray := ⟨(xs.map fun x => x.toNat.toUInt8).toArray⟩
theorem u8_inj {x y : Int} (hx : 0 ≤ x ∧ x ≤ 255) (hy : 0 ≤ y ∧ y ≤ 255) (h : x.toNat.toUInt8 = y.toNat.toUInt8) : x = y := by
  have h2 : x.toNat.toUInt8.toNat = y.toNat.toUInt8.toNat := by rw [h]
  simp at h2
  omega
theorem map_inj : ∀ {xs ys : List Int}, (∀ x ∈ xs, 0 ≤ x ∧ x ≤ 255) → (∀ x ∈ ys, 0 ≤ x ∧ x ≤ 255) → (xs.map fun x => x.toNat.toUInt8) = (ys.map fun x => x.toNat.toUInt8) → xs = ys
  | [], [], _, _, _ => rfl
  | [], _ :: _, _, _, h => by simp at h
  | _ :: _, [], _, _, h => by simp at h
  | x :: xs, y :: ys, hx, hy, h => by
    simp only [List.map_cons, List.cons.injEq] at h
    rw [u8_inj (hx x (by simp)) (hy y (by simp)) h.1, map_inj (fun z hz => hx z (by simp [hz])) (fun z hz => hy z (by simp [hz])) h.2]
theorem bstr_beq {xs ys : List Int} (hx : ∀ x ∈ xs, 0 ≤ x ∧ x ≤ 255) (hy : ∀ x ∈ ys, 0 ≤ x ∧ x ≤ 255) : ((bstr xs).toList == (bstr ys).toList) = decide (xs = ys) := by
  rw [ByteArray.toList_eq, ByteArray.toList_eq]
  unfold bstr
  rw [Bool.eq_iff_iff]
  simp only [beq_iff_eq, decide_eq_true_eq]
  constructor
  · intro h; exact map_inj hx hy (by simpa using h)
  · intro h; rw [h]
theorem conv_rd {w : World} {v : Value} {xs : List Int} (h : Rd w v xs) : Sem.run Try.prog (convert 22 9 v) w = .ok (.string (bstr xs)) w := by
  obtain ⟨h1, h2, a, cap, rfl, h3⟩ := h
  cases a with
  | none =>
    rcases h3 with rfl | ⟨b, off, h, _⟩
    · rw [List.length_nil, run_convert_bytes_string w 22 9 5 none 0 cap Try.underlying22 Try.underlying5 Try.underlying9]
      rfl
    · simp at h
  | some p =>
    have hb := run_convert_bytes_back (P := Try.prog) w 22 9 5 p cap (xs.map fun x => x.toNat.toUInt8) Try.underlying22 Try.underlying5 Try.underlying9 (by
      intro j hj
      simp only [List.length_map] at hj
      rcases h3 with rfl | ⟨b, off, ha, hc⟩
      · simp at hj
      · simp only [Option.some.injEq] at ha
        subst ha
        have eg : xs.getD j 0 = xs[j] := by simp [List.getD_eq_getElem?_getD, List.getElem?_eq_getElem hj]
        have hx := h1 (xs.getD j 0) (by rw [eg]; exact List.getElem_mem hj)
        have ea : (⟨b, off, none⟩ : Addr).add j = ⟨b, off + j, none⟩ := by
          unfold Addr.add
          split
          · rename_i e; subst e; rfl
          · rfl
        rw [ea, hc j hj]
        rw [eg] at hx ⊢
        simp
        omega)
    rw [List.length_map] at hb
    exact hb

theorem caBytes_any (v u : Value) (xs ys : List Int) (w : World) (hv : Rd w v xs) (hu : Rd w u ys) :
    Calls Try.prog 16 #[v, u] w fun e w' => e = .returned (.bool (decide (xs = ys))) ∧ w' = w := by
  have c1 := conv_rd hv
  have c2 := conv_rd hu
  have hq := bstr_beq hv.1 hu.1
  have HV := hid hv
  clear hv hu
  go_enter Try.func16, Try.ntmps16
  go_wp2
  go_ret
  exact ⟨rfl, rfl⟩

theorem own_nil {B : Nat} (w : World) : Own w B (.slice none 0 0) [] := ⟨by simp, by simp, .inl ⟨rfl, rfl⟩⟩
theorem own_none (w : World) : Own (w.alloc (.cells #[] 5)) w.heap.size (.slice (some ⟨w.heap.size, 0, none⟩) 0 0) [] :=
  ⟨by simp, by simpa using World.ownsRow_made _ _ _ (Nat.le_refl _) (by unfold maxLen; omega) (by simp)⟩

set_option maxHeartbeats 2000000 in
theorem clone_any (v : Value) (xs : List Int) (w : World) (hv : Rd w v xs) :
    Calls Try.prog 60 #[v] w fun e w' => ∃ u, e = .returned u ∧ Own w' w.heap.size u xs ∧ Below w.heap.size w w' := by
  obtain ⟨ti, hti, htz, hts, htb⟩ := info8'
  obtain ⟨h1, h2, a, cap, rfl, h3⟩ := hv
  by_cases h0 : xs = []
  · subst h0
    clear h3
    have hb1 : ∀ q, Sem.run Try.prog (loadCellsFrom q 0 0 #[]) (w.alloc (.cells #[] 5)) = .ok #[] (w.alloc (.cells #[] 5)) := fun q => rfl
    have hb2 : ∀ q, Sem.run Try.prog (storeCells q []) (w.alloc (.cells #[] 5)) = .ok () (w.alloc (.cells #[] 5)) := fun q => rfl
    cases a with
    | none =>
      have hq := Go.run_eql_slice_nil (P := Try.prog) w 22 5 none 0 cap Try.underlying22
      go_enter Try.func60, Try.ntmps60
      go_wp2
      go_ret
      exact ⟨_, rfl, own_nil _, Below.refl _ _⟩
    | some p =>
      have hq := Go.run_eql_slice_nil (P := Try.prog) w 22 5 (some p) 0 cap Try.underlying22
      go_enter Try.func60, Try.ntmps60
      go_wp2
      go_ret
      exact ⟨_, rfl, own_none _, below_alloc1 _ _⟩
  · rcases h3 with h | ⟨b, off, rfl, hc⟩
    · exact absurd h h0
    have HC := hid (news_rd (fun i hi => cell_keep (below_alloc1 w (.cells #[] 5)) (hc i hi)))
    have hp : 0 < xs.length := List.length_pos_iff.2 h0
    have H1 := hid h1
    clear hc h1
    have hq := Go.run_eql_slice_nil (P := Try.prog) w 22 5 (some ⟨b, off, none⟩) xs.length cap Try.underlying22
    go_enter Try.func60, Try.ntmps60
    go_wp2_with (at_builtin; go_must (refine wpList_append_lies _ (by rfl) _ _ 22 (by rfl) w.heap.size 5 ti (.int .u8 0) 1 1 Try.underlying22 hti htz hts htb rfl (by omega) _ 0 [] (by rfl) (own_ints (own_none w)) ⟨b, off, none⟩ xs.length cap (xs.map (Value.int .u8)) (by rfl) (by simp) HC.out (by intro y hy; simp at hy; obtain ⟨z, _, rfl⟩ := hy; rfl) hp (by unfold maxLen; omega) (by omega) (by simp) (w.heap.size + 1) (by simp) ?_))
    intro g cap2 w3 ho2 hg2 hat hlt2
    have BS := hid ((below_alloc1 w (.cells #[] 5)).grown hg2 (by simp) (by intro k hk; exact ((own_ints (own_none w)).lt k hk).1))
    have OS := hid (show Own w3 w.heap.size (.slice (some ⟨g, 0, none⟩) (0 + xs.length) cap2) xs from ⟨H1.out, by simpa using ho2⟩)
    clear ho2 hg2
    go_wp2
    go_ret
    exact ⟨_, rfl, by simpa using OS.out, BS.out⟩

set_option maxHeartbeats 2000000 in
theorem l2Copy_any (v : Value) (xs : List Int) (w : World) (hv : Rd w v xs) :
    Calls Try.prog 62 #[v] w fun e w' => ∃ u, e = .returned u ∧ Own w' w.heap.size u xs ∧ Below w.heap.size w w' := by
  obtain ⟨ti, hti, htz, hts, htb⟩ := info8'
  obtain ⟨h1, h2, a, cap, rfl, h3⟩ := hv
  by_cases h0 : xs = []
  · subst h0
    clear h3
    have hb1 : ∀ q, Sem.run Try.prog (loadCellsFrom q 0 0 #[]) (w.alloc (.cells #[] 5)) = .ok #[] (w.alloc (.cells #[] 5)) := fun q => rfl
    have hb2 : ∀ q, Sem.run Try.prog (storeCells q []) (w.alloc (.cells #[] 5)) = .ok () (w.alloc (.cells #[] 5)) := fun q => rfl
    cases a with
    | none =>
      go_enter Try.func62, Try.ntmps62
      go_wp2
      go_ret
      exact ⟨_, rfl, own_none _, below_alloc1 _ _⟩
    | some p =>
      go_enter Try.func62, Try.ntmps62
      go_wp2
      go_ret
      exact ⟨_, rfl, own_none _, below_alloc1 _ _⟩
  · rcases h3 with h | ⟨b, off, rfl, hc⟩
    · exact absurd h h0
    have HC := hid (news_rd (fun i hi => cell_keep (below_alloc1 w (.cells #[] 5)) (hc i hi)))
    have hp : 0 < xs.length := List.length_pos_iff.2 h0
    have H1 := hid h1
    clear hc h1
    go_enter Try.func62, Try.ntmps62
    go_wp2_with (at_builtin; go_must (refine wpList_append_lies _ (by rfl) _ _ 22 (by rfl) w.heap.size 5 ti (.int .u8 0) 1 1 Try.underlying22 hti htz hts htb rfl (by omega) _ 0 [] (by rfl) (own_ints (own_none w)) ⟨b, off, none⟩ xs.length cap (xs.map (Value.int .u8)) (by rfl) (by simp) HC.out (by intro y hy; simp at hy; obtain ⟨z, _, rfl⟩ := hy; rfl) hp (by unfold maxLen; omega) (by omega) (by simp) (w.heap.size + 1) (by simp) ?_))
    intro g cap2 w3 ho2 hg2 hat hlt2
    have BS := hid ((below_alloc1 w (.cells #[] 5)).grown hg2 (by simp) (by intro k hk; exact ((own_ints (own_none w)).lt k hk).1))
    have OS := hid (show Own w3 w.heap.size (.slice (some ⟨g, 0, none⟩) (0 + xs.length) cap2) xs from ⟨H1.out, by simpa using ho2⟩)
    clear ho2 hg2
    go_wp2
    go_ret
    exact ⟨_, rfl, by simpa using OS.out, BS.out⟩

end Go.Proofs.Ythhgjnhfidhmpaa
