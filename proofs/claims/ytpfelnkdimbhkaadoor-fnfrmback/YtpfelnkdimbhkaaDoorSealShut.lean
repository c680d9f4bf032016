/- The contracts of SealShut, of the program and of the specification. Conditions: head and body read as bytes. -/
import Derived.Test.YtpfelnkdimbhkaaDoorSealHide
import Derived.Deep.DeepMust
namespace Go.Proofs.YtpfelnkdimbhkaaDoor
open Go.ChangeShapes Go.WideShapes Go.ChangeAt Go.RowKit Go.Joins Go.Deep
set_option linter.unusedVariables false
set_option maxRecDepth 4000

/-- what is sealed: the hidden body, and its tag behind it -/
def shutL (key seq : Int) (hs xs : List Int) : List Int := if mayB key seq hs.length xs.length then hidL (strS key seq) xs ++ putB (tagV key seq hs (hidL (strS key seq) xs)) 4 else []
theorem shutL_yes {key seq : Int} {hs xs : List Int} (h : mayB key seq hs.length xs.length = true) : shutL key seq hs xs = hidL (strS key seq) xs ++ putB (tagV key seq hs (hidL (strS key seq) xs)) 4 := by simp [shutL, h]
theorem tagV_lt (key seq : Int) (hs cs : List Int) : 0 ≤ tagV key seq hs cs ∧ tagV key seq hs cs ≤ 4294967295 := by
  unfold tagV
  have := tag5_lt key seq hs cs
  split <;> omega
theorem putB_tag_len (key seq : Int) (hs cs : List Int) : (putB (tagV key seq hs cs) 4).length = 4 := by
  have h := tagV_lt key seq hs cs
  have hk : putOk (tagV key seq hs cs) 4 = true := by
    simp only [putOk, inB, Bool.and_eq_true, decide_eq_true_eq]
    refine ⟨by omega, h.1, ?_⟩
    have : (256 : Int) ^ (4 : Int).toNat - 1 = 4294967295 := by decide
    omega
  simp [putB, hk, putL_len]
theorem shutL_len (key seq : Int) (hs xs : List Int) : (shutL key seq hs xs).length ≤ 68 := by
  unfold shutL
  split
  · rename_i h
    have := mayB_iff.1 h
    rw [List.length_append, hidL_len, putB_tag_len]; omega
  · simp
theorem news_own {w : World} {B g n c : Nat} {ys : List Int} (h : Own w B (.slice (some ⟨g, 0, none⟩) n c) ys) : ∀ j u, (ys.map (Value.int .u8))[j]? = some u → w.cell? ((⟨g, 0, none⟩ : Addr).add j) = some u := by
  intro j u hu
  have hj : j < ys.length := by
    have := (List.getElem?_eq_some_iff.1 hu).1
    simpa using this
  have ea : (⟨g, 0, none⟩ : Addr).add j = ⟨g, j, none⟩ := by
    unfold Addr.add
    split
    · rename_i e; subst e; rfl
    · simp
  rw [ea, (own_cell h hj).1]
  simp only [List.getElem?_map, List.getElem?_eq_getElem hj, Option.map_some, Option.some.injEq] at hu
  rw [← hu]; simp [hj]
theorem own_join {w w' w'' : World} {B B' n m cap g : Nat} {v u : Value} {xs ys : List Int} (ho : Own w' B v xs) (hp : Own w'' B' u ys) (hn : xs.length = n) (hm : ys.length = m) (h : w.ownsRow B 5 1 (.slice (some ⟨g, 0, none⟩) (n + m) cap) (n + m) (xs.map (Value.int .u8) ++ ys.map (Value.int .u8))) :
    Own w B (.slice (some ⟨g, 0, none⟩) (n + m) cap) (xs ++ ys) := by
  refine ⟨fun x hx => ?_, ?_⟩
  · rcases List.mem_append.1 hx with hx | hx
    · exact ho.1 x hx
    · exact hp.1 x hx
  · have e : (xs ++ ys).length = n + m := by simp [hn, hm]
    rw [e, List.map_append]; exact h

set_option maxHeartbeats 2000000 in
theorem sealShut_any (key seq : Int) (v u : Value) (hs xs : List Int) (w : World) (hv : Rd w v hs) (hu : Rd w u xs) :
    Calls Tryd.prog 17 #[.int .i64 key, .int .i64 seq, v, u] w fun e w' => ∃ v', e = .returned v' ∧ Own w' w.heap.size v' (shutL key seq hs xs) ∧ Below w.heap.size w w' := by
  have RV := hid hv
  have RU := hid hu
  obtain ⟨h1, h2, a, cap, rfl, h3⟩ := hv
  obtain ⟨h1', h2', a', cap', rfl, h3'⟩ := hu
  cases hm : mayB key seq hs.length xs.length
  · have H := hid (show shutL key seq hs xs = [] by simp [shutL, hm])
    clear h1 h1' h3 h3'
    go_enter Tryd.func17, Tryd.ntmps17
    go_wp2_with fail
    refine (sealMay_any _ _ _ _ _ _ _ _ _ h2 h2').mono ?_
    rintro e w1 ⟨rfl, rfl⟩
    rw [hm]
    go_wp2
    go_ret
    exact ⟨_, rfl, by rw [H.out]; exact ⟨by simp, World.ownsRow_nil _ _ _ _⟩, Below.refl _ _⟩
  · obtain ⟨⟨k0, k1⟩, ⟨s0, s1⟩, n1, n2⟩ := mayB_iff.1 hm
    have H := hid (shutL_yes (xs := xs) hm)
    have LH := hidL_len (strS key seq) xs
    have LP : (putB (tagV key seq hs (hidL (strS key seq) xs)) 4).length = 4 := putB_tag_len _ _ _ _
    have TM := tagV_lt key seq hs (hidL (strS key seq) xs)
    obtain ⟨ti, hti, htz, hts, htb⟩ := info8'
    clear h1 h1' h3 h3'
    go_enter Tryd.func17, Tryd.ntmps17
    go_wp2_with fail
    refine (sealMay_any _ _ _ _ _ _ _ _ _ h2 h2').mono ?_
    rintro e w1 ⟨rfl, rfl⟩
    rw [hm]
    clear hm
    go_wp2_with fail
    refine (sealHidden_any _ _ _ xs _ RU.out (by omega) k0 k1 s0 s1).mono ?_
    rintro e w2 ⟨v2, rfl, o2, b2⟩
    have O2 := hid o2
    have B2 := hid b2
    clear o2 b2
    go_wp2_with fail
    refine (sealTag_any _ _ _ _ hs (hidL (strS key seq) xs) _ (RV.out.keep B2.out) (O2.out.rd (by omega))).mono ?_
    rintro e w3 ⟨rfl, b3⟩
    have B3 := hid (B2.out.trans (b3.mono B2.out.size))
    have O2 := hid (O2.out.keep b3)
    clear b3
    go_wp2_with fail
    refine (bytPut_any _ _ _ (by omega)).mono ?_
    rintro e w4 ⟨v4, rfl, o4, b4⟩
    have B4 := hid (B3.out.trans (b4.mono B3.out.size))
    have O2 := hid (O2.out.keep b4)
    have O4 := hid o4
    obtain ⟨a4, c4, e4, f4⟩ := own_form o4
    rw [LP] at e4
    rcases f4 with f4 | ⟨g4, rfl⟩
    · rw [f4] at LP; simp at LP
    subst e4
    have R2 := own_ints O2.out
    rw [LH] at R2
    have R2 := hid R2
    have s4 := B4.out.size
    clear o4 b4
    go_wp2_with (at_builtin; go_must (refine wpList_append_lies _ (by rfl) _ _ 22 (by rfl) w1.heap.size 5 ti (.int .u8 0) 1 1 Tryd.underlying22 hti htz hts htb rfl (by omega) _ xs.length ((hidL (strS key seq) xs).map (Value.int .u8)) (by rfl) R2.out ⟨g4, 0, none⟩ 4 c4 ((putB (tagV key seq hs (hidL (strS key seq) xs)) 4).map (Value.int .u8)) (by rfl) (by simp [LP]) (news_own O4.out) (by intro y hy; simp at hy; obtain ⟨z, _, rfl⟩ := hy; rfl) (by omega) (by unfold maxLen; omega) (by omega) (by omega) w4.heap.size rfl ?_))
    intro g cap2 w5 ho5 hg5 hat hlt5
    have B5 := hid (B4.out.grown hg5 (by omega) (by intro j hj; exact (R2.out.lt j hj).1))
    clear hg5
    go_wp2
    go_ret
    refine ⟨_, rfl, ?_, B5.out⟩
    rw [H.out]
    exact own_join O2.out O4.out LH LP ho5

set_option maxHeartbeats 2000000 in
theorem specShut_any (key seq : Int) (v u : Value) (hs xs : List Int) (w : World) (hv : Rd w v hs) (hu : Rd w u xs) :
    Calls Tryd.prog 18 #[.int .i64 key, .int .i64 seq, v, u] w fun e w' => ∃ v', e = .returned v' ∧ Own w' w.heap.size v' (shutL key seq hs xs) ∧ Below w.heap.size w w' := by
  have RV := hid hv
  have RU := hid hu
  obtain ⟨h1, h2, a, cap, rfl, h3⟩ := hv
  obtain ⟨h1', h2', a', cap', rfl, h3'⟩ := hu
  cases hm : mayB key seq hs.length xs.length
  · have H := hid (show shutL key seq hs xs = [] by simp [shutL, hm])
    clear h1 h1' h3 h3'
    go_enter Tryd.func18, Tryd.ntmps18
    go_wp2_with fail
    refine (l3Ok_any _ _ _ _ _ _ _ _ _ h2 h2').mono ?_
    rintro e w1 ⟨rfl, rfl⟩
    rw [hm]
    go_wp2
    go_ret
    exact ⟨_, rfl, by rw [H.out]; exact ⟨by simp, World.ownsRow_made _ _ _ (Nat.le_refl _) (by unfold maxLen; omega) (by simp)⟩, below_alloc1 _ _⟩
  · obtain ⟨⟨k0, k1⟩, ⟨s0, s1⟩, n1, n2⟩ := mayB_iff.1 hm
    have H := hid (shutL_yes (xs := xs) hm)
    have LH := hidL_len (strS key seq) xs
    have LP : (putB (tagV key seq hs (hidL (strS key seq) xs)) 4).length = 4 := putB_tag_len _ _ _ _
    have TM := tagV_lt key seq hs (hidL (strS key seq) xs)
    obtain ⟨ti, hti, htz, hts, htb⟩ := info8'
    clear h1 h1' h3 h3'
    go_enter Tryd.func18, Tryd.ntmps18
    go_wp2_with fail
    refine (l3Ok_any _ _ _ _ _ _ _ _ _ h2 h2').mono ?_
    rintro e w1 ⟨rfl, rfl⟩
    rw [hm]
    clear hm
    go_wp2_with fail
    refine (l3Hide_any _ _ _ xs _ RU.out (by omega) k0 k1 s0 s1).mono ?_
    rintro e w2 ⟨v2, rfl, o2, b2⟩
    have O2 := hid o2
    have B2 := hid b2
    clear o2 b2
    go_wp2_with fail
    refine (specTag_any _ _ _ _ hs (hidL (strS key seq) xs) _ (RV.out.keep B2.out) (O2.out.rd (by omega))).mono ?_
    rintro e w3 ⟨rfl, rfl⟩
    have B3 := B2
    go_wp2_with fail
    refine (specPut_any _ _ _).mono ?_
    rintro e w4 ⟨v4, rfl, o4, b4⟩
    have B4 := hid (B3.out.trans (b4.mono B3.out.size))
    have O2 := hid (O2.out.keep b4)
    have O4 := hid o4
    obtain ⟨a4, c4, e4, f4⟩ := own_form o4
    rw [LP] at e4
    rcases f4 with f4 | ⟨g4, rfl⟩
    · rw [f4] at LP; simp at LP
    subst e4
    have R2 := own_ints O2.out
    rw [LH] at R2
    have R2 := hid R2
    have s4 := B4.out.size
    clear o4 b4
    go_wp2_with (at_builtin; go_must (refine wpList_append_lies _ (by rfl) _ _ 22 (by rfl) w1.heap.size 5 ti (.int .u8 0) 1 1 Tryd.underlying22 hti htz hts htb rfl (by omega) _ xs.length ((hidL (strS key seq) xs).map (Value.int .u8)) (by rfl) R2.out ⟨g4, 0, none⟩ 4 c4 ((putB (tagV key seq hs (hidL (strS key seq) xs)) 4).map (Value.int .u8)) (by rfl) (by simp [LP]) (news_own O4.out) (by intro y hy; simp at hy; obtain ⟨z, _, rfl⟩ := hy; rfl) (by omega) (by unfold maxLen; omega) (by omega) (by omega) w4.heap.size rfl ?_))
    intro g cap2 w5 ho5 hg5 hat hlt5
    have B5 := hid (B4.out.grown hg5 (by omega) (by intro j hj; exact (R2.out.lt j hj).1))
    clear hg5
    go_wp2
    go_ret
    refine ⟨_, rfl, ?_, B5.out⟩
    rw [H.out]
    exact own_join O2.out O4.out LH LP ho5
end Go.Proofs.YtpfelnkdimbhkaaDoor
