/- SealTag answers at every argument as the specification does, writes into no argument and keeps nothing of one. No conditions. -/
import Derived.Test.YtpfelnkdimbhkaaDoorSealTag2
namespace Go.Proofs.YtpfelnkdimbhkaaDoor
open Go.ChangeShapes Go.WideShapes Go.ChangeAt Go.RowKit Go.Joins Go.Deep
set_option linter.unusedVariables false
set_option maxRecDepth 4000

theorem rdn_of_own {w : World} {B g : Nat} {v : Value} {xs : List Int} {m : Int} (h : w.ownsRow B 3 1 v xs.length (xs.map fun x => .int .i64 (m + x))) (hg : g < B) (h0 : ∀ x ∈ xs, 0 ≤ m + x) : RdN w g v (raised m xs) := by
  obtain ⟨h1, h3⟩ := h
  have hl : (raised m xs).length = xs.length := by simp [raised]
  rcases h3 with ⟨hv, hz⟩ | ⟨q, cap, cur, hv, hq, hh, hnc, hm, hsz, hcur⟩
  · have : xs = [] := List.length_eq_zero_iff.1 hz
    subst this
    exact ⟨none, 0, hv, .inl rfl⟩
  · refine ⟨some ⟨q, 0, none⟩, cap, by rw [hl]; exact hv, .inr ⟨q, 0, rfl, by omega, fun i hi => ?_⟩⟩
    rw [hl] at hi
    have e : cur[i]? = some (.int .i64 (((raised m xs).getD i 0 : Nat) : Int)) := by
      have h4 : (cur.toList.take (xs.length * 1))[i]? = (xs.map fun x => Value.int .i64 (m + x))[i]? := by rw [hcur]
      rw [List.getElem?_take_of_lt (by omega)] at h4
      simp only [Array.getElem?_toList] at h4
      rw [h4]
      have h5 := h0 xs[i] (List.getElem_mem hi)
      simp only [List.getElem?_map, List.getElem?_eq_getElem hi, Option.map_some, raised, List.getD_eq_getElem?_getD, Option.getD_some]
      rw [Int.toNat_of_nonneg h5]
    simp only [Nat.zero_add]
    simp [World.cell?, hh, e]
theorem raised_lt {m : Int} {xs : List Int} (h : ∀ x ∈ xs, 0 ≤ x ∧ x ≤ 255) (m0 : 0 ≤ m) (m1 : m ≤ 1000) : ∀ i, i < (raised m xs).length → (raised m xs).getD i 0 < 2147483648 := by
  intro i hi
  simp only [raised, List.length_map] at hi
  have h5 := h xs[i] (List.getElem_mem hi)
  simp only [raised, List.getD_eq_getElem?_getD, List.getElem?_map, List.getElem?_eq_getElem hi, Option.map_some, Option.getD_some]
  omega
theorem one_list (P : Nat → Nat → Prop) (a : Nat) (h : P 0 a) : ∀ i, i < [a].length → P i ([a].getD i 0) := by
  intro i hi
  match i, hi with
  | 0, _ => exact h
theorem two_list (P : Nat → Nat → Prop) (a b : Nat) (h : P 0 a) (h' : P 1 b) : ∀ i, i < [a, b].length → P i ([a, b].getD i 0) := by
  intro i hi
  match i, hi with
  | 0, _ => exact h
  | 1, _ => exact h'

set_option maxHeartbeats 2000000 in
theorem sealTag_any (key seq : Int) (v u : Value) (hs cs : List Int) (w : World) (hv : Rd w v hs) (hu : Rd w u cs) :
    Calls Tryd.prog 22 #[.int .i64 key, .int .i64 seq, v, u] w fun e w' => e = .returned (.int .i64 (tagV key seq hs cs)) ∧ Below w.heap.size w w' := by
  have RV := hid hv
  have RU := hid hu
  obtain ⟨h1, h2, a, cap, rfl, h3⟩ := hv
  obtain ⟨h1', h2', a', cap', rfl, h3'⟩ := hu
  cases hm : mayB key seq hs.length cs.length
  · have H := hid (show tagV key seq hs cs = 0 by simp [tagV, hm])
    clear h1 h1' h3 h3'
    go_enter Tryd.func22, Tryd.ntmps22
    go_wp2_with fail
    refine (sealMay_any _ _ _ _ _ _ _ _ _ h2 h2').mono ?_
    rintro e w1 ⟨rfl, rfl⟩
    rw [hm]
    go_wp2
    go_ret
    exact ⟨ret_int H.out.symm, Below.refl _ _⟩
  · have H := hid (show tagV key seq hs cs = ((tag5 key seq hs cs : Nat) : Int) by simp [tagV, hm])
    obtain ⟨⟨k0, k1⟩, ⟨s0, s1⟩, n1, n2⟩ := mayB_iff.1 hm
    have B1 := hid (raised_lt (m := 1) h1 (by omega) (by omega))
    have B2 := hid (raised_lt (m := 600) h1' (by omega) (by omega))
    have B3 := hid (fun (x : Int) (hx : x ∈ hs) => (by have := h1 x hx; omega : 0 ≤ 1 + x))
    have B4 := hid (fun (x : Int) (hx : x ∈ cs) => (by have := h1' x hx; omega : 0 ≤ 600 + x))
    obtain ⟨K, rfl⟩ := Int.eq_ofNat_of_zero_le k0
    clear h1 h1' h3 h3'
    go_enter Tryd.func22, Tryd.ntmps22
    go_wp2_with fail
    refine (sealMay_any _ _ _ _ _ _ _ _ _ h2 h2').mono ?_
    rintro e w1 ⟨rfl, rfl⟩
    rw [hm]
    clear hm
    go_wp2_with fail
    refine (sealSum_n K [(300000 + seq).toNat, 11] 2 w1.heap.size _ 0 2 _ rfl (by omega) ?_ ?_ ?_ ?_ ?_ (by simp)).mono ?_
    · exact two_list (fun _ y => y < 2147483648) _ _ (by omega) (by omega)
    · omega
    · go_simp
    · go_simp
    · refine two_list (fun i (y : Nat) => World.cell? _ ⟨_, 0 + i, none⟩ = some (Value.int .i64 (y : Int))) _ _ ?_ ?_
      · rw [Int.toNat_of_nonneg (by omega)]; go_simp
      · go_simp
    rintro e w2 ⟨rfl, c2, f2, g2, z2⟩
    replace c2 : w2.cell? ⟨w1.heap.size, 0, none⟩ = some (.int .u32 ((tag1 K seq : Nat) : Int)) := c2
    have b2 : Below w1.heap.size w1 w2 := Below.grown (by (repeat' (first | exact Below.refl _ _ | assumption | exact Nat.le_refl _ | (refine Below.alloc ?_ ?_ _) | (refine Below.drew ?_) | (refine Below.setCell ?_ ?_ _) | (refine Below.trans ?_ (Below.mono (by assumption) ?_)) | (simp; done) | (simp; omega) | omega))) g2 (by simp; omega) (by intro j hj; simp at hj; omega)
    simp at z2
    have q2 : w1.heap.size < w2.heap.size := by omega
    have b2 := hid b2
    clear g2 z2
    have l1 := tag1_lt K seq
    have T2 := hid (show tag2 K seq hs = mixN (tag1 K seq) (400000 + hs.length) from rfl)
    go_wp2_with fail
    refine (sealSum_n (tag1 K seq) [400000 + hs.length] 1 w1.heap.size _ 0 1 _ rfl (by omega) ?_ ?_ ?_ ?_ ?_ (by simp)).mono ?_
    · exact one_list (fun _ y => y < 2147483648) _ (by omega)
    · omega
    · go_simp
    · go_simp
    · refine one_list (fun i (y : Nat) => World.cell? _ ⟨_, 0 + i, none⟩ = some (Value.int .i64 (y : Int))) _ ?_
      go_simp
      try omega
    rintro e w3 ⟨rfl, c3, f3, g3, z3⟩
    replace c3 : w3.cell? ⟨w1.heap.size, 0, none⟩ = some (.int .u32 ((tag2 K seq hs : Nat) : Int)) := c3
    have b3 : Below w1.heap.size w1 w3 := Below.grown (b2.out.alloc (by omega) _) g3 (by simp; omega) (by intro j hj; simp at hj; omega)
    simp at z3
    have q3 : w1.heap.size < w3.heap.size := by omega
    have b3 := hid b3
    clear g3 z3 c2 f2 q2
    have l2 := tag2_lt K seq hs
    go_wp2_with fail
    refine (sealRaised_any _ hs 1 _ (RV.out.keep b3.out) (by omega) (by omega)).mono ?_
    rintro e w4 ⟨v4, rfl, o4, d4⟩
    have c4 := cell_keep d4 c3
    have f4 := (d4.frozen (p := ⟨w1.heap.size, 0, none⟩) q3).trans f3
    have b4 := hid (b3.out.trans (d4.mono (by omega)))
    have q4 : w1.heap.size < w4.heap.size := Nat.lt_of_lt_of_le q3 d4.size
    have o4 := hid (rdn_of_own o4 q3 B3.out)
    clear d4 c3 f3 q3
    go_wp2_with fail
    refine (sealSum_rd (tag2 K seq hs) (raised 1 hs) w1.heap.size _ _ (by omega) B1.out o4.out c4 f4 (by simp [raised]; omega)).mono ?_
    rintro e w5 ⟨rfl, c5, f5, g5, z5⟩
    replace c5 : w5.cell? ⟨w1.heap.size, 0, none⟩ = some (.int .u32 ((tag3 K seq hs : Nat) : Int)) := c5
    have b5 := hid (Below.grown b4.out g5 (by omega) (by intro j hj; simp at hj; omega))
    have q5 : w1.heap.size < w5.heap.size := by omega
    clear g5 z5 c4 f4 q4
    have l3 := tag3_lt K seq hs
    go_wp2_with fail
    refine (sealSum_n (tag3 K seq hs) [500000 + cs.length] 1 w1.heap.size _ 0 1 _ rfl (by omega) ?_ ?_ ?_ ?_ ?_ (by simp)).mono ?_
    · exact one_list (fun _ y => y < 2147483648) _ (by omega)
    · omega
    · go_simp
    · go_simp
    · refine one_list (fun i (y : Nat) => World.cell? _ ⟨_, 0 + i, none⟩ = some (Value.int .i64 (y : Int))) _ ?_
      go_simp
      try omega
    rintro e w6 ⟨rfl, c6, f6, g6, z6⟩
    replace c6 : w6.cell? ⟨w1.heap.size, 0, none⟩ = some (.int .u32 ((tag4 K seq hs cs : Nat) : Int)) := c6
    have b6 : Below w1.heap.size w1 w6 := Below.grown (b5.out.alloc (by omega) _) g6 (by simp; omega) (by intro j hj; simp at hj; omega)
    simp at z6
    have q6 : w1.heap.size < w6.heap.size := by omega
    have b6 := hid b6
    clear g6 z6 c5 f5 q5
    have l4 := tag4_lt K seq hs cs
    go_wp2_with fail
    refine (sealRaised_any _ cs 600 _ (RU.out.keep b6.out) (by omega) (by omega)).mono ?_
    rintro e w7 ⟨v7, rfl, o7, d7⟩
    have c7 := cell_keep d7 c6
    have f7 := (d7.frozen (p := ⟨w1.heap.size, 0, none⟩) q6).trans f6
    have b7 := hid (b6.out.trans (d7.mono (by omega)))
    have q7 : w1.heap.size < w7.heap.size := Nat.lt_of_lt_of_le q6 d7.size
    have o7 := hid (rdn_of_own o7 q6 B4.out)
    clear d7 c6 f6 q6
    go_wp2_with fail
    refine (sealSum_rd (tag4 K seq hs cs) (raised 600 cs) w1.heap.size _ _ (by omega) B2.out o7.out c7 f7 (by simp [raised]; omega)).mono ?_
    rintro e w8 ⟨rfl, c8, f8, g8, z8⟩
    replace c8 : w8.cell? ⟨w1.heap.size, 0, none⟩ = some (.int .u32 ((tag5 K seq hs cs : Nat) : Int)) := c8
    have b8 := hid (Below.grown b7.out g8 (by omega) (by intro j hj; simp at hj; omega))
    have l5 := tag5_lt K seq hs cs
    clear g8 z8 c7 f7 q7
    go_wp2
    go_ret
    exact ⟨ret_int H.out.symm, b8.out⟩
end Go.Proofs.YtpfelnkdimbhkaaDoor
