/- What is sealed is four bytes longer, and is opened as it was by the same key, number and head: for whatever is drawn, where errors.errorType holds what the library's own text lays there. -/
import Derived.Test.YticdpdmpdkliaaaDoorDoorBase
import Derived.Test.YticdpdmpdkliaaaDoorSealOpen
import Derived.Test.YticdpdmpdkliaaaDoorDrawRaw
import Derived.Test.YticdpdmpdkliaaaDoorCards
import Derived.Test.YticdpdmpdkliaaaDoorTie
namespace Go.Proofs.YticdpdmpdkliaaaDoor
open Go.ChangeShapes Go.WideShapes Go.ChangeAt Go.RowKit Go.Joins Go.Deep
set_option linter.unusedVariables false
set_option linter.unusedSimpArgs false
set_option maxRecDepth 4000

theorem below_grown {a b : World} {n g : Nat} (h : a.grownBy b (some g)) (hg : n ≤ g) (hn : n ≤ a.heap.size) : Below n a b :=
  (Below.refl n a).grown h hn (fun k hk => by simp at hk; omega)

set_option maxHeartbeats 4000000 in
theorem drawShut_any (a : Option Addr) (len cap : Nat) (zs : List Int) (w : World) (hn : zs.length = len) (hv : Rd w (.slice a len cap) zs) (hcap : len ≤ cap) :
    Calls Tryd.prog 16 #[.slice a len cap] w fun e w' => ∃ (key seq : Int) (v u : Value) (hs xs : List Int), e = .returned (.tuple #[.int .i64 key, .int .i64 seq, v, u]) ∧ hs.length ≤ 65 ∧ xs.length ≤ 65 ∧ Own w' w.heap.size v hs ∧ Own w' w.heap.size u xs ∧ Below w.heap.size w w' := by
  have HV := hid hv
  clear hv
  go_enter Tryd.func16, Tryd.ntmps16
  go_wp2_with fail
  refine (open_any a len cap zs _ hn HV.out hcap).mono ?_
  rintro e w0 ⟨rfl, rd, bl, hz⟩
  have RD0 := hid rd
  have B0 := hid bl
  have z0 : w.heap.size < w0.heap.size := by omega
  clear rd bl HV hz
  go_wp2_with fail
  refine (drawKey_any _ _ _ 0 RD0.out (by omega)).mono ?_
  rintro e w1 ⟨key, rfl, hk, rd, gr⟩
  have RD1 := hid rd
  have B1 := hid (B0.out.trans (below_grown (n := w.heap.size) gr (by omega) (by omega)))
  have z1 : w.heap.size < w1.heap.size := Nat.lt_of_lt_of_le z0 gr.size
  clear rd gr RD0 B0
  go_wp2_with fail
  refine (drawSeq_any _ _ _ _ RD1.out (by omega)).mono ?_
  rintro e w2 ⟨seq, rfl, hq, rd, gr⟩
  have RD2 := hid rd
  have B2 := hid (B1.out.trans (below_grown (n := w.heap.size) gr (by omega) (by omega)))
  have z2 : w.heap.size < w2.heap.size := Nat.lt_of_lt_of_le z1 gr.size
  clear rd gr RD1 B1
  go_wp2_with fail
  refine (drawRaw_any _ _ _ _ RD2.out (by omega)).mono ?_
  rintro e w3 ⟨v, hs, rfl, hhs, o3, ⟨q3, hq3, rd⟩, gr⟩
  have RD3 := hid rd
  have B3 := hid (B2.out.trans (below_grown (n := w.heap.size) gr (by omega) (by omega)))
  have O3 := hid o3
  have z3 : w.heap.size < w3.heap.size := Nat.lt_of_lt_of_le z2 gr.size
  clear rd gr RD2 B2 o3
  go_wp2_with fail
  refine (drawRaw_any _ _ _ _ RD3.out (by omega)).mono ?_
  rintro e w4 ⟨u, xs, rfl, hxs, o4, ⟨q4, hq4, rd⟩, gr⟩
  have B4 := hid (B3.out.trans (below_grown (n := w.heap.size) gr (by omega) (by omega)))
  have O3 := hid ((O3.out.grown gr (fun k hk => by simp at hk; omega)).low (B' := w.heap.size) (by omega))
  have O4 := hid (o4.low (B' := w.heap.size) (by omega))
  clear rd gr RD3 B3 o4
  go_wp2
  refine bodyPost_ret (v := .tuple #[.int .i64 key, .int .i64 seq, v, u]) (by simp [results, Tryd.results16, go_sem]) rfl ?_
  exact ⟨key, seq, v, u, hs, xs, rfl, hhs, hxs, O3.out, O4.out, B4.out⟩

theorem rd_empty (w : World) (a : Option Addr) (cap : Nat) : Rd w (.slice a 0 cap) [] := ⟨by simp, by simp, a, cap, rfl, .inl rfl⟩
theorem own_cap {w : World} {B : Nat} {v : Value} {xs : List Int} (h : Own w B v xs) : ∃ a cap, v = .slice a xs.length cap ∧ xs.length ≤ cap := by
  obtain ⟨h1, h2, h3⟩ := h
  rcases h3 with ⟨hv, h0⟩ | ⟨g, cap, cur, hv, hg, hh, hnc, hm, hsz, hcur⟩
  · exact ⟨none, 0, by rw [hv, h0], by omega⟩
  · exact ⟨_, cap, hv, by omega⟩
theorem hid_twice (S : Nat) (xs : List Int) (h : ∀ x ∈ xs, 0 ≤ x ∧ x ≤ 255) : hidL S (hidL S xs) = xs := by
  apply List.ext_getElem
  · rw [hidL_len, hidL_len]
  · intro i h1 h2
    rw [hidL_len, hidL_len] at h1
    have hx := h xs[i] (List.getElem_mem h1)
    have e : (hidL S xs).getD i 0 = (((xs.getD i 0).toNat ^^^ (mixN S (200000 + i) % 256) : Nat) : Int) := by simp [hidL, h1]
    have e2 : xs.getD i 0 = xs[i] := by simp [List.getD_eq_getElem?_getD, List.getElem?_eq_getElem h1]
    have e3 : (hidL S (hidL S xs))[i] = ((((hidL S xs).getD i 0).toNat ^^^ (mixN S (200000 + i) % 256) : Nat) : Int) := by simp [hidL]
    rw [e3, e, Int.toNat_natCast, Nat.xor_assoc, Nat.xor_self, Nat.xor_zero, e2]
    omega
theorem shut_nil {key seq : Int} {hs xs : List Int} : shutL key seq hs xs = [] ↔ mayB key seq hs.length xs.length = false := by
  constructor
  · intro h
    cases hm : mayB key seq hs.length xs.length
    · rfl
    · rw [shutL_yes hm] at h
      have := congrArg List.length h
      rw [List.length_append, putB_tag_len] at this; simp at this
  · intro h; simp [shutL, h]
theorem num_put (n s : Nat) (hs : 1 ≤ s ∧ s ≤ 4) (hn : n < 256 ^ s) : numL (putL n s) = (n : Int) := by
  rcases (by omega : s = 1 ∨ s = 2 ∨ s = 3 ∨ s = 4) with rfl | rfl | rfl | rfl <;> simp [putL, numL, List.range_succ] at hn ⊢ <;> omega
theorem putB_yes {n s : Int} (h : putB n s ≠ []) : (1 ≤ s ∧ s ≤ 4) ∧ 0 ≤ n ∧ n < 256 ^ s.toNat ∧ putB n s = putL n.toNat s.toNat := by
  unfold putB at h ⊢
  split
  · rename_i hk
    simp only [putOk, inB, Bool.and_eq_true, decide_eq_true_eq] at hk
    exact ⟨hk.1, hk.2.1, by omega, rfl⟩
  · rename_i hk; simp [hk] at h

theorem open_shut {key seq : Int} {hs xs : List Int} (hx : ∀ x ∈ xs, 0 ≤ x ∧ x ≤ 255) (hm : mayB key seq hs.length xs.length = true) :
    opOk key seq hs (shutL key seq hs xs) = true ∧ opL key seq hs (shutL key seq hs xs) = xs ∧ (shutL key seq hs xs).length = xs.length + 4 := by
  have hsh := shutL_yes hm
  have hlen : (shutL key seq hs xs).length = xs.length + 4 := by rw [hsh, List.length_append, hidL_len, putB_tag_len]
  have hC : opC (shutL key seq hs xs) = hidL (strS key seq) xs := by
    unfold opC
    rw [hlen, hsh, show xs.length + 4 - 4 = xs.length by omega, List.take_append_of_le_length (by rw [hidL_len]; exact Nat.le_refl _), List.take_of_length_le (by rw [hidL_len]; exact Nat.le_refl _)]
  have hlt := tagV_lt key seq hs (hidL (strS key seq) xs)
  have hne : putB (tagV key seq hs (hidL (strS key seq) xs)) 4 ≠ [] := by
    intro h; have := putB_tag_len key seq hs (hidL (strS key seq) xs); rw [h] at this; simp at this
  obtain ⟨_, _, h1, h2⟩ := putB_yes hne
  have htk : tkOk (shutL key seq hs xs) (((shutL key seq hs xs).length : Int) - 4) 4 = true := by simp [tkOk]; omega
  have htn : tkN (shutL key seq hs xs) (((shutL key seq hs xs).length : Int) - 4) 4 = tagV key seq hs (hidL (strS key seq) xs) := by
    unfold tkN
    rw [if_pos htk, hlen]
    have e : ((((xs.length + 4 : Nat) : Int) - 4)).toNat = (hidL (strS key seq) xs).length := by rw [hidL_len]; omega
    rw [e, hsh, List.drop_left, h2]
    have e4 : (4 : Int).toNat = 4 := rfl
    rw [e4, List.take_of_length_le (by rw [putL_len]; exact Nat.le_refl _), num_put _ 4 (by omega) (by omega)]
    omega
  have hok : opOk key seq hs (shutL key seq hs xs) = true := by
    unfold opOk
    rw [htn, hC, hlen, show xs.length + 4 - 4 = xs.length by omega, hm]
    simp
  refine ⟨hok, ?_, hlen⟩
  unfold opL
  rw [if_pos hok, hC, hid_twice _ _ hx]
end Go.Proofs.YticdpdmpdkliaaaDoor
