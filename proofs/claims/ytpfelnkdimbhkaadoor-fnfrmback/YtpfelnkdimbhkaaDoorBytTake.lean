/- The contracts of BytTake, of the program and of the specification. -/
import Derived.Test.YtpfelnkdimbhkaaDoorAsFault
import Derived.Test.YtpfelnkdimbhkaaDoorBytesMark2
import Derived.Test.YtpfelnkdimbhkaaDoorInBase
import Derived.Test.YtpfelnkdimbhkaaDoorDraw
namespace Go.Proofs.YtpfelnkdimbhkaaDoor
open Go.ChangeShapes Go.WideShapes Go.ChangeAt Go.RowKit Go.Joins Go.Deep
set_option linter.unusedVariables false

/-- the variable of the library's that errors.As reads -/
def Et (w : World) : Prop := w.cell? ⟨0, 0, none⟩ = some (.iface 116 (.agg #[.pointer (some ⟨1, 60, none⟩)]))
theorem Et.keep {w w' : World} {n : Nat} (h : Et w) (hb : Below n w w') (hn : 0 < n) : Et w' := (hb.cell (p := ⟨0, 0, none⟩) hn).trans h
theorem Et.pos {w : World} (h : Et w) : 0 < w.heap.size := by
  rcases Nat.eq_zero_or_pos w.heap.size with h0 | h'
  · unfold Et at h; simp [World.cell?, h0] at h
  · exact h'

/-- the number that some bytes are, the one that counts most first -/
def numL (xs : List Int) : Int := xs.foldl (fun n c => n * 256 + c) 0
theorem numL_snoc (xs : List Int) (x : Int) : numL (xs ++ [x]) = numL xs * 256 + x := by simp [numL]
theorem numL_in (xs : List Int) (h : ∀ x ∈ xs, 0 ≤ x ∧ x ≤ 255) (hl : xs.length ≤ 4) : 0 ≤ numL xs ∧ numL xs ≤ 4294967295 := by
  match xs, hl with
  | [], _ => simp [numL]
  | [a], _ => have := h a (by simp); simp [numL]; omega
  | [a, b], _ => have := h a (by simp); have := h b (by simp); simp [numL]; omega
  | [a, b, c], _ => have := h a (by simp); have := h b (by simp); have := h c (by simp); simp [numL]; omega
  | [a, b, c, d], _ => have := h a (by simp); have := h b (by simp); have := h c (by simp); have := h d (by simp); simp [numL]; omega
theorem numL_in3 (xs : List Int) (h : ∀ x ∈ xs, 0 ≤ x ∧ x ≤ 255) (hl : xs.length ≤ 3) : 0 ≤ numL xs ∧ numL xs ≤ 16777215 := by
  match xs, hl with
  | [], _ => simp [numL]
  | [a], _ => have := h a (by simp); simp [numL]; omega
  | [a, b], _ => have := h a (by simp); have := h b (by simp); simp [numL]; omega
  | [a, b, c], _ => have := h a (by simp); have := h b (by simp); have := h c (by simp); simp [numL]; omega
theorem or256 (N c : Nat) (hN : N < 1099511627776) (hc : c < 256) : bits .or .i64 ((N : Int) * 256) (c : Int) = (N : Int) * 256 + c := by
  have e : ((N : Int) * 256) = ((N * 256 : Nat) : Int) := by simp
  have ho : (N * 256) ||| c = N * 256 + c := by
    have h := Nat.shiftLeft_add_eq_or_of_lt (i := 8) (b := c) (by omega) N
    rw [Nat.shiftLeft_eq] at h
    simpa using h.symm
  rw [e]
  show IntKind.i64.wrap ((BitVec.ofInt 64 ((N * 256 : Nat) : Int) ||| BitVec.ofInt 64 (c : Int)).toNat : Int) = _
  rw [BitVec.toNat_or, ofInt_u64 (N * 256) (by omega), ofInt_u64 c (by omega), ho]
  simp [IntKind.wrap, IntKind.bits, IntKind.signed]
  omega
/-- whether a number can be taken, and which -/
def tkOk (xs : List Int) (at_ size : Int) : Bool := decide (1 ≤ size ∧ size ≤ 4 ∧ 0 ≤ at_ ∧ at_ ≤ (xs.length : Int) - size)
def tkN (xs : List Int) (at_ size : Int) : Int := if tkOk xs at_ size then numL ((xs.drop at_.toNat).take size.toNat) else 0

theorem take_snoc {xs : List Int} {A j : Nat} (h : A + j < xs.length) : (xs.drop A).take (j + 1) = (xs.drop A).take j ++ [xs.getD (A + j) 0] := by
  rw [List.take_succ_eq_append_getElem (by simp; omega)]
  simp [List.getD_eq_getElem?_getD, List.getElem?_eq_getElem h]

set_option maxHeartbeats 4000000 in
theorem read_yes (b off cap : Nat) (xs : List Int) (A S : Nat) (w : World) (hv : Rd w (.slice (some ⟨b, off, none⟩) xs.length cap) xs) (hcap : xs.length ≤ cap) (hS : 1 ≤ S ∧ S ≤ 4) (hA : A + S ≤ xs.length) :
    Calls Tryd.prog 44 #[.slice (some ⟨b, off, none⟩) xs.length cap, .int .i64 (A : Int), .int .i64 (S : Int)] w fun e w' => e = .returned (.tuple #[.int .i64 (numL ((xs.drop A).take S)), .nilIface]) ∧ w' = w := by
  obtain ⟨h1, h2, a', cap', hv', h3⟩ := hv
  simp at hv'
  obtain ⟨rfl, rfl⟩ := hv'
  have hc : ∀ i, i < xs.length → w.cell? ⟨b, off + i, none⟩ = some (.int .u8 (xs.getD i 0)) := by
    rcases h3 with rfl | ⟨b', off', hb, hc⟩
    · simp at hA; omega
    · simp at hb; obtain ⟨rfl, rfl⟩ := hb; exact hc
  have HC := hid hc
  have H1 := hid h1
  clear hc h1 h3
  have i1 : inB (S : Int) 1 4 = true := inB_yes (by omega) (by omega)
  have i2 : inB (A : Int) 0 ((xs.length : Int) - S) = true := inB_yes (by omega) (by omega)
  go_enter Tryd.func44, Tryd.ntmps44
  go_wp2_with fail
  refine (within_any _ _ _ _).mono ?_
  rintro e w1 ⟨rfl, rfl⟩
  rw [i1]
  go_wp2_with fail
  refine (within_any _ _ _ _).mono ?_
  rintro e w1 ⟨rfl, rfl⟩
  rw [i2]
  go_wp2_with fail
  rw [show A + S - A = S from by omega]
  go_loop [8, 32] (fun n i => ∃ j : Nat, j ≤ S ∧ i = .int .i64 j ∧ n = .int .i64 (numL ((xs.drop A).take j))) (fun _ i => S - (intOf i).toNat)
  case atStart => exact ⟨0, by omega, rfl, by simp [numL]⟩
  case round =>
    obtain ⟨j, hj, rfl, rfl⟩ := hrel
    by_cases hlt : j < S
    · have hck := HC.out (A + j) (by omega)
      have hx := H1.out (xs.getD (A + j) 0) (by
        simp [List.getD_eq_getElem?_getD, List.getElem?_eq_getElem (show A + j < xs.length by omega)])
      have hN := numL_in3 ((xs.drop A).take j) (fun x hx => H1.out x (List.mem_of_mem_drop (List.mem_of_mem_take hx))) (by simp; omega)
      have HS := hid (congrArg numL (take_snoc (xs := xs) (A := A) (j := j) (by omega)))
      rw [numL_snoc] at HS
      obtain ⟨N, hNe⟩ := Int.eq_ofNat_of_zero_le hN.1
      obtain ⟨C, hCe⟩ := Int.eq_ofNat_of_zero_le hx.1
      rw [hNe] at hN HS ⊢
      rw [hCe] at hx HS hck
      have hor := or256 N C (by omega) (by omega)
      rw [← Nat.add_assoc] at hck
      have hwr : IntKind.i64.wrap ((N : Int) * 256) = (N : Int) * 256 := by rw [IntKind.wrap_i64]; omega
      clear hNe hCe
      go_wp2_with fail
      exact ⟨⟨j + 1, by omega, by go_num, by rw [HS.out]⟩, by simp [intOf]; omega⟩
    · obtain rfl : j = S := by omega
      go_wp2
      refine bodyPost_ret (v := .tuple #[.int .i64 (numL ((xs.drop A).take j)), .nilIface]) (by simp [results, Tryd.results44, go_sem]) rfl ?_
      exact ⟨rfl, rfl⟩

set_option maxHeartbeats 4000000 in
theorem read_no (a : Option Addr) (len cap : Nat) (A S : Int) (w : World) (hl : len ≤ 2000000) (hno : ¬ (1 ≤ S ∧ S ≤ 4 ∧ 0 ≤ A ∧ A ≤ (len : Int) - S)) :
    Calls Tryd.prog 44 #[.slice a len cap, .int .i64 A, .int .i64 S] w fun e w' => (∃ c : Int, e = .returned (.tuple #[.int .i64 0, .iface 64 (.agg #[.int .i64 c])])) ∧ w' = w := by
  cases i1 : inB S 1 4
  · go_enter Tryd.func44, Tryd.ntmps44
    go_wp2_with fail
    refine (within_any _ _ _ _).mono ?_
    rintro e w1 ⟨rfl, rfl⟩
    rw [i1]
    go_wp2
    refine bodyPost_ret (v := .tuple #[.int .i64 0, .iface 64 (.agg #[.int .i64 1])]) (by simp [results, Tryd.results44, go_sem]) rfl ?_
    exact ⟨⟨_, rfl⟩, rfl⟩
  · have hS : 1 ≤ S ∧ S ≤ 4 := by simpa [inB] using i1
    have hw : IntKind.i64.wrap ((len : Int) - S) = (len : Int) - S := by rw [IntKind.wrap_i64]; omega
    have i2 : inB A 0 ((len : Int) - S) = false := by
      cases h : inB A 0 ((len : Int) - S)
      · rfl
      · exact absurd (by simpa [inB] using h : 0 ≤ A ∧ A ≤ (len : Int) - S) (fun q => hno ⟨hS.1, hS.2, q.1, q.2⟩)
    go_enter Tryd.func44, Tryd.ntmps44
    go_wp2_with fail
    refine (within_any _ _ _ _).mono ?_
    rintro e w1 ⟨rfl, rfl⟩
    rw [i1]
    go_wp2_with fail
    refine (within_any _ _ _ _).mono ?_
    rintro e w1 ⟨rfl, rfl⟩
    rw [i2]
    go_wp2
    refine bodyPost_ret (v := .tuple #[.int .i64 0, .iface 64 (.agg #[.int .i64 2])]) (by simp [results, Tryd.results44, go_sem]) rfl ?_
    exact ⟨⟨_, rfl⟩, rfl⟩

set_option maxHeartbeats 4000000 in
theorem bytTake_any (a : Option Addr) (cap : Nat) (xs : List Int) (A S : Int) (w : World) (hv : Rd w (.slice a xs.length cap) xs) (hcap : xs.length ≤ cap) (het : Et w) :
    Calls Tryd.prog 15 #[.slice a xs.length cap, .int .i64 A, .int .i64 S] w fun e w' => e = .returned (.tuple #[.int .i64 (tkN xs A S), .bool (tkOk xs A S)]) ∧ Below w.heap.size w w' := by
  have h2 := hv.2.1
  have hp := het.pos
  by_cases hk : 1 ≤ S ∧ S ≤ 4 ∧ 0 ≤ A ∧ A ≤ (xs.length : Int) - S
  · have hok : tkOk xs A S = true := by simp [tkOk, hk]
    obtain ⟨A, rfl⟩ := Int.eq_ofNat_of_zero_le hk.2.2.1
    obtain ⟨S, rfl⟩ := Int.eq_ofNat_of_zero_le (show 0 ≤ S by omega)
    have hn : tkN xs A S = numL ((xs.drop A).take S) := by simp [tkN, hok]
    rw [hok, hn]
    obtain ⟨b, off, rfl⟩ : ∃ b off, a = some ⟨b, off, none⟩ := by
      obtain ⟨_, _, a', cap', e, h3⟩ := hv
      simp at e
      obtain ⟨rfl, rfl⟩ := e
      rcases h3 with rfl | ⟨b, off, rfl, _⟩
      · simp at hk; omega
      · exact ⟨b, off, rfl⟩
    have HV := hid hv
    clear hv het
    go_enter Tryd.func15, Tryd.ntmps15
    go_wp2_with fail
    refine (read_yes b off cap xs A S _ HV.out hcap (by omega) (by omega)).mono ?_
    rintro e w1 ⟨rfl, rfl⟩
    go_wp2_with fail
    refine (as_nil _ _).mono ?_
    rintro e w2 ⟨rfl, rfl⟩
    go_wp2
    refine bodyPost_ret (v := .tuple #[.int .i64 (numL ((xs.drop A).take S)), .bool true]) (by simp [results, Tryd.results15, go_sem]) rfl ?_
    exact ⟨rfl, below_alloc1 _ _⟩
  · have hok : tkOk xs A S = false := by simp only [tkOk, decide_eq_false_iff_not]; exact hk
    have hn : tkN xs A S = 0 := by simp [tkN, hok]
    rw [hok, hn]
    have HE := hid het
    clear hv het
    go_enter Tryd.func15, Tryd.ntmps15
    go_wp2_with fail
    refine (read_no _ _ _ _ _ _ h2 hk).mono ?_
    rintro e w1 ⟨⟨c, rfl⟩, rfl⟩
    go_wp2_with fail
    refine (as_hit ⟨w1.heap.size, 0, none⟩ c (.int .i64 0) _ (HE.out.keep (below_alloc1 w1 _) hp) (by simp) (by simp)).mono ?_
    rintro e w2 ⟨rfl, hw2⟩
    have B2 : Hid (Below w1.heap.size w1 w2) := by
      rw [hw2]; unfold asW
      exact hid ((((((below_alloc1 w1 _).alloc (by simp) _).alloc (by simp; omega) _).alloc (by simp; omega) _).alloc (by simp; omega) _).setCell (by simp) _)
    clear hw2
    go_wp2
    refine bodyPost_ret (v := .tuple #[.int .i64 0, .bool false]) (by simp [results, Tryd.results15, go_sem]) rfl ?_
    exact ⟨rfl, B2.out⟩

set_option maxHeartbeats 4000000 in
theorem specTake_any (a : Option Addr) (cap : Nat) (xs : List Int) (A S : Int) (w : World) (hv : Rd w (.slice a xs.length cap) xs) :
    Calls Tryd.prog 31 #[.slice a xs.length cap, .int .i64 A, .int .i64 S] w fun e w' => e = .returned (.tuple #[.int .i64 (tkN xs A S), .bool (tkOk xs A S)]) ∧ w' = w := by
  have h2 := hv.2.1
  by_cases hk : 1 ≤ S ∧ S ≤ 4 ∧ 0 ≤ A ∧ A ≤ (xs.length : Int) - S
  · have hok : tkOk xs A S = true := by simp [tkOk, hk]
    obtain ⟨A, rfl⟩ := Int.eq_ofNat_of_zero_le hk.2.2.1
    obtain ⟨S, rfl⟩ := Int.eq_ofNat_of_zero_le (show 0 ≤ S by omega)
    have hn : tkN xs A S = numL ((xs.drop A).take S) := by simp [tkN, hok]
    rw [hok, hn]
    have HV := hid hv
    have H1 := hid hv.1
    obtain ⟨b, off, rfl, hc⟩ : ∃ b off, a = some ⟨b, off, none⟩ ∧ ∀ i, i < xs.length → w.cell? ⟨b, off + i, none⟩ = some (.int .u8 (xs.getD i 0)) := by
      obtain ⟨_, _, a', cap', e, h3⟩ := hv
      simp at e
      obtain ⟨rfl, rfl⟩ := e
      rcases h3 with rfl | ⟨b, off, rfl, hc⟩
      · simp at hk; omega
      · exact ⟨b, off, rfl, hc⟩
    have HC := hid hc
    have i1 : inB (S : Int) 1 4 = true := inB_yes (by omega) (by omega)
    have g1 : ¬ ((A : Int) < 0) := by omega
    have g2 : ¬ ((xs.length : Int) - S < A) := by omega
    clear hv hc
    go_enter Tryd.func31, Tryd.ntmps31
    go_wp2_with fail
    refine (l1In_any _ _ _ _).mono ?_
    rintro e w1 ⟨rfl, rfl⟩
    rw [i1]
    go_wp2_with fail
    go_loop [8, 9] (fun n i => ∃ j : Nat, j ≤ S ∧ i = .int .i64 j ∧ n = .int .i64 (numL ((xs.drop A).take j))) (fun _ i => S - (intOf i).toNat)
    case atStart => exact ⟨0, by omega, rfl, by simp [numL]⟩
    case round =>
      obtain ⟨j, hj, rfl, rfl⟩ := hrel
      by_cases hlt : j < S
      · have hck := HC.out (A + j) (by omega)
        have hx := H1.out (xs.getD (A + j) 0) (by
          simp [List.getD_eq_getElem?_getD, List.getElem?_eq_getElem (show A + j < xs.length by omega)])
        have hN := numL_in3 ((xs.drop A).take j) (fun x hx => H1.out x (List.mem_of_mem_drop (List.mem_of_mem_take hx))) (by simp; omega)
        have HS := hid (congrArg numL (take_snoc (xs := xs) (A := A) (j := j) (by omega)))
        rw [numL_snoc] at HS
        obtain ⟨N, hNe⟩ := Int.eq_ofNat_of_zero_le hN.1
        obtain ⟨C, hCe⟩ := Int.eq_ofNat_of_zero_le hx.1
        rw [hNe] at hN HS ⊢
        rw [hCe] at hx HS hck
        clear hNe hCe
        go_wp2_with fail
        exact ⟨⟨j + 1, by omega, by go_num, by rw [HS.out]⟩, by simp [intOf]; omega⟩
      · obtain rfl : j = S := by omega
        go_wp2
        refine bodyPost_ret (v := .tuple #[.int .i64 (numL ((xs.drop A).take j)), .bool true]) (by simp [results, Tryd.results31, go_sem]) rfl ?_
        exact ⟨rfl, rfl⟩
  · have hok : tkOk xs A S = false := by simp only [tkOk, decide_eq_false_iff_not]; exact hk
    have hn : tkN xs A S = 0 := by simp [tkN, hok]
    rw [hok, hn]
    clear hv
    cases i1 : inB S 1 4
    · go_enter Tryd.func31, Tryd.ntmps31
      go_wp2_with fail
      refine (l1In_any _ _ _ _).mono ?_
      rintro e w1 ⟨rfl, rfl⟩
      rw [i1]
      go_wp2
      refine bodyPost_ret (v := .tuple #[.int .i64 0, .bool false]) (by simp [results, Tryd.results31, go_sem]) rfl ?_
      exact ⟨rfl, rfl⟩
    · have hS : 1 ≤ S ∧ S ≤ 4 := by simpa [inB] using i1
      by_cases g1 : A < 0
      · go_enter Tryd.func31, Tryd.ntmps31
        go_wp2_with fail
        refine (l1In_any _ _ _ _).mono ?_
        rintro e w1 ⟨rfl, rfl⟩
        rw [i1]
        go_wp2
        refine bodyPost_ret (v := .tuple #[.int .i64 0, .bool false]) (by simp [results, Tryd.results31, go_sem]) rfl ?_
        exact ⟨rfl, rfl⟩
      · have g2 : (xs.length : Int) - S < A := by omega
        have hw : IntKind.i64.wrap ((xs.length : Int) - S) = (xs.length : Int) - S := by rw [IntKind.wrap_i64]; omega
        go_enter Tryd.func31, Tryd.ntmps31
        go_wp2_with fail
        refine (l1In_any _ _ _ _).mono ?_
        rintro e w1 ⟨rfl, rfl⟩
        rw [i1]
        go_wp2
        refine bodyPost_ret (v := .tuple #[.int .i64 0, .bool false]) (by simp [results, Tryd.results31, go_sem]) rfl ?_
        exact ⟨rfl, rfl⟩
end Go.Proofs.YtpfelnkdimbhkaaDoor
