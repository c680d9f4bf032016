/- What is hidden is hidden again by the same key and number: it is the body; for whatever is drawn. No conditions. -/
import Derived.Test.YtbmjaiojeehifaaDrawRaw
import Derived.Test.YtbmjaiojeehifaaBytesMark2
namespace Go.Proofs.Ytbmjaiojeehifaa
open Go.ChangeShapes Go.WideShapes Go.ChangeAt Go.RowKit Go.Joins Go.Deep
set_option linter.unusedVariables false

theorem below_grown {a b : World} {n g : Nat} (h : a.grownBy b (some g)) (hg : n ≤ g) (hn : n ≤ a.heap.size) : Below n a b :=
  (Below.refl n a).grown h hn (fun k hk => by simp at hk; omega)

set_option maxHeartbeats 4000000 in
theorem drawShut_any (a : Option Addr) (len cap : Nat) (zs : List Int) (w : World) (hn : zs.length = len) (hv : Rd w (.slice a len cap) zs) (hcap : len ≤ cap) :
    Calls Try.prog 15 #[.slice a len cap] w fun e w' => ∃ (key seq : Int) (v u : Value) (hs xs : List Int), e = .returned (.tuple #[.int .i64 key, .int .i64 seq, v, u]) ∧ hs.length ≤ 65 ∧ xs.length ≤ 65 ∧ Own w' w.heap.size v hs ∧ Own w' w.heap.size u xs ∧ Below w.heap.size w w' := by
  have HV := hid hv
  clear hv
  go_enter Try.func15, Try.ntmps15
  go_wp2_with fail
  refine (open_any a len cap zs _ hn HV.out hcap).mono ?_
  rintro e w0 ⟨rfl, rd, bl, hz⟩
  have RD0 := hid rd
  have B0 := hid bl
  have z0 : w.heap.size < w0.heap.size := by omega
  clear rd bl HV hz
  go_wp2_with fail
  refine (drawKey_any _ _ _ 0 RD0.out (by omega)).mono ?_
  rintro e w1 ⟨key, rfl, hk, rd, gr⟩
  have RD1 := hid rd
  have B1 := hid (B0.out.trans (below_grown (n := w.heap.size) gr (by omega) (by omega)))
  have z1 : w.heap.size < w1.heap.size := Nat.lt_of_lt_of_le z0 gr.size
  clear rd gr RD0 B0
  go_wp2_with fail
  refine (drawSeq_any _ _ _ _ RD1.out (by omega)).mono ?_
  rintro e w2 ⟨seq, rfl, hq, rd, gr⟩
  have RD2 := hid rd
  have B2 := hid (B1.out.trans (below_grown (n := w.heap.size) gr (by omega) (by omega)))
  have z2 : w.heap.size < w2.heap.size := Nat.lt_of_lt_of_le z1 gr.size
  clear rd gr RD1 B1
  go_wp2_with fail
  refine (drawRaw_any _ _ _ _ RD2.out (by omega)).mono ?_
  rintro e w3 ⟨v, hs, rfl, hhs, o3, ⟨q3, hq3, rd⟩, gr⟩
  have RD3 := hid rd
  have B3 := hid (B2.out.trans (below_grown (n := w.heap.size) gr (by omega) (by omega)))
  have O3 := hid o3
  have z3 : w.heap.size < w3.heap.size := Nat.lt_of_lt_of_le z2 gr.size
  clear rd gr RD2 B2 o3
  go_wp2_with fail
  refine (drawRaw_any _ _ _ _ RD3.out (by omega)).mono ?_
  rintro e w4 ⟨u, xs, rfl, hxs, o4, ⟨q4, hq4, rd⟩, gr⟩
  have B4 := hid (B3.out.trans (below_grown (n := w.heap.size) gr (by omega) (by omega)))
  have O3 := hid ((O3.out.grown gr (fun k hk => by simp at hk; omega)).low (B' := w.heap.size) (by omega))
  have O4 := hid (o4.low (B' := w.heap.size) (by omega))
  clear rd gr RD3 B3 o4
  go_wp2
  refine bodyPost_ret (v := .tuple #[.int .i64 key, .int .i64 seq, v, u]) (by simp [results, Try.results15, go_sem]) rfl ?_
  exact ⟨key, seq, v, u, hs, xs, rfl, hhs, hxs, O3.out, O4.out, B4.out⟩

theorem rd_empty (w : World) (a : Option Addr) (cap : Nat) : Rd w (.slice a 0 cap) [] := ⟨by simp, by simp, a, cap, rfl, .inl rfl⟩
theorem own_cap {w : World} {B : Nat} {v : Value} {xs : List Int} (h : Own w B v xs) : ∃ a cap, v = .slice a xs.length cap ∧ xs.length ≤ cap := by
  obtain ⟨h1, h2, h3⟩ := h
  rcases h3 with ⟨hv, h0⟩ | ⟨g, cap, cur, hv, hg, hh, hnc, hm, hsz, hcur⟩
  · exact ⟨none, 0, by rw [hv, h0], by omega⟩
  · exact ⟨_, cap, hv, by omega⟩
theorem hid_twice (S : Nat) (xs : List Int) (h : ∀ x ∈ xs, 0 ≤ x ∧ x ≤ 255) : hidL S (hidL S xs) = xs := by
  apply List.ext_getElem
  · rw [hidL_len, hidL_len]
  · intro i h1 h2
    rw [hidL_len, hidL_len] at h1
    have hx := h xs[i] (List.getElem_mem h1)
    have e : (hidL S xs).getD i 0 = (((xs.getD i 0).toNat ^^^ (mixN S (200000 + i) % 256) : Nat) : Int) := by simp [hidL, h1]
    have e2 : xs.getD i 0 = xs[i] := by simp [List.getD_eq_getElem?_getD, List.getElem?_eq_getElem h1]
    have e3 : (hidL S (hidL S xs))[i] = ((((hidL S xs).getD i 0).toNat ^^^ (mixN S (200000 + i) % 256) : Nat) : Int) := by simp [hidL]
    rw [e3, e, Int.toNat_natCast, Nat.xor_assoc, Nat.xor_self, Nat.xor_zero, e2]
    omega
theorem shut_nil {key seq : Int} {hs xs : List Int} : shutL key seq hs xs = [] ↔ mayB key seq hs.length xs.length = false := by
  constructor
  · intro h
    cases hm : mayB key seq hs.length xs.length
    · rfl
    · rw [shutL_yes hm] at h
      have := congrArg List.length h
      rw [List.length_append, putB_tag_len] at this; simp at this
  · intro h; simp [shutL, h]
end Go.Proofs.Ytbmjaiojeehifaa
namespace Go.Proofs.Ytbmjaiojeehifaa.fnSealTwice
open Go.ChangeShapes Go.WideShapes Go.ChangeAt Go.RowKit Go.Joins Go.Deep
set_option linter.unusedVariables false

theorem cap_of {w : World} {a : Option Addr} {len cap : Nat} {zs : List Int} (h : IsRow .u8 w a len cap zs) : len ≤ cap := by
  rcases h with ⟨_, rfl, rfl, _⟩ | ⟨_, _, h1, _⟩
  · exact Nat.le_refl _
  · exact h1

set_option maxHeartbeats 8000000 in
theorem walk (a0 : Option Addr) (len0 cap0 : Nat) (z0 : List Int) (w : World) (k0 : IsRow .u8 w a0 len0 cap0 z0) :
    Calls Try.prog 3 #[.slice a0 len0 cap0] w fun e w' => e = .returned (.bool true) ∧ Below w.heap.size w w' := by
  have m0 := k0.max
  by_cases hl0 : len0 ≤ 1048576
  · have hl0' : (len0 : Int) ≤ 1048576 := by omega
    obtain ⟨zs, hx0, r0⟩ := k0.rd hl0
    have hcp := cap_of k0
    have R0 := hid r0
    clear k0 r0
    go_enter Try.func3, Try.ntmps3
    go_wp2_with fail
    refine (drawShut_any a0 len0 cap0 zs _ hx0 R0.out hcp).mono ?_
    rintro e w1 ⟨key, seq, v, u, hs, xs, rfl, hhs, hxs, ov, ou, b1⟩
    have RV := hid (ov.rd (by omega))
    have RU := hid (ou.rd (by omega))
    have HX := hid ou.1
    obtain ⟨au, cu, rfl, hcu⟩ : ∃ a cap, u = .slice a xs.length cap ∧ True := by
      obtain ⟨_, _, a, cap, h, _⟩ := RU.out
      exact ⟨a, cap, h, trivial⟩
    have B1 := hid b1
    clear ov ou b1 R0 hcu
    go_wp2_with fail
    refine (sealShut_any key seq _ _ hs xs _ RV.out RU.out).mono ?_
    rintro e w2 ⟨s2, rfl, o2, b2⟩
    have B2 := hid (B1.out.trans (b2.mono B1.out.size))
    have RV := hid (RV.out.keep b2)
    have RU := hid (RU.out.keep b2)
    have O2 := hid o2
    clear b2 o2 B1
    have HL := hid (shutL_len key seq hs xs)
    cases hm : mayB key seq hs.length xs.length
    · have hn : shutL key seq hs xs = [] := shut_nil.2 hm
      rw [hn] at O2
      have RS := hid (O2.out.rd (by simp))
      obtain ⟨a2, c2, rfl, _⟩ := own_form O2.out
      have HN := hid hn
      clear hn hm O2
      go_wp2_with fail
      refine (specShut_any key seq _ _ hs xs _ RV.out RU.out).mono ?_
      rintro e w3 ⟨s3, rfl, o3, b3⟩
      rw [HN.out] at o3
      have R3 := hid (o3.rd (by simp))
      have RS := hid (RS.out.keep b3)
      have B3 := hid (B2.out.trans (b3.mono B2.out.size))
      clear o3 b3 B2 RV RU
      go_wp2_with fail
      refine (caBytes_any _ _ [] [] _ RS.out R3.out).mono ?_
      rintro e w4 ⟨rfl, rfl⟩
      have h44 : (shutL 1 1 [] []).length = 4 := by
        rw [shutL_yes (by decide), List.length_append, putB_tag_len]; rfl
      have H44 := hid h44
      clear h44 RS R3 HN HL
      go_wp2_with fail
      refine (sealShut_any 1 1 _ _ [] [] _ (rd_empty _ _ _) (rd_empty _ _ _)).mono ?_
      rintro e w5 ⟨s5, rfl, o5, b5⟩
      obtain ⟨a5, c5, rfl, _⟩ := own_form o5
      rw [H44.out]
      have B5 := hid (((B3.out.alloc B3.out.size (.cells #[] 5)).alloc (by have := B3.out.size; simp; omega) (.cells #[] 5)).trans (b5.mono (by have := B3.out.size; simp; omega)))
      clear o5 b5 B3
      go_wp2
      go_ret
      exact ⟨rfl, B5.out⟩
    · have hm2 := mayB_iff.1 hm
      have hsh := shutL_yes hm
      have hlen : (shutL key seq hs xs).length = xs.length + 4 := by rw [hsh, List.length_append, hidL_len, putB_tag_len]
      obtain ⟨a2, c2, rfl, hc2⟩ := own_cap O2.out
      have RS : Hid (Rd w2 (.slice a2 xs.length c2) (hidL (strS key seq) xs)) := by
        have h := rd_take (n := xs.length) (O2.out.rd (by omega)) (by omega)
        have e : (shutL key seq hs xs).take xs.length = hidL (strS key seq) xs := by
          rw [hsh, List.take_append_of_le_length (by rw [hidL_len]; exact Nat.le_refl _), List.take_of_length_le (by rw [hidL_len]; exact Nat.le_refl _)]
        rw [e] at h; exact h
      have hm3 : mayB key seq ([] : List Int).length (hidL (strS key seq) xs).length = true := by rw [hidL_len, mayB_iff]; exact ⟨hm2.1, hm2.2.1, by simp, hm2.2.2.2⟩
      have hsh3 := shutL_yes hm3
      rw [hid_twice _ _ HX.out] at hsh3
      have hlen3 : (shutL key seq [] (hidL (strS key seq) xs)).length = xs.length + 4 := by rw [hsh3, List.length_append, putB_tag_len]
      have htk : (shutL key seq [] (hidL (strS key seq) xs)).take xs.length = xs := by
        rw [hsh3, List.take_append_of_le_length (Nat.le_refl _), List.take_of_length_le (Nat.le_refl _)]
      have H3 := hid (And.intro hlen3 htk)
      rw [hlen] at hc2 ⊢
      clear hsh hm hm2 hm3 hsh3 hlen hlen3 htk O2 HX RV HL
      go_wp2_with fail
      refine (sealShut_any key seq _ _ [] (hidL (strS key seq) xs) _ (rd_empty _ _ _) (RS.out.keep (below_alloc1 _ _))).mono ?_
      rintro e w3 ⟨s3, rfl, o3, b3⟩
      obtain ⟨a3, c3, rfl, hc3⟩ := own_cap o3
      have R3 : Hid (Rd w3 (.slice a3 xs.length c3) xs) := by
        have h := rd_take (n := xs.length) (o3.rd (by rw [H3.out.1]; omega)) (by rw [H3.out.1]; omega)
        rw [H3.out.2] at h; exact h
      rw [H3.out.1] at hc3 ⊢
      have RU := hid ((RU.out.keep (below_alloc1 _ _)).keep b3)
      have B3 := hid ((B2.out.alloc B2.out.size (.cells #[] 5)).trans (b3.mono (by have := B2.out.size; simp; omega)))
      clear o3 b3 B2 RS H3
      go_wp2_with fail
      refine (caBytes_any _ _ xs xs _ R3.out RU.out).mono ?_
      rintro e w4 ⟨rfl, rfl⟩
      go_wp2
      go_ret
      exact ⟨rfl, B3.out⟩
  · have hl' : (1048576 : Int) < (len0 : Int) := by omega
    clear k0
    go_enter Try.func3, Try.ntmps3
    go_wp2
    go_ret
    exact ⟨rfl, Below.refl _ _⟩
theorem own : ownKnob Try.prog.godebug = none := by kernel_rfl
theorem laidOut : laidOutB Try.prog = true := by kernel_rfl
set_option maxRecDepth 100000 in
theorem lifted (os : Os) (started : os.Started) (H : Type) (enc : TypeId × Value → H) :
    ReturnsInHanded {} Try.checked os 3 .any (Rows.fnSealTwiceSpec.pre6 enc Try.prog Try.f3 Rows.fnSealTwiceRow.domain false) (Rows.fnSealTwiceSpec.post enc Try.prog Try.f3 false true false false) := by
  refine returnsInHanded_of_change (C := Try.checked) own started (by kernel_rfl) Try.func3
    (ChangeSpec.witness6 (enc := enc) (C := Try.checked) false ⟨#[], #[.slice none 0 0], []⟩ 8 (by kernel_rfl) (by kernel_rfl) (by kernel_rfl) (by kernel_rfl)) ?_
  intro W base args ds gs before hval0 hW hcnd _
  have hval : ∀ (j : Nat) t v, Try.f3.params[j]? = some t → args[j]? = some v → Value.okWide Try.prog W .any base t v := hval0
  have hW' := hW
  obtain ⟨p, q, hA0, hV, rfl, hfz, hnd⟩ := hW
  have hA : DataW.TrodAll enc Try.prog W 0 (fun _ => true) true Try.f3.params.toList args.toList ds p := hA0
  rw [Try.params3] at hA hval
  obtain ⟨v0, vs0, d0, ds0, p0, q0, hargs, rfl, rfl, h0, r0⟩ := trodAll_cons hA
  obtain ⟨rfl, rfl, rfl⟩ := trodAll_nil r0
  obtain rfl : args = #[v0] := by cases args; simp_all
  obtain ⟨rfl, rfl⟩ := trodVars_none hV
  obtain ⟨a0, len0, cap0, rfl⟩ := okWide_slice Try.underlying22 (hval 0 22 v0 rfl rfl)
  have k0 := h0
  have lt0 : ∀ x ∈ p0, x.block < W.heap.size := by obtain ⟨m, hm⟩ := k0; exact DataW.trod_lt m _ _ _ hm
  obtain ⟨z0, w0⟩ : ∃ zs, IsRow .u8 W a0 len0 cap0 zs := by
    obtain ⟨fuel, hf⟩ := h0
    rcases open_ints Try.underlying22 Try.underlying5 (by kernel_rfl) hf with ⟨hcs, _⟩ | ⟨x, l, c, zs, hcs, _, hl, hm, hz, _, hcell, hwz⟩
    · simp [Value.cells] at hcs
      obtain ⟨rfl, rfl, rfl⟩ := hcs
      exact ⟨[], .inl ⟨rfl, rfl, rfl, rfl⟩⟩
    · simp [Value.cells] at hcs
      obtain ⟨rfl, rfl, rfl⟩ := hcs
      exact ⟨zs, .inr ⟨_, rfl, hl, hm, by simpa using hz, hcell, hwz⟩⟩
  clear hA0 hval0
  refine (walk a0 len0 cap0 z0 W w0).mono fun e W' ⟨he, bel⟩ => ?_
  subst he
  exact ⟨_, rfl, _, _, _, [], _, [], hW', trodAll_mk1 (shut_bool Try.underlying4 _), (trodAll_cons_mk (Below.trod laidOut (by kernel_rfl) (of_decide_eq_true (by kernel_rfl)) k0 bel lt0) trodAll_mk0), rfl, bel.frame _, fun h => by cases h⟩

theorem over : Rows.fnSealTwiceRow.holds Try.pinned (OpenSpec.ofChange Rows.fnSealTwiceSpec) :=
  OpenClaim.holds_of_wide 3 Try.f3 rfl rfl rfl rfl rfl rfl rfl ⟨rfl, rfl, rfl, rfl, rfl⟩ rfl rfl rfl rfl rfl (by kernel_rfl) Try.func3 (by kernel_rfl)
    (of_decide_eq_true (by kernel_rfl)) (by unfold Func.isWrapper; first | (rw [if_pos (by decide +kernel)]; kernel_rfl) | (rw [if_neg (by decide +kernel)]; exact ⟨rfl, rfl⟩))
    (fun os started H enc _ => lifted os started H enc)

end Go.Proofs.Ytbmjaiojeehifaa.fnSealTwice
namespace Go.Proofs.Ytbmjaiojeehifaa
theorem fnSealTwice_holds : Rows.FnSealTwiceSaid := fnSealTwice.over
#print axioms fnSealTwice_holds
end Go.Proofs.Ytbmjaiojeehifaa
