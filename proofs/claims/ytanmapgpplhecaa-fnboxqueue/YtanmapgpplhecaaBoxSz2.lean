/- The laws' szBoxBox with the whole size; markBoxBox and heldBoxBox of a box's items of one's own. Conditions: the lists are one's own, and few. -/
import Derived.Test.YtanmapgpplhecaaBoxPutC
import Derived.Test.YtanmapgpplhecaaBoxNew
namespace Go.Proofs.Ytanmapgpplhecaa
open Go.ChangeShapes Go.WideShapes Go.ChangeAt Go.RowKit Go.Joins Go.Deep
set_option linter.unusedVariables false
set_option linter.unusedSimpArgs false
set_option maxRecDepth 4000
def offL (L : Nat → Nat) : Nat → Nat
  | 0 => 0
  | i + 1 => offL L i + L i
theorem offL_at (L : Nat → Nat) : ∀ {n i : Nat}, i < n → L i ≤ offL L n
  | 0, i, h => by omega
  | n + 1, i, h => by
    by_cases e : i = n
    · subst e; simp [offL]
    · have := offL_at L (n := n) (i := i) (by omega)
      simp [offL]; omega
theorem offs_L (yss : List (List Int)) (L : Nat → Nat) : ∀ n, (∀ i, i < n → (yss.getD i []).length = L i) → offs yss n = offL L n
  | 0, _ => rfl
  | n + 1, h => by
    have := offs_L yss L n (fun i hi => h i (by omega))
    simp only [offs, offL, this, h n (by omega)]
theorem lens_L {w : World} {a : Option Addr} {len cap : Nat} {A : Nat → Option Addr} {L C : Nat → Nat} {yss : List (List Int)} (hr : RdS w (.slice a len cap) yss) (hl : yss.length = len)
    (h2 : len = 0 ∨ ∃ b off, a = some ⟨b, off, none⟩ ∧ ∀ i, i < len → w.cell? ⟨b, off + i, none⟩ = some (.slice (A i) (L i) (C i))) : ∀ i, i < len → (yss.getD i []).length = L i := by
  intro i hi
  rcases h2 with h2 | ⟨b, off, rfl, hc⟩
  · omega
  obtain ⟨_, a', c', hv, h3⟩ := hr
  simp only [Value.slice.injEq] at hv
  obtain ⟨rfl, _, rfl⟩ := hv
  rcases h3 with rfl | ⟨b', off', hb, hc'⟩
  · simp at hl; omega
  simp only [Option.some.injEq, Addr.mk.injEq, and_true] at hb
  obtain ⟨rfl, rfl⟩ := hb
  obtain ⟨u, hu, _, _, a2, c2, hv, _⟩ := hc' i (by omega)
  rw [hc i hi] at hu
  simp only [Option.some.injEq] at hu
  rw [hv] at hu
  simpa using (Value.slice.inj hu).2.1.symm
set_option maxHeartbeats 2000000 in
theorem szSS2_any (a : Option Addr) (len cap : Nat) (A : Nat → Option Addr) (L C : Nat → Nat) (w : World) (hm : (len : Int) ≤ 9223372036854775807) (hLm : ∀ i, i < len → L i ≤ 9223372036854775807)
    (h2 : len = 0 ∨ ∃ b off, a = some ⟨b, off, none⟩ ∧ ∀ i, i < len → w.cell? ⟨b, off + i, none⟩ = some (.slice (A i) (L i) (C i))) :
    Calls Try.prog 77 #[.slice a len cap, .int .i64 1048576] w fun e w' => (∃ r : Int, e = .returned (.int .i64 r) ∧ (r = -1 ∨ (0 ≤ r ∧ len + offL L len ≤ 1048576))) ∧ w' = w := by
  by_cases h0 : (1048576 : Int) - len < 0
  · have d0 : decide ((1048576 : Int) - (len : Int) < 0) = true := by simpa using h0
    clear h2
    go_enter Try.func77, Try.ntmps77
    go_wp2
    go_ret
    exact ⟨⟨-1, rfl, .inl rfl⟩, rfl⟩
  · have d0 : decide ((1048576 : Int) - (len : Int) < 0) = false := by simpa using h0
    have hlen : len ≤ 1048576 := by omega
    clear h0
    go_enter Try.func77, Try.ntmps77
    go_wp2_with fail
    go_loop [1, 5] (fun t i => ∃ (k : Nat) (l : Int), k ≤ len ∧ i = .int .i64 k ∧ t = .int .i64 l ∧ 0 ≤ l ∧ l = 1048576 - len - offL L k) (fun _ i => len - (intOf i).toNat)
    case atStart => exact ⟨0, 1048576 - len, Nat.zero_le _, rfl, rfl, by omega, by simp [offL]⟩
    case round =>
      obtain ⟨k, l, hk, rfl, rfl, l0, hl⟩ := hrel
      have l1 : l ≤ 1048576 := by omega
      have HL := hid hl
      clear hl
      by_cases hlt : k < len
      · rcases h2 with h2 | ⟨b, off, rfl, hc⟩
        · omega
        have hcx := hc k hlt
        have HLK := hid (hLm k hlt)
        have HLe := hid (show offL L (k + 1) = offL L k + L k from rfl)
        generalize L k = N at hcx HLK HLe
        clear hc
        by_cases hs : l - (N : Int) < 0
        · have HS := hid (show (if l - (N : Int) < 0 then -1 else l - (N : Int)) = -1 by rw [if_pos hs])
          clear hs
          go_wp2_with fail
          refine (szBytes_any _ N _ l _ HLK.out l0 l1).mono ?_
          rw [HS.out]
          rintro e w1 ⟨rfl, rfl⟩
          go_wp2
          go_ret
          exact ⟨⟨-1, rfl, .inl rfl⟩, rfl⟩
        · have HS := hid (show (if l - (N : Int) < 0 then -1 else l - (N : Int)) = l - N by rw [if_neg hs])
          have d1 : decide (l - (N : Int) < 0) = false := by simpa using hs
          have hN : 0 ≤ l - (N : Int) := by omega
          clear hs
          go_wp2_with fail
          refine (szBytes_any _ N _ l _ HLK.out l0 l1).mono ?_
          rw [HS.out]
          rintro e w1 ⟨rfl, rfl⟩
          go_wp2
          go_round
          case rel => exact ⟨k + 1, l - N, by omega, by go_num, rfl, by omega, by have := HL.out; have := HLe.out; omega⟩
          case measure => simp [intOf]; omega
      · obtain rfl : k = len := by omega
        clear h2
        go_wp2
        go_ret
        exact ⟨⟨l, rfl, .inr ⟨l0, by have := HL.out; omega⟩⟩, rfl⟩
set_option maxHeartbeats 2000000 in
theorem szBox2_any (d : Int) (a : Option Addr) (n cap : Nat) (A : Nat → Option Addr) (L C : Nat → Nat) (w : World) (hm : (n : Int) ≤ 9223372036854775807) (hLm : ∀ i, i < n → L i ≤ 9223372036854775807)
    (h2 : n = 0 ∨ ∃ b off, a = some ⟨b, off, none⟩ ∧ ∀ i, i < n → w.cell? ⟨b, off + i, none⟩ = some (.slice (A i) (L i) (C i))) :
    Calls Try.prog 40 #[.agg #[.int .i64 d, .slice a n cap], .int .i64 1048576] w fun e w' => (∃ r : Int, e = .returned (.int .i64 r) ∧ (r = -1 ∨ (0 ≤ r ∧ n + offL L n ≤ 1048576))) ∧ Below w.heap.size w w' := by
  have H2 : Hid (n = 0 ∨ ∃ b off, a = some ⟨b, off, none⟩ ∧ ∀ i, i < n → (w.alloc (.cells #[.int .i64 d, .slice a n cap] 51)).cell? ⟨b, off + i, none⟩ = some (.slice (A i) (L i) (C i))) := hid (by
    rcases h2 with h2 | ⟨b, off, ha, hc⟩
    · exact .inl h2
    · exact .inr ⟨b, off, ha, fun i hi => cell_keep (below_alloc1 w _) (hc i hi)⟩)
  have HLM := hid hLm
  clear h2 hLm
  go_enter Try.func40, Try.ntmps40
  go_wp2_with fail
  refine (szSS2_any a n cap A L C _ hm HLM.out H2.out).mono ?_
  rintro e w1 ⟨⟨r, rfl, hr⟩, rfl⟩
  have HR := hid hr
  rcases hr with rfl | ⟨r0, hr1⟩
  · clear H2
    go_wp2
    go_ret
    exact ⟨⟨-1, rfl, .inl rfl⟩, below_alloc1 _ _⟩
  · have d1 : decide (r < 0) = false := by simp; omega
    clear H2 hr1
    go_wp2
    go_ret
    exact ⟨⟨r, rfl, HR.out⟩, below_alloc1 _ _⟩
/-- the boxes' items: blocks from B on -/
theorem OwnU.off {w w' : World} {B g : Nat} {f : Nat → Value} {yss : List (List Int)} {S : Nat → Prop} (h : OwnU w B g f yss) (hc : Chg S w w') (hs : ∀ j, S j → j < B) : OwnU w' B g f yss :=
  ⟨h.1, h.2.1.of_block (hc.block g h.2.1.lt (fun e => by have := hs g e; have := h.1; omega)), fun i hi => OwnR.chg (h.2.2.1 i hi) hc (fun j hj e => by have := hs j e; have := ((h.2.2.1 i hi).blk j hj).1; omega), h.2.2.2⟩
theorem OwnA.off {w w' : World} {B : Nat} {u : Value} {f : Nat → Value} {yss : List (List Int)} {S : Nat → Prop} (h : OwnA w B u f yss) (hc : Chg S w w') (hs : ∀ j, S j → j < B) : OwnA w' B u f yss := by
  rcases h with h | ⟨g, hu, h⟩
  · exact .inl h
  · exact .inr ⟨g, hu, h.off hc hs⟩
set_option maxHeartbeats 2000000 in
theorem markA_any (d k : Int) (B : Nat) (u : Value) (f : Nat → Value) (yss : List (List Int)) (w : World) (h : OwnA w B u f yss) (hn : yss.length ≤ 2000000) (hy : ∀ i, i < yss.length → (yss.getD i []).length ≤ 2000000) (k0 : 0 ≤ k) (k1 : k + offs yss yss.length ≤ 2000000000) :
    Calls Try.prog 38 #[.agg #[.int .i64 d, u], .int .i64 k] w fun e w' => e = .returned (.int .i64 (k + offs yss yss.length)) ∧ OwnA w' B u f (stS k yss yss.length) ∧ Chg (fun j => ∃ i, i < yss.length ∧ (f i).ownBlock = some j) w w' := by
  rcases h with ⟨rfl, rfl⟩ | ⟨g, rfl, h⟩
  · refine (markBox_nil d k w).mono ?_
    rintro e w1 ⟨rfl, b1⟩
    exact ⟨by simp [offs], .inl ⟨rfl, by simp [stS]⟩, Chg.of_below b1⟩
  have HU := hid (h.keep (below_alloc1 w (.cells #[.int .i64 d, .slice (some ⟨g, 0, none⟩) yss.length yss.length] 25)))
  have C := hid (Chg.of_below (S := fun j => ∃ i, i < yss.length ∧ (f i).ownBlock = some j) (below_alloc1 w (.cells #[.int .i64 d, .slice (some ⟨g, 0, none⟩) yss.length yss.length] 25)))
  have VA := hid (vb_new w [.int .i64 d, .slice (some ⟨g, 0, none⟩) yss.length yss.length] 25)
  clear h
  go_enter Try.func38, Try.ntmps38
  go_wp2_with fail
  refine (markSS_any B g _ f yss k _ HU.out hn hy k0 k1).mono ?_
  rintro e w1 ⟨rfl, o1, c1⟩
  have O1 := hid o1
  have C1 := hid (C.out.trans c1)
  clear o1 c1
  go_wp2
  go_ret
  exact ⟨rfl, .inr ⟨g, by rw [stS_len], O1.out⟩, C1.out⟩
set_option maxHeartbeats 2000000 in
theorem heldA_any (d k : Int) (B : Nat) (u : Value) (f : Nat → Value) (yss : List (List Int)) (w : World) (h : OwnA w B u f (stS k yss yss.length)) (hn : yss.length ≤ 2000000) (hy : ∀ i, i < yss.length → (yss.getD i []).length ≤ 2000000) (k0 : 0 ≤ k) (k1 : k + offs yss yss.length ≤ 2000000000) :
    Calls Try.prog 39 #[.agg #[.int .i64 d, u], .int .i64 k] w fun e w' => e = .returned (.int .i64 (k + offs yss yss.length)) ∧ Below w.heap.size w w' := by
  rcases h with ⟨rfl, hnil⟩ | ⟨g, rfl, h⟩
  · have hz : yss = [] := by
      have := stS_len k yss yss.length
      rw [hnil] at this
      exact List.length_eq_zero_iff.1 (by simpa using this.symm)
    subst hz
    refine (heldBox_nil d k w k0).mono ?_
    rintro e w1 ⟨rfl, b1⟩
    exact ⟨by simp [offs], b1⟩
  have HU := hid (h.keep (below_alloc1 w (.cells #[.int .i64 d, .slice (some ⟨g, 0, none⟩) yss.length yss.length] 25)))
  rw [stS_len]
  have VA := hid (vb_new w [.int .i64 d, .slice (some ⟨g, 0, none⟩) yss.length yss.length] 25)
  obtain ⟨O, hO⟩ : ∃ O : Nat, offs yss yss.length = O := ⟨_, rfl⟩
  have HO := hid hO
  rw [hO] at k1 ⊢
  have d1 : decide (k + (O : Int) < 0) = false := by simp; omega
  clear h hO
  go_enter Try.func39, Try.ntmps39
  go_wp2_with fail
  refine (heldSS_any B g _ f yss k _ HU.out hn hy k0 (by rw [HO.out]; exact k1)).mono ?_
  rw [HO.out]
  rintro e w1 ⟨rfl, rfl⟩
  go_wp2
  go_ret
  exact ⟨rfl, below_alloc1 _ _⟩
theorem OwnT.a {w : World} {g B : Nat} {f : Nat → Value} {yss : List (List Int)} (h : OwnT w g f yss) (hB : B ≤ g) : OwnA w B (.slice (some ⟨g, 0, none⟩) yss.length yss.length) f yss := .inr ⟨g, rfl, h.u.low hB⟩
theorem OwnA.bd {w : World} {B : Nat} {u : Value} {f : Nat → Value} {yss : List (List Int)} (h : OwnA w B u f yss) : ∀ i, i < yss.length → ∀ j, (f i).ownBlock = some j → B ≤ j ∧ j < w.heap.size := by
  rcases h with ⟨_, rfl⟩ | ⟨g, _, h⟩
  · intro i hi; simp at hi
  · intro i hi j hj; exact (h.2.2.1 i hi).blk j hj
theorem OwnA.chg2 {w w' : World} {B : Nat} {u : Value} {f : Nat → Value} {yss : List (List Int)} {S : Nat → Prop} (h : OwnA w B u f yss) (hc : Chg S w w') (h1 : ∀ j, u.ownBlock = some j → ¬ S j) (h2 : ∀ i, i < yss.length → ∀ j, (f i).ownBlock = some j → ¬ S j) : OwnA w' B u f yss := by
  rcases h with h | ⟨g, rfl, h⟩
  · exact .inl h
  · exact .inr ⟨g, rfl, h.1, h.2.1.of_block (hc.block g h.2.1.lt (h1 g rfl)), fun i hi => OwnR.chg (h.2.2.1 i hi) hc (h2 i hi), h.2.2.2⟩
theorem OwnA.hi {w : World} {B : Nat} {u : Value} {f : Nat → Value} {yss : List (List Int)} (h : OwnA w B u f yss) : ∀ i, i < yss.length → ∀ j, (f i).ownBlock = some j → j < w.heap.size := by
  rcases h with ⟨_, rfl⟩ | ⟨g, _, h⟩
  · intro i hi; simp at hi
  · intro i hi j hj; exact ((h.2.2.1 i hi).blk j hj).2
theorem stS_len8 {k : Int} {yss : List (List Int)} {n : Nat} (hy : ∀ i, i < yss.length → (yss.getD i []).length ≤ n) : ∀ i, i < (stS k yss yss.length).length → ((stS k yss yss.length).getD i []).length ≤ n := by
  intro i hi
  rw [stS_len] at hi
  rw [stS_at k yss _ i hi, if_pos hi, marks_len]
  exact hy i hi
end Go.Proofs.Ytanmapgpplhecaa
