/- Machines: the contracts of slices.Clone over ints, of the noughts that the specification lays, and of the laws' eqVmState, markVmState and heldVmState. Conditions: the lists read as ints, or are one's own, two rows in two blocks. -/
import Derived.Test.YtbpomeegpkdekaaNoughts
import Derived.Test.YtbpomeegpkdekaaIntS
import Derived.Test.YtbpomeegpkdekaaChg
import Derived.Test.YtbpomeegpkdekaaInBase
import Derived.Deep.AppendLies
import Derived.Maps.AppendAt
import Derived.Deep.RegionLaw
import Derived.Deep.DeepMust
import Derived.Laws.IdiomStrings
import Derived.Lib.LazyBuf
namespace Go.Proofs.Ytbpomeegpkdekaa
open Go.ChangeShapes Go.WideShapes Go.ChangeAt Go.RowKit Go.Joins Go.Deep
set_option linter.unusedVariables false
set_option maxRecDepth 4000

set_option maxHeartbeats 2000000 in
theorem cloneI_any (n b off cap : Nat) (xs : List Int) (w : World) (hp : 0 < n) (hv : RdI 1 w (.slice (some ⟨b, off, none⟩) n cap) n xs) :
    Calls Try.prog 104 #[.slice (some ⟨b, off, none⟩) n cap] w fun e w' => ∃ u, e = .returned u ∧ OwnI 3 1 w' w.heap.size u n xs ∧ Below w.heap.size w w' := by
  obtain ⟨ti, hti, htz, hts, htb⟩ := infoI'
  obtain ⟨h1, h2, a, cap', hva, h3⟩ := hv
  simp only [Value.slice.injEq, true_and] at hva
  obtain ⟨rfl, rfl⟩ := hva
  rw [Nat.mul_one] at h1
  rcases h3 with h | ⟨b', off', hb', hc⟩
  · omega
  simp only [Option.some.injEq, Addr.mk.injEq, and_true] at hb'
  obtain ⟨rfl, rfl⟩ := hb'
  subst h1
  have HC := hid (news_rdI (fun i hi => cell_keep (below_alloc1 w (.cells #[] 3)) (hc i hi)))
  have hq := Go.run_eql_slice_nil (P := Try.prog) w 23 3 (some ⟨b, off, none⟩) xs.length cap Try.underlying23
  clear hc
  go_enter Try.func104, Try.ntmps104
  go_wp2_with (at_builtin; go_must (refine wpList_append_lies _ (by rfl) _ _ 23 (by rfl) w.heap.size 3 ti (.int .i64 0) 1 8 Try.underlying23 hti htz hts htb rfl (by omega) _ 0 [] (by rfl) (ownI_none (k := 1) w) ⟨b, off, none⟩ xs.length cap (xs.map (Value.int .i64)) (by rfl) (by simp) HC.out (by intro y hy; simp at hy; obtain ⟨z, _, rfl⟩ := hy; rfl) hp (by unfold maxLen; omega) (by omega) (by simp) (w.heap.size + 1) (by simp) ?_))
  intro g cap2 w3 ho2 hg2 hat hlt2
  have BS := hid ((below_alloc1 w (.cells #[] 3)).grown hg2 (by simp) (by intro k hk; exact ((ownI_none (e := 3) (k := 1) w).lt k hk).1))
  have OS := hid (show OwnI 3 1 w3 w.heap.size (.slice (some ⟨g, 0, none⟩) (0 + xs.length) cap2) (0 + xs.length) xs from by simpa [OwnI] using ho2)
  clear ho2 hg2
  go_wp2
  go_ret
  exact ⟨_, rfl, by simpa using OS.out, BS.out⟩

set_option maxHeartbeats 1000000 in
theorem eqVm_same (pc ht : Int) (r m r' m' : Value) (nr nm : Nat) (xs ys : List Int) (w : World) (hr : RdI 1 w r nr xs) (hm : RdI 1 w m nm ys) (hr' : RdI 1 w r' nr xs) (hm' : RdI 1 w m' nm ys) :
    Calls Try.prog 31 #[.agg #[.int .i64 pc, r, m, .int .i64 ht], .agg #[.int .i64 pc, r', m', .int .i64 ht]] w fun e w' => e = .returned (.bool true) ∧ Below w.heap.size w w' := by
  have R := hid hr
  have M := hid hm
  have R' := hid hr'
  have M' := hid hm'
  obtain ⟨_, _, a1, c1, rfl, _⟩ := hr
  obtain ⟨_, _, a2, c2, rfl, _⟩ := hm
  obtain ⟨_, _, a3, c3, rfl, _⟩ := hr'
  obtain ⟨_, _, a4, c4, rfl, _⟩ := hm'
  have P := hid (((Below.refl w.heap.size w).alloc (Nat.le_refl _) (.cells #[.int .i64 pc, .slice a1 nr c1, .slice a2 nm c2, .int .i64 ht] 25)).alloc (by simp) (.cells #[.int .i64 pc, .slice a3 nr c3, .slice a4 nm c4, .int .i64 ht] 25))
  have q12 : ((w.alloc (.cells #[.int .i64 pc, .slice a1 nr c1, .slice a2 nm c2, .int .i64 ht] 25)).alloc (.cells #[.int .i64 pc, .slice a3 nr c3, .slice a4 nm c4, .int .i64 ht] 25)).cell? ⟨w.heap.size, 2, none⟩ = some (.slice a2 nm c2) := by go_simp
  have q13 : ((w.alloc (.cells #[.int .i64 pc, .slice a1 nr c1, .slice a2 nm c2, .int .i64 ht] 25)).alloc (.cells #[.int .i64 pc, .slice a3 nr c3, .slice a4 nm c4, .int .i64 ht] 25)).cell? ⟨w.heap.size, 3, none⟩ = some (.int .i64 ht) := by go_simp
  have q22 : ((w.alloc (.cells #[.int .i64 pc, .slice a1 nr c1, .slice a2 nm c2, .int .i64 ht] 25)).alloc (.cells #[.int .i64 pc, .slice a3 nr c3, .slice a4 nm c4, .int .i64 ht] 25)).cell? ⟨w.heap.size + 1, 2, none⟩ = some (.slice a4 nm c4) := by go_simp
  have q23 : ((w.alloc (.cells #[.int .i64 pc, .slice a1 nr c1, .slice a2 nm c2, .int .i64 ht] 25)).alloc (.cells #[.int .i64 pc, .slice a3 nr c3, .slice a4 nm c4, .int .i64 ht] 25)).cell? ⟨w.heap.size + 1, 3, none⟩ = some (.int .i64 ht) := by go_simp
  go_enter Try.func31, Try.ntmps31
  go_wp2_with fail
  refine (eqInts_same _ _ nr xs _ (R.out.keep P.out) (R'.out.keep P.out)).mono ?_
  rintro e w1 ⟨rfl, b1⟩
  have q12 := cell_keep b1 q12
  have q13 := cell_keep b1 q13
  have q22 := cell_keep b1 q22
  have q23 := cell_keep b1 q23
  have P1 := hid (P.out.trans (b1.mono P.out.size))
  clear b1
  go_wp2_with fail
  refine (eqInts_same _ _ nm ys _ (M.out.keep P1.out) (M'.out.keep P1.out)).mono ?_
  rintro e w2 ⟨rfl, b2⟩
  have q13 := cell_keep b2 q13
  have q23 := cell_keep b2 q23
  have P2 := hid (P1.out.trans (b2.mono P1.out.size))
  clear b2 q12 q22
  go_wp2
  go_ret
  exact ⟨rfl, P2.out⟩

set_option maxHeartbeats 1000000 in
theorem markVm_any (pc ht k : Int) (r m : Value) (nr nm : Nat) (xs ys : List Int) (B : Nat) (w : World) (hr : OwnI 3 1 w B r nr xs) (hm : OwnI 3 1 w B m nm ys) (hd : ∀ j, r.ownBlock = some j → m.ownBlock ≠ some j)
    (n1 : nr ≤ 2000000) (n2 : nm ≤ 2000000) (k0 : 0 ≤ k) (k1 : k ≤ 1000000000) :
    Calls Try.prog 32 #[.agg #[.int .i64 pc, r, m, .int .i64 ht], .int .i64 k] w fun e w' => e = .returned (.int .i64 (k + nr + nm)) ∧ OwnI 3 1 w' B r nr (marksI k nr) ∧ OwnI 3 1 w' B m nm (marksI (k + nr) nm) ∧ Chg (fun j => r.ownBlock = some j ∨ m.ownBlock = some j) w w' := by
  have R := hid (hr.keep (below_alloc1 w (.cells #[.int .i64 pc, r, m, .int .i64 ht] 25)))
  have M := hid (hm.keep (below_alloc1 w (.cells #[.int .i64 pc, r, m, .int .i64 ht] 25)))
  have C := hid (Chg.of_below (S := fun j => r.ownBlock = some j ∨ m.ownBlock = some j) (below_alloc1 w (.cells #[.int .i64 pc, r, m, .int .i64 ht] 25)))
  have KR := hid (fun j hj => (hr.blk j hj).2)
  have HD := hid hd
  obtain ⟨a1, c1, rfl, _⟩ := ownI_form hr
  obtain ⟨a2, c2, rfl, _⟩ := ownI_form hm
  have q2 : (w.alloc (.cells #[.int .i64 pc, .slice a1 nr c1, .slice a2 nm c2, .int .i64 ht] 25)).cell? ⟨w.heap.size, 2, none⟩ = some (.slice a2 nm c2) := by go_simp
  clear hr hm hd
  go_enter Try.func32, Try.ntmps32
  go_wp2_with fail
  refine (markInts_any _ nr xs k B _ R.out n1 k0 (by omega)).mono ?_
  rintro e w1 ⟨rfl, o1, g1, z1⟩
  have q2 := g1.cell q2 (fun e => by have := KR.out _ e.symm; simp at this)
  have R1 := hid o1
  have M1 := hid (M.out.grown g1 (fun j hj => HD.out j hj))
  have C1 := hid (C.out.trans (Chg.of_grown g1 (fun j hj => .inl hj)))
  clear o1 g1 z1 R M C
  go_wp2_with fail
  refine (markInts_any _ nm ys (k + nr) B _ M1.out n2 (by omega) (by omega)).mono ?_
  rintro e w2 ⟨rfl, o2, g2, z2⟩
  have R2 := hid (R1.out.grown g2 (fun j hj hj' => HD.out j hj' hj))
  have M2 := hid o2
  have C2 := hid (C1.out.trans (Chg.of_grown g2 (fun j hj => .inr hj)))
  clear o2 g2 z2
  go_wp2
  go_ret
  exact ⟨rfl, R2.out, M2.out, C2.out⟩

set_option maxHeartbeats 1000000 in
theorem heldVm_any (pc ht k : Int) (r m : Value) (nr nm : Nat) (w : World) (hr : RdI 1 w r nr (marksI k nr)) (hm : RdI 1 w m nm (marksI (k + nr) nm)) (k0 : 0 ≤ k) (k1 : k ≤ 1000000000) :
    Calls Try.prog 33 #[.agg #[.int .i64 pc, r, m, .int .i64 ht], .int .i64 k] w fun e w' => e = .returned (.int .i64 (k + nr + nm)) ∧ Below w.heap.size w w' := by
  have R := hid (hr.keep (below_alloc1 w (.cells #[.int .i64 pc, r, m, .int .i64 ht] 25)))
  have M := hid (hm.keep (below_alloc1 w (.cells #[.int .i64 pc, r, m, .int .i64 ht] 25)))
  obtain ⟨_, n1, a1, c1, rfl, _⟩ := hr
  obtain ⟨_, n2, a2, c2, rfl, _⟩ := hm
  have d1 : decide (k + (nr : Int) < 0) = false := by simp; omega
  have d2 : decide (k + (nr : Int) + (nm : Int) < 0) = false := by simp; omega
  go_enter Try.func33, Try.ntmps33
  go_wp2_with fail
  refine (heldInts_any _ nr k _ R.out k0 (by omega)).mono ?_
  rintro e w1 ⟨rfl, rfl⟩
  go_wp2_with fail
  refine (heldInts_any _ nm (k + nr) _ M.out (by omega) (by omega)).mono ?_
  rintro e w2 ⟨rfl, rfl⟩
  go_wp2
  go_ret
  exact ⟨rfl, below_alloc1 _ _⟩
end Go.Proofs.Ytbpomeegpkdekaa
