/- Whether two cells are the same. Conditions: the lists read alike. -/
import Derived.Test.YthhgjnhfidhmpaaCaState
import Derived.Test.YthhgjnhfidhmpaaByteStrG
namespace Go.Proofs.Ythhgjnhfidhmpaa
open Go.ChangeShapes Go.WideShapes Go.ChangeAt Go.RowKit Go.Joins Go.Deep
set_option linter.unusedVariables false
set_option linter.unusedSimpArgs false
set_option maxRecDepth 4000
theorem caBytes_eq (v u : Value) (xs : List Int) (w : World) (hv : Rd w v xs) (hu : Rd w u xs) :
    Calls Try.prog 16 #[v, u] w fun e w' => e = .returned (.bool true) ∧ w' = w := by
  refine (caBytes_any v u xs xs w hv hu).mono ?_
  rintro e w' ⟨rfl, rfl⟩
  exact ⟨by simp, rfl⟩
set_option maxHeartbeats 2000000 in
theorem caCell_same (pc ht : Int) (r m i r' m' i' : Value) (nr nm : Nat) (xs ys bs : List Int) (w : World) (hr : RdI 1 w r nr xs) (hm : RdI 1 w m nm ys) (hi : Rd w i bs) (hr' : RdI 1 w r' nr xs) (hm' : RdI 1 w m' nm ys) (hi' : Rd w i' bs) :
    Calls Try.prog 11 #[.agg #[.int .i64 pc, r, m, .int .i64 ht, i], .agg #[.int .i64 pc, r', m', .int .i64 ht, i']] w fun e w' => e = .returned (.bool true) ∧ Below w.heap.size w w' := by
  have R := hid hr
  have M := hid hm
  have I := hid hi
  have R' := hid hr'
  have M' := hid hm'
  have I' := hid hi'
  obtain ⟨_, _, a1, c1, rfl, _⟩ := hr
  obtain ⟨_, _, a2, c2, rfl, _⟩ := hm
  obtain ⟨_, _, a5, c5, rfl, _⟩ := hi
  obtain ⟨_, _, a3, c3, rfl, _⟩ := hr'
  obtain ⟨_, _, a4, c4, rfl, _⟩ := hm'
  obtain ⟨_, _, a6, c6, rfl, _⟩ := hi'
  have P := hid (((Below.refl w.heap.size w).alloc (Nat.le_refl _) (.cells #[.int .i64 pc, .slice a1 nr c1, .slice a2 nm c2, .int .i64 ht, .slice a5 bs.length c5] 27)).alloc (by simp) (.cells #[.int .i64 pc, .slice a3 nr c3, .slice a4 nm c4, .int .i64 ht, .slice a6 bs.length c6] 27))
  have V1 := hid ((vb_new w [.int .i64 pc, .slice a1 nr c1, .slice a2 nm c2, .int .i64 ht, .slice a5 bs.length c5] 27).keep (below_alloc1 _ (.cells #[.int .i64 pc, .slice a3 nr c3, .slice a4 nm c4, .int .i64 ht, .slice a6 bs.length c6] 27)))
  have V2 := hid (vb_new (w.alloc (.cells #[.int .i64 pc, .slice a1 nr c1, .slice a2 nm c2, .int .i64 ht, .slice a5 bs.length c5] 27)) [.int .i64 pc, .slice a3 nr c3, .slice a4 nm c4, .int .i64 ht, .slice a6 bs.length c6] 27)
  go_enter Try.func11, Try.ntmps11
  go_wp2_with fail
  refine (caState_same pc ht _ _ _ _ nr nm xs ys _ (R.out.keep P.out) (M.out.keep P.out) (R'.out.keep P.out) (M'.out.keep P.out)).mono ?_
  rintro e w1 ⟨rfl, b1⟩
  have P := hid (P.out.trans (b1.mono P.out.size))
  have V1 := hid (V1.out.keep b1)
  have V2 := hid (V2.out.keep b1)
  clear b1
  obtain ⟨x0, x1, x2, x3, x4⟩ := vb5 V1.out
  obtain ⟨y0, y1, y2, y3, y4⟩ := vb5 V2.out
  simp only [World.size_alloc] at y0 y1 y2 y3 y4
  go_wp2_with fail
  refine (caBytes_eq _ _ bs _ (I.out.keep P.out) (I'.out.keep P.out)).mono ?_
  rintro e w2 ⟨rfl, rfl⟩
  clear x0 x1 x2 x3 x4 y0 y1 y2 y3 y4 V1 V2
  go_wp2
  go_ret
  exact ⟨rfl, P.out⟩
end Go.Proofs.Ythhgjnhfidhmpaa
