/- A book's pages as lists and as a book, and a book opened into pages. Conditions: at most four nodes, numbers within bounds. -/
import Derived.Test.YtioikijheilliaaHrdMap
import Derived.Test.YtioikijheilliaaHrdBase
import Derived.Test.YtioikijheilliaaMakeCap
import Derived.Deep.DeepAppendRoom
import Derived.OwnWalk
namespace Go.Proofs.Ytioikijheilliaa
open Go.ChangeShapes Go.WideShapes Go.ChangeAt Go.RowKit Go.Joins Go.Deep
set_option linter.unusedVariables false
set_option linter.unusedSimpArgs false
set_option maxRecDepth 4000

theorem infoS : ∃ i, Try.prog.info? 3 = some i ∧ i.size = 1 := by
  obtain ⟨i, hi, _, hs, _⟩ := infoI'
  exact ⟨i, hi, hs⟩
theorem cell_new1 (w : World) (x : Value) (t : TypeId) : ∀ (j : Nat) (u : Value), [x][j]? = some u → (w.alloc (.cells #[x] t)).cell? ((⟨w.heap.size, 0, none⟩ : Addr).add j) = some u := by
  intro j u h
  match j, h with
  | 0, h => simp at h; subst h; simp [Addr.add]
def lsP (f : Int → Int → Int) (t : Int) (n : Nat) : List Int := (List.range n).map fun (i : Nat) => f (i : Int) t
theorem lsP_succ (f : Int → Int → Int) (t : Int) (k : Nat) : lsP f t (k + 1) = lsP f t k ++ [f (k : Int) t] := by simp [lsP, List.range_succ]
theorem lsP_len (f : Int → Int → Int) (t : Int) (k : Nat) : (lsP f t k).length = k := by simp [lsP]
theorem Pg.congr {w : World} {B N : Nat} {f g : Int → Int → Int} (h : Pg w B N f) (hh : ∀ i t : Int, 0 ≤ i → i ≤ 3 → 0 ≤ t → t ≤ 1 → f i t = g i t) : Pg w B N g := by
  obtain ⟨D, h1, h2, h3⟩ := h
  exact ⟨D, h1, h2, fun i t i0 i1 t0 t1 => by rw [h3 i t i0 i1 t0 t1, hh i t i0 i1 t0 t1]⟩

set_option maxHeartbeats 2000000 in
theorem pgList_any (B N n : Nat) (f : Int → Int → Int) (t : Int) (w : World) (h : Pg w B N f) (hn : n ≤ 4) (t0 : 0 ≤ t) (t1 : t ≤ 1) :
    Calls Try.prog 83 #[.map (some B), .int .i64 (n : Int), .int .i64 t] w fun e w' => ∃ u, e = .returned u ∧ OwnI 3 1 w' w.heap.size u n (lsP f t n) ∧ Below w.heap.size w w' := by
  obtain ⟨ti, hti, htz⟩ := infoS
  have hmk := run_make_cap (P := Try.prog) 42 3 (.int .i64 0) 8 Try.underlying42 infoI rfl .i64 .i64 n (by omega) (by omega)
  have HP := hid h
  clear h
  go_enter Try.func83, Try.ntmps83
  go_wp2_with fail
  go_loopw [7, 8, 12] (fun l _ i wr => ∃ k : Nat, k ≤ n ∧ i = .int .i64 k ∧ l = .slice (some ⟨w.heap.size, 0, none⟩) k n ∧ OwnI 3 1 wr w.heap.size (.slice (some ⟨w.heap.size, 0, none⟩) k n) k (lsP f t k) ∧ Below w.heap.size w wr) (fun _ _ i _ => n - (intOf i).toNat)
  case atStart => exact ⟨0, Nat.zero_le _, rfl, rfl, World.ownsRow_made w _ _ (Nat.le_refl _) (by unfold maxLen; omega) (by rw [size_madeCells]; omega), below_alloc1 _ _⟩
  case round =>
    obtain ⟨k, hk, rfl, rfl, ho, hB⟩ := hrel
    have HO := hid ho
    have HB := hid hB
    by_cases hlt : k < n
    · have hr := pg_look (HP.out.below hB) (i := (k : Int)) (t := t) (by omega) (by omega) t0 t1
      have HS := hid (lsP_succ f t k)
      obtain ⟨X, hX⟩ : ∃ X, f (k : Int) t = X := ⟨_, rfl⟩
      rw [hX] at hr HS
      clear ho hB hmk hX
      go_wp2_with (at_builtin; refine wpList_append_own_spare _ rfl _ _ 42 rfl w.heap.size 3 ti 1 Try.underlying42 hti htz w.heap.size k n _ rfl (HO.out.alloc _) ⟨wr.heap.size, 0, none⟩ 1 1 [.int .i64 X] rfl rfl ?c1 ?c2 ?c3 ?_)
      case c1 => exact cell_new1 _ _ _
      case c2 => intro u hu; simp at hu; subst hu; rfl
      case c3 => omega
      intro w2 ho2 hg2
      go_wp2
      go_roundw
      case rel =>
        refine ⟨k + 1, by omega, by go_num, rfl, ?_, ?_⟩
        · rw [HS.out]; unfold OwnI; rw [List.map_append]; exact ho2
        · exact ((HB.out.alloc HB.out.size _).grown hg2 (by simp; have := HB.out.size; omega) (by intro j hj; simp at hj; omega))
      case measure => simp [intOf]; omega
    · obtain rfl : k = n := by omega
      clear ho hB hmk
      go_wp2
      go_ret
      exact ⟨_, rfl, HO.out, HB.out⟩

theorem res_pgBook {W : World} {b : Nat} {x0 x1 : Value} (tmps : Array Value) (ht : tmps[4]?.getD undef = .pointer (some ⟨b, 0, none⟩)) (h0 : W.cell? ⟨b, 0, none⟩ = some x0) (h1 : W.cell? ⟨b, 1, none⟩ = some x1) :
    (results Try.f71 tmps).run Try.prog W = .ok (.agg #[x0, x1]) W := by
  simp [results, Try.results71, go_sem, ht, h0, h1]
set_option maxHeartbeats 2000000 in
theorem pgBook_any (B N n : Nat) (f : Int → Int → Int) (w : World) (h : Pg w B N f) (hn : n ≤ 4) :
    Calls Try.prog 71 #[.map (some B), .int .i64 (n : Int)] w fun e w' => ∃ u v, e = .returned (.agg #[u, v]) ∧ OwnI 3 1 w' w.heap.size u n (lsP f 0 n) ∧ OwnI 3 1 w' w.heap.size v n (lsP f 1 n) ∧ (∀ j, u.ownBlock = some j → v.ownBlock ≠ some j) ∧ Below w.heap.size w w' := by
  have HP := hid h
  clear h
  have VR := hid (vb_new w [.slice none 0 0, .slice none 0 0] 44)
  have B0 := hid (below_alloc1 w (.cells #[.slice none 0 0, .slice none 0 0] 44))
  have z0 : (w.alloc (.cells #[.slice none 0 0, .slice none 0 0] 44)).heap.size = w.heap.size + 1 := by simp
  go_enter Try.func71, Try.ntmps71
  go_wp2_with fail
  refine (pgList_any B N n f 0 _ (HP.out.below B0.out) hn (by omega) (by omega)).mono ?_
  rintro e w1 ⟨u, rfl, p1, b1⟩
  have VR1 := hid (VR.out.keep b1)
  have P1 := hid p1
  have B1 := hid (B0.out.trans (b1.mono B0.out.size))
  obtain ⟨a1, c1, rfl, _⟩ := ownI_form p1
  clear p1 b1
  go_wp2_with fail
  refine (pgList_any B N n f 1 _ (HP.out.below B1.out) hn (by omega) (by omega)).mono ?_
  rintro e w2 ⟨v, rfl, p2, b2⟩
  have VR2 := hid (VR1.out.keep b2)
  have AP := hid (ownI_apart P1.out p2 (Nat.le_refl _))
  have P1' := hid (P1.out.keep b2)
  have P2 := hid p2
  have B2 := hid (B1.out.trans (b2.mono B1.out.size))
  have zz := b2.size
  have z1 : w.heap.size + 1 ≤ w1.heap.size := by have := VR1.out.2.2; omega
  obtain ⟨a2, c2, rfl, _⟩ := ownI_form p2
  clear p2 b2
  obtain ⟨r0, r1⟩ := vb2 VR2.out
  have fr := VR2.out.2.1
  have CG := hid (vbchg2 (S := fun j => j = w.heap.size) (w := w2) (b := w.heap.size) (.slice a1 n c1) (.slice a2 n c2) rfl)
  go_wp2_with fail
  obtain ⟨t0, t1⟩ := vb2 (vbset2 (.slice a1 n c1) (.slice a2 n c2) VR2.out)
  refine bodyPost_ret (v := .agg #[.slice a1 n c1, .slice a2 n c2]) (res_pgBook _ rfl t0 t1) rfl ?_
  refine ⟨_, _, rfl, (P1'.out.chg CG.out ?_).low (by omega), (P2.out.chg CG.out ?_).low (by omega), AP.out, below_chg B2.out CG.out (by have := B2.out.size; omega) (fun j hj => by have hj : j = w.heap.size := hj; omega)⟩
  · intro j hj he
    have he : j = w.heap.size := he
    have := (P1.out.blk j hj).1
    rw [z0] at this
    omega
  · intro j hj he
    have he : j = w.heap.size := he
    have := (P2.out.blk j hj).1
    omega

/-- what the pages hold behind k rounds -/
def pgF (xs ys : List Int) (k : Nat) : Int → Int → Int := fun i t => if 0 ≤ i ∧ i < (k : Int) then (if t = 0 then xs.getD i.toNat 0 else ys.getD i.toNat 0) else 0
theorem pgF_step (xs ys : List Int) (k : Nat) (i t : Int) (i0 : 0 ≤ i) (t0 : 0 ≤ t) (t1 : t ≤ 1) : upP (upP (pgF xs ys k) (k : Int) 0 (xs.getD k 0)) (k : Int) 1 (ys.getD k 0) i t = pgF xs ys (k + 1) i t := by
  unfold upP pgF
  by_cases e : i = (k : Int)
  · subst e
    have hk : (k : Int) < (k : Int) + 1 := by omega
    rcases (by omega : t = 0 ∨ t = 1) with rfl | rfl
    · simp [hk]
    · simp [hk]
  · by_cases l : i < (k : Int)
    · simp [e, i0, l, show i < (k : Int) + 1 by omega]
    · simp [e, l, show ¬ i < (k : Int) + 1 by omega]
theorem bnd_getD {xs : List Int} {n k : Nat} (hl : xs.length = n) (hb : ∀ x ∈ xs, 0 ≤ x ∧ x ≤ 60000) (hk : k < n) : 0 ≤ xs.getD k 0 ∧ xs.getD k 0 ≤ 60000 := by
  rw [List.getD_eq_getElem?_getD, List.getElem?_eq_getElem (by omega)]
  exact hb _ (List.getElem_mem _)
set_option maxHeartbeats 4000000 in
theorem pages_any (u v : Value) (n : Nat) (xs ys : List Int) (w : World) (hu : RdI 1 w u n xs) (hv : RdI 1 w v n ys) (hn : n ≤ 4) (bx : ∀ x ∈ xs, 0 ≤ x ∧ x ≤ 60000) (by' : ∀ x ∈ ys, 0 ≤ x ∧ x ≤ 60000) :
    Calls Try.prog 68 #[.agg #[u, v]] w fun e w' => ∃ N, e = .returned (.map (some (w.heap.size + 1))) ∧ N ≤ 8 ∧ Pg w' (w.heap.size + 1) N (pgF xs ys n) ∧ Below w.heap.size w w' := by
  obtain ⟨h1, h2, a1, c1, rfl, h3⟩ := hu
  obtain ⟨k1, k2, a2, c2, rfl, k3⟩ := hv
  rw [Nat.mul_one] at h1 k1
  have hmm := @run_makeMap Try.prog
  have B0 := hid (((Below.refl w.heap.size w).alloc (Nat.le_refl _) (.cells #[.slice a1 n c1, .slice a2 n c2] 44)).alloc (by simp) (.map #[] 0))
  have VA := hid ((vb_new w [.slice a1 n c1, .slice a2 n c2] 44).keep (below_alloc1 _ (.map #[] 0)))
  have PM : Hid (Pg ((w.alloc (.cells #[.slice a1 n c1, .slice a2 n c2] 44)).alloc (.map #[] 0)) (w.heap.size + 1) 0 (pgF xs ys 0)) := hid (by
    have := pg_made (w.alloc (.cells #[.slice a1 n c1, .slice a2 n c2] 44))
    simp only [World.size_alloc] at this
    exact this.congr (fun i t i0 i1 t0 t1 => by simp [pgF]; omega))
  go_enter Try.func68, Try.ntmps68
  go_wp2_with fail
  go_loopw [4, 5, 10] (fun _ _ i wr => ∃ k : Nat, k ≤ n ∧ i = .int .i64 k ∧ Pg wr (w.heap.size + 1) (k + k) (pgF xs ys k) ∧ VB wr w.heap.size [.slice a1 n c1, .slice a2 n c2] ∧ Below w.heap.size w wr) (fun _ _ i _ => n - (intOf i).toNat)
  case atStart => exact ⟨0, Nat.zero_le _, rfl, PM.out, VA.out, B0.out⟩
  case round =>
    obtain ⟨k, hk, rfl, hp, hv, hB⟩ := hrel
    have HP := hid hp
    have HV := hid hv
    have HB := hid hB
    clear VA PM B0
    by_cases hlt : k < n
    · rcases h3 with h3 | ⟨b, off, rfl, hc⟩
      · omega
      rcases k3 with k3 | ⟨b', off', rfl, hc'⟩
      · omega
      have hcx := cell_keep hB (hc k (by omega))
      have hcy := cell_keep hB (hc' k (by omega))
      obtain ⟨q0, q1⟩ := vb2 hv
      obtain ⟨x0, x9⟩ := bnd_getD h1 bx hlt
      obtain ⟨y0, y9⟩ := bnd_getD k1 by' hlt
      have HS := hid (fun i t i0 t0 t1 => pgF_step xs ys k i t i0 t0 t1)
      obtain ⟨x, hx⟩ : ∃ x, xs.getD k 0 = x := ⟨_, rfl⟩
      obtain ⟨y, hy⟩ : ∃ y, ys.getD k 0 = y := ⟨_, rfl⟩
      rw [hx] at hcx HS x0 x9
      rw [hy] at hcy HS y0 y9
      clear hc hc' hp hv hB hx hy h1 k1 hmm bx by'
      go_wp2_with fail
      refine (pgWrite_any _ _ _ (k : Int) x y _ HP.out (by omega) (by omega) (by omega) x0 x9 y0 y9).mono ?_
      rintro e w2 ⟨rfl, p2, g2⟩
      have P2 := hid (p2.congr (fun i t i0 _ t0 t1 => HS.out i t i0 t0 t1))
      have V2 := hid (HV.out.grown g2 (by simp))
      have B2 := hid (HB.out.grown g2 HB.out.size (by intro j hj; simp at hj; omega))
      clear p2 g2 q0 q1
      go_wp2
      go_roundw
      case rel => exact ⟨k + 1, by omega, by go_num, by have := P2.out; rw [show k + 1 + (k + 1) = k + k + 1 + 1 by omega]; exact this, V2.out, B2.out⟩
      case measure => simp [intOf]; omega
    · obtain rfl : k = n := by omega
      clear hp hv hB h3 k3 hmm
      go_wp2
      go_ret
      exact ⟨k + k, rfl, by omega, HP.out, HB.out⟩
end Go.Proofs.Ytioikijheilliaa
