/- What is written of a number has its size, is read as it was, and stands in the order of the numbers: for whatever is drawn, where errors.errorType holds what the library's own text lays there. -/
import Derived.Test.YtbmjaiojeehifaaDoorDoorBase
import Derived.Test.YtbmjaiojeehifaaDoorBytTake
import Derived.Test.YtbmjaiojeehifaaDoorBytPutSpec
import Derived.Test.YtbmjaiojeehifaaDoorDrawRaw
import Derived.Test.YtbmjaiojeehifaaDoorCards
import Derived.Test.YtbmjaiojeehifaaDoorTie
namespace Go.Proofs.YtbmjaiojeehifaaDoor
open Go.ChangeShapes Go.WideShapes Go.ChangeAt Go.RowKit Go.Joins Go.Deep
set_option linter.unusedVariables false
set_option linter.unusedSimpArgs false
set_option maxRecDepth 4000

theorem u8_lt {x y : Int} (hx : 0 ≤ x ∧ x ≤ 255) (hy : 0 ≤ y ∧ y ≤ 255) : (x.toNat.toUInt8 < y.toNat.toUInt8) ↔ x < y := by
  rw [UInt8.lt_iff_toNat_lt]
  simp
  omega
theorem u8_eq {x y : Int} (hx : 0 ≤ x ∧ x ≤ 255) (hy : 0 ≤ y ∧ y ≤ 255) : (x.toNat.toUInt8 = y.toNat.toUInt8) ↔ x = y := ⟨u8_inj hx hy, fun h => by rw [h]⟩
/-- the order of rows, byte by byte -/
def lexB : List Int → List Int → Bool
  | _, [] => false
  | [], _ :: _ => true
  | a :: x, b :: y => decide (a < b) || (decide (a = b) && lexB x y)
theorem lex_less : ∀ (xs ys : List Int), (∀ x ∈ xs, 0 ≤ x ∧ x ≤ 255) → (∀ x ∈ ys, 0 ≤ x ∧ x ≤ 255) → Op.bytesLess (List.map (fun x => x.toNat.toUInt8) xs) (List.map (fun x => x.toNat.toUInt8) ys) = lexB xs ys
  | [], [], _, _ => rfl
  | _ :: _, [], _, _ => rfl
  | [], _ :: _, _, _ => rfl
  | a :: x, b :: y, hx, hy => by
    have ih := lex_less x y (fun z hz => hx z (by simp [hz])) (fun z hz => hy z (by simp [hz]))
    have ha := hx a (by simp); have hb := hy b (by simp)
    simp only [List.map_cons, Op.bytesLess, lexB, ih]
    congr 1
    · exact decide_eq_decide.2 (u8_lt ha hb)
    · congr 1
      rw [Bool.eq_iff_iff]; simp only [beq_iff_eq, decide_eq_true_eq]; exact u8_eq ha hb
theorem num_less (xs ys : List Int) (hx : ∀ x ∈ xs, 0 ≤ x ∧ x ≤ 255) (hy : ∀ x ∈ ys, 0 ≤ x ∧ x ≤ 255) (hl : xs.length = ys.length) (h4 : xs.length ≤ 4) :
    Op.bytesLess (bstr xs).toList (bstr ys).toList = decide (numL xs < numL ys) := by
  rw [ByteArray.toList_eq, ByteArray.toList_eq]
  simp only [bstr]
  match xs, ys, hl, h4 with
  | [], [], _, _ => simp [Op.bytesLess, numL]
  | [a], [e], _, _ =>
    have ha := hx a (by simp); have ke := hy e (by simp)
    have e : Op.bytesLess (List.map (fun x => x.toNat.toUInt8) [a]) (List.map (fun x => x.toNat.toUInt8) [e]) = lexB [a] [e] := lex_less _ _ hx hy
    rw [e, Bool.eq_iff_iff]
    simp [lexB, numL] <;> omega
  | [a, b], [e, f], _, _ =>
    have ha := hx a (by simp); have hb := hx b (by simp); have ke := hy e (by simp); have kf := hy f (by simp)
    have e : Op.bytesLess (List.map (fun x => x.toNat.toUInt8) [a, b]) (List.map (fun x => x.toNat.toUInt8) [e, f]) = lexB [a, b] [e, f] := lex_less _ _ hx hy
    rw [e, Bool.eq_iff_iff]
    simp [lexB, numL] <;> omega
  | [a, b, c], [e, f, g], _, _ =>
    have ha := hx a (by simp); have hb := hx b (by simp); have hc := hx c (by simp); have ke := hy e (by simp); have kf := hy f (by simp); have kg := hy g (by simp)
    have e : Op.bytesLess (List.map (fun x => x.toNat.toUInt8) [a, b, c]) (List.map (fun x => x.toNat.toUInt8) [e, f, g]) = lexB [a, b, c] [e, f, g] := lex_less _ _ hx hy
    rw [e, Bool.eq_iff_iff]
    simp [lexB, numL] <;> omega
  | [a, b, c, d], [e, f, g, h], _, _ =>
    have ha := hx a (by simp); have hb := hx b (by simp); have hc := hx c (by simp); have hd := hx d (by simp); have ke := hy e (by simp); have kf := hy f (by simp); have kg := hy g (by simp); have kh := hy h (by simp)
    have e : Op.bytesLess (List.map (fun x => x.toNat.toUInt8) [a, b, c, d]) (List.map (fun x => x.toNat.toUInt8) [e, f, g, h]) = lexB [a, b, c, d] [e, f, g, h] := lex_less _ _ hx hy
    rw [e, Bool.eq_iff_iff]
    simp [lexB, numL] <;> omega
theorem num_put (n s : Nat) (hs : 1 ≤ s ∧ s ≤ 4) (hn : n < 256 ^ s) : numL (putL n s) = (n : Int) := by
  rcases (by omega : s = 1 ∨ s = 2 ∨ s = 3 ∨ s = 4) with rfl | rfl | rfl | rfl <;> simp [putL, numL, List.range_succ] at hn ⊢ <;> omega
theorem putB_yes {n s : Int} (h : putB n s ≠ []) : (1 ≤ s ∧ s ≤ 4) ∧ 0 ≤ n ∧ n < 256 ^ s.toNat ∧ putB n s = putL n.toNat s.toNat := by
  unfold putB at h ⊢
  split
  · rename_i hk
    simp only [putOk, inB, Bool.and_eq_true, decide_eq_true_eq] at hk
    exact ⟨hk.1, hk.2.1, by omega, rfl⟩
  · rename_i hk; simp [hk] at h
theorem putB_len4 (n s : Int) : (putB n s).length ≤ 4 := by
  by_cases h : putB n s = []
  · simp [h]
  · obtain ⟨h1, _, _, e⟩ := putB_yes h
    rw [e, putL_len]; omega

set_option maxHeartbeats 4000000 in
theorem drawNum_any (W w : World) (g p : Nat) (hr : Rdr W w g p) (hp : p < 990000) :
    Calls Tryd.prog 38 #[.pointer (some ⟨g, 0, none⟩)] w fun e w' => ∃ x : Int, e = .returned (.int .i64 x) ∧ x ≤ 4294967296 ∧ Rdr W w' g (p + 3) ∧ w.grownBy w' (some g) := by
  have RD := hid hr
  have hg : g < w.heap.size := by
    obtain ⟨v, xs, _, _, _, h, _⟩ := hr
    exact World.block_lt_of_cell? w ⟨g, 0, none⟩ h
  clear hr
  go_enter Tryd.func38, Tryd.ntmps38
  go_wp2_with fail
  refine (pick_any 256 W _ g p RD.out (by omega) (by omega) (by omega)).mono ?_
  rintro e w1 ⟨x1, rfl, l1, u1, rd, hc1, hf1, hz1, gr1⟩
  have RD1 := hid rd
  have G1 := hid gr1
  clear rd gr1 hc1 hf1
  go_wp2_with fail
  refine (pick_any 256 W _ g (p + 1) RD1.out (by omega) (by omega) (by omega)).mono ?_
  rintro e w2 ⟨x2, rfl, l2, u2, rd, hc2, hf2, hz2, gr2⟩
  have RD2 := hid rd
  have G2 := hid (gtrans G1.out gr2)
  have n2 : ¬ w2.heap.size = g := by omega
  clear rd gr2 hc2 hf2 hz1 hz2 G1 RD1 RD
  have RD2 := hid (RD2.out.keep (below_alloc1 w2 (.cells #[.int .i64 (-1), .int .i64 0, .int .i64 1, .int .i64 255, .int .i64 256, .int .i64 65535, .int .i64 65536, .int .i64 16777216, .int .i64 4294967295, .int .i64 4294967296, .int .i64 (-9223372036854775808), .int .i64 (x1 * 256 + x2)] 3)))
  go_wp2_with fail
  refine (pick_any 12 W _ g (p + 1 + 1) RD2.out (by omega) (by omega) (by omega)).mono ?_
  rintro e w3 ⟨x3, rfl, l3, u3, rd, hc3, hf3, hz3, gr3⟩
  obtain ⟨m, hm, hcm⟩ := at_pick [-1, 0, 1, 255, 256, 65535, 65536, 16777216, 4294967295, 4294967296, -9223372036854775808, x1 * 256 + x2] 3 x3 l3 (by simpa using u3) n2 hc3
  have G3 := hid (gtrans (galloc G2.out _) gr3)
  have RD3 := hid rd
  have hb : m ≤ 4294967296 := by simp at hm; omega
  clear rd gr3 hc3 hf3 hz3 RD2 G2 hm
  go_wp2
  go_ret
  exact ⟨m, rfl, hb, RD3.out, G3.out⟩

theorem below_grownD {a b : World} {n g : Nat} (h : a.grownBy b (some g)) (hg : n ≤ g) (hn : n ≤ a.heap.size) : Below n a b :=
  (Below.refl n a).grown h hn (fun k hk => by simp at hk; omega)
theorem ord0 {w0 w1 : World} {g : Nat} (gr : (w0.alloc (.cells #[.int .i64 1, .int .i64 2, .int .i64 2, .int .i64 4, .int .i64 3, .int .i64 0, .int .i64 5, .int .i64 (-1), .int .i64 1099511627776] 3)).drew.grownBy w1 (some g)) (hg : ¬ w0.heap.size = g) :
    ∀ i : Int, 0 ≤ i → i < 9 → ∃ m : Int, w1.cell? ⟨w0.heap.size, i.toNat, none⟩ = some (.int .i64 m) := by
  intro i h0 h1
  obtain ⟨m, hm, h⟩ := pick_cell w0 [1, 2, 2, 4, 3, 0, 5, -1, 1099511627776] 3 i h0 (by simpa using h1)
  exact ⟨m, gr.cell h (by simpa using hg)⟩
theorem nine_at (i : Nat) (h : i < 9) : ∃ s : Int, [Value.int .i64 1, Value.int .i64 2, Value.int .i64 2, Value.int .i64 4, Value.int .i64 3, Value.int .i64 0, Value.int .i64 5, Value.int .i64 (-1), Value.int .i64 1099511627776][i]'(by simpa using h) = .int .i64 s := by
  match i, h with
  | 0, _ => exact ⟨_, rfl⟩
  | 1, _ => exact ⟨_, rfl⟩
  | 2, _ => exact ⟨_, rfl⟩
  | 3, _ => exact ⟨_, rfl⟩
  | 4, _ => exact ⟨_, rfl⟩
  | 5, _ => exact ⟨_, rfl⟩
  | 6, _ => exact ⟨_, rfl⟩
  | 7, _ => exact ⟨_, rfl⟩
  | 8, _ => exact ⟨_, rfl⟩
theorem rdr_drew {W w : World} {g p : Nat} (h : Rdr W w g p) : Rdr W w.drew g p := h.keep ((Below.refl _ _).drew)
set_option maxHeartbeats 4000000 in
theorem drawPut_any (a : Option Addr) (len cap : Nat) (zs : List Int) (w : World) (hn : zs.length = len) (hv : Rd w (.slice a len cap) zs) (hcap : len ≤ cap) :
    Calls Tryd.prog 11 #[.slice a len cap] w fun e w' => ∃ n s : Int, e = .returned (.tuple #[.int .i64 n, .int .i64 s]) ∧ n ≤ 4294967296 ∧ Below w.heap.size w w' := by
  have HV := hid hv
  clear hv
  go_enter Tryd.func11, Tryd.ntmps11
  go_wp2_with fail
  refine (open_any a len cap zs _ hn HV.out hcap).mono ?_
  rintro e w0 ⟨rfl, rd, bl, hz⟩
  have RD0 := hid rd
  have B0 := hid bl
  have z0 : w.heap.size < w0.heap.size := by omega
  clear rd bl HV hz
  have RDa := hid (RD0.out.keep (below_alloc1 w0 (.cells #[.int .i64 1, .int .i64 2, .int .i64 2, .int .i64 4, .int .i64 3, .int .i64 0, .int .i64 5, .int .i64 (-1), .int .i64 1099511627776] 3)))
  have Ba := hid (B0.out.alloc (by omega) (.cells #[.int .i64 1, .int .i64 2, .int .i64 2, .int .i64 4, .int .i64 3, .int .i64 0, .int .i64 5, .int .i64 (-1), .int .i64 1099511627776] 3))
  go_wp2_with fail
  have hg0 : ¬ w0.heap.size = w.heap.size := by omega
  go_region_with ((first
    | (go_at_call 38; refine (drawNum_any w _ w.heap.size 0 ?_ (by omega)).mono ?_; (first | exact rdr_drew RDa.out | exact RDa.out); rintro e w1 ⟨n, rfl, hn1, rd, gr1⟩; have RD1 := hid rd; have ROWC := hid (ord0 gr1 hg0); have BA := hid (Ba.out.drew.trans (below_grownD (n := w.heap.size) gr1 (Nat.le_refl _) (by first | omega | (simp; omega)))); have z1 : w.heap.size < w1.heap.size := Nat.lt_of_lt_of_le (by simp; omega) gr1.size)
    | (go_at_call 38; refine (drawNum_any w _ w.heap.size 0 ?_ (by omega)).mono ?_; (first | exact rdr_drew RD0.out | exact RD0.out); rintro e w1 ⟨n, rfl, hn1, rd, gr1⟩; have RD1 := hid rd; have RD1a := hid (rd.keep (below_alloc1 w1 (.cells #[.int .i64 1, .int .i64 2, .int .i64 2, .int .i64 4, .int .i64 3, .int .i64 0, .int .i64 5, .int .i64 (-1), .int .i64 1099511627776] 3))); have BB := hid (B0.out.drew.trans (below_grownD (n := w.heap.size) gr1 (Nat.le_refl _) (by first | omega | (simp; omega)))); have z1 : w.heap.size < w1.heap.size := Nat.lt_of_lt_of_le z0 gr1.size; have hg1 : ¬ w1.heap.size = w.heap.size := Nat.ne_of_gt z1)
    | (go_at_call 39; refine (pick_any 9 w _ w.heap.size 3 ?_ (by omega) (by omega) (by omega)).mono ?_; (first | exact rdr_drew RD1a.out | exact RD1a.out); rintro e w2 ⟨x2, rfl, l2, u2, rd, hc2, hf2, hz2, gr2⟩; obtain ⟨s, hs, hcm⟩ := at_pick (w := w1) [1, 2, 2, 4, 3, 0, 5, -1, 1099511627776] 3 x2 l2 (by simpa using u2) hg1 hc2; have BF : Hid (Below w.heap.size w w2) := hid (by first | exact (BB.out.alloc (by omega) (.cells #[.int .i64 1, .int .i64 2, .int .i64 2, .int .i64 4, .int .i64 3, .int .i64 0, .int .i64 5, .int .i64 (-1), .int .i64 1099511627776] 3)).trans (below_grownD (n := w.heap.size) gr2 (Nat.le_refl _) (by first | omega | (simp; omega))) | exact (BB.out.alloc (by omega) (.cells #[.int .i64 1, .int .i64 2, .int .i64 2, .int .i64 4, .int .i64 3, .int .i64 0, .int .i64 5, .int .i64 (-1), .int .i64 1099511627776] 3)).drew.trans (below_grownD (n := w.heap.size) gr2 (Nat.le_refl _) (by first | omega | (simp; omega)))))
    | (go_at_call 39; refine (pick_any 9 w _ w.heap.size 3 ?_ (by omega) (by omega) (by omega)).mono ?_; (first | exact rdr_drew RD1.out | exact RD1.out); rintro e w2 ⟨x2, rfl, l2, u2, rd, hc2, hf2, hz2, gr2⟩; obtain ⟨s, h⟩ := ROWC.out x2 l2 u2; have hcm := (hc2 _ x2.toNat hg0).trans h; have BF : Hid (Below w.heap.size w w2) := hid (by first | exact BA.out.trans (below_grownD (n := w.heap.size) gr2 (Nat.le_refl _) (by first | omega | (simp; omega))) | exact BA.out.drew.trans (below_grownD (n := w.heap.size) gr2 (Nat.le_refl _) (by first | omega | (simp; omega)))))
    | (go_at_call 39; refine (pick_any 9 w _ w.heap.size 3 ?_ (by omega) (by omega) (by omega)).mono ?_; (first | exact rdr_drew RD1.out | exact RD1.out); rintro e w2 ⟨x2, rfl, l2, u2, rd, hc2, hf2, hz2, gr2⟩; have BG : Hid (Below w.heap.size w (w2.alloc (.cells #[.int .i64 1, .int .i64 2, .int .i64 2, .int .i64 4, .int .i64 3, .int .i64 0, .int .i64 5, .int .i64 (-1), .int .i64 1099511627776] 3))) := hid (Below.alloc (by first | exact BB.out.trans (below_grownD (n := w.heap.size) gr2 (Nat.le_refl _) (by first | omega | (simp; omega))) | exact BB.out.drew.trans (below_grownD (n := w.heap.size) gr2 (Nat.le_refl _) (by first | omega | (simp; omega)))) (by omega) (.cells #[.int .i64 1, .int .i64 2, .int .i64 2, .int .i64 4, .int .i64 3, .int .i64 0, .int .i64 5, .int .i64 (-1), .int .i64 1099511627776] 3)))))
  all_goals
    first
    | (obtain ⟨s3, e3⟩ := nine_at x2.toNat (by omega); simp only [e3]; go_wp2; refine bodyPost_ret (v := .tuple #[.int .i64 n, .int .i64 s3]) (by simp [results, Tryd.results11, go_sem]) rfl ?_; first | exact ⟨n, s3, rfl, hn1, BG.out⟩ | exact ⟨n, s3, rfl, hn1, BF.out⟩)
    | (have h1 := BF.out; go_wp2; refine bodyPost_ret (v := .tuple #[.int .i64 n, .int .i64 s]) (by simp [results, Tryd.results11, go_sem]) rfl ?_; exact ⟨n, s, rfl, hn1, BF.out⟩)
end Go.Proofs.YtbmjaiojeehifaaDoor
