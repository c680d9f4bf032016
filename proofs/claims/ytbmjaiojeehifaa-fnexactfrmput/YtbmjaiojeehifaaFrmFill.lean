/- The contracts of FrmFill, of the program and of the specification. Conditions: the message reads as bytes. -/
import Derived.Test.YtbmjaiojeehifaaBytMessage
import Derived.Test.YtbmjaiojeehifaaBytesMark2
import Derived.Test.YtbmjaiojeehifaaBytPut
import Derived.Laws.CopyOwn
import Derived.Deep.DeepMust
namespace Go.Proofs.Ytbmjaiojeehifaa
open Go.ChangeShapes Go.WideShapes Go.ChangeAt Go.RowKit Go.Joins Go.Deep
set_option linter.unusedVariables false

/-- whether something fills a body, and the body -/
def fillOk (xs : List Int) (r : Bool) : Bool := decide (xs.length ≤ 8) && (r || decide (xs.length = 0))
def fillL (xs : List Int) (r : Bool) : List Int := if fillOk xs r then (if r then (xs.length : Int) + 1 else 0) :: (xs ++ List.replicate (8 - xs.length) 0) else []
theorem fillL_len (xs : List Int) (r : Bool) : (fillL xs r).length ≤ 9 := by
  unfold fillL
  split
  · rename_i h
    simp only [fillOk, Bool.and_eq_true, decide_eq_true_eq] at h
    simp; omega
  · simp
theorem nine_make (w : World) : (Instr.makeSlice 22 (.int .i64 9) (.int .i64 9)).run Try.prog w = .ok (.slice (some ⟨w.heap.size, 0, none⟩) 9 9) (w.alloc (.cells #[.int .u8 0, .int .u8 0, .int .u8 0, .int .u8 0, .int .u8 0, .int .u8 0, .int .u8 0, .int .u8 0, .int .u8 0] 5)) := by
  have h := run_make_row' (P := Try.prog) 22 5 (.int .u8 0) 1 Try.underlying22 info8 rfl .i64 .i64 9 (by omega) (by omega) w
  have e : madeCells #[Value.int .u8 0] 9 = part [0, 0, 0, 0, 0, 0, 0, 0, 0] 0 := part_zero [0, 0, 0, 0, 0, 0, 0, 0, 0]
  rw [e] at h
  exact h
theorem size8 : (Try.prog.info? 5).map (·.size) = some 1 := by kernel_rfl

theorem splice9 (x : Int) (xs : List Int) (h : xs.length ≤ 8) : splice [.int .u8 x, .int .u8 0, .int .u8 0, .int .u8 0, .int .u8 0, .int .u8 0, .int .u8 0, .int .u8 0, .int .u8 0] 1 (xs.map (Value.int .u8)) = (x :: (xs ++ List.replicate (8 - xs.length) 0)).map (Value.int .u8) := by
  have e : ([.int .u8 x, .int .u8 0, .int .u8 0, .int .u8 0, .int .u8 0, .int .u8 0, .int .u8 0, .int .u8 0, .int .u8 0] : List Value) = .int .u8 x :: List.replicate 8 (.int .u8 0) := rfl
  rw [e]
  simp only [splice, List.take_succ_cons, List.take_zero, List.length_map, List.cons_append, List.nil_append, List.map_cons, List.map_append, List.map_replicate]
  rw [show 1 + xs.length = xs.length + 1 from by omega, List.drop_succ_cons, List.drop_replicate]
theorem own_body {w : World} {B g : Nat} {ys : List Int} (h : w.heap[g]? = some (.cells (ys.map (Value.int .u8)).toArray 5 (0, 0))) (hB : B ≤ g) (h9 : ys.length = 9) (hy : ∀ y ∈ ys, 0 ≤ y ∧ y ≤ 255) : Own w B (.slice (some ⟨g, 0, none⟩) 9 9) ys := by
  refine ⟨hy, by simp, .inr ⟨g, 9, _, by rw [h9], hB, h, by omega, by unfold maxLen; omega, by simp [h9], ?_⟩⟩
  exact List.take_of_length_le (by simp)

theorem news_rd {w : World} {b off : Nat} {ys : List Int} (h : ∀ i, i < ys.length → w.cell? ⟨b, off + i, none⟩ = some (.int .u8 (ys.getD i 0))) : ∀ j u, (ys.map (Value.int .u8))[j]? = some u → w.cell? ((⟨b, off, none⟩ : Addr).add j) = some u := by
  intro j u hu
  have hj : j < ys.length := by
    have := (List.getElem?_eq_some_iff.1 hu).1
    simpa using this
  have ea : (⟨b, off, none⟩ : Addr).add j = ⟨b, off + j, none⟩ := by
    unfold Addr.add
    split
    · rename_i e; subst e; rfl
    · rfl
  rw [ea, h j hj]
  simp only [List.getElem?_map, List.getElem?_eq_getElem hj, Option.map_some, Option.some.injEq] at hu
  rw [← hu]; simp [hj]

set_option maxHeartbeats 2000000 in
theorem frmFill_any (v : Value) (xs : List Int) (r : Bool) (w : World) (hv : Rd w v xs) :
    Calls Try.prog 20 #[v, .bool r] w fun e w' => ∃ v', e = .returned v' ∧ Own w' w.heap.size v' (fillL xs r) ∧ Below w.heap.size w w' := by
  have RV := hid hv
  obtain ⟨h1, h2, a, cap, rfl, h3⟩ := hv
  have H1 := hid h1
  have hmk := nine_make
  by_cases hl : xs.length ≤ 8
  · have d1 : decide (xs.length ≤ 8) = true := by simpa using hl
    cases r
    · by_cases h0 : xs.length = 0
      · have hx : xs = [] := List.length_eq_zero_iff.1 h0
        subst hx
        have H := hid (show fillL [] false = List.replicate 9 0 from rfl)
        have RV0 := hid (show Rd w (.slice a 0 cap) [] from RV.out)
        clear h1 h3 hl h0 d1 h2
        go_enter Try.func20, Try.ntmps20
        go_wp2_with fail
        refine (implMsg_any _ [] _ RV0.out).mono ?_
        rintro e w1 ⟨rfl, rfl⟩
        rw [show decide ((([] : List Int)).length ≤ 8) = true from rfl]
        go_wp2
        go_ret
        refine ⟨_, rfl, ?_, below_alloc1 _ _⟩
        rw [H.out]
        exact own_body (by simpa using heap_alloc_new w1 _) (Nat.le_refl _) (by simp) (by intro y hy; rw [List.mem_replicate] at hy; rw [hy.2]; omega)
      · have H := hid (show fillL xs false = [] by simp [fillL, fillOk, h0])
        have d2 : decide ((0 : Int) < (xs.length : Int)) = true := by simp; omega
        clear h1 h3
        go_enter Try.func20, Try.ntmps20
        go_wp2_with fail
        refine (implMsg_any _ xs _ RV.out).mono ?_
        rintro e w1 ⟨rfl, rfl⟩
        rw [d1]
        go_wp2
        go_ret
        exact ⟨_, rfl, by rw [H.out]; exact ⟨by simp, World.ownsRow_nil _ _ _ _⟩, Below.refl _ _⟩
    · have H := hid (show fillL xs true = ((xs.length : Int) + 1) :: (xs ++ List.replicate (8 - xs.length) 0) by simp [fillL, fillOk, hl])
      have hw8 : IntKind.u8.wrap ((xs.length : Int) + 1) = (xs.length : Int) + 1 := by rw [IntKind.wrap_u8]; omega
      have hm8 : ((xs.length : Int) + 1) % 256 = (xs.length : Int) + 1 := by omega
      clear h1
      go_enter Try.func20, Try.ntmps20
      go_wp2_with fail
      refine (implMsg_any _ xs _ RV.out).mono ?_
      rintro e w1 ⟨rfl, rfl⟩
      rw [d1]
      go_wp2_with (refine wpList_copy_splice (by rfl) _ _ 22 22 (by rfl) 5 Try.underlying22 size8 _ _ _ _ _ _ (by rfl) (by rfl) w1.heap.size 1 [.int .u8 ((xs.length : Int) + 1), .int .u8 0, .int .u8 0, .int .u8 0, .int .u8 0, .int .u8 0, .int .u8 0, .int .u8 0, .int .u8 0] 5 (by simpa using heap_alloc_new w1 _) (xs.map (Value.int .u8)) ?c1 ?c2 ?c3 ?c4 w1.heap.size w1 (below_alloc1 _ _) (Nat.le_refl _) ?_)
      case c1 => simp; exact (Nat.min_eq_left hl).symm
      case c2 =>
        intro hp
        rcases h3 with rfl | ⟨b, off, rfl, hc⟩
        · simp at hp
        refine ⟨⟨b, off, none⟩, rfl, fun j u hu => ?_⟩
        exact news_rd (fun i hi => cell_keep (below_alloc1 _ _) (hc i hi)) j (.int .u8 u) (by rw [List.getElem?_map, hu]; rfl)
      case c3 => simp; omega
      case c4 => intro y hy; simp at hy; obtain ⟨z, _, rfl⟩ := hy; rfl
      intro w5 hh5 hb5
      have HH := hh5
      have HB5 := hid hb5
      clear hb5 h3
      go_wp2
      go_ret
      refine ⟨_, rfl, ?_, HB5.out⟩
      rw [H.out]
      have hq := HH.out
      rw [splice9 _ _ hl] at hq
      refine own_body hq (Nat.le_refl _) (by simp; omega) ?_
      intro y hy
      simp only [List.mem_cons, List.mem_append, List.mem_replicate] at hy
      rcases hy with hy | hy | hy
      · omega
      · exact H1.out y hy
      · rw [hy.2]; omega
  · have d1 : decide (xs.length ≤ 8) = false := by simpa using hl
    have H := hid (show fillL xs r = [] by simp [fillL, fillOk, hl])
    clear h1 h3
    go_enter Try.func20, Try.ntmps20
    go_wp2_with fail
    refine (implMsg_any _ xs _ RV.out).mono ?_
    rintro e w1 ⟨rfl, rfl⟩
    rw [d1]
    go_wp2
    go_ret
    exact ⟨_, rfl, by rw [H.out]; exact ⟨by simp, World.ownsRow_nil _ _ _ _⟩, Below.refl _ _⟩

def lenV : Value → Nat | .slice _ n _ => n | _ => 0
theorem own_one (w : World) (x : Int) (x0 : 0 ≤ x) (x1 : x ≤ 255) : Own (w.alloc (.cells #[.int .u8 x] 5)) w.heap.size (.slice (some ⟨w.heap.size, 0, none⟩) 1 1) [x] := by
  refine ⟨by intro y hy; simp at hy; subst hy; exact ⟨x0, x1⟩, by simp, .inr ⟨w.heap.size, 1, #[.int .u8 x], rfl, Nat.le_refl _, heap_alloc_new w _, by simp, by unfold maxLen; omega, by simp, by simp⟩⟩

set_option maxHeartbeats 2000000 in
theorem specFill_any (v : Value) (xs : List Int) (r : Bool) (w : World) (hv : Rd w v xs) :
    Calls Try.prog 24 #[v, .bool r] w fun e w' => ∃ v', e = .returned v' ∧ Own w' w.heap.size v' (fillL xs r) ∧ Below w.heap.size w w' := by
  have RV := hid hv
  obtain ⟨h1, h2, a, cap, rfl, h3⟩ := hv
  have H1 := hid h1
  obtain ⟨ti, hti, htz, hts, htb⟩ := info8'
  cases hk : fillOk xs r
  · have H := hid (show fillL xs r = [] by simp [fillL, hk])
    by_cases hl : xs.length ≤ 8
    · have d1 : decide (xs.length ≤ 8) = true := by simpa using hl
      have hr : r = false := by
        cases r
        · rfl
        · simp [fillOk, hl] at hk
      subst hr
      have h0 : ¬ xs.length = 0 := by
        intro h
        simp [fillOk, h] at hk
      have d2 : decide ((0 : Int) < (xs.length : Int)) = true := by simp; omega
      clear h1 h3 hk
      go_enter Try.func24, Try.ntmps24
      go_wp2_with fail
      refine (specMsg_any _ xs _ RV.out).mono ?_
      rintro e w1 ⟨rfl, rfl⟩
      rw [d1]
      go_wp2
      go_ret
      exact ⟨_, rfl, by rw [H.out]; exact ⟨by simp, World.ownsRow_made _ _ _ (Nat.le_refl _) (by unfold maxLen; omega) (by simp)⟩, below_alloc1 _ _⟩
    · have d1 : decide (xs.length ≤ 8) = false := by simpa using hl
      clear h1 h3 hk
      go_enter Try.func24, Try.ntmps24
      go_wp2_with fail
      refine (specMsg_any _ xs _ RV.out).mono ?_
      rintro e w1 ⟨rfl, rfl⟩
      rw [d1]
      go_wp2
      go_ret
      exact ⟨_, rfl, by rw [H.out]; exact ⟨by simp, World.ownsRow_made _ _ _ (Nat.le_refl _) (by unfold maxLen; omega) (by simp)⟩, below_alloc1 _ _⟩
  · obtain ⟨x, hx⟩ : ∃ x : Int, x = if r then (xs.length : Int) + 1 else 0 := ⟨_, rfl⟩
    have H := hid (show fillL xs r = x :: (xs ++ List.replicate (8 - xs.length) 0) by simp [fillL, hk, hx])
    have hl : xs.length ≤ 8 := by simp [fillOk] at hk; exact hk.1
    have x0 : 0 ≤ x ∧ x ≤ 9 := by rw [hx]; split <;> omega
    have d1 : decide (xs.length ≤ 8) = true := by simpa using hl
    have hm8 : ((xs.length : Int) + 1) % 256 = (xs.length : Int) + 1 := by omega
    have hr0 : r = false → decide ((0 : Int) < (xs.length : Int)) = false := by
      intro h; subst h
      simp [fillOk] at hk
      rw [hk.2]; rfl
    have HX := hid hx
    clear h1 hk hx
    go_enter Try.func24, Try.ntmps24
    go_wp2_with fail
    refine (specMsg_any _ xs _ RV.out).mono ?_
    rintro e w1 ⟨rfl, rfl⟩
    rw [d1]
    cases r
    · have hr1 := hr0 rfl
      obtain rfl : x = 0 := by have := HX.out; simpa using this
      have hx : xs = [] := List.length_eq_zero_iff.1 (by have := of_decide_eq_false hr1; omega)
      subst hx
      have OS := hid (own_one w1 0 (by omega) (by omega))
      have BS := hid (below_alloc1 w1 (.cells #[.int .u8 0] 5))
      have ZS : w1.heap.size < (w1.alloc (.cells #[.int .u8 0] 5)).heap.size := by simp
      have H := hid (show fillL [] false = 0 :: List.replicate 8 0 from rfl)
      clear hr0 h3 RV H1 d1 hm8 HX x0 hl h2
      cases a
      all_goals
        go_wp2_with fail
        go_loopw [5] (fun u wr => ∃ j : Nat, j ≤ 8 ∧ Own wr w1.heap.size u ((0 : Int) :: (List.replicate j 0)) ∧ Below w1.heap.size w1 wr ∧ w1.heap.size < wr.heap.size) (fun u _ => 9 - (lenV u))
        case atStart => exact ⟨0, by omega, OS.out, BS.out, ZS⟩
        case round =>
          obtain ⟨j, hj, ho, hB, hz⟩ := hrel
          obtain ⟨au, cu, hu, _⟩ := own_form ho
          subst hu
          have hn : ((0 : Int) :: (List.replicate j 0)).length = j + 1 := by simp
          rw [hn] at ho
          have HN := hid hn
          have HO := hid ho
          have HR := own_ints ho
          rw [hn] at HR ⊢
          have HR := hid HR
          have HB := hid hB
          clear ho hB hn
          by_cases hlt : j < 8
          · go_wp2_with (at_builtin; go_must (refine wpList_append_lies _ (by rfl) _ _ 22 (by rfl) w1.heap.size 5 ti (.int .u8 0) 1 1 Try.underlying22 hti htz hts htb rfl (by omega) _ (j + 1) (((0 : Int) :: (List.replicate j 0)).map (Value.int .u8)) (by rfl) (HR.out.alloc _) ⟨wr.heap.size, 0, none⟩ 1 1 [.int .u8 0] (by rfl) rfl (cell_one_new _ _ _) (by intro y hy; simp at hy; subst hy; rfl) (by omega) (by unfold maxLen; omega) (by omega) (by simp; omega) (wr.heap.size + 1) (by simp) ?_))
            intro g cap2 w3 ho2 hg2 hat hlt2
            have hz3 := hg2.size
            simp at hz3
            have HB3 := hid ((HB.out.alloc (by omega) _).grown hg2 (by simp; omega) (by intro k hk; exact (HR.out.lt k hk).1))
            clear hg2
            go_wp2
            go_roundw
            case rel =>
              refine ⟨j + 1, by omega, ?_, HB3.out, by omega⟩
              have e : (0 : Int) :: (List.replicate (j + 1) 0) = ((0 : Int) :: (List.replicate j 0)) ++ [0] := by simp [List.replicate_succ']
              rw [e]
              exact own_more HO.out HN.out (by omega) (by omega) (by simpa using ho2)
            case measure => simp [lenV]; omega
          · have hj8 : j = 8 := by omega
            subst hj8
            have hq : ((8 : Nat) : Int) + 1 = 9 := by omega
            go_wp2
            go_ret
            refine ⟨_, rfl, ?_, HB.out⟩
            rw [H.out]
            exact HO.out

    · obtain rfl : x = (xs.length : Int) + 1 := by have := HX.out; simpa using this
      clear hr0
      by_cases h0 : xs.length = 0
      · have hx : xs = [] := List.length_eq_zero_iff.1 h0
        subst hx
        have OS := hid (own_one w1 1 (by omega) (by omega))
        have BS := hid (below_alloc1 w1 (.cells #[.int .u8 1] 5))
        have ZS : w1.heap.size < (w1.alloc (.cells #[.int .u8 1] 5)).heap.size := by simp
        have H := hid (show fillL [] true = 1 :: List.replicate 8 0 from rfl)
        clear RV H1 d1 hm8 HX x0 h3 h0 hl h2
        cases a
        all_goals
          go_wp2_with fail
          go_loopw [5] (fun u wr => ∃ j : Nat, j ≤ 8 ∧ Own wr w1.heap.size u ((1 : Int) :: (List.replicate j 0)) ∧ Below w1.heap.size w1 wr ∧ w1.heap.size < wr.heap.size) (fun u _ => 9 - (lenV u))
          case atStart => exact ⟨0, by omega, OS.out, BS.out, ZS⟩
          case round =>
            obtain ⟨j, hj, ho, hB, hz⟩ := hrel
            obtain ⟨au, cu, hu, _⟩ := own_form ho
            subst hu
            have hn : ((1 : Int) :: (List.replicate j 0)).length = j + 1 := by simp
            rw [hn] at ho
            have HN := hid hn
            have HO := hid ho
            have HR := own_ints ho
            rw [hn] at HR ⊢
            have HR := hid HR
            have HB := hid hB
            clear ho hB hn
            by_cases hlt : j < 8
            · go_wp2_with (at_builtin; go_must (refine wpList_append_lies _ (by rfl) _ _ 22 (by rfl) w1.heap.size 5 ti (.int .u8 0) 1 1 Try.underlying22 hti htz hts htb rfl (by omega) _ (j + 1) (((1 : Int) :: (List.replicate j 0)).map (Value.int .u8)) (by rfl) (HR.out.alloc _) ⟨wr.heap.size, 0, none⟩ 1 1 [.int .u8 0] (by rfl) rfl (cell_one_new _ _ _) (by intro y hy; simp at hy; subst hy; rfl) (by omega) (by unfold maxLen; omega) (by omega) (by simp; omega) (wr.heap.size + 1) (by simp) ?_))
              intro g cap2 w3 ho2 hg2 hat hlt2
              have hz3 := hg2.size
              simp at hz3
              have HB3 := hid ((HB.out.alloc (by omega) _).grown hg2 (by simp; omega) (by intro k hk; exact (HR.out.lt k hk).1))
              clear hg2
              go_wp2
              go_roundw
              case rel =>
                refine ⟨j + 1, by omega, ?_, HB3.out, by omega⟩
                have e : (1 : Int) :: (List.replicate (j + 1) 0) = ((1 : Int) :: (List.replicate j 0)) ++ [0] := by simp [List.replicate_succ']
                rw [e]
                exact own_more HO.out HN.out (by omega) (by omega) (by simpa using ho2)
              case measure => simp [lenV]; omega
            · have hj8 : j = 8 := by omega
              subst hj8
              have hq : ((8 : Nat) : Int) + 1 = 9 := by omega
              go_wp2
              go_ret
              refine ⟨_, rfl, ?_, HB.out⟩
              rw [H.out]
              exact HO.out

      · rcases h3 with rfl | ⟨b, off, rfl, hc⟩
        · simp at h0
        have O1 := hid (own_one w1 ((xs.length : Int) + 1) (by omega) (by omega))
        have HC := hid (news_rd (fun i hi => cell_keep (below_alloc1 w1 (.cells #[.int .u8 ((xs.length : Int) + 1)] 5)) (hc i hi)))
        have hp : 0 < xs.length := by omega
        clear hc
        go_wp2_with (at_builtin; go_must (refine wpList_append_lies _ (by rfl) _ _ 22 (by rfl) w1.heap.size 5 ti (.int .u8 0) 1 1 Try.underlying22 hti htz hts htb rfl (by omega) _ 1 [.int .u8 ((xs.length : Int) + 1)] (by rfl) (own_ints O1.out) ⟨b, off, none⟩ xs.length cap (xs.map (Value.int .u8)) (by rfl) (by simp) HC.out (by intro y hy; simp at hy; obtain ⟨z, _, rfl⟩ := hy; rfl) hp (by unfold maxLen; omega) (by omega) (by simp) (w1.heap.size + 1) (by simp) ?_))
        intro g cap2 w3 ho2 hg2 hat hlt2
        have ZS : w1.heap.size < w3.heap.size := by have := hg2.size; simp at this; omega
        have BS := hid ((below_alloc1 w1 (.cells #[.int .u8 ((xs.length : Int) + 1)] 5)).grown hg2 (by simp) (by intro k hk; exact ((own_ints O1.out).lt k hk).1))
        have OS := hid (show Own w3 w1.heap.size (.slice (some ⟨g, 0, none⟩) (1 + xs.length) cap2) (((xs.length : Int) + 1) :: xs) from by
          refine ⟨?_, ?_⟩
          · intro y hy
            rcases List.mem_cons.1 hy with hy | hy
            · omega
            · exact H1.out y hy
          · have e : (((xs.length : Int) + 1) :: xs).length = 1 + xs.length := by simp; omega
            rw [e]; exact ho2)
        clear ho2 hg2 O1 HC
        go_wp2_with fail
        go_loopw [5] (fun u wr => ∃ j : Nat, xs.length + j ≤ 8 ∧ Own wr w1.heap.size u (((xs.length : Int) + 1) :: (xs ++ List.replicate j 0)) ∧ Below w1.heap.size w1 wr ∧ w1.heap.size < wr.heap.size) (fun u _ => 9 - (lenV u))
        case atStart => exact ⟨0, by omega, by simpa using OS.out, BS.out, ZS⟩
        case round =>
          obtain ⟨j, hj, ho, hB, hz⟩ := hrel
          obtain ⟨au, cu, hu, _⟩ := own_form ho
          subst hu
          have hn : (((xs.length : Int) + 1) :: (xs ++ List.replicate j 0)).length = xs.length + j + 1 := by simp
          rw [hn] at ho
          have HN := hid hn
          have HO := hid ho
          have HR := own_ints ho
          rw [hn] at HR ⊢
          have HR := hid HR
          have HB := hid hB
          clear ho hB hn
          by_cases hlt : xs.length + j < 8
          · go_wp2_with (at_builtin; go_must (refine wpList_append_lies _ (by rfl) _ _ 22 (by rfl) w1.heap.size 5 ti (.int .u8 0) 1 1 Try.underlying22 hti htz hts htb rfl (by omega) _ (xs.length + j + 1) ((((xs.length : Int) + 1) :: (xs ++ List.replicate j 0)).map (Value.int .u8)) (by rfl) (HR.out.alloc _) ⟨wr.heap.size, 0, none⟩ 1 1 [.int .u8 0] (by rfl) rfl (cell_one_new _ _ _) (by intro y hy; simp at hy; subst hy; rfl) (by omega) (by unfold maxLen; omega) (by omega) (by simp; omega) (wr.heap.size + 1) (by simp) ?_))
            intro g cap2 w3 ho2 hg2 hat hlt2
            have hz3 := hg2.size
            simp at hz3
            have HB3 := hid ((HB.out.alloc (by omega) _).grown hg2 (by simp; omega) (by intro k hk; exact (HR.out.lt k hk).1))
            clear hg2
            go_wp2
            go_roundw
            case rel =>
              refine ⟨j + 1, by omega, ?_, HB3.out, by omega⟩
              have e : ((xs.length : Int) + 1) :: (xs ++ List.replicate (j + 1) 0) = (((xs.length : Int) + 1) :: (xs ++ List.replicate j 0)) ++ [0] := by simp [List.replicate_succ']
              rw [e]
              exact own_more HO.out HN.out (by omega) (by omega) (by simpa using ho2)
            case measure => simp [lenV]; omega
          · have hj8 : j = 8 - xs.length := by omega
            subst hj8
            have hq : (xs.length : Int) + ((8 - xs.length : Nat) : Int) + 1 = 9 := by omega
            go_wp2
            go_ret
            refine ⟨_, rfl, ?_, HB.out⟩
            rw [H.out]
            exact HO.out

end Go.Proofs.Ytbmjaiojeehifaa
