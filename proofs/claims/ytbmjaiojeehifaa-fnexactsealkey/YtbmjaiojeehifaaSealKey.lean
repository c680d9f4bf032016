/- SealKey answers at every argument as the specification does. No conditions. -/
import Derived.Test.YtbmjaiojeehifaaInBase
import Derived.Test.YtbmjaiojeehifaaSealSum
namespace Go.Proofs.Ytbmjaiojeehifaa
open Go.ChangeShapes Go.WideShapes Go.ChangeAt Go.RowKit Go.Joins
set_option linter.unusedVariables false

theorem all_take_succ (ys : List Int) (p : Int → Bool) (k : Nat) (h : k < ys.length) : (ys.take (k + 1)).all p = ((ys.take k).all p && p (ys.getD k 0)) := by
  rw [List.take_succ_eq_append_getElem h, List.all_append]; simp [h]

set_option maxHeartbeats 1000000 in
theorem allUpTo_any (hi : Int) (ys : List Int) (b off cap : Nat) (w : World) (hl : ∀ i, i < ys.length → w.cell? ⟨b, off + i, none⟩ = some (.int .i64 (ys.getD i 0))) (hlen : ys.length < 1000000) :
    Calls Try.prog 63 #[.int .i64 hi, .slice (some ⟨b, off, none⟩) ys.length cap] w fun e w' => e = .returned (.bool (ys.all fun y => inB y 0 hi)) ∧ w' = w := by
  go_enter Try.func63, Try.ntmps63
  go_wp2_with fail
  go_loop [9] (fun i => ∃ k : Nat, k ≤ ys.length ∧ i = .int .i64 k ∧ (ys.take k).all (fun y => inB y 0 hi) = true) (fun i => ys.length - (intOf i).toNat)
  case atStart => exact ⟨0, Nat.zero_le _, rfl, rfl⟩
  case round =>
    obtain ⟨k, hk, rfl, hall⟩ := hrel
    by_cases hlt : k < ys.length
    · have hcx := hl k hlt
      have HS := hid (all_take_succ ys (fun y => inB y 0 hi) k hlt)
      have HA := hid hall
      have hq : ∃ y, y = ys.getD k 0 := ⟨_, rfl⟩
      obtain ⟨y, hy⟩ := hq
      rw [← hy] at hcx
      have HY := hid hy
      clear hl hall hy
      cases hb : inB y 0 hi
      · go_wp2_with (go_at_call 60; refine (within_any _ _ _ _).mono ?_; rintro e w' ⟨rfl, rfl⟩)
        go_ret
        refine ⟨ret_bool ?_, rfl⟩
        have h2 : inB (ys.getD k 0) 0 hi = false := by rw [← HY.out]; exact hb
        have h3 : ys.getD k 0 ∈ ys := by rw [List.getD_eq_getElem?_getD, List.getElem?_eq_getElem hlt]; exact List.getElem_mem hlt
        exact (List.all_eq_false.2 ⟨_, h3, by rw [h2]; decide⟩).symm
      · go_wp2_with (go_at_call 60; refine (within_any _ _ _ _).mono ?_; rintro e w' ⟨rfl, rfl⟩)
        go_round
        case rel =>
          refine ⟨k + 1, by omega, by go_num, ?_⟩
          rw [HS.out, HA.out]
          show inB (ys.getD k 0) 0 hi = true
          rw [← HY.out]; exact hb
        case measure => simp [intOf]; omega
    · have hkl : k = ys.length := by omega
      subst hkl
      rw [List.take_length] at hall
      have HA := hid hall
      clear hall
      go_wp2
      go_ret
      exact ⟨ret_bool HA.out.symm, rfl⟩

theorem l3Mix_int (x y : Int) (w : World) (x0 : 0 ≤ x) (hx : x < 4294967296) (y0 : 0 ≤ y) (hy : y < 2147483648) :
    Calls Try.prog 62 #[.int .i64 x, .int .i64 y] w fun e w' => e = .returned (.int .i64 ((mixN x.toNat y.toNat : Nat) : Int)) ∧ w' = w := by
  obtain ⟨X, rfl⟩ := Int.eq_ofNat_of_zero_le x0
  obtain ⟨Y, rfl⟩ := Int.eq_ofNat_of_zero_le y0
  exact l3Mix_any X Y w (by omega) (by omega)

/-- whether what a key is of lies within its bounds -/
def keyOk (a b c d e f : Int) : Bool := inB a 0 4294967295 && (inB b 0 255 && (inB c 0 255 && (inB d 0 65535 && (inB e 0 65535 && inB f 0 255))))
def keyL (b c d e f : Int) : List Nat := [(1 + b).toNat, (300 + c).toNat, (1000 + d).toNat, (70000 + e).toNat, (140000 + f).toNat, 9]
def keyV (a b c d e f : Int) : Int := if keyOk a b c d e f then (((keyL b c d e f).foldl mixN a.toNat : Nat) : Int) else 0

theorem inB_iff {n lo hi : Int} : inB n lo hi = true ↔ lo ≤ n ∧ n ≤ hi := by simp [inB]

set_option maxHeartbeats 2000000 in
theorem specKey_any (a b c d e f : Int) (w : World) :
    Calls Try.prog 33 #[.int .i64 a, .int .i64 b, .int .i64 c, .int .i64 d, .int .i64 e, .int .i64 f] w fun x w' => x = .returned (.int .i64 (keyV a b c d e f)) ∧ w' = w := by
  cases h : keyOk a b c d e f
  · have H := hid (show keyV a b c d e f = 0 by simp [keyV, h])
    cases h1 : inB a 0 4294967295
    · clear h
      go_enter Try.func33, Try.ntmps33
      go_wp2_with (go_at_call 58; refine (l1In_any _ _ _ _).mono ?_; rintro e w' ⟨rfl, rfl⟩)
      go_ret
      exact ⟨ret_int H.out.symm, rfl⟩
    cases h2 : inB b 0 255
    · clear h
      go_enter Try.func33, Try.ntmps33
      go_wp2_with (go_at_call 58; refine (l1In_any _ _ _ _).mono ?_; rintro e w' ⟨rfl, rfl⟩)
      go_ret
      exact ⟨ret_int H.out.symm, rfl⟩
    cases h3 : inB c 0 255
    · clear h
      go_enter Try.func33, Try.ntmps33
      go_wp2_with (go_at_call 58; refine (l1In_any _ _ _ _).mono ?_; rintro e w' ⟨rfl, rfl⟩)
      go_ret
      exact ⟨ret_int H.out.symm, rfl⟩
    cases h4 : inB d 0 65535
    · clear h
      go_enter Try.func33, Try.ntmps33
      go_wp2_with (go_at_call 58; refine (l1In_any _ _ _ _).mono ?_; rintro e w' ⟨rfl, rfl⟩)
      go_ret
      exact ⟨ret_int H.out.symm, rfl⟩
    cases h5 : inB e 0 65535
    · clear h
      go_enter Try.func33, Try.ntmps33
      go_wp2_with (go_at_call 58; refine (l1In_any _ _ _ _).mono ?_; rintro e w' ⟨rfl, rfl⟩)
      go_ret
      exact ⟨ret_int H.out.symm, rfl⟩
    have h6 : inB f 0 255 = false := by simpa [keyOk, h1, h2, h3, h4, h5] using h
    clear h
    go_enter Try.func33, Try.ntmps33
    go_wp2_with (go_at_call 58; refine (l1In_any _ _ _ _).mono ?_; rintro e w' ⟨rfl, rfl⟩)
    go_ret
    exact ⟨ret_int H.out.symm, rfl⟩
  · have H := hid (show keyV a b c d e f = (((keyL b c d e f).foldl mixN a.toNat : Nat) : Int) by simp [keyV, h])
    simp only [keyOk, Bool.and_eq_true] at h
    obtain ⟨h1, h2, h3, h4, h5, h6⟩ := h
    have g1 := inB_iff.1 h1
    have g2 := inB_iff.1 h2
    have g3 := inB_iff.1 h3
    have g4 := inB_iff.1 h4
    have g5 := inB_iff.1 h5
    have g6 := inB_iff.1 h6
    have m1 := mixN_lt a.toNat (1 + b).toNat
    have m2 := mixN_lt (mixN a.toNat (1 + b).toNat) (300 + c).toNat
    have m3 := mixN_lt (mixN (mixN a.toNat (1 + b).toNat) (300 + c).toNat) (1000 + d).toNat
    have m4 := mixN_lt (mixN (mixN (mixN a.toNat (1 + b).toNat) (300 + c).toNat) (1000 + d).toNat) (70000 + e).toNat
    have m5 := mixN_lt (mixN (mixN (mixN (mixN a.toNat (1 + b).toNat) (300 + c).toNat) (1000 + d).toNat) (70000 + e).toNat) (140000 + f).toNat
    go_enter Try.func33, Try.ntmps33
    go_wp2_with (first | (go_at_call 58; refine (l1In_any _ _ _ _).mono ?_; rintro e w' ⟨rfl, rfl⟩) | (go_at_call 62; refine (l3Mix_int _ _ _ (by omega) (by omega) (by omega) (by omega)).mono ?_; rintro e w' ⟨rfl, rfl⟩))
    go_ret
    exact ⟨ret_int H.out.symm, rfl⟩
end Go.Proofs.Ytbmjaiojeehifaa
