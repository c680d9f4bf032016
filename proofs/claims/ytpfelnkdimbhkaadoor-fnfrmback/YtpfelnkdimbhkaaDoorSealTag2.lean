/- The contracts of SealTag, of the program and of the specification. Conditions: head and body read as bytes. -/
import Derived.Test.YtpfelnkdimbhkaaDoorSealTag
namespace Go.Proofs.YtpfelnkdimbhkaaDoor
open Go.ChangeShapes Go.WideShapes Go.ChangeAt Go.RowKit Go.Joins Go.Deep
set_option linter.unusedVariables false
set_option maxRecDepth 4000

def raised (m : Int) (xs : List Int) : List Nat := xs.map fun x => (m + x).toNat
def tag1 (key seq : Int) : Nat := mixN (mixN key.toNat (300000 + seq).toNat) 11
def tag2 (key seq : Int) (hs : List Int) : Nat := mixN (tag1 key seq) (400000 + hs.length)
def tag3 (key seq : Int) (hs : List Int) : Nat := (raised 1 hs).foldl mixN (tag2 key seq hs)
def tag4 (key seq : Int) (hs cs : List Int) : Nat := mixN (tag3 key seq hs) (500000 + cs.length)
def tag5 (key seq : Int) (hs cs : List Int) : Nat := (raised 600 cs).foldl mixN (tag4 key seq hs cs)
/-- the tag of a head and a hidden body; 0, if they may not be sealed -/
def tagV (key seq : Int) (hs cs : List Int) : Int := if mayB key seq hs.length cs.length then ((tag5 key seq hs cs : Nat) : Int) else 0
theorem tag1_lt (key seq : Int) : tag1 key seq < 4294967296 := mixN_lt _ _
theorem tag2_lt (key seq : Int) (hs : List Int) : tag2 key seq hs < 4294967296 := mixN_lt _ _
theorem tag3_lt (key seq : Int) (hs : List Int) : tag3 key seq hs < 4294967296 := foldl_lt _ _ (tag2_lt _ _ _)
theorem tag4_lt (key seq : Int) (hs cs : List Int) : tag4 key seq hs cs < 4294967296 := mixN_lt _ _
theorem tag5_lt (key seq : Int) (hs cs : List Int) : tag5 key seq hs cs < 4294967296 := foldl_lt _ _ (tag4_lt _ _ _ _)
theorem raised_snoc (m : Int) (xs : List Int) (x k : Nat) (h : k < xs.length) : (raised m (xs.take (k + 1))).foldl mixN x = mixN ((raised m (xs.take k)).foldl mixN x) (m + xs.getD k 0).toNat := by
  unfold raised
  rw [List.take_succ_eq_append_getElem h, List.map_append, List.foldl_append]; simp [h]

set_option maxHeartbeats 2000000 in
theorem specTag_any (key seq : Int) (v u : Value) (hs cs : List Int) (w : World) (hv : Rd w v hs) (hu : Rd w u cs) :
    Calls Tryd.prog 53 #[.int .i64 key, .int .i64 seq, v, u] w fun e w' => e = .returned (.int .i64 (tagV key seq hs cs)) ∧ w' = w := by
  obtain ⟨h1, h2, a, cap, rfl, h3⟩ := hv
  obtain ⟨h1', h2', a', cap', rfl, h3'⟩ := hu
  cases hm : mayB key seq hs.length cs.length
  · have H := hid (show tagV key seq hs cs = 0 by simp [tagV, hm])
    clear h1 h1' h3 h3'
    go_enter Tryd.func53, Tryd.ntmps53
    go_wp2_with fail
    refine (l3Ok_any _ _ _ _ _ _ _ _ _ h2 h2').mono ?_
    rintro e w1 ⟨rfl, rfl⟩
    rw [hm]
    go_wp2
    go_ret
    exact ⟨ret_int H.out.symm, rfl⟩
  · have H := hid (show tagV key seq hs cs = ((tag5 key seq hs cs : Nat) : Int) by simp [tagV, hm])
    obtain ⟨⟨k0, k1⟩, ⟨s0, s1⟩, n1, n2⟩ := mayB_iff.1 hm
    have m1 := mixN_lt key.toNat (300000 + seq).toNat
    have m2 := tag1_lt key seq
    have m3 := tag2_lt key seq hs
    have T1 := hid (show tag1 key seq = mixN (mixN key.toNat (300000 + seq).toNat) 11 from rfl)
    have T2 := hid (show tag2 key seq hs = mixN (tag1 key seq) (400000 + hs.length) from rfl)
    go_enter Tryd.func53, Tryd.ntmps53
    go_wp2_with fail
    refine (l3Ok_any _ _ _ _ _ _ _ _ _ h2 h2').mono ?_
    rintro e w1 ⟨rfl, rfl⟩
    rw [hm]
    clear hm
    go_wp2_with fail
    refine (l3Mix_int _ _ _ (by omega) (by omega) (by omega) (by omega)).mono ?_
    rintro e w1 ⟨rfl, rfl⟩
    go_wp2_with fail
    refine (l3Mix_int _ _ _ (by omega) (by omega) (by omega) (by omega)).mono ?_
    rintro e w1 ⟨rfl, rfl⟩
    rw [Int.toNat_natCast, show (11 : Int).toNat = 11 from rfl, ← T1.out]
    go_wp2_with fail
    refine (l3Mix_int _ _ _ (by omega) (by omega) (by omega) (by omega)).mono ?_
    rintro e w1 ⟨rfl, rfl⟩
    rw [Int.toNat_natCast, show (400000 + (hs.length : Int)).toNat = 400000 + hs.length from by omega, ← T2.out]
    go_wp2_with fail
    go_loop [9, 10] (fun x i => ∃ k : Nat, k ≤ hs.length ∧ i = .int .i64 k ∧ x = .int .i64 (((raised 1 (hs.take k)).foldl mixN (tag2 key seq hs) : Nat) : Int)) (fun _ i => hs.length - (intOf i).toNat)
    case atStart => exact ⟨0, Nat.zero_le _, rfl, rfl⟩
    case round =>
      obtain ⟨k, hk, rfl, rfl⟩ := hrel
      by_cases hlt : k < hs.length
      · rcases h3 with rfl | ⟨b, off, rfl, hc⟩
        · simp at hlt
        have hcx := hc k hlt
        have hx := h1 (hs.getD k 0) (by rw [List.getD_eq_getElem?_getD, List.getElem?_eq_getElem hlt]; exact List.getElem_mem hlt)
        have HS := hid (raised_snoc 1 hs (tag2 key seq hs) k hlt)
        have hF := foldl_lt (raised 1 (hs.take k)) (tag2 key seq hs) (by omega)
        generalize (raised 1 (hs.take k)).foldl mixN (tag2 key seq hs) = F at *
        generalize hs.getD k 0 = X at *
        obtain ⟨x0, x1⟩ := hx
        clear hc h1 h1'
        go_wp2_with fail
        refine (l3Mix_int _ _ _ (by omega) (by omega) (by omega) (by omega)).mono ?_
        rintro e w1 ⟨rfl, rfl⟩
        rw [Int.toNat_natCast]
        go_wp2
        go_round
        case rel => exact ⟨k + 1, by omega, by go_num, by rw [HS.out]⟩
        case measure => simp [intOf]; omega
      · have hkl : k = hs.length := by omega
        subst hkl
        rw [List.take_length]
        have T3 := hid (show tag3 key seq hs = (raised 1 hs).foldl mixN (tag2 key seq hs) from rfl)
        have T4 := hid (show tag4 key seq hs cs = mixN (tag3 key seq hs) (500000 + cs.length) from rfl)
        have m4 := tag3_lt key seq hs
        have m5 := tag4_lt key seq hs cs
        rw [← T3.out]
        clear h1 h3
        go_wp2_with fail
        refine (l3Mix_int _ _ _ (by omega) (by omega) (by omega) (by omega)).mono ?_
        rintro e w1 ⟨rfl, rfl⟩
        rw [Int.toNat_natCast, show (500000 + (cs.length : Int)).toNat = 500000 + cs.length from by omega, ← T4.out]
        go_wp2_with fail
        go_loop [9, 11] (fun x i => ∃ k : Nat, k ≤ cs.length ∧ i = .int .i64 k ∧ x = .int .i64 (((raised 600 (cs.take k)).foldl mixN (tag4 key seq hs cs) : Nat) : Int)) (fun _ i => cs.length - (intOf i).toNat)
        case atStart => exact ⟨0, Nat.zero_le _, rfl, rfl⟩
        case round =>
          obtain ⟨k, hk, rfl, rfl⟩ := hrel
          by_cases hlt : k < cs.length
          · rcases h3' with rfl | ⟨b, off, rfl, hc⟩
            · simp at hlt
            have hcx := hc k hlt
            have hx := h1' (cs.getD k 0) (by rw [List.getD_eq_getElem?_getD, List.getElem?_eq_getElem hlt]; exact List.getElem_mem hlt)
            have HS := hid (raised_snoc 600 cs (tag4 key seq hs cs) k hlt)
            have hF := foldl_lt (raised 600 (cs.take k)) (tag4 key seq hs cs) (by omega)
            generalize (raised 600 (cs.take k)).foldl mixN (tag4 key seq hs cs) = F at *
            generalize cs.getD k 0 = X at *
            obtain ⟨x0, x1⟩ := hx
            clear hc h1'
            go_wp2_with fail
            refine (l3Mix_int _ _ _ (by omega) (by omega) (by omega) (by omega)).mono ?_
            rintro e w1 ⟨rfl, rfl⟩
            rw [Int.toNat_natCast]
            go_wp2
            go_round
            case rel => exact ⟨k + 1, by omega, by go_num, by rw [HS.out]⟩
            case measure => simp [intOf]; omega
          · have hkl : k = cs.length := by omega
            subst hkl
            rw [List.take_length]
            have T5 := hid (show tag5 key seq hs cs = (raised 600 cs).foldl mixN (tag4 key seq hs cs) from rfl)
            rw [← T5.out]
            clear h1' h3'
            go_wp2
            go_ret
            exact ⟨ret_int H.out.symm, rfl⟩
end Go.Proofs.YtpfelnkdimbhkaaDoor
