/- The contracts of hiding a body, of the program and of the specification. Conditions: key and number lie within their bounds, the body reads as bytes and has at most 100 of them. -/
import Derived.Test.YtpfelnkdimbhkaaDoorSealTag3
import Derived.Test.YtpfelnkdimbhkaaDoorBytPutSpec
import Derived.Deep.RegionHeld3
namespace Go.Proofs.YtpfelnkdimbhkaaDoor
open Go.ChangeShapes Go.WideShapes Go.ChangeAt Go.RowKit Go.Joins Go.Deep
set_option linter.unusedVariables false
set_option maxRecDepth 4000

/-- the start of the stream, and the hidden body -/
def strS (key seq : Int) : Nat := mixN key.toNat (500 + seq).toNat
def hidL (S : Nat) (xs : List Int) : List Int := (List.range xs.length).map fun (k : Nat) => (((xs.getD k 0).toNat ^^^ (mixN S (200000 + k) % 256) : Nat) : Int)
theorem strS_lt (key seq : Int) : strS key seq < 4294967296 := mixN_lt _ _
theorem hidL_len (S : Nat) (xs : List Int) : (hidL S xs).length = xs.length := by simp [hidL]
theorem xor8_lt (a b : Nat) (ha : a < 256) (hb : b < 256) : a ^^^ b < 256 := Nat.xor_lt_two_pow (n := 8) ha hb
theorem hidL_in (S : Nat) (xs : List Int) (h : ∀ x ∈ xs, 0 ≤ x ∧ x ≤ 255) : ∀ x ∈ hidL S xs, 0 ≤ x ∧ x ≤ 255 := by
  intro x hx
  simp only [hidL, List.mem_map, List.mem_range] at hx
  obtain ⟨k, hk, rfl⟩ := hx
  have h5 := h xs[k] (List.getElem_mem hk)
  have e : xs.getD k 0 = xs[k] := by simp [hk]
  have h6 := xor8_lt (xs.getD k 0).toNat (mixN S (200000 + k) % 256) (by rw [e]; omega) (Nat.mod_lt _ (by omega))
  omega
theorem hidL_snoc (S : Nat) (xs : List Int) (k : Nat) (h : k < xs.length) : (hidL S xs).take (k + 1) = (hidL S xs).take k ++ [(((xs.getD k 0).toNat ^^^ (mixN S (200000 + k) % 256) : Nat) : Int)] := by
  rw [List.take_succ_eq_append_getElem (by rw [hidL_len]; exact h)]
  simp [hidL]

theorem mix_int (x : Nat) (y : Int) (g : Nat) (w : World) (hx : x < 4294967296) (y0 : 0 ≤ y) (hy : y < 2147483648) (hc : w.cell? ⟨g, 0, none⟩ = some (.int .u32 x)) (hf : w.frozen? ⟨g, 0, none⟩ = false) :
    Calls Tryd.prog 57 #[.pointer (some ⟨g, 0, none⟩), .int .i64 y] w fun e w' => e = .returned (.tuple #[]) ∧ w' = w.setCell ⟨g, 0, none⟩ (.int .u32 ((mixN x y.toNat : Nat) : Int)) := by
  obtain ⟨Y, rfl⟩ := Int.eq_ofNat_of_zero_le y0
  exact mix_any x Y g w hx (by omega) hc hf

theorem xor_u8 (X : Int) (T : Nat) (x0 : 0 ≤ X) (x1 : X ≤ 255) : ∃ Z : Int, Z = ((X.toNat ^^^ (T % 256) : Nat) : Int) ∧ 0 ≤ Z ∧ Z ≤ 255 ∧ bits .xor .u8 X ((T : Int) % 256) = Z := by
  have h := u8_xor X ((T : Int) % 256) x0 (by omega) (by omega) (by omega)
  have e : ((T : Int) % 256).toNat = T % 256 := by omega
  rw [e] at h
  have h2 := xor8_lt X.toNat (T % 256) (by omega) (Nat.mod_lt _ (by omega))
  exact ⟨_, rfl, by omega, by omega, h⟩

set_option maxHeartbeats 2000000 in
theorem sealHidden_any (key seq : Int) (v : Value) (xs : List Int) (w : World) (hv : Rd w v xs) (hl : xs.length ≤ 100) (k0 : 0 ≤ key) (k1 : key ≤ 4294967295) (s0 : 0 ≤ seq) (s1 : seq ≤ 65535) :
    Calls Tryd.prog 50 #[.int .i64 key, .int .i64 seq, v] w fun e w' => ∃ v', e = .returned v' ∧ Own w' w.heap.size v' (hidL (strS key seq) xs) ∧ Below w.heap.size w w' := by
  have RV := hid hv
  obtain ⟨h1, h2, a, cap, rfl, h3⟩ := hv
  obtain ⟨ti, hti, htz, hts, htb⟩ := info8'
  obtain ⟨K, rfl⟩ := Int.eq_ofNat_of_zero_le k0
  have hmk := run_make_cap (P := Tryd.prog) 22 5 (.int .u8 0) 1 Tryd.underlying22 info8 rfl .i64 .i64 (xs.length + 4) (by omega) (by omega)
  rw [show ((xs.length + 4 : Nat) : Int) = (xs.length : Int) + 4 from by omega] at hmk
  have hS := strS_lt K seq
  have ES := hid (show strS K seq = mixN K (500 + seq).toNat from rfl)
  go_enter Tryd.func50, Tryd.ntmps50
  go_wp2_with fail
  refine (mix_int K _ _ _ (by omega) (by omega) (by omega) (by go_simp) (by go_simp)).mono ?_
  rintro e w1 ⟨rfl, rfl⟩
  rw [← ES.out]
  obtain ⟨S, hSS⟩ : ∃ S, S = strS K seq := ⟨_, rfl⟩
  rw [← hSS] at hS ⊢
  have HSS := hid hSS
  clear ES hSS
  go_wp2_with fail
  go_loopw [8, 24] (fun u i wr => ∃ k : Nat, k ≤ xs.length ∧ i = .int .i64 k ∧ Own wr (w.heap.size + 1) u ((hidL S xs).take k) ∧ wr.cell? ⟨w.heap.size, 0, none⟩ = some (.int .u32 S) ∧ Below w.heap.size w wr ∧ w.heap.size + 1 < wr.heap.size) (fun _ i _ => xs.length - (intOf i).toNat)
  case atStart =>
    refine ⟨0, Nat.zero_le _, rfl, ⟨by simp, ?_⟩, by go_simp, by (repeat' (first | exact Below.refl _ _ | assumption | exact Nat.le_refl _ | (refine Below.alloc ?_ ?_ _) | (refine Below.drew ?_) | (refine Below.setCell ?_ ?_ _) | (refine Below.trans ?_ (Below.mono (by assumption) ?_)) | (simp; done) | (simp; omega) | omega)), by simp⟩
    simpa using World.ownsRow_made (e := 5) (size := 1) (base := w.heap.size + 1) (w.alloc (.cells #[.int .u32 S] 72)) (madeCells #[.int .u8 0] (xs.length + 4)) (xs.length + 4) (by simp) (by unfold maxLen; omega) (by rw [size_madeCells]; omega)
  case round =>
    obtain ⟨k, hk, rfl, ho, hcS, hB, hz⟩ := hrel
    by_cases hlt : k < xs.length
    · rcases h3 with rfl | ⟨b, off, rfl, hc⟩
      · simp at hlt
      have hcx := cell_keep hB (hc k hlt)
      have hx := h1 (xs.getD k 0) (by rw [List.getD_eq_getElem?_getD, List.getElem?_eq_getElem hlt]; exact List.getElem_mem hlt)
      have HS := hid (hidL_snoc S xs k hlt)
      generalize xs.getD k 0 = X at hcx hx HS
      obtain ⟨x0, x1⟩ := hx
      have hm : ((hidL S xs).take k).length = k := by simp [hidL_len]; omega
      have HM := hid hm
      have HR := own_ints ho
      rw [hm] at HR
      have HR := hid HR
      have HB := hid hB
      have HO := hid ho
      have hT := mixN_lt S (200000 + k)
      obtain ⟨Z, hZ, z0, z1, hxor⟩ := xor_u8 X (mixN S (200000 + k)) x0 x1
      rw [← hZ] at HS
      have HZ := hid hZ
      clear hc h1 hB ho hmk hm hZ
      go_wp2_with fail
      refine (mix_int S _ _ _ hS (by omega) (by omega) (by go_simp) (by go_simp)).mono ?_
      rintro e w2 ⟨rfl, rfl⟩
      rw [show (200000 + (k : Int)).toNat = 200000 + k from by omega]
      generalize mixN S (200000 + k) = T at *
      go_wp2_with (at_builtin; go_must (refine wpList_append_lies _ (by rfl) _ _ 22 (by rfl) (w.heap.size + 1) 5 ti (.int .u8 0) 1 1 Tryd.underlying22 hti htz hts htb rfl (by omega) _ k (((hidL S xs).take k).map (Value.int .u8)) (by rfl) ((HR.out.alloc _).alloc _) ⟨wr.heap.size + 1, 0, none⟩ 1 1 [.int .u8 Z] (by rfl) rfl (by simpa using cell_one_new (wr.alloc _) (.int .u8 Z) 5) (by intro y hy; simp at hy; subst hy; rfl) (by omega) (by unfold maxLen; omega) (by omega) (by simp; omega) (wr.heap.size + 1 + 1) (by simp) ?_))
      intro g cap2 w3 ho2 hg2 hat hlt2
      have hne : some w.heap.size ≠ Value.ownBlock _ := fun h => absurd ((HR.out.lt _ h.symm).1) (by omega)
      have hcS2 := hg2.cell (cell_keep ((below_alloc1 _ _).alloc (by simp) _) hcS) hne
      have hz3 := hg2.size
      simp at hz3
      have HB3 := hid (((HB.out.alloc (by omega) _).alloc (by simp; omega) _).grown hg2 (by simp; omega) (by intro j hj; have := (HR.out.lt j hj).1; omega))
      clear hg2 hne
      go_wp2
      go_roundw
      case rel =>
        refine ⟨k + 1, by omega, by go_num, ?_, hcS2, HB3.out, by omega⟩
        rw [HS.out]
        rw [← List.map_take] at ho2
        exact own_more HO.out HM.out z0 z1 ho2
      case measure => simp [intOf]; omega
    · have hkl : k = xs.length := by omega
      subst hkl
      rw [List.take_of_length_le (by rw [hidL_len]; exact Nat.le_refl _)] at ho
      have HO := hid ho
      have HB := hid hB
      clear h3 h1 ho hB hmk
      go_wp2
      go_ret
      refine ⟨_, rfl, ?_, HB.out⟩
      rw [← HSS.out]
      exact ⟨HO.out.1, ownsRow_le HO.out.2 (by omega)⟩

theorem l3Stream_any (key seq k : Int) (w : World) (k0 : 0 ≤ key) (k1 : key ≤ 4294967295) (s0 : 0 ≤ seq) (s1 : seq ≤ 65535) (j0 : 0 ≤ k) (j1 : k ≤ 2000000) :
    Calls Tryd.prog 73 #[.int .i64 key, .int .i64 seq, .int .i64 k] w fun e w' => e = .returned (.int .i64 ((mixN (strS key seq) (200000 + k).toNat % 256 : Nat) : Int)) ∧ w' = w := by
  have hS := strS_lt key seq
  have ES := hid (show strS key seq = mixN key.toNat (500 + seq).toNat from rfl)
  have hT := mixN_lt (strS key seq) (200000 + k).toNat
  go_enter Tryd.func73, Tryd.ntmps73
  go_wp2_with fail
  refine (l3Mix_int _ _ _ (by omega) (by omega) (by omega) (by omega)).mono ?_
  rintro e w1 ⟨rfl, rfl⟩
  rw [← ES.out]
  go_wp2_with fail
  refine (l3Mix_int _ _ _ (by omega) (by omega) (by omega) (by omega)).mono ?_
  rintro e w1 ⟨rfl, rfl⟩
  rw [Int.toNat_natCast]
  obtain ⟨T, hTT⟩ : ∃ T, T = mixN (strS key seq) (200000 + k).toNat := ⟨_, rfl⟩
  rw [← hTT] at hT ⊢
  have HT := hid hTT
  clear hTT
  go_wp2
  go_ret
  exact ⟨ret_int (by rw [← HT.out]; omega), rfl⟩

set_option maxHeartbeats 2000000 in
theorem l3Hide_any (key seq : Int) (v : Value) (xs : List Int) (w : World) (hv : Rd w v xs) (hl : xs.length ≤ 100) (k0 : 0 ≤ key) (k1 : key ≤ 4294967295) (s0 : 0 ≤ seq) (s1 : seq ≤ 65535) :
    Calls Tryd.prog 52 #[.int .i64 key, .int .i64 seq, v] w fun e w' => ∃ v', e = .returned v' ∧ Own w' w.heap.size v' (hidL (strS key seq) xs) ∧ Below w.heap.size w w' := by
  obtain ⟨h1, h2, a, cap, rfl, h3⟩ := hv
  obtain ⟨ti, hti, htz, hts, htb⟩ := info8'
  go_enter Tryd.func52, Tryd.ntmps52
  go_wp2_with fail
  go_loopw [7, 8] (fun u i wr => ∃ k : Nat, k ≤ xs.length ∧ i = .int .i64 k ∧ Own wr w.heap.size u ((hidL (strS key seq) xs).take k) ∧ Below w.heap.size w wr ∧ w.heap.size < wr.heap.size) (fun _ i _ => xs.length - (intOf i).toNat)
  case atStart => exact ⟨0, Nat.zero_le _, rfl, ⟨by simp, by simpa using World.ownsRow_made _ _ _ (Nat.le_refl _) (by unfold maxLen; omega) (by simp)⟩, below_alloc1 _ _, by simp⟩
  case round =>
    obtain ⟨k, hk, rfl, ho, hB, hz⟩ := hrel
    by_cases hlt : k < xs.length
    · rcases h3 with rfl | ⟨b, off, rfl, hc⟩
      · simp at hlt
      have hcx := cell_keep hB (hc k hlt)
      have hx := h1 (xs.getD k 0) (by rw [List.getD_eq_getElem?_getD, List.getElem?_eq_getElem hlt]; exact List.getElem_mem hlt)
      have HS := hid (hidL_snoc (strS key seq) xs k hlt)
      generalize xs.getD k 0 = X at hcx hx HS
      obtain ⟨x0, x1⟩ := hx
      have hm : ((hidL (strS key seq) xs).take k).length = k := by simp [hidL_len]; omega
      have HM := hid hm
      have HR := own_ints ho
      rw [hm] at HR
      have HR := hid HR
      have HB := hid hB
      have HO := hid ho
      obtain ⟨Z, hZ, z0, z1, hxor⟩ := xor_u8 X (mixN (strS key seq) (200000 + k)) x0 x1
      rw [← hZ] at HS
      have HZ := hid hZ
      have hw8 : IntKind.u8.wrap (((mixN (strS key seq) (200000 + k) : Nat) : Int) % 256) = ((mixN (strS key seq) (200000 + k) : Nat) : Int) % 256 := by rw [IntKind.wrap_u8]; omega
      have hbw : b < w.heap.size := World.block_lt_of_cell? w ⟨b, off + k, none⟩ (hc k hlt)
      have hne : some b ≠ Value.ownBlock _ := fun h => absurd ((HR.out.lt _ h.symm).1) (by omega)
      have q0 : (0 : Int) ≤ (k : Int) := by omega
      have q1 : (k : Int) < (xs.length : Int) := by omega
      clear hc h1 hB ho hm hZ
      go_wp2_with fail
      go_region_held3 (fun w' => w'.cell? ⟨b, off + k, none⟩ = some (.int .u8 X)) (first | (go_keep; done) | exact hg2.cell (cell_keep ((below_alloc1 _ _).drew) hcx) hne)
        (first | (go_at_call 73; refine (l3Stream_any _ _ _ _ k0 k1 s0 s1 (by omega) (by omega)).mono ?_; rintro e' w2 ⟨rfl, rfl⟩; rw [show (200000 + (k : Int)).toNat = 200000 + k from by omega, Int.natCast_emod]) | (refine step_append_lies _ (by rfl) _ _ 22 (by rfl) w.heap.size 5 ti (.int .u8 0) 1 1 Tryd.underlying22 hti htz hts htb rfl (by omega) _ k (((hidL (strS key seq) xs).take k).map (Value.int .u8)) (by rfl) (by exact own_drew (HR.out.alloc _)) ⟨wr.heap.size, 0, none⟩ 1 1 [.int .u8 Z] (by rfl) rfl (by exact cell_new1d _ _ _) (by intro y hy; simp at hy; subst hy; rfl) (by omega) (by unfold maxLen; omega) (by omega) (by simp; omega) (wr.heap.size + 1) (by simp) ?_; intro g cap2 w3 ho2 hg2 hat hlt2))
      all_goals
        have hz3 := hg2.size
        simp at hz3
        have HB3 := hid (((HB.out.alloc (by omega) _).drew).grown hg2 (by simp; omega) (by intro j hj; have := (HR.out.lt j hj).1; omega))
        clear hg2 hne
        go_wp2
        go_roundw
        case rel =>
          refine ⟨k + 1, by omega, by go_num, ?_, HB3.out, by omega⟩
          rw [HS.out]
          exact own_more HO.out HM.out z0 z1 ho2
        case measure => simp [intOf]; omega
    · have hkl : k = xs.length := by omega
      subst hkl
      rw [List.take_of_length_le (by rw [hidL_len]; exact Nat.le_refl _)] at ho
      have HO := hid ho
      have HB := hid hB
      clear h3 h1 ho hB
      go_wp2
      go_ret
      exact ⟨_, rfl, HO.out, HB.out⟩
end Go.Proofs.YtpfelnkdimbhkaaDoor
