/- Whether an ask is one that may be: the contracts of the program and of the specification. Conditions: the ask's bytes read. -/
import Derived.Test.YtbpomeegpkdekaaVmOk
import Derived.Test.YtbpomeegpkdekaaBytMsg
namespace Go.Proofs.Ytbpomeegpkdekaa
open Go.ChangeShapes Go.WideShapes Go.ChangeAt Go.RowKit Go.Joins Go.Deep
set_option linter.unusedVariables false
set_option linter.unusedSimpArgs false
set_option maxRecDepth 4000
/-- whether an ask may be -/
def askB (k y : Int) (bl : Nat) (t g f : Int) : Bool := inB k 0 5 && (inB y 0 9 && (decide (bl ≤ 8) && (inB t 0 255 && (inB g 0 3 && inB f 0 3))))
theorem rdI_two {w : World} {b : Nat} {x y : Int} (h0 : w.cell? ⟨b, 0, none⟩ = some (.int .i64 x)) (h1 : w.cell? ⟨b, 1, none⟩ = some (.int .i64 y)) : RdI 1 w (.slice (some ⟨b, 0, none⟩) 2 2) 2 [x, y] := by
  refine ⟨rfl, by omega, some ⟨b, 0, none⟩, 2, rfl, .inr ⟨b, 0, rfl, fun i hi => ?_⟩⟩
  match i, hi with
  | 0, _ => exact h0
  | 1, _ => exact h1
set_option maxHeartbeats 2000000 in
theorem may_any (k y t g f : Int) (ba : Option Addr) (bc : Nat) (bs : List Int) (w : World) (hb : Rd w (.slice ba bs.length bc) bs) :
    Calls Try.prog 64 #[.agg #[.int .i64 k, .int .i64 y, .slice ba bs.length bc, .int .i64 t, .int .i64 g, .int .i64 f]] w fun e w' => e = .returned (.bool (askB k y bs.length t g f)) ∧ Below w.heap.size w w' := by
  have RB := hid (hb.keep (below_alloc1 w (.cells #[.int .i64 k, .int .i64 y, .slice ba bs.length bc, .int .i64 t, .int .i64 g, .int .i64 f] 30)))
  have B1 := hid (below_alloc1 w (.cells #[.int .i64 k, .int .i64 y, .slice ba bs.length bc, .int .i64 t, .int .i64 g, .int .i64 f] 30))
  have B2 := hid ((below_alloc1 w (.cells #[.int .i64 k, .int .i64 y, .slice ba bs.length bc, .int .i64 t, .int .i64 g, .int .i64 f] 30)).trans ((below_alloc1 (w.alloc (.cells #[.int .i64 k, .int .i64 y, .slice ba bs.length bc, .int .i64 t, .int .i64 g, .int .i64 f] 30)) (.cells #[.int .i64 g, .int .i64 f] 3)).mono (by simp)))
  have HGF := hid (show (([g, f] : List Int).all fun y => inB y 0 3) = (inB g 0 3 && inB f 0 3) by simp)
  clear hb
  cases c0 : (inB k 0 5)
  · have H := hid (show askB k y bs.length t g f = false by simp [askB, c0]; try (intros; simpa using c0))
    go_enter Try.func64, Try.ntmps64
    go_wp2_with ((first | (go_at_call 62; refine (within_any _ _ _ _).mono ?_; rintro e w' ⟨rfl, rfl⟩) | (go_at_call 65; refine (implMsg_any _ bs _ RB.out).mono ?_; rintro e w' ⟨rfl, rfl⟩) | (go_at_call 63; refine (allUpTo_any 3 _ 2 [g, f] _ (rdI_two (by go_simp) (by go_simp))).mono ?_; rintro e w' ⟨rfl, rfl⟩; rw [HGF.out, c4, c5])))
    go_ret
    exact ⟨ret_bool H.out.symm, B1.out⟩
  cases c1 : (inB y 0 9)
  · have H := hid (show askB k y bs.length t g f = false by simp [askB, c1]; try (intros; simpa using c1))
    go_enter Try.func64, Try.ntmps64
    go_wp2_with ((first | (go_at_call 62; refine (within_any _ _ _ _).mono ?_; rintro e w' ⟨rfl, rfl⟩) | (go_at_call 65; refine (implMsg_any _ bs _ RB.out).mono ?_; rintro e w' ⟨rfl, rfl⟩) | (go_at_call 63; refine (allUpTo_any 3 _ 2 [g, f] _ (rdI_two (by go_simp) (by go_simp))).mono ?_; rintro e w' ⟨rfl, rfl⟩; rw [HGF.out, c4, c5])))
    go_ret
    exact ⟨ret_bool H.out.symm, B1.out⟩
  cases c2 : (decide (bs.length ≤ 8))
  · have H := hid (show askB k y bs.length t g f = false by simp [askB, c2])
    go_enter Try.func64, Try.ntmps64
    go_wp2_with ((first | (go_at_call 62; refine (within_any _ _ _ _).mono ?_; rintro e w' ⟨rfl, rfl⟩) | (go_at_call 65; refine (implMsg_any _ bs _ RB.out).mono ?_; rintro e w' ⟨rfl, rfl⟩) | (go_at_call 63; refine (allUpTo_any 3 _ 2 [g, f] _ (rdI_two (by go_simp) (by go_simp))).mono ?_; rintro e w' ⟨rfl, rfl⟩; rw [HGF.out, c4, c5])))
    go_ret
    exact ⟨ret_bool H.out.symm, B1.out⟩
  cases c3 : (inB t 0 255)
  · have H := hid (show askB k y bs.length t g f = false by simp [askB, c3]; try (intros; simpa using c3))
    go_enter Try.func64, Try.ntmps64
    go_wp2_with ((first | (go_at_call 62; refine (within_any _ _ _ _).mono ?_; rintro e w' ⟨rfl, rfl⟩) | (go_at_call 65; refine (implMsg_any _ bs _ RB.out).mono ?_; rintro e w' ⟨rfl, rfl⟩) | (go_at_call 63; refine (allUpTo_any 3 _ 2 [g, f] _ (rdI_two (by go_simp) (by go_simp))).mono ?_; rintro e w' ⟨rfl, rfl⟩; rw [HGF.out, c4, c5])))
    go_ret
    exact ⟨ret_bool H.out.symm, B1.out⟩
  cases c4 : (inB g 0 3) <;> cases c5 : (inB f 0 3)
  · have H := hid (show askB k y bs.length t g f = false by simp [askB, c0, c1, c3, c4, c5]; try simpa using c2)
    go_enter Try.func64, Try.ntmps64
    go_wp2_with ((first | (go_at_call 62; refine (within_any _ _ _ _).mono ?_; rintro e w' ⟨rfl, rfl⟩) | (go_at_call 65; refine (implMsg_any _ bs _ RB.out).mono ?_; rintro e w' ⟨rfl, rfl⟩) | (go_at_call 63; refine (allUpTo_any 3 _ 2 [g, f] _ (rdI_two (by go_simp) (by go_simp))).mono ?_; rintro e w' ⟨rfl, rfl⟩; rw [HGF.out, c4, c5])))
    go_ret
    exact ⟨ret_bool H.out.symm, B2.out⟩
  · have H := hid (show askB k y bs.length t g f = false by simp [askB, c0, c1, c3, c4, c5]; try simpa using c2)
    go_enter Try.func64, Try.ntmps64
    go_wp2_with ((first | (go_at_call 62; refine (within_any _ _ _ _).mono ?_; rintro e w' ⟨rfl, rfl⟩) | (go_at_call 65; refine (implMsg_any _ bs _ RB.out).mono ?_; rintro e w' ⟨rfl, rfl⟩) | (go_at_call 63; refine (allUpTo_any 3 _ 2 [g, f] _ (rdI_two (by go_simp) (by go_simp))).mono ?_; rintro e w' ⟨rfl, rfl⟩; rw [HGF.out, c4, c5])))
    go_ret
    exact ⟨ret_bool H.out.symm, B2.out⟩
  · have H := hid (show askB k y bs.length t g f = false by simp [askB, c0, c1, c3, c4, c5]; try simpa using c2)
    go_enter Try.func64, Try.ntmps64
    go_wp2_with ((first | (go_at_call 62; refine (within_any _ _ _ _).mono ?_; rintro e w' ⟨rfl, rfl⟩) | (go_at_call 65; refine (implMsg_any _ bs _ RB.out).mono ?_; rintro e w' ⟨rfl, rfl⟩) | (go_at_call 63; refine (allUpTo_any 3 _ 2 [g, f] _ (rdI_two (by go_simp) (by go_simp))).mono ?_; rintro e w' ⟨rfl, rfl⟩; rw [HGF.out, c4, c5])))
    go_ret
    exact ⟨ret_bool H.out.symm, B2.out⟩
  · have H := hid (show askB k y bs.length t g f = true by simp [askB, c0, c1, c3, c4, c5]; try simpa using c2)
    go_enter Try.func64, Try.ntmps64
    go_wp2_with ((first | (go_at_call 62; refine (within_any _ _ _ _).mono ?_; rintro e w' ⟨rfl, rfl⟩) | (go_at_call 65; refine (implMsg_any _ bs _ RB.out).mono ?_; rintro e w' ⟨rfl, rfl⟩) | (go_at_call 63; refine (allUpTo_any 3 _ 2 [g, f] _ (rdI_two (by go_simp) (by go_simp))).mono ?_; rintro e w' ⟨rfl, rfl⟩; rw [HGF.out, c4, c5])))
    go_ret
    exact ⟨ret_bool H.out.symm, B2.out⟩
set_option maxHeartbeats 2000000 in
theorem askOk_any (k y t g f : Int) (ba : Option Addr) (bc : Nat) (bs : List Int) (w : World) (hb : Rd w (.slice ba bs.length bc) bs) :
    Calls Try.prog 72 #[.agg #[.int .i64 k, .int .i64 y, .slice ba bs.length bc, .int .i64 t, .int .i64 g, .int .i64 f]] w fun e w' => e = .returned (.bool (askB k y bs.length t g f)) ∧ Below w.heap.size w w' := by
  have RB := hid (hb.keep (below_alloc1 w (.cells #[.int .i64 k, .int .i64 y, .slice ba bs.length bc, .int .i64 t, .int .i64 g, .int .i64 f] 30)))
  have B1 := hid (below_alloc1 w (.cells #[.int .i64 k, .int .i64 y, .slice ba bs.length bc, .int .i64 t, .int .i64 g, .int .i64 f] 30))
  have B2 := hid ((below_alloc1 w (.cells #[.int .i64 k, .int .i64 y, .slice ba bs.length bc, .int .i64 t, .int .i64 g, .int .i64 f] 30)).trans ((below_alloc1 (w.alloc (.cells #[.int .i64 k, .int .i64 y, .slice ba bs.length bc, .int .i64 t, .int .i64 g, .int .i64 f] 30)) (.cells #[.int .i64 g, .int .i64 f] 3)).mono (by simp)))
  have HGF := hid (show (([g, f] : List Int).all fun y => inB y 0 3) = (inB g 0 3 && inB f 0 3) by simp)
  clear hb
  cases c0 : (inB k 0 5)
  · have H := hid (show askB k y bs.length t g f = false by simp [askB, c0]; try (intros; simpa using c0))
    go_enter Try.func72, Try.ntmps72
    go_wp2_with ((first | (go_at_call 59; refine (l1In_any _ _ _ _).mono ?_; rintro e w' ⟨rfl, rfl⟩) | (go_at_call 73; refine (specMsg_any _ bs _ RB.out).mono ?_; rintro e w' ⟨rfl, rfl⟩)))
    go_ret
    exact ⟨ret_bool H.out.symm, B1.out⟩
  cases c1 : (inB y 0 9)
  · have H := hid (show askB k y bs.length t g f = false by simp [askB, c1]; try (intros; simpa using c1))
    go_enter Try.func72, Try.ntmps72
    go_wp2_with ((first | (go_at_call 59; refine (l1In_any _ _ _ _).mono ?_; rintro e w' ⟨rfl, rfl⟩) | (go_at_call 73; refine (specMsg_any _ bs _ RB.out).mono ?_; rintro e w' ⟨rfl, rfl⟩)))
    go_ret
    exact ⟨ret_bool H.out.symm, B1.out⟩
  cases c2 : (decide (bs.length ≤ 8))
  · have H := hid (show askB k y bs.length t g f = false by simp [askB, c2])
    go_enter Try.func72, Try.ntmps72
    go_wp2_with ((first | (go_at_call 59; refine (l1In_any _ _ _ _).mono ?_; rintro e w' ⟨rfl, rfl⟩) | (go_at_call 73; refine (specMsg_any _ bs _ RB.out).mono ?_; rintro e w' ⟨rfl, rfl⟩)))
    go_ret
    exact ⟨ret_bool H.out.symm, B1.out⟩
  cases c3 : (inB t 0 255)
  · have H := hid (show askB k y bs.length t g f = false by simp [askB, c3]; try (intros; simpa using c3))
    go_enter Try.func72, Try.ntmps72
    go_wp2_with ((first | (go_at_call 59; refine (l1In_any _ _ _ _).mono ?_; rintro e w' ⟨rfl, rfl⟩) | (go_at_call 73; refine (specMsg_any _ bs _ RB.out).mono ?_; rintro e w' ⟨rfl, rfl⟩)))
    go_ret
    exact ⟨ret_bool H.out.symm, B1.out⟩
  cases c4 : (inB g 0 3)
  · have H := hid (show askB k y bs.length t g f = false by simp [askB, c4]; try (intros; simpa using c4))
    go_enter Try.func72, Try.ntmps72
    go_wp2_with ((first | (go_at_call 59; refine (l1In_any _ _ _ _).mono ?_; rintro e w' ⟨rfl, rfl⟩) | (go_at_call 73; refine (specMsg_any _ bs _ RB.out).mono ?_; rintro e w' ⟨rfl, rfl⟩)))
    go_ret
    exact ⟨ret_bool H.out.symm, B1.out⟩
  cases c5 : (inB f 0 3)
  · have H := hid (show askB k y bs.length t g f = false by simp [askB, c5]; try (intros; simpa using c5))
    go_enter Try.func72, Try.ntmps72
    go_wp2_with ((first | (go_at_call 59; refine (l1In_any _ _ _ _).mono ?_; rintro e w' ⟨rfl, rfl⟩) | (go_at_call 73; refine (specMsg_any _ bs _ RB.out).mono ?_; rintro e w' ⟨rfl, rfl⟩)))
    go_ret
    exact ⟨ret_bool H.out.symm, B1.out⟩
  have H := hid (show askB k y bs.length t g f = true by simp [askB, c0, c1, c3, c4, c5]; try simpa using c2)
  go_enter Try.func72, Try.ntmps72
  go_wp2_with ((first | (go_at_call 59; refine (l1In_any _ _ _ _).mono ?_; rintro e w' ⟨rfl, rfl⟩) | (go_at_call 73; refine (specMsg_any _ bs _ RB.out).mono ?_; rintro e w' ⟨rfl, rfl⟩)))
  go_ret
  exact ⟨ret_bool H.out.symm, B1.out⟩
end Go.Proofs.Ytbpomeegpkdekaa
