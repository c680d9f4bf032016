/- A draw is opened. Conditions: the bytes read. -/
import Derived.Test.YtbpomeegpkdekaaRegTy
import Derived.Test.YtbpomeegpkdekaaChg
namespace Go.Proofs.Ytbpomeegpkdekaa
open Go.ChangeShapes Go.WideShapes Go.ChangeAt Go.RowKit Go.Joins Go.Deep
set_option linter.unusedVariables false
set_option linter.unusedSimpArgs false
set_option maxRecDepth 4000
set_option maxHeartbeats 1000000 in
/-- the reader is opened, and nothing old is changed -/
theorem open_dvc {K : Nat} (a : Option Addr) (len cap : Nat) (xs : List Int) (W w : World) (hn : xs.length = len) (hv : Rd W (.slice a len cap) xs) (hcap : len ≤ cap) (hb : Below W.heap.size W w) :
    Calls Try.prog 45 #[.slice a len cap] w fun e w' => e = .returned (.pointer (some ⟨w.heap.size, 0, none⟩)) ∧ Hid (DW W W w.heap.size W.heap.size 0 K [] 0 w') ∧ Hid (Below w.heap.size w w') := by
  have HV := hid hv
  have HB := hid hb
  have h2 := hv.2.1
  by_cases hl : len ≤ 2000
  · have hd : decide ((2000 : Int) < (len : Int)) = false := by simp; omega
    clear hv hn hb
    go_enter Try.func45, Try.ntmps45
    go_wp2
    go_ret
    exact ⟨rfl, hid (dw_open _ HV.out HB.out (by intro x hx; cases hx) (by go_simp) (by go_simp) (by go_simp)), hid (below_alloc1 _ _)⟩
  · have hd : decide ((2000 : Int) < (len : Int)) = true := by simp; omega
    subst hn
    have HT := hid (rd_take (n := 2000) hv (by omega))
    have hc1 : (2000 : Int) ≤ (cap : Int) := by omega
    have hc2 : 2000 ≤ cap := by omega
    clear hv hb
    go_enter Try.func45, Try.ntmps45
    go_wp2
    go_ret
    exact ⟨rfl, hid (dw_open _ HT.out HB.out (by intro x hx; cases hx) (by go_simp) (by go_simp) (by go_simp)), hid (below_alloc1 _ _)⟩
end Go.Proofs.Ytbpomeegpkdekaa
