/- Orders: whether one is ok, the contracts of the program and of the specification. No conditions. -/
import Derived.Test.YthabigbbjpcpkaaInBase
import Derived.Test.YthabigbbjpcpkaaIntRow
import Derived.Deep.QuietTactic
import Derived.BigQuiet
namespace Go.Proofs.Ythabigbbjpcpkaa
open Go.ChangeShapes Go.WideShapes Go.ChangeAt Go.RowKit Go.Joins Go.Deep
set_option linter.unusedVariables false
set_option maxRecDepth 4000

/-- of what kind an order's numbers are -/
def k0 (op : Int) : UInt8 := if op = 8 then 112 else if op = 9 ∨ op = 10 then 119 else if op = 13 ∨ op = 14 then 45 else 114
def k1 (op : Int) : UInt8 := if op = 1 then 118 else if op = 12 ∨ op = 13 ∨ op = 14 then 45 else 114
def k2 (op : Int) : UInt8 := if op = 5 ∨ op = 9 ∨ op = 10 then 114 else 45
/-- the greatest number of a kind -/
def gK (k : UInt8) : Int := if k = 114 then 3 else if k = 118 then 255 else if k = 112 then 24 else if k = 119 then 9 else 0
/-- whether an order is ok -/
def orderB (op a b c : Int) : Bool := inB op 1 14 && (inB a 0 (gK (k0 op)) && (inB b 0 (gK (k1 op)) && inB c 0 (gK (k2 op))))
theorem op_cases {op : Int} (h : inB op 1 14 = true) : op = 1 ∨ op = 2 ∨ op = 3 ∨ op = 4 ∨ op = 5 ∨ op = 6 ∨ op = 7 ∨ op = 8 ∨ op = 9 ∨ op = 10 ∨ op = 11 ∨ op = 12 ∨ op = 13 ∨ op = 14 := by
  simp [inB] at h; omega
theorem op_none {op : Int} (h : inB op 1 14 = false) (i : Int) (h1 : 1 ≤ i) (h2 : i ≤ 14) : (op == i) = false := by
  simp [inB] at h; simp; omega
theorem ret_str {a b : ByteArray} (h : a = b) : Ending.returned (.string a) = .returned (.string b) := by rw [h]
theorem u8_ne {k i : UInt8} (h : ¬ k = i) : ((k.toNat : Int) == (i.toNat : Int)) = false := by
  simp only [beq_eq_false_iff_ne, ne_eq]
  intro e
  exact h (UInt8.toNat_inj.1 (by omega))

set_option maxHeartbeats 2000000 in
theorem shape_any (op : Int) (w : World) (h : inB op 1 14 = true) :
    Calls Try.prog 105 #[.int .i64 op] w fun e w' => e = .returned (.string ⟨#[k0 op, k1 op, k2 op]⟩) ∧ w' = w := by
  rcases op_cases h with rfl | rfl | rfl | rfl | rfl | rfl | rfl | rfl | rfl | rfl | rfl | rfl | rfl | rfl
  all_goals
    clear h
    go_enter Try.func105, Try.ntmps105
    go_wp2
    go_ret
    exact ⟨ret_str (by decide), rfl⟩
set_option maxHeartbeats 2000000 in
theorem shape_no (op : Int) (w : World) (h : inB op 1 14 = false) :
    Calls Try.prog 105 #[.int .i64 op] w fun e w' => e = .returned (.string ⟨#[]⟩) ∧ w' = w := by
  have d1 := op_none h 1 (by omega) (by omega)
  have d2 := op_none h 2 (by omega) (by omega)
  have d3 := op_none h 3 (by omega) (by omega)
  have d4 := op_none h 4 (by omega) (by omega)
  have d5 := op_none h 5 (by omega) (by omega)
  have d6 := op_none h 6 (by omega) (by omega)
  have d7 := op_none h 7 (by omega) (by omega)
  have d8 := op_none h 8 (by omega) (by omega)
  have d9 := op_none h 9 (by omega) (by omega)
  have d10 := op_none h 10 (by omega) (by omega)
  have d11 := op_none h 11 (by omega) (by omega)
  have d12 := op_none h 12 (by omega) (by omega)
  have d13 := op_none h 13 (by omega) (by omega)
  have d14 := op_none h 14 (by omega) (by omega)
  clear h
  go_enter Try.func105, Try.ntmps105
  go_wp2
  go_ret
  exact ⟨rfl, rfl⟩

set_option maxHeartbeats 2000000 in
theorem fits5_any (k : UInt8) (n : Int) (w : World) :
    Calls Try.prog 106 #[.int .u8 (k.toNat : Int), .int .i64 n] w fun e w' => e = .returned (.bool (inB n 0 (gK k))) ∧ w' = w := by
  by_cases h114 : k = 114
  · subst h114
    go_enter Try.func106, Try.ntmps106
    go_wp2_with (go_at_call 59; refine (l1In_any _ _ _ _).mono ?_; rintro e w' ⟨rfl, rfl⟩)
    go_ret
    exact ⟨rfl, rfl⟩
  have d114 : ((k.toNat : Int) == 114) = false := u8_ne h114
  by_cases h118 : k = 118
  · subst h118
    go_enter Try.func106, Try.ntmps106
    go_wp2_with (go_at_call 59; refine (l1In_any _ _ _ _).mono ?_; rintro e w' ⟨rfl, rfl⟩)
    go_ret
    exact ⟨rfl, rfl⟩
  have d118 : ((k.toNat : Int) == 118) = false := u8_ne h118
  by_cases h112 : k = 112
  · subst h112
    go_enter Try.func106, Try.ntmps106
    go_wp2_with (go_at_call 59; refine (l1In_any _ _ _ _).mono ?_; rintro e w' ⟨rfl, rfl⟩)
    go_ret
    exact ⟨rfl, rfl⟩
  have d112 : ((k.toNat : Int) == 112) = false := u8_ne h112
  by_cases h119 : k = 119
  · subst h119
    go_enter Try.func106, Try.ntmps106
    go_wp2_with (go_at_call 59; refine (l1In_any _ _ _ _).mono ?_; rintro e w' ⟨rfl, rfl⟩)
    go_ret
    exact ⟨rfl, rfl⟩
  have d119 : ((k.toNat : Int) == 119) = false := u8_ne h119
  have H := hid (show gK k = 0 by simp [gK, h114, h118, h112, h119])
  clear h114 h118 h112 h119
  go_enter Try.func106, Try.ntmps106
  go_wp2
  go_ret
  refine ⟨ret_bool ?_, rfl⟩
  rw [H.out, Bool.eq_iff_iff]; simp [inB]; omega

set_option maxHeartbeats 2000000 in
theorem greatest_any (k : UInt8) (w : World) :
    Calls Try.prog 111 #[.int .u8 (k.toNat : Int)] w fun e w' => e = .returned (.int .i64 (gK k)) ∧ w' = w := by
  by_cases h114 : k = 114
  · subst h114
    go_enter Try.func111, Try.ntmps111
    go_wp2
    go_ret
    exact ⟨rfl, rfl⟩
  have d114 : ((k.toNat : Int) == 114) = false := u8_ne h114
  by_cases h118 : k = 118
  · subst h118
    go_enter Try.func111, Try.ntmps111
    go_wp2
    go_ret
    exact ⟨rfl, rfl⟩
  have d118 : ((k.toNat : Int) == 118) = false := u8_ne h118
  by_cases h112 : k = 112
  · subst h112
    go_enter Try.func111, Try.ntmps111
    go_wp2
    go_ret
    exact ⟨rfl, rfl⟩
  have d112 : ((k.toNat : Int) == 112) = false := u8_ne h112
  by_cases h119 : k = 119
  · subst h119
    go_enter Try.func111, Try.ntmps111
    go_wp2
    go_ret
    exact ⟨rfl, rfl⟩
  have d119 : ((k.toNat : Int) == 119) = false := u8_ne h119
  have H := hid (show gK k = 0 by simp [gK, h114, h118, h112, h119])
  clear h114 h118 h112 h119
  go_enter Try.func111, Try.ntmps111
  go_wp2
  go_ret
  exact ⟨ret_int H.out.symm, rfl⟩

set_option maxHeartbeats 2000000 in
theorem tab_at (w : World) :
    Sem.run Try.prog (Instr.index 123 (.agg #[.string ⟨#[]⟩, .string ⟨#[114, 118, 45]⟩, .string ⟨#[114, 114, 45]⟩, .string ⟨#[114, 114, 45]⟩, .string ⟨#[114, 114, 45]⟩, .string ⟨#[114, 114, 114]⟩, .string ⟨#[114, 114, 45]⟩, .string ⟨#[114, 114, 45]⟩, .string ⟨#[112, 114, 45]⟩, .string ⟨#[119, 114, 114]⟩, .string ⟨#[119, 114, 114]⟩, .string ⟨#[114, 114, 45]⟩, .string ⟨#[114, 45, 45]⟩, .string ⟨#[45, 45, 45]⟩, .string ⟨#[45, 45, 45]⟩]) (.int .i64 1)) w = .ok (.string ⟨#[114, 118, 45]⟩) w ∧
    Sem.run Try.prog (Instr.index 123 (.agg #[.string ⟨#[]⟩, .string ⟨#[114, 118, 45]⟩, .string ⟨#[114, 114, 45]⟩, .string ⟨#[114, 114, 45]⟩, .string ⟨#[114, 114, 45]⟩, .string ⟨#[114, 114, 114]⟩, .string ⟨#[114, 114, 45]⟩, .string ⟨#[114, 114, 45]⟩, .string ⟨#[112, 114, 45]⟩, .string ⟨#[119, 114, 114]⟩, .string ⟨#[119, 114, 114]⟩, .string ⟨#[114, 114, 45]⟩, .string ⟨#[114, 45, 45]⟩, .string ⟨#[45, 45, 45]⟩, .string ⟨#[45, 45, 45]⟩]) (.int .i64 2)) w = .ok (.string ⟨#[114, 114, 45]⟩) w ∧
    Sem.run Try.prog (Instr.index 123 (.agg #[.string ⟨#[]⟩, .string ⟨#[114, 118, 45]⟩, .string ⟨#[114, 114, 45]⟩, .string ⟨#[114, 114, 45]⟩, .string ⟨#[114, 114, 45]⟩, .string ⟨#[114, 114, 114]⟩, .string ⟨#[114, 114, 45]⟩, .string ⟨#[114, 114, 45]⟩, .string ⟨#[112, 114, 45]⟩, .string ⟨#[119, 114, 114]⟩, .string ⟨#[119, 114, 114]⟩, .string ⟨#[114, 114, 45]⟩, .string ⟨#[114, 45, 45]⟩, .string ⟨#[45, 45, 45]⟩, .string ⟨#[45, 45, 45]⟩]) (.int .i64 3)) w = .ok (.string ⟨#[114, 114, 45]⟩) w ∧
    Sem.run Try.prog (Instr.index 123 (.agg #[.string ⟨#[]⟩, .string ⟨#[114, 118, 45]⟩, .string ⟨#[114, 114, 45]⟩, .string ⟨#[114, 114, 45]⟩, .string ⟨#[114, 114, 45]⟩, .string ⟨#[114, 114, 114]⟩, .string ⟨#[114, 114, 45]⟩, .string ⟨#[114, 114, 45]⟩, .string ⟨#[112, 114, 45]⟩, .string ⟨#[119, 114, 114]⟩, .string ⟨#[119, 114, 114]⟩, .string ⟨#[114, 114, 45]⟩, .string ⟨#[114, 45, 45]⟩, .string ⟨#[45, 45, 45]⟩, .string ⟨#[45, 45, 45]⟩]) (.int .i64 4)) w = .ok (.string ⟨#[114, 114, 45]⟩) w ∧
    Sem.run Try.prog (Instr.index 123 (.agg #[.string ⟨#[]⟩, .string ⟨#[114, 118, 45]⟩, .string ⟨#[114, 114, 45]⟩, .string ⟨#[114, 114, 45]⟩, .string ⟨#[114, 114, 45]⟩, .string ⟨#[114, 114, 114]⟩, .string ⟨#[114, 114, 45]⟩, .string ⟨#[114, 114, 45]⟩, .string ⟨#[112, 114, 45]⟩, .string ⟨#[119, 114, 114]⟩, .string ⟨#[119, 114, 114]⟩, .string ⟨#[114, 114, 45]⟩, .string ⟨#[114, 45, 45]⟩, .string ⟨#[45, 45, 45]⟩, .string ⟨#[45, 45, 45]⟩]) (.int .i64 5)) w = .ok (.string ⟨#[114, 114, 114]⟩) w ∧
    Sem.run Try.prog (Instr.index 123 (.agg #[.string ⟨#[]⟩, .string ⟨#[114, 118, 45]⟩, .string ⟨#[114, 114, 45]⟩, .string ⟨#[114, 114, 45]⟩, .string ⟨#[114, 114, 45]⟩, .string ⟨#[114, 114, 114]⟩, .string ⟨#[114, 114, 45]⟩, .string ⟨#[114, 114, 45]⟩, .string ⟨#[112, 114, 45]⟩, .string ⟨#[119, 114, 114]⟩, .string ⟨#[119, 114, 114]⟩, .string ⟨#[114, 114, 45]⟩, .string ⟨#[114, 45, 45]⟩, .string ⟨#[45, 45, 45]⟩, .string ⟨#[45, 45, 45]⟩]) (.int .i64 6)) w = .ok (.string ⟨#[114, 114, 45]⟩) w ∧
    Sem.run Try.prog (Instr.index 123 (.agg #[.string ⟨#[]⟩, .string ⟨#[114, 118, 45]⟩, .string ⟨#[114, 114, 45]⟩, .string ⟨#[114, 114, 45]⟩, .string ⟨#[114, 114, 45]⟩, .string ⟨#[114, 114, 114]⟩, .string ⟨#[114, 114, 45]⟩, .string ⟨#[114, 114, 45]⟩, .string ⟨#[112, 114, 45]⟩, .string ⟨#[119, 114, 114]⟩, .string ⟨#[119, 114, 114]⟩, .string ⟨#[114, 114, 45]⟩, .string ⟨#[114, 45, 45]⟩, .string ⟨#[45, 45, 45]⟩, .string ⟨#[45, 45, 45]⟩]) (.int .i64 7)) w = .ok (.string ⟨#[114, 114, 45]⟩) w ∧
    Sem.run Try.prog (Instr.index 123 (.agg #[.string ⟨#[]⟩, .string ⟨#[114, 118, 45]⟩, .string ⟨#[114, 114, 45]⟩, .string ⟨#[114, 114, 45]⟩, .string ⟨#[114, 114, 45]⟩, .string ⟨#[114, 114, 114]⟩, .string ⟨#[114, 114, 45]⟩, .string ⟨#[114, 114, 45]⟩, .string ⟨#[112, 114, 45]⟩, .string ⟨#[119, 114, 114]⟩, .string ⟨#[119, 114, 114]⟩, .string ⟨#[114, 114, 45]⟩, .string ⟨#[114, 45, 45]⟩, .string ⟨#[45, 45, 45]⟩, .string ⟨#[45, 45, 45]⟩]) (.int .i64 8)) w = .ok (.string ⟨#[112, 114, 45]⟩) w ∧
    Sem.run Try.prog (Instr.index 123 (.agg #[.string ⟨#[]⟩, .string ⟨#[114, 118, 45]⟩, .string ⟨#[114, 114, 45]⟩, .string ⟨#[114, 114, 45]⟩, .string ⟨#[114, 114, 45]⟩, .string ⟨#[114, 114, 114]⟩, .string ⟨#[114, 114, 45]⟩, .string ⟨#[114, 114, 45]⟩, .string ⟨#[112, 114, 45]⟩, .string ⟨#[119, 114, 114]⟩, .string ⟨#[119, 114, 114]⟩, .string ⟨#[114, 114, 45]⟩, .string ⟨#[114, 45, 45]⟩, .string ⟨#[45, 45, 45]⟩, .string ⟨#[45, 45, 45]⟩]) (.int .i64 9)) w = .ok (.string ⟨#[119, 114, 114]⟩) w ∧
    Sem.run Try.prog (Instr.index 123 (.agg #[.string ⟨#[]⟩, .string ⟨#[114, 118, 45]⟩, .string ⟨#[114, 114, 45]⟩, .string ⟨#[114, 114, 45]⟩, .string ⟨#[114, 114, 45]⟩, .string ⟨#[114, 114, 114]⟩, .string ⟨#[114, 114, 45]⟩, .string ⟨#[114, 114, 45]⟩, .string ⟨#[112, 114, 45]⟩, .string ⟨#[119, 114, 114]⟩, .string ⟨#[119, 114, 114]⟩, .string ⟨#[114, 114, 45]⟩, .string ⟨#[114, 45, 45]⟩, .string ⟨#[45, 45, 45]⟩, .string ⟨#[45, 45, 45]⟩]) (.int .i64 10)) w = .ok (.string ⟨#[119, 114, 114]⟩) w ∧
    Sem.run Try.prog (Instr.index 123 (.agg #[.string ⟨#[]⟩, .string ⟨#[114, 118, 45]⟩, .string ⟨#[114, 114, 45]⟩, .string ⟨#[114, 114, 45]⟩, .string ⟨#[114, 114, 45]⟩, .string ⟨#[114, 114, 114]⟩, .string ⟨#[114, 114, 45]⟩, .string ⟨#[114, 114, 45]⟩, .string ⟨#[112, 114, 45]⟩, .string ⟨#[119, 114, 114]⟩, .string ⟨#[119, 114, 114]⟩, .string ⟨#[114, 114, 45]⟩, .string ⟨#[114, 45, 45]⟩, .string ⟨#[45, 45, 45]⟩, .string ⟨#[45, 45, 45]⟩]) (.int .i64 11)) w = .ok (.string ⟨#[114, 114, 45]⟩) w ∧
    Sem.run Try.prog (Instr.index 123 (.agg #[.string ⟨#[]⟩, .string ⟨#[114, 118, 45]⟩, .string ⟨#[114, 114, 45]⟩, .string ⟨#[114, 114, 45]⟩, .string ⟨#[114, 114, 45]⟩, .string ⟨#[114, 114, 114]⟩, .string ⟨#[114, 114, 45]⟩, .string ⟨#[114, 114, 45]⟩, .string ⟨#[112, 114, 45]⟩, .string ⟨#[119, 114, 114]⟩, .string ⟨#[119, 114, 114]⟩, .string ⟨#[114, 114, 45]⟩, .string ⟨#[114, 45, 45]⟩, .string ⟨#[45, 45, 45]⟩, .string ⟨#[45, 45, 45]⟩]) (.int .i64 12)) w = .ok (.string ⟨#[114, 45, 45]⟩) w ∧
    Sem.run Try.prog (Instr.index 123 (.agg #[.string ⟨#[]⟩, .string ⟨#[114, 118, 45]⟩, .string ⟨#[114, 114, 45]⟩, .string ⟨#[114, 114, 45]⟩, .string ⟨#[114, 114, 45]⟩, .string ⟨#[114, 114, 114]⟩, .string ⟨#[114, 114, 45]⟩, .string ⟨#[114, 114, 45]⟩, .string ⟨#[112, 114, 45]⟩, .string ⟨#[119, 114, 114]⟩, .string ⟨#[119, 114, 114]⟩, .string ⟨#[114, 114, 45]⟩, .string ⟨#[114, 45, 45]⟩, .string ⟨#[45, 45, 45]⟩, .string ⟨#[45, 45, 45]⟩]) (.int .i64 13)) w = .ok (.string ⟨#[45, 45, 45]⟩) w ∧
    Sem.run Try.prog (Instr.index 123 (.agg #[.string ⟨#[]⟩, .string ⟨#[114, 118, 45]⟩, .string ⟨#[114, 114, 45]⟩, .string ⟨#[114, 114, 45]⟩, .string ⟨#[114, 114, 45]⟩, .string ⟨#[114, 114, 114]⟩, .string ⟨#[114, 114, 45]⟩, .string ⟨#[114, 114, 45]⟩, .string ⟨#[112, 114, 45]⟩, .string ⟨#[119, 114, 114]⟩, .string ⟨#[119, 114, 114]⟩, .string ⟨#[114, 114, 45]⟩, .string ⟨#[114, 45, 45]⟩, .string ⟨#[45, 45, 45]⟩, .string ⟨#[45, 45, 45]⟩]) (.int .i64 14)) w = .ok (.string ⟨#[45, 45, 45]⟩) w := by
  refine ⟨?_, ?_, ?_, ?_, ?_, ?_, ?_, ?_, ?_, ?_, ?_, ?_, ?_, ?_⟩ <;> kernel_rfl
set_option maxHeartbeats 2000000 in
theorem kinds_any (op : Int) (w : World) (h : inB op 1 14 = true) :
    Calls Try.prog 112 #[.int .i64 op] w fun e w' => e = .returned (.string ⟨#[k0 op, k1 op, k2 op]⟩) ∧ w' = w := by
  rcases op_cases h with rfl | rfl | rfl | rfl | rfl | rfl | rfl | rfl | rfl | rfl | rfl | rfl | rfl | rfl
  all_goals
    clear h
    obtain ⟨i1, i2, i3, i4, i5, i6, i7, i8, i9, i10, i11, i12, i13, i14⟩ := tab_at w
    go_enter Try.func112, Try.ntmps112
    go_wp2
    go_ret
    exact ⟨ret_str (by decide), rfl⟩
theorem withinC_any (n lo hi : Int) (w : World) :
    Calls Try.prog 118 #[.int .i64 n, .int .i64 lo, .int .i64 hi] w fun e w' => e = .returned (.bool (inB n lo hi)) ∧ w' = w := by
  by_cases h1 : lo ≤ n <;> by_cases h2 : n ≤ hi
  all_goals
    go_enter Try.func118, Try.ntmps118
    go_wp2
    go_ret
    refine ⟨ret_bool ?_, rfl⟩
    rw [Bool.eq_iff_iff]
    simp [inB] <;> omega
theorem opOk_any (op : Int) (w : World) :
    Calls Try.prog 109 #[.int .i64 op] w fun e w' => e = .returned (.bool (inB op 1 14)) ∧ w' = w := by
  go_enter Try.func109, Try.ntmps109
  go_wp2_with (go_at_call 118; refine (withinC_any _ _ _ _).mono ?_; rintro e w' ⟨rfl, rfl⟩)
  go_ret
  exact ⟨rfl, rfl⟩
theorem numbers_any (op a b c : Int) (w : World) :
    Calls Try.prog 110 #[.agg #[.int .i64 op, .int .i64 a, .int .i64 b, .int .i64 c]] w fun e w' => e = .returned (.agg #[.int .i64 a, .int .i64 b, .int .i64 c]) ∧ Below w.heap.size w w' := by
  go_enter Try.func110, Try.ntmps110
  go_wp2
  go_returns
  exact ⟨rfl, by go_grown⟩
end Go.Proofs.Ythabigbbjpcpkaa
