/- Mix of the document's chapter 3, as a plain function on numbers, and what the two ways to reckon it come to. No conditions beyond the ranges that each lemma names. -/
import Derived.Laws.BitsAllLaws
import Derived.WalkKit
namespace Go.Proofs.YtpfelnkdimbhkaaDoor
open Go.RowKit
set_option linter.unusedVariables false

def mixA (x y : Nat) : Nat := (x ^^^ y) % 4294967296
def mixB (a : Nat) : Nat := (a * 69069 + 1) % 4294967296
def mixC (b : Nat) : Nat := b ^^^ b / 65536
def mixD (c y : Nat) : Nat := (c * 40503 + y + 7) % 4294967296
def mixE (d : Nat) : Nat := d ^^^ d / 8192
def mixN (x y : Nat) : Nat := mixE (mixD (mixC (mixB (mixA x y))) y)

theorem mixA_lt (x y : Nat) : mixA x y < 4294967296 := Nat.mod_lt _ (by omega)
theorem mixB_lt (a : Nat) : mixB a < 4294967296 := Nat.mod_lt _ (by omega)
theorem mixD_lt (c y : Nat) : mixD c y < 4294967296 := Nat.mod_lt _ (by omega)
theorem shr_lt (b s : Nat) (h : b < 4294967296) : b ^^^ b / s < 4294967296 :=
  Nat.xor_lt_two_pow (n := 32) (by omega) (Nat.lt_of_le_of_lt (Nat.div_le_self _ _) (by omega))
theorem mixC_lt (b : Nat) (h : b < 4294967296) : mixC b < 4294967296 := shr_lt b _ h
theorem mixE_lt (d : Nat) (h : d < 4294967296) : mixE d < 4294967296 := shr_lt d _ h
theorem mixN_lt (x y : Nat) : mixN x y < 4294967296 := mixE_lt _ (mixD_lt _ _)

theorem i64_xor_nat (a b : Nat) (ha : a < 4294967296) (hb : b < 4294967296) : bits .xor .i64 (a : Int) (b : Int) = ((a ^^^ b : Nat) : Int) := by
  have hx : a ^^^ b < 2 ^ 32 := Nat.xor_lt_two_pow (by omega) (by omega)
  show IntKind.i64.wrap ((BitVec.ofInt 64 (a : Int) ^^^ BitVec.ofInt 64 (b : Int)).toNat : Int) = _
  rw [BitVec.toNat_xor, ofInt_u64 a (by omega), ofInt_u64 b (by omega)]
  simp [IntKind.wrap, IntKind.bits, IntKind.signed]
  omega
theorem i64_shr (b s : Nat) (h : b < 4294967296) : bits .xor .i64 (b : Int) ((b / s : Nat) : Int) = ((b ^^^ b / s : Nat) : Int) :=
  i64_xor_nat _ _ h (Nat.lt_of_le_of_lt (Nat.div_le_self _ _) h)
theorem u32_shr (b s : Nat) (h : b < 4294967296) : bits .xor .u32 (b : Int) ((b / s : Nat) : Int) = ((b ^^^ b / s : Nat) : Int) :=
  u32_xor_nat _ _ h (Nat.lt_of_le_of_lt (Nat.div_le_self _ _) h)

theorem divc (b s : Nat) : ((b : Nat) : Int) / ((s : Nat) : Int) = ((b / s : Nat) : Int) := by simp
theorem mix_u32 (x y : Nat) (hx : x < 4294967296) (hy : y < 2147483648) (B C D : Int) (hB : B = (((x ^^^ y : Nat) : Int) * 69069 + 1) % 4294967296) (hC : C = bits .xor .u32 B (B / 65536)) (hD : D = (C * 40503 + (y : Int) + 7) % 4294967296) :
    bits .xor .u32 D (D / 8192) = ((mixN x y : Nat) : Int) := by
  have hxy : x ^^^ y < 2 ^ 32 := Nat.xor_lt_two_pow (by omega) (by omega)
  have h1 : B = ((mixB (mixA x y) : Nat) : Int) := by rw [hB]; unfold mixB mixA; omega
  have h2 : C = ((mixC (mixB (mixA x y)) : Nat) : Int) := by
    rw [hC, h1, show ((65536 : Int)) = ((65536 : Nat) : Int) from rfl, divc, u32_shr _ _ (mixB_lt _)]; rfl
  have h3 : D = ((mixD (mixC (mixB (mixA x y))) y : Nat) : Int) := by
    rw [hD, h2]; unfold mixD; omega
  rw [h3, show ((8192 : Int)) = ((8192 : Nat) : Int) from rfl, divc, u32_shr _ _ (mixD_lt _ _)]; rfl
theorem wrap64_nat (n : Nat) (h : n < 9223372036854775808) : wrap64 (n : Int) = (n : Int) := by unfold wrap64; omega
theorem mix_i64 (x y : Nat) (hx : x < 4294967296) (hy : y < 2147483648) (B C D : Int) (hB : B = (((x ^^^ y : Nat) : Int) % 4294967296 * 69069 + 1) % 4294967296) (hC : C = bits .xor .i64 B (B / 65536)) (hD : D = (wrap64 (wrap64 (wrap64 (C * 40503) + (y : Int)) + 7)).tmod 4294967296) :
    bits .xor .i64 D (wrap64 (D.tdiv 8192)) = ((mixN x y : Nat) : Int) := by
  have h1 : B = ((mixB (mixA x y) : Nat) : Int) := by rw [hB]; unfold mixB mixA; omega
  have h2 : C = ((mixC (mixB (mixA x y)) : Nat) : Int) := by
    rw [hC, h1, show ((65536 : Int)) = ((65536 : Nat) : Int) from rfl, divc, i64_shr _ _ (mixB_lt _)]; rfl
  have hc := mixC_lt _ (mixB_lt (mixA x y))
  have h3 : D = ((mixD (mixC (mixB (mixA x y))) y : Nat) : Int) := by
    rw [hD, h2]
    generalize mixC (mixB (mixA x y)) = c at *
    rw [show ((c : Nat) : Int) * 40503 = ((c * 40503 : Nat) : Int) from by omega, wrap64_nat _ (by omega), show ((c * 40503 : Nat) : Int) + ((y : Nat) : Int) = ((c * 40503 + y : Nat) : Int) from by omega, wrap64_nat _ (by omega), show ((c * 40503 + y : Nat) : Int) + 7 = ((c * 40503 + y + 7 : Nat) : Int) from by omega, wrap64_nat _ (by omega)]
    rw [Int.tmod_eq_emod_of_nonneg (by omega)]; unfold mixD; omega
  have hd := mixD_lt (mixC (mixB (mixA x y))) y
  have h4 : wrap64 (D.tdiv 8192) = ((mixD (mixC (mixB (mixA x y))) y / 8192 : Nat) : Int) := by
    rw [h3]
    generalize mixD (mixC (mixB (mixA x y))) y = d at *
    rw [Int.tdiv_eq_ediv_of_nonneg (by omega), show ((8192 : Int)) = ((8192 : Nat) : Int) from rfl, divc, wrap64_nat _ (by omega)]
  rw [h4, h3, i64_shr _ _ (mixD_lt _ _)]; rfl
end Go.Proofs.YtpfelnkdimbhkaaDoor
