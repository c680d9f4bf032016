/-
  No cell of these rows narrows 'for every input' (looked for: loops, veiled, ifaces, maps, wideKeys, modest, calm, conditions, laid).
  DERIVED. THE GIVEN ROWS OF THIS SEAT. 9 by the template 'for every input the law returns true; each argument reads behind the call as it read before'; 0 by the template 'total and deterministic' (their statements: YtbpomeegpkdekaaTotals.lean).
  GIVEN WITH THE SEED: the statements are not yours to turn. If you find one false, say at which input.
  Laid BY PROGRAM, IN A SANDBOX (cutbox-rows.mjs): the forced cells as the released guide's own fill.sh prints them over the translation 6499feb856404b94… (all of the seat's roots in one cut). By AI agents, Wed Nov 11 2026. No macro, syntax, notation, axiom, sorry.
-/
import Derived.Test.YtbpomeegpkdekaaChecked
import GoSem.Claim
import GoSem.ClaimJoined
import GoSem.ClaimMapViews
import Derived.JoinedTies
import Derived.KernelRfl
namespace Go.Proofs.Ytbpomeegpkdekaa
/- THE CELL 'sum', in the pinned program and in every row, IS THE sha256 OF THE DUMP (.gsa) THAT YtbpomeegpkdekaaProg.lean LOADS. Nothing in Lean hashes anything: it is a label: what it is worth is what the hold of that sum in a sandbox is worth. -/
noncomputable def Try.pinned : Pinned := { name := "ytbpomeegpkdekaa", sum := "6499feb856404b94fcfa0ea7379f24556f85e921f2606e5dce3b90b30cd41323", checked := Try.checked }
namespace Rows
def none {H : Type} : Left H := { results := [], args := [] }

/-- 'laws.FnVmStays': WHATEVER THE INPUT: true; the input reads as it did. -/
def fnVmStaysSpec : ChangeSpec := { name := "fnVmStays", fn := fun _ => fun
  | [d1, d2] => { results := [.lit (.bool true)], args := [d1, d2] }
  | _ => none }
def fnVmStaysRow : OpenClaim := { program := "ytbpomeegpkdekaa", sum := "6499feb856404b94fcfa0ea7379f24556f85e921f2606e5dce3b90b30cd41323", func := "loop.example/casemate/laws.FnVmStays", spec := "fnVmStays", unfollowed := true, recurses := true, apart := false }
def FnVmStaysSaid : Prop := fnVmStaysRow.holds Try.pinned (OpenSpec.ofChange fnVmStaysSpec)

/-- ITS FALSE NEIGHBOUR: 'it returns false'. Refute it at one input. -/
def fnVmStaysWrong : ChangeSpec := { name := "fnVmStays", fn := fun _ => fun
  | [d1, d2] => { results := [.lit (.bool false)], args := [d1, d2] }
  | _ => none }
def FnVmStaysWrongFalsely : Prop := fnVmStaysRow.holds Try.pinned (OpenSpec.ofChange fnVmStaysWrong)

/-- 'laws.FnVmOne': WHATEVER THE INPUT: true; the input reads as it did. -/
def fnVmOneSpec : ChangeSpec := { name := "fnVmOne", fn := fun _ => fun
  | [d] => { results := [.lit (.bool true)], args := [d] }
  | _ => none }
def fnVmOneRow : OpenClaim := { program := "ytbpomeegpkdekaa", sum := "6499feb856404b94fcfa0ea7379f24556f85e921f2606e5dce3b90b30cd41323", func := "loop.example/casemate/laws.FnVmOne", spec := "fnVmOne", unfollowed := true, recurses := true, apart := false }
def FnVmOneSaid : Prop := fnVmOneRow.holds Try.pinned (OpenSpec.ofChange fnVmOneSpec)

/-- ITS FALSE NEIGHBOUR: 'it returns false'. Refute it at one input. -/
def fnVmOneWrong : ChangeSpec := { name := "fnVmOne", fn := fun _ => fun
  | [d] => { results := [.lit (.bool false)], args := [d] }
  | _ => none }
def FnVmOneWrongFalsely : Prop := fnVmOneRow.holds Try.pinned (OpenSpec.ofChange fnVmOneWrong)

/-- 'laws.FnVmGive': WHATEVER THE INPUT: true; the input reads as it did. -/
def fnVmGiveSpec : ChangeSpec := { name := "fnVmGive", fn := fun _ => fun
  | [d] => { results := [.lit (.bool true)], args := [d] }
  | _ => none }
def fnVmGiveRow : OpenClaim := { program := "ytbpomeegpkdekaa", sum := "6499feb856404b94fcfa0ea7379f24556f85e921f2606e5dce3b90b30cd41323", func := "loop.example/casemate/laws.FnVmGive", spec := "fnVmGive", unfollowed := true, recurses := true, apart := false }
def FnVmGiveSaid : Prop := fnVmGiveRow.holds Try.pinned (OpenSpec.ofChange fnVmGiveSpec)

/-- ITS FALSE NEIGHBOUR: 'it returns false'. Refute it at one input. -/
def fnVmGiveWrong : ChangeSpec := { name := "fnVmGive", fn := fun _ => fun
  | [d] => { results := [.lit (.bool false)], args := [d] }
  | _ => none }
def FnVmGiveWrongFalsely : Prop := fnVmGiveRow.holds Try.pinned (OpenSpec.ofChange fnVmGiveWrong)

/-- 'laws.FnVmEnds': WHATEVER THE INPUT: true; the input reads as it did. -/
def fnVmEndsSpec : ChangeSpec := { name := "fnVmEnds", fn := fun _ => fun
  | [d] => { results := [.lit (.bool true)], args := [d] }
  | _ => none }
def fnVmEndsRow : OpenClaim := { program := "ytbpomeegpkdekaa", sum := "6499feb856404b94fcfa0ea7379f24556f85e921f2606e5dce3b90b30cd41323", func := "loop.example/casemate/laws.FnVmEnds", spec := "fnVmEnds", unfollowed := true, recurses := true, apart := false }
def FnVmEndsSaid : Prop := fnVmEndsRow.holds Try.pinned (OpenSpec.ofChange fnVmEndsSpec)

/-- ITS FALSE NEIGHBOUR: 'it returns false'. Refute it at one input. -/
def fnVmEndsWrong : ChangeSpec := { name := "fnVmEnds", fn := fun _ => fun
  | [d] => { results := [.lit (.bool false)], args := [d] }
  | _ => none }
def FnVmEndsWrongFalsely : Prop := fnVmEndsRow.holds Try.pinned (OpenSpec.ofChange fnVmEndsWrong)

/-- 'laws.FnExactCodOk': WHATEVER THE INPUT: true; the input reads as it did. -/
def fnExactCodOkSpec : ChangeSpec := { name := "fnExactCodOk", fn := fun _ => fun
  | [d] => { results := [.lit (.bool true)], args := [d] }
  | _ => none }
def fnExactCodOkRow : OpenClaim := { program := "ytbpomeegpkdekaa", sum := "6499feb856404b94fcfa0ea7379f24556f85e921f2606e5dce3b90b30cd41323", func := "loop.example/casemate/laws.FnExactCodOk", spec := "fnExactCodOk", apart := false }
def FnExactCodOkSaid : Prop := fnExactCodOkRow.holds Try.pinned (OpenSpec.ofChange fnExactCodOkSpec)

/-- ITS FALSE NEIGHBOUR: 'it returns false'. Refute it at one input. -/
def fnExactCodOkWrong : ChangeSpec := { name := "fnExactCodOk", fn := fun _ => fun
  | [d] => { results := [.lit (.bool false)], args := [d] }
  | _ => none }
def FnExactCodOkWrongFalsely : Prop := fnExactCodOkRow.holds Try.pinned (OpenSpec.ofChange fnExactCodOkWrong)

/-- 'laws.FnExactVmNew': WHATEVER THE INPUT: true; the input reads as it did. -/
def fnExactVmNewSpec : ChangeSpec := { name := "fnExactVmNew", fn := fun _ => fun
  | [] => { results := [.lit (.bool true)], args := [] }
  | _ => none }
def fnExactVmNewRow : OpenClaim := { program := "ytbpomeegpkdekaa", sum := "6499feb856404b94fcfa0ea7379f24556f85e921f2606e5dce3b90b30cd41323", func := "loop.example/casemate/laws.FnExactVmNew", spec := "fnExactVmNew", apart := false }
def FnExactVmNewSaid : Prop := fnExactVmNewRow.holds Try.pinned (OpenSpec.ofChange fnExactVmNewSpec)

/-- ITS FALSE NEIGHBOUR: 'it returns false'. Refute it at one input. -/
def fnExactVmNewWrong : ChangeSpec := { name := "fnExactVmNew", fn := fun _ => fun
  | [] => { results := [.lit (.bool false)], args := [] }
  | _ => none }
def FnExactVmNewWrongFalsely : Prop := fnExactVmNewRow.holds Try.pinned (OpenSpec.ofChange fnExactVmNewWrong)

/-- 'laws.FnExactVmOk': WHATEVER THE INPUT: true; the input reads as it did. -/
def fnExactVmOkSpec : ChangeSpec := { name := "fnExactVmOk", fn := fun _ => fun
  | [d] => { results := [.lit (.bool true)], args := [d] }
  | _ => none }
def fnExactVmOkRow : OpenClaim := { program := "ytbpomeegpkdekaa", sum := "6499feb856404b94fcfa0ea7379f24556f85e921f2606e5dce3b90b30cd41323", func := "loop.example/casemate/laws.FnExactVmOk", spec := "fnExactVmOk", apart := false }
def FnExactVmOkSaid : Prop := fnExactVmOkRow.holds Try.pinned (OpenSpec.ofChange fnExactVmOkSpec)

/-- ITS FALSE NEIGHBOUR: 'it returns false'. Refute it at one input. -/
def fnExactVmOkWrong : ChangeSpec := { name := "fnExactVmOk", fn := fun _ => fun
  | [d] => { results := [.lit (.bool false)], args := [d] }
  | _ => none }
def FnExactVmOkWrongFalsely : Prop := fnExactVmOkRow.holds Try.pinned (OpenSpec.ofChange fnExactVmOkWrong)

/-- 'laws.FnExactVmStep': WHATEVER THE INPUT: true; the input reads as it did. -/
def fnExactVmStepSpec : ChangeSpec := { name := "fnExactVmStep", fn := fun _ => fun
  | [d1, d2] => { results := [.lit (.bool true)], args := [d1, d2] }
  | _ => none }
def fnExactVmStepRow : OpenClaim := { program := "ytbpomeegpkdekaa", sum := "6499feb856404b94fcfa0ea7379f24556f85e921f2606e5dce3b90b30cd41323", func := "loop.example/casemate/laws.FnExactVmStep", spec := "fnExactVmStep", unfollowed := true, recurses := true, apart := false }
def FnExactVmStepSaid : Prop := fnExactVmStepRow.holds Try.pinned (OpenSpec.ofChange fnExactVmStepSpec)

/-- ITS FALSE NEIGHBOUR: 'it returns false'. Refute it at one input. -/
def fnExactVmStepWrong : ChangeSpec := { name := "fnExactVmStep", fn := fun _ => fun
  | [d1, d2] => { results := [.lit (.bool false)], args := [d1, d2] }
  | _ => none }
def FnExactVmStepWrongFalsely : Prop := fnExactVmStepRow.holds Try.pinned (OpenSpec.ofChange fnExactVmStepWrong)

/-- 'laws.FnExactVmGive': WHATEVER THE INPUT: true; the input reads as it did. -/
def fnExactVmGiveSpec : ChangeSpec := { name := "fnExactVmGive", fn := fun _ => fun
  | [d1, d2, d3, d4] => { results := [.lit (.bool true)], args := [d1, d2, d3, d4] }
  | _ => none }
def fnExactVmGiveRow : OpenClaim := { program := "ytbpomeegpkdekaa", sum := "6499feb856404b94fcfa0ea7379f24556f85e921f2606e5dce3b90b30cd41323", func := "loop.example/casemate/laws.FnExactVmGive", spec := "fnExactVmGive", unfollowed := true, recurses := true, apart := false }
def FnExactVmGiveSaid : Prop := fnExactVmGiveRow.holds Try.pinned (OpenSpec.ofChange fnExactVmGiveSpec)

/-- ITS FALSE NEIGHBOUR: 'it returns false'. Refute it at one input. -/
def fnExactVmGiveWrong : ChangeSpec := { name := "fnExactVmGive", fn := fun _ => fun
  | [d1, d2, d3, d4] => { results := [.lit (.bool false)], args := [d1, d2, d3, d4] }
  | _ => none }
def FnExactVmGiveWrongFalsely : Prop := fnExactVmGiveRow.holds Try.pinned (OpenSpec.ofChange fnExactVmGiveWrong)

/- THE SECOND FORM. 'bulk': how many values and letters a reading holds, each counted each time it is reached (what is shared counts as often as it is met; a slice's spare places count too). A statement '..UptoSaid' is the law's where the arguments, and the package variables that the reading takes, are together of bulk at most 1048576: NARROWER than '..Said'. Prove '..Said' where nothing that the law and all that it calls make is longer than what came in: it says more and counts as full. Else prove '..UptoSaid'. A law counts once. -/
mutual
def uptoBulk {H : Type} : DataW H → Nat
  | .lit (.string bytes) => bytes.length + 1
  | .lit _ => 1
  | .nil => 1
  | .ptr d => uptoBulk d + 1
  | .slice elems spare => uptoBulkAll elems + uptoBulkAll spare + 1
  | .agg parts => uptoBulkAll parts + 1
  | .iface _ d => uptoBulk d + 1
  | .map entries => uptoBulkEntries entries + 1
  | .held _ => 1
def uptoBulkAll {H : Type} : List (DataW H) → Nat
  | [] => 0
  | d :: r => uptoBulk d + uptoBulkAll r
def uptoBulkEntries {H : Type} : List (Lit × DataW H) → Nat
  | [] => 0
  | x :: r => uptoBulkEntry x + uptoBulkEntries r
def uptoBulkEntry {H : Type} : Lit × DataW H → Nat
  | (.string bytes, d) => bytes.length + uptoBulk d + 1
  | (_, d) => uptoBulk d + 1
 end
def uptoSmall : (H : Type) → List (DataW H) → Bool := fun _ ds => decide (uptoBulkAll ds ≤ 1048576)
def OpenSpec.upto (s : _root_.Go.ChangeSpec) : _root_.Go.OpenSpec := { _root_.Go.OpenSpec.ofChange s with cond := some uptoSmall }

/-- 'laws.FnVmStays', WHERE WHAT IT READS IS OF BULK AT MOST 1048576: true; the input reads as it did. -/
def fnVmStaysUptoRow : OpenClaim := { program := "ytbpomeegpkdekaa", sum := "6499feb856404b94fcfa0ea7379f24556f85e921f2606e5dce3b90b30cd41323", func := "loop.example/casemate/laws.FnVmStays", spec := "fnVmStays", unfollowed := true, recurses := true, apart := false, narrowed := true }
def FnVmStaysUptoSaid : Prop := fnVmStaysUptoRow.holds Try.pinned (OpenSpec.upto fnVmStaysSpec)

/-- 'laws.FnVmOne', WHERE WHAT IT READS IS OF BULK AT MOST 1048576: true; the input reads as it did. -/
def fnVmOneUptoRow : OpenClaim := { program := "ytbpomeegpkdekaa", sum := "6499feb856404b94fcfa0ea7379f24556f85e921f2606e5dce3b90b30cd41323", func := "loop.example/casemate/laws.FnVmOne", spec := "fnVmOne", unfollowed := true, recurses := true, apart := false, narrowed := true }
def FnVmOneUptoSaid : Prop := fnVmOneUptoRow.holds Try.pinned (OpenSpec.upto fnVmOneSpec)

/-- 'laws.FnVmGive', WHERE WHAT IT READS IS OF BULK AT MOST 1048576: true; the input reads as it did. -/
def fnVmGiveUptoRow : OpenClaim := { program := "ytbpomeegpkdekaa", sum := "6499feb856404b94fcfa0ea7379f24556f85e921f2606e5dce3b90b30cd41323", func := "loop.example/casemate/laws.FnVmGive", spec := "fnVmGive", unfollowed := true, recurses := true, apart := false, narrowed := true }
def FnVmGiveUptoSaid : Prop := fnVmGiveUptoRow.holds Try.pinned (OpenSpec.upto fnVmGiveSpec)

/-- 'laws.FnVmEnds', WHERE WHAT IT READS IS OF BULK AT MOST 1048576: true; the input reads as it did. -/
def fnVmEndsUptoRow : OpenClaim := { program := "ytbpomeegpkdekaa", sum := "6499feb856404b94fcfa0ea7379f24556f85e921f2606e5dce3b90b30cd41323", func := "loop.example/casemate/laws.FnVmEnds", spec := "fnVmEnds", unfollowed := true, recurses := true, apart := false, narrowed := true }
def FnVmEndsUptoSaid : Prop := fnVmEndsUptoRow.holds Try.pinned (OpenSpec.upto fnVmEndsSpec)

/-- 'laws.FnExactCodOk', WHERE WHAT IT READS IS OF BULK AT MOST 1048576: true; the input reads as it did. -/
def fnExactCodOkUptoRow : OpenClaim := { program := "ytbpomeegpkdekaa", sum := "6499feb856404b94fcfa0ea7379f24556f85e921f2606e5dce3b90b30cd41323", func := "loop.example/casemate/laws.FnExactCodOk", spec := "fnExactCodOk", apart := false, narrowed := true }
def FnExactCodOkUptoSaid : Prop := fnExactCodOkUptoRow.holds Try.pinned (OpenSpec.upto fnExactCodOkSpec)

/-- 'laws.FnExactVmNew', WHERE WHAT IT READS IS OF BULK AT MOST 1048576: true; the input reads as it did. -/
def fnExactVmNewUptoRow : OpenClaim := { program := "ytbpomeegpkdekaa", sum := "6499feb856404b94fcfa0ea7379f24556f85e921f2606e5dce3b90b30cd41323", func := "loop.example/casemate/laws.FnExactVmNew", spec := "fnExactVmNew", apart := false, narrowed := true }
def FnExactVmNewUptoSaid : Prop := fnExactVmNewUptoRow.holds Try.pinned (OpenSpec.upto fnExactVmNewSpec)

/-- 'laws.FnExactVmOk', WHERE WHAT IT READS IS OF BULK AT MOST 1048576: true; the input reads as it did. -/
def fnExactVmOkUptoRow : OpenClaim := { program := "ytbpomeegpkdekaa", sum := "6499feb856404b94fcfa0ea7379f24556f85e921f2606e5dce3b90b30cd41323", func := "loop.example/casemate/laws.FnExactVmOk", spec := "fnExactVmOk", apart := false, narrowed := true }
def FnExactVmOkUptoSaid : Prop := fnExactVmOkUptoRow.holds Try.pinned (OpenSpec.upto fnExactVmOkSpec)

/-- 'laws.FnExactVmStep', WHERE WHAT IT READS IS OF BULK AT MOST 1048576: true; the input reads as it did. -/
def fnExactVmStepUptoRow : OpenClaim := { program := "ytbpomeegpkdekaa", sum := "6499feb856404b94fcfa0ea7379f24556f85e921f2606e5dce3b90b30cd41323", func := "loop.example/casemate/laws.FnExactVmStep", spec := "fnExactVmStep", unfollowed := true, recurses := true, apart := false, narrowed := true }
def FnExactVmStepUptoSaid : Prop := fnExactVmStepUptoRow.holds Try.pinned (OpenSpec.upto fnExactVmStepSpec)

/-- 'laws.FnExactVmGive', WHERE WHAT IT READS IS OF BULK AT MOST 1048576: true; the input reads as it did. -/
def fnExactVmGiveUptoRow : OpenClaim := { program := "ytbpomeegpkdekaa", sum := "6499feb856404b94fcfa0ea7379f24556f85e921f2606e5dce3b90b30cd41323", func := "loop.example/casemate/laws.FnExactVmGive", spec := "fnExactVmGive", unfollowed := true, recurses := true, apart := false, narrowed := true }
def FnExactVmGiveUptoSaid : Prop := fnExactVmGiveUptoRow.holds Try.pinned (OpenSpec.upto fnExactVmGiveSpec)

end Rows
end Go.Proofs.Ytbpomeegpkdekaa
