/-
  No cell of these rows narrows 'for every input' (looked for: loops, veiled, ifaces, maps, wideKeys, modest, calm, conditions, laid).
  DERIVED. THE GIVEN ROWS OF THIS SEAT. 13 by the template 'for every input the law returns true; each argument reads behind the call as it read before'; 0 by the template 'total and deterministic' (their statements: YtanmapgpplhecaaTotals.lean).
  GIVEN WITH THE SEED: the statements are not yours to turn. If you find one false, say at which input.
  Laid BY PROGRAM, IN A SANDBOX (cutbox-rows.mjs): the forced cells as the released guide's own fill.sh prints them over the translation 338145d4cb684005… (all of the seat's roots in one cut). By AI agents, Wed Nov 11 2026. No macro, syntax, notation, axiom, sorry.
-/
import Derived.Test.YtanmapgpplhecaaChecked
import GoSem.Claim
import GoSem.ClaimJoined
import GoSem.ClaimMapViews
import Derived.JoinedTies
import Derived.KernelRfl
namespace Go.Proofs.Ytanmapgpplhecaa
/- THE CELL 'sum', in the pinned program and in every row, IS THE sha256 OF THE DUMP (.gsa) THAT YtanmapgpplhecaaProg.lean LOADS. Nothing in Lean hashes anything: it is a label: what it is worth is what the hold of that sum in a sandbox is worth. -/
noncomputable def Try.pinned : Pinned := { name := "ytanmapgpplhecaa", sum := "338145d4cb6840053f93ed1ecae18c72b9a78decefd7ee7d36997af55cf0a8d0", checked := Try.checked }
namespace Rows
def none {H : Type} : Left H := { results := [], args := [] }

/-- 'laws.FnBoxQueue': WHATEVER THE INPUT: true; the input reads as it did. -/
def fnBoxQueueSpec : ChangeSpec := { name := "fnBoxQueue", fn := fun _ => fun
  | [d1, d2] => { results := [.lit (.bool true)], args := [d1, d2] }
  | _ => none }
def fnBoxQueueRow : OpenClaim := { program := "ytanmapgpplhecaa", sum := "338145d4cb6840053f93ed1ecae18c72b9a78decefd7ee7d36997af55cf0a8d0", func := "loop.example/casemate/laws.FnBoxQueue", spec := "fnBoxQueue", apart := false }
def FnBoxQueueSaid : Prop := fnBoxQueueRow.holds Try.pinned (OpenSpec.ofChange fnBoxQueueSpec)

/-- ITS FALSE NEIGHBOUR: 'it returns false'. Refute it at one input. -/
def fnBoxQueueWrong : ChangeSpec := { name := "fnBoxQueue", fn := fun _ => fun
  | [d1, d2] => { results := [.lit (.bool false)], args := [d1, d2] }
  | _ => none }
def FnBoxQueueWrongFalsely : Prop := fnBoxQueueRow.holds Try.pinned (OpenSpec.ofChange fnBoxQueueWrong)

/-- 'laws.FnBoxFull': WHATEVER THE INPUT: true; the input reads as it did. -/
def fnBoxFullSpec : ChangeSpec := { name := "fnBoxFull", fn := fun _ => fun
  | [d] => { results := [.lit (.bool true)], args := [d] }
  | _ => none }
def fnBoxFullRow : OpenClaim := { program := "ytanmapgpplhecaa", sum := "338145d4cb6840053f93ed1ecae18c72b9a78decefd7ee7d36997af55cf0a8d0", func := "loop.example/casemate/laws.FnBoxFull", spec := "fnBoxFull", apart := false }
def FnBoxFullSaid : Prop := fnBoxFullRow.holds Try.pinned (OpenSpec.ofChange fnBoxFullSpec)

/-- ITS FALSE NEIGHBOUR: 'it returns false'. Refute it at one input. -/
def fnBoxFullWrong : ChangeSpec := { name := "fnBoxFull", fn := fun _ => fun
  | [d] => { results := [.lit (.bool false)], args := [d] }
  | _ => none }
def FnBoxFullWrongFalsely : Prop := fnBoxFullRow.holds Try.pinned (OpenSpec.ofChange fnBoxFullWrong)

/-- 'laws.FnGrdFirst': WHATEVER THE INPUT: true; the input reads as it did. -/
def fnGrdFirstSpec : ChangeSpec := { name := "fnGrdFirst", fn := fun _ => fun
  | [d] => { results := [.lit (.bool true)], args := [d] }
  | _ => none }
def fnGrdFirstRow : OpenClaim := { program := "ytanmapgpplhecaa", sum := "338145d4cb6840053f93ed1ecae18c72b9a78decefd7ee7d36997af55cf0a8d0", func := "loop.example/casemate/laws.FnGrdFirst", spec := "fnGrdFirst", unfollowed := true, recurses := true, apart := false }
def FnGrdFirstSaid : Prop := fnGrdFirstRow.holds Try.pinned (OpenSpec.ofChange fnGrdFirstSpec)

/-- ITS FALSE NEIGHBOUR: 'it returns false'. Refute it at one input. -/
def fnGrdFirstWrong : ChangeSpec := { name := "fnGrdFirst", fn := fun _ => fun
  | [d] => { results := [.lit (.bool false)], args := [d] }
  | _ => none }
def FnGrdFirstWrongFalsely : Prop := fnGrdFirstRow.holds Try.pinned (OpenSpec.ofChange fnGrdFirstWrong)

/-- 'laws.FnGrdLess': WHATEVER THE INPUT: true; the input reads as it did. -/
def fnGrdLessSpec : ChangeSpec := { name := "fnGrdLess", fn := fun _ => fun
  | [d] => { results := [.lit (.bool true)], args := [d] }
  | _ => none }
def fnGrdLessRow : OpenClaim := { program := "ytanmapgpplhecaa", sum := "338145d4cb6840053f93ed1ecae18c72b9a78decefd7ee7d36997af55cf0a8d0", func := "loop.example/casemate/laws.FnGrdLess", spec := "fnGrdLess", unfollowed := true, recurses := true, apart := false }
def FnGrdLessSaid : Prop := fnGrdLessRow.holds Try.pinned (OpenSpec.ofChange fnGrdLessSpec)

/-- ITS FALSE NEIGHBOUR: 'it returns false'. Refute it at one input. -/
def fnGrdLessWrong : ChangeSpec := { name := "fnGrdLess", fn := fun _ => fun
  | [d] => { results := [.lit (.bool false)], args := [d] }
  | _ => none }
def FnGrdLessWrongFalsely : Prop := fnGrdLessRow.holds Try.pinned (OpenSpec.ofChange fnGrdLessWrong)

/-- 'laws.FnGrdMore': WHATEVER THE INPUT: true; the input reads as it did. -/
def fnGrdMoreSpec : ChangeSpec := { name := "fnGrdMore", fn := fun _ => fun
  | [d1, d2] => { results := [.lit (.bool true)], args := [d1, d2] }
  | _ => none }
def fnGrdMoreRow : OpenClaim := { program := "ytanmapgpplhecaa", sum := "338145d4cb6840053f93ed1ecae18c72b9a78decefd7ee7d36997af55cf0a8d0", func := "loop.example/casemate/laws.FnGrdMore", spec := "fnGrdMore", unfollowed := true, recurses := true, apart := false }
def FnGrdMoreSaid : Prop := fnGrdMoreRow.holds Try.pinned (OpenSpec.ofChange fnGrdMoreSpec)

/-- ITS FALSE NEIGHBOUR: 'it returns false'. Refute it at one input. -/
def fnGrdMoreWrong : ChangeSpec := { name := "fnGrdMore", fn := fun _ => fun
  | [d1, d2] => { results := [.lit (.bool false)], args := [d1, d2] }
  | _ => none }
def FnGrdMoreWrongFalsely : Prop := fnGrdMoreRow.holds Try.pinned (OpenSpec.ofChange fnGrdMoreWrong)

/-- 'laws.FnExactBoxNew': WHATEVER THE INPUT: true; the input reads as it did. -/
def fnExactBoxNewSpec : ChangeSpec := { name := "fnExactBoxNew", fn := fun _ => fun
  | [d] => { results := [.lit (.bool true)], args := [d] }
  | _ => none }
def fnExactBoxNewRow : OpenClaim := { program := "ytanmapgpplhecaa", sum := "338145d4cb6840053f93ed1ecae18c72b9a78decefd7ee7d36997af55cf0a8d0", func := "loop.example/casemate/laws.FnExactBoxNew", spec := "fnExactBoxNew", apart := false }
def FnExactBoxNewSaid : Prop := fnExactBoxNewRow.holds Try.pinned (OpenSpec.ofChange fnExactBoxNewSpec)

/-- ITS FALSE NEIGHBOUR: 'it returns false'. Refute it at one input. -/
def fnExactBoxNewWrong : ChangeSpec := { name := "fnExactBoxNew", fn := fun _ => fun
  | [d] => { results := [.lit (.bool false)], args := [d] }
  | _ => none }
def FnExactBoxNewWrongFalsely : Prop := fnExactBoxNewRow.holds Try.pinned (OpenSpec.ofChange fnExactBoxNewWrong)

/-- 'laws.FnExactBoxOk': WHATEVER THE INPUT: true; the input reads as it did. -/
def fnExactBoxOkSpec : ChangeSpec := { name := "fnExactBoxOk", fn := fun _ => fun
  | [d] => { results := [.lit (.bool true)], args := [d] }
  | _ => none }
def fnExactBoxOkRow : OpenClaim := { program := "ytanmapgpplhecaa", sum := "338145d4cb6840053f93ed1ecae18c72b9a78decefd7ee7d36997af55cf0a8d0", func := "loop.example/casemate/laws.FnExactBoxOk", spec := "fnExactBoxOk", apart := false }
def FnExactBoxOkSaid : Prop := fnExactBoxOkRow.holds Try.pinned (OpenSpec.ofChange fnExactBoxOkSpec)

/-- ITS FALSE NEIGHBOUR: 'it returns false'. Refute it at one input. -/
def fnExactBoxOkWrong : ChangeSpec := { name := "fnExactBoxOk", fn := fun _ => fun
  | [d] => { results := [.lit (.bool false)], args := [d] }
  | _ => none }
def FnExactBoxOkWrongFalsely : Prop := fnExactBoxOkRow.holds Try.pinned (OpenSpec.ofChange fnExactBoxOkWrong)

/-- 'laws.FnExactBoxPut': WHATEVER THE INPUT: true; the input reads as it did. -/
def fnExactBoxPutSpec : ChangeSpec := { name := "fnExactBoxPut", fn := fun _ => fun
  | [d1, d2] => { results := [.lit (.bool true)], args := [d1, d2] }
  | _ => none }
def fnExactBoxPutRow : OpenClaim := { program := "ytanmapgpplhecaa", sum := "338145d4cb6840053f93ed1ecae18c72b9a78decefd7ee7d36997af55cf0a8d0", func := "loop.example/casemate/laws.FnExactBoxPut", spec := "fnExactBoxPut", apart := false }
def FnExactBoxPutSaid : Prop := fnExactBoxPutRow.holds Try.pinned (OpenSpec.ofChange fnExactBoxPutSpec)

/-- ITS FALSE NEIGHBOUR: 'it returns false'. Refute it at one input. -/
def fnExactBoxPutWrong : ChangeSpec := { name := "fnExactBoxPut", fn := fun _ => fun
  | [d1, d2] => { results := [.lit (.bool false)], args := [d1, d2] }
  | _ => none }
def FnExactBoxPutWrongFalsely : Prop := fnExactBoxPutRow.holds Try.pinned (OpenSpec.ofChange fnExactBoxPutWrong)

/-- 'laws.FnExactBoxTake': WHATEVER THE INPUT: true; the input reads as it did. -/
def fnExactBoxTakeSpec : ChangeSpec := { name := "fnExactBoxTake", fn := fun _ => fun
  | [d] => { results := [.lit (.bool true)], args := [d] }
  | _ => none }
def fnExactBoxTakeRow : OpenClaim := { program := "ytanmapgpplhecaa", sum := "338145d4cb6840053f93ed1ecae18c72b9a78decefd7ee7d36997af55cf0a8d0", func := "loop.example/casemate/laws.FnExactBoxTake", spec := "fnExactBoxTake", apart := false }
def FnExactBoxTakeSaid : Prop := fnExactBoxTakeRow.holds Try.pinned (OpenSpec.ofChange fnExactBoxTakeSpec)

/-- ITS FALSE NEIGHBOUR: 'it returns false'. Refute it at one input. -/
def fnExactBoxTakeWrong : ChangeSpec := { name := "fnExactBoxTake", fn := fun _ => fun
  | [d] => { results := [.lit (.bool false)], args := [d] }
  | _ => none }
def FnExactBoxTakeWrongFalsely : Prop := fnExactBoxTakeRow.holds Try.pinned (OpenSpec.ofChange fnExactBoxTakeWrong)

/-- 'laws.FnExactGrdRuleOk': WHATEVER THE INPUT: true; the input reads as it did. -/
def fnExactGrdRuleOkSpec : ChangeSpec := { name := "fnExactGrdRuleOk", fn := fun _ => fun
  | [d] => { results := [.lit (.bool true)], args := [d] }
  | _ => none }
def fnExactGrdRuleOkRow : OpenClaim := { program := "ytanmapgpplhecaa", sum := "338145d4cb6840053f93ed1ecae18c72b9a78decefd7ee7d36997af55cf0a8d0", func := "loop.example/casemate/laws.FnExactGrdRuleOk", spec := "fnExactGrdRuleOk", apart := false }
def FnExactGrdRuleOkSaid : Prop := fnExactGrdRuleOkRow.holds Try.pinned (OpenSpec.ofChange fnExactGrdRuleOkSpec)

/-- ITS FALSE NEIGHBOUR: 'it returns false'. Refute it at one input. -/
def fnExactGrdRuleOkWrong : ChangeSpec := { name := "fnExactGrdRuleOk", fn := fun _ => fun
  | [d] => { results := [.lit (.bool false)], args := [d] }
  | _ => none }
def FnExactGrdRuleOkWrongFalsely : Prop := fnExactGrdRuleOkRow.holds Try.pinned (OpenSpec.ofChange fnExactGrdRuleOkWrong)

/-- 'laws.FnExactGrdOk': WHATEVER THE INPUT: true; the input reads as it did. -/
def fnExactGrdOkSpec : ChangeSpec := { name := "fnExactGrdOk", fn := fun _ => fun
  | [d] => { results := [.lit (.bool true)], args := [d] }
  | _ => none }
def fnExactGrdOkRow : OpenClaim := { program := "ytanmapgpplhecaa", sum := "338145d4cb6840053f93ed1ecae18c72b9a78decefd7ee7d36997af55cf0a8d0", func := "loop.example/casemate/laws.FnExactGrdOk", spec := "fnExactGrdOk", unfollowed := true, recurses := true, apart := false }
def FnExactGrdOkSaid : Prop := fnExactGrdOkRow.holds Try.pinned (OpenSpec.ofChange fnExactGrdOkSpec)

/-- ITS FALSE NEIGHBOUR: 'it returns false'. Refute it at one input. -/
def fnExactGrdOkWrong : ChangeSpec := { name := "fnExactGrdOk", fn := fun _ => fun
  | [d] => { results := [.lit (.bool false)], args := [d] }
  | _ => none }
def FnExactGrdOkWrongFalsely : Prop := fnExactGrdOkRow.holds Try.pinned (OpenSpec.ofChange fnExactGrdOkWrong)

/-- 'laws.FnExactGrdFits': WHATEVER THE INPUT: true; the input reads as it did. -/
def fnExactGrdFitsSpec : ChangeSpec := { name := "fnExactGrdFits", fn := fun _ => fun
  | [d1, d2] => { results := [.lit (.bool true)], args := [d1, d2] }
  | _ => none }
def fnExactGrdFitsRow : OpenClaim := { program := "ytanmapgpplhecaa", sum := "338145d4cb6840053f93ed1ecae18c72b9a78decefd7ee7d36997af55cf0a8d0", func := "loop.example/casemate/laws.FnExactGrdFits", spec := "fnExactGrdFits", apart := false }
def FnExactGrdFitsSaid : Prop := fnExactGrdFitsRow.holds Try.pinned (OpenSpec.ofChange fnExactGrdFitsSpec)

/-- ITS FALSE NEIGHBOUR: 'it returns false'. Refute it at one input. -/
def fnExactGrdFitsWrong : ChangeSpec := { name := "fnExactGrdFits", fn := fun _ => fun
  | [d1, d2] => { results := [.lit (.bool false)], args := [d1, d2] }
  | _ => none }
def FnExactGrdFitsWrongFalsely : Prop := fnExactGrdFitsRow.holds Try.pinned (OpenSpec.ofChange fnExactGrdFitsWrong)

/-- 'laws.FnExactGrdDo': WHATEVER THE INPUT: true; the input reads as it did. -/
def fnExactGrdDoSpec : ChangeSpec := { name := "fnExactGrdDo", fn := fun _ => fun
  | [d1, d2] => { results := [.lit (.bool true)], args := [d1, d2] }
  | _ => none }
def fnExactGrdDoRow : OpenClaim := { program := "ytanmapgpplhecaa", sum := "338145d4cb6840053f93ed1ecae18c72b9a78decefd7ee7d36997af55cf0a8d0", func := "loop.example/casemate/laws.FnExactGrdDo", spec := "fnExactGrdDo", unfollowed := true, recurses := true, apart := false }
def FnExactGrdDoSaid : Prop := fnExactGrdDoRow.holds Try.pinned (OpenSpec.ofChange fnExactGrdDoSpec)

/-- ITS FALSE NEIGHBOUR: 'it returns false'. Refute it at one input. -/
def fnExactGrdDoWrong : ChangeSpec := { name := "fnExactGrdDo", fn := fun _ => fun
  | [d1, d2] => { results := [.lit (.bool false)], args := [d1, d2] }
  | _ => none }
def FnExactGrdDoWrongFalsely : Prop := fnExactGrdDoRow.holds Try.pinned (OpenSpec.ofChange fnExactGrdDoWrong)

/- THE SECOND FORM. 'bulk': how many values and letters a reading holds, each counted each time it is reached (what is shared counts as often as it is met; a slice's spare places count too). A statement '..UptoSaid' is the law's where the arguments, and the package variables that the reading takes, are together of bulk at most 1048576: NARROWER than '..Said'. Prove '..Said' where nothing that the law and all that it calls make is longer than what came in: it says more and counts as full. Else prove '..UptoSaid'. A law counts once. -/
mutual
def uptoBulk {H : Type} : DataW H → Nat
  | .lit (.string bytes) => bytes.length + 1
  | .lit _ => 1
  | .nil => 1
  | .ptr d => uptoBulk d + 1
  | .slice elems spare => uptoBulkAll elems + uptoBulkAll spare + 1
  | .agg parts => uptoBulkAll parts + 1
  | .iface _ d => uptoBulk d + 1
  | .map entries => uptoBulkEntries entries + 1
  | .held _ => 1
def uptoBulkAll {H : Type} : List (DataW H) → Nat
  | [] => 0
  | d :: r => uptoBulk d + uptoBulkAll r
def uptoBulkEntries {H : Type} : List (Lit × DataW H) → Nat
  | [] => 0
  | x :: r => uptoBulkEntry x + uptoBulkEntries r
def uptoBulkEntry {H : Type} : Lit × DataW H → Nat
  | (.string bytes, d) => bytes.length + uptoBulk d + 1
  | (_, d) => uptoBulk d + 1
 end
def uptoSmall : (H : Type) → List (DataW H) → Bool := fun _ ds => decide (uptoBulkAll ds ≤ 1048576)
def OpenSpec.upto (s : _root_.Go.ChangeSpec) : _root_.Go.OpenSpec := { _root_.Go.OpenSpec.ofChange s with cond := some uptoSmall }

/-- 'laws.FnBoxQueue', WHERE WHAT IT READS IS OF BULK AT MOST 1048576: true; the input reads as it did. -/
def fnBoxQueueUptoRow : OpenClaim := { program := "ytanmapgpplhecaa", sum := "338145d4cb6840053f93ed1ecae18c72b9a78decefd7ee7d36997af55cf0a8d0", func := "loop.example/casemate/laws.FnBoxQueue", spec := "fnBoxQueue", apart := false, narrowed := true }
def FnBoxQueueUptoSaid : Prop := fnBoxQueueUptoRow.holds Try.pinned (OpenSpec.upto fnBoxQueueSpec)

/-- 'laws.FnBoxFull', WHERE WHAT IT READS IS OF BULK AT MOST 1048576: true; the input reads as it did. -/
def fnBoxFullUptoRow : OpenClaim := { program := "ytanmapgpplhecaa", sum := "338145d4cb6840053f93ed1ecae18c72b9a78decefd7ee7d36997af55cf0a8d0", func := "loop.example/casemate/laws.FnBoxFull", spec := "fnBoxFull", apart := false, narrowed := true }
def FnBoxFullUptoSaid : Prop := fnBoxFullUptoRow.holds Try.pinned (OpenSpec.upto fnBoxFullSpec)

/-- 'laws.FnGrdFirst', WHERE WHAT IT READS IS OF BULK AT MOST 1048576: true; the input reads as it did. -/
def fnGrdFirstUptoRow : OpenClaim := { program := "ytanmapgpplhecaa", sum := "338145d4cb6840053f93ed1ecae18c72b9a78decefd7ee7d36997af55cf0a8d0", func := "loop.example/casemate/laws.FnGrdFirst", spec := "fnGrdFirst", unfollowed := true, recurses := true, apart := false, narrowed := true }
def FnGrdFirstUptoSaid : Prop := fnGrdFirstUptoRow.holds Try.pinned (OpenSpec.upto fnGrdFirstSpec)

/-- 'laws.FnGrdLess', WHERE WHAT IT READS IS OF BULK AT MOST 1048576: true; the input reads as it did. -/
def fnGrdLessUptoRow : OpenClaim := { program := "ytanmapgpplhecaa", sum := "338145d4cb6840053f93ed1ecae18c72b9a78decefd7ee7d36997af55cf0a8d0", func := "loop.example/casemate/laws.FnGrdLess", spec := "fnGrdLess", unfollowed := true, recurses := true, apart := false, narrowed := true }
def FnGrdLessUptoSaid : Prop := fnGrdLessUptoRow.holds Try.pinned (OpenSpec.upto fnGrdLessSpec)

/-- 'laws.FnGrdMore', WHERE WHAT IT READS IS OF BULK AT MOST 1048576: true; the input reads as it did. -/
def fnGrdMoreUptoRow : OpenClaim := { program := "ytanmapgpplhecaa", sum := "338145d4cb6840053f93ed1ecae18c72b9a78decefd7ee7d36997af55cf0a8d0", func := "loop.example/casemate/laws.FnGrdMore", spec := "fnGrdMore", unfollowed := true, recurses := true, apart := false, narrowed := true }
def FnGrdMoreUptoSaid : Prop := fnGrdMoreUptoRow.holds Try.pinned (OpenSpec.upto fnGrdMoreSpec)

/-- 'laws.FnExactBoxNew', WHERE WHAT IT READS IS OF BULK AT MOST 1048576: true; the input reads as it did. -/
def fnExactBoxNewUptoRow : OpenClaim := { program := "ytanmapgpplhecaa", sum := "338145d4cb6840053f93ed1ecae18c72b9a78decefd7ee7d36997af55cf0a8d0", func := "loop.example/casemate/laws.FnExactBoxNew", spec := "fnExactBoxNew", apart := false, narrowed := true }
def FnExactBoxNewUptoSaid : Prop := fnExactBoxNewUptoRow.holds Try.pinned (OpenSpec.upto fnExactBoxNewSpec)

/-- 'laws.FnExactBoxOk', WHERE WHAT IT READS IS OF BULK AT MOST 1048576: true; the input reads as it did. -/
def fnExactBoxOkUptoRow : OpenClaim := { program := "ytanmapgpplhecaa", sum := "338145d4cb6840053f93ed1ecae18c72b9a78decefd7ee7d36997af55cf0a8d0", func := "loop.example/casemate/laws.FnExactBoxOk", spec := "fnExactBoxOk", apart := false, narrowed := true }
def FnExactBoxOkUptoSaid : Prop := fnExactBoxOkUptoRow.holds Try.pinned (OpenSpec.upto fnExactBoxOkSpec)

/-- 'laws.FnExactBoxPut', WHERE WHAT IT READS IS OF BULK AT MOST 1048576: true; the input reads as it did. -/
def fnExactBoxPutUptoRow : OpenClaim := { program := "ytanmapgpplhecaa", sum := "338145d4cb6840053f93ed1ecae18c72b9a78decefd7ee7d36997af55cf0a8d0", func := "loop.example/casemate/laws.FnExactBoxPut", spec := "fnExactBoxPut", apart := false, narrowed := true }
def FnExactBoxPutUptoSaid : Prop := fnExactBoxPutUptoRow.holds Try.pinned (OpenSpec.upto fnExactBoxPutSpec)

/-- 'laws.FnExactBoxTake', WHERE WHAT IT READS IS OF BULK AT MOST 1048576: true; the input reads as it did. -/
def fnExactBoxTakeUptoRow : OpenClaim := { program := "ytanmapgpplhecaa", sum := "338145d4cb6840053f93ed1ecae18c72b9a78decefd7ee7d36997af55cf0a8d0", func := "loop.example/casemate/laws.FnExactBoxTake", spec := "fnExactBoxTake", apart := false, narrowed := true }
def FnExactBoxTakeUptoSaid : Prop := fnExactBoxTakeUptoRow.holds Try.pinned (OpenSpec.upto fnExactBoxTakeSpec)

/-- 'laws.FnExactGrdRuleOk', WHERE WHAT IT READS IS OF BULK AT MOST 1048576: true; the input reads as it did. -/
def fnExactGrdRuleOkUptoRow : OpenClaim := { program := "ytanmapgpplhecaa", sum := "338145d4cb6840053f93ed1ecae18c72b9a78decefd7ee7d36997af55cf0a8d0", func := "loop.example/casemate/laws.FnExactGrdRuleOk", spec := "fnExactGrdRuleOk", apart := false, narrowed := true }
def FnExactGrdRuleOkUptoSaid : Prop := fnExactGrdRuleOkUptoRow.holds Try.pinned (OpenSpec.upto fnExactGrdRuleOkSpec)

/-- 'laws.FnExactGrdOk', WHERE WHAT IT READS IS OF BULK AT MOST 1048576: true; the input reads as it did. -/
def fnExactGrdOkUptoRow : OpenClaim := { program := "ytanmapgpplhecaa", sum := "338145d4cb6840053f93ed1ecae18c72b9a78decefd7ee7d36997af55cf0a8d0", func := "loop.example/casemate/laws.FnExactGrdOk", spec := "fnExactGrdOk", unfollowed := true, recurses := true, apart := false, narrowed := true }
def FnExactGrdOkUptoSaid : Prop := fnExactGrdOkUptoRow.holds Try.pinned (OpenSpec.upto fnExactGrdOkSpec)

/-- 'laws.FnExactGrdFits', WHERE WHAT IT READS IS OF BULK AT MOST 1048576: true; the input reads as it did. -/
def fnExactGrdFitsUptoRow : OpenClaim := { program := "ytanmapgpplhecaa", sum := "338145d4cb6840053f93ed1ecae18c72b9a78decefd7ee7d36997af55cf0a8d0", func := "loop.example/casemate/laws.FnExactGrdFits", spec := "fnExactGrdFits", apart := false, narrowed := true }
def FnExactGrdFitsUptoSaid : Prop := fnExactGrdFitsUptoRow.holds Try.pinned (OpenSpec.upto fnExactGrdFitsSpec)

/-- 'laws.FnExactGrdDo', WHERE WHAT IT READS IS OF BULK AT MOST 1048576: true; the input reads as it did. -/
def fnExactGrdDoUptoRow : OpenClaim := { program := "ytanmapgpplhecaa", sum := "338145d4cb6840053f93ed1ecae18c72b9a78decefd7ee7d36997af55cf0a8d0", func := "loop.example/casemate/laws.FnExactGrdDo", spec := "fnExactGrdDo", unfollowed := true, recurses := true, apart := false, narrowed := true }
def FnExactGrdDoUptoSaid : Prop := fnExactGrdDoUptoRow.holds Try.pinned (OpenSpec.upto fnExactGrdDoSpec)

end Rows
end Go.Proofs.Ytanmapgpplhecaa
