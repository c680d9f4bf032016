/-
  No cell of these rows narrows 'for every input' (looked for: loops, veiled, ifaces, maps, wideKeys, modest, calm, conditions, laid).
  DERIVED. THE GIVEN ROWS OF THIS SEAT. 12 by the template 'for every input the law returns true; each argument reads behind the call as it read before'; 0 by the template 'total and deterministic' (their statements: YtbmjaiojeehifaaTotals.lean).
  GIVEN WITH THE SEED: the statements are not yours to turn. If you find one false, say at which input.
  Laid BY PROGRAM, IN A SANDBOX (cutbox-rows.mjs): the forced cells as the released guide's own fill.sh prints them over the translation e441bf9505e677b1… (all of the seat's roots in one cut). By AI agents, Wed Nov 11 2026. No macro, syntax, notation, axiom, sorry.
-/
import Derived.Test.YtbmjaiojeehifaaChecked
import GoSem.Claim
import GoSem.ClaimJoined
import GoSem.ClaimMapViews
import Derived.JoinedTies
import Derived.KernelRfl
namespace Go.Proofs.Ytbmjaiojeehifaa
/- THE CELL 'sum', in the pinned program and in every row, IS THE sha256 OF THE DUMP (.gsa) THAT YtbmjaiojeehifaaProg.lean LOADS. Nothing in Lean hashes anything: it is a label: what it is worth is what the hold of that sum in a sandbox is worth. -/
noncomputable def Try.pinned : Pinned := { name := "ytbmjaiojeehifaa", sum := "e441bf9505e677b185309636212457ef99800ffcbc3c41a5a27c03661fdfb9a7", checked := Try.checked }
namespace Rows
def none {H : Type} : Left H := { results := [], args := [] }

/-- 'laws.FnSealTwice': WHATEVER THE INPUT: true; the input reads as it did. -/
def fnSealTwiceSpec : ChangeSpec := { name := "fnSealTwice", fn := fun _ => fun
  | [d] => { results := [.lit (.bool true)], args := [d] }
  | _ => none }
def fnSealTwiceRow : OpenClaim := { program := "ytbmjaiojeehifaa", sum := "e441bf9505e677b185309636212457ef99800ffcbc3c41a5a27c03661fdfb9a7", func := "loop.example/casemate/laws.FnSealTwice", spec := "fnSealTwice", unfollowed := true, recurses := true, apart := false }
def FnSealTwiceSaid : Prop := fnSealTwiceRow.holds Try.pinned (OpenSpec.ofChange fnSealTwiceSpec)

/-- ITS FALSE NEIGHBOUR: 'it returns false'. Refute it at one input. -/
def fnSealTwiceWrong : ChangeSpec := { name := "fnSealTwice", fn := fun _ => fun
  | [d] => { results := [.lit (.bool false)], args := [d] }
  | _ => none }
def FnSealTwiceWrongFalsely : Prop := fnSealTwiceRow.holds Try.pinned (OpenSpec.ofChange fnSealTwiceWrong)

/-- 'laws.FnFrmBody': WHATEVER THE INPUT: true; the input reads as it did. -/
def fnFrmBodySpec : ChangeSpec := { name := "fnFrmBody", fn := fun _ => fun
  | [d1, d2] => { results := [.lit (.bool true)], args := [d1, d2] }
  | _ => none }
def fnFrmBodyRow : OpenClaim := { program := "ytbmjaiojeehifaa", sum := "e441bf9505e677b185309636212457ef99800ffcbc3c41a5a27c03661fdfb9a7", func := "loop.example/casemate/laws.FnFrmBody", spec := "fnFrmBody", apart := false }
def FnFrmBodySaid : Prop := fnFrmBodyRow.holds Try.pinned (OpenSpec.ofChange fnFrmBodySpec)

/-- ITS FALSE NEIGHBOUR: 'it returns false'. Refute it at one input. -/
def fnFrmBodyWrong : ChangeSpec := { name := "fnFrmBody", fn := fun _ => fun
  | [d1, d2] => { results := [.lit (.bool false)], args := [d1, d2] }
  | _ => none }
def FnFrmBodyWrongFalsely : Prop := fnFrmBodyRow.holds Try.pinned (OpenSpec.ofChange fnFrmBodyWrong)

/-- 'laws.FnExactBytMessage': WHATEVER THE INPUT: true; the input reads as it did. -/
def fnExactBytMessageSpec : ChangeSpec := { name := "fnExactBytMessage", fn := fun _ => fun
  | [d] => { results := [.lit (.bool true)], args := [d] }
  | _ => none }
def fnExactBytMessageRow : OpenClaim := { program := "ytbmjaiojeehifaa", sum := "e441bf9505e677b185309636212457ef99800ffcbc3c41a5a27c03661fdfb9a7", func := "loop.example/casemate/laws.FnExactBytMessage", spec := "fnExactBytMessage", apart := false }
def FnExactBytMessageSaid : Prop := fnExactBytMessageRow.holds Try.pinned (OpenSpec.ofChange fnExactBytMessageSpec)

/-- ITS FALSE NEIGHBOUR: 'it returns false'. Refute it at one input. -/
def fnExactBytMessageWrong : ChangeSpec := { name := "fnExactBytMessage", fn := fun _ => fun
  | [d] => { results := [.lit (.bool false)], args := [d] }
  | _ => none }
def FnExactBytMessageWrongFalsely : Prop := fnExactBytMessageRow.holds Try.pinned (OpenSpec.ofChange fnExactBytMessageWrong)

/-- 'laws.FnExactBytPut': WHATEVER THE INPUT: true; the input reads as it did. -/
def fnExactBytPutSpec : ChangeSpec := { name := "fnExactBytPut", fn := fun _ => fun
  | [d1, d2] => { results := [.lit (.bool true)], args := [d1, d2] }
  | _ => none }
def fnExactBytPutRow : OpenClaim := { program := "ytbmjaiojeehifaa", sum := "e441bf9505e677b185309636212457ef99800ffcbc3c41a5a27c03661fdfb9a7", func := "loop.example/casemate/laws.FnExactBytPut", spec := "fnExactBytPut", apart := false }
def FnExactBytPutSaid : Prop := fnExactBytPutRow.holds Try.pinned (OpenSpec.ofChange fnExactBytPutSpec)

/-- ITS FALSE NEIGHBOUR: 'it returns false'. Refute it at one input. -/
def fnExactBytPutWrong : ChangeSpec := { name := "fnExactBytPut", fn := fun _ => fun
  | [d1, d2] => { results := [.lit (.bool false)], args := [d1, d2] }
  | _ => none }
def FnExactBytPutWrongFalsely : Prop := fnExactBytPutRow.holds Try.pinned (OpenSpec.ofChange fnExactBytPutWrong)

/-- 'laws.FnExactSealKey': WHATEVER THE INPUT: true; the input reads as it did. -/
def fnExactSealKeySpec : ChangeSpec := { name := "fnExactSealKey", fn := fun _ => fun
  | [d1, d2, d3, d4, d5, d6] => { results := [.lit (.bool true)], args := [d1, d2, d3, d4, d5, d6] }
  | _ => none }
def fnExactSealKeyRow : OpenClaim := { program := "ytbmjaiojeehifaa", sum := "e441bf9505e677b185309636212457ef99800ffcbc3c41a5a27c03661fdfb9a7", func := "loop.example/casemate/laws.FnExactSealKey", spec := "fnExactSealKey", unfollowed := true, recurses := true, apart := false }
def FnExactSealKeySaid : Prop := fnExactSealKeyRow.holds Try.pinned (OpenSpec.ofChange fnExactSealKeySpec)

/-- ITS FALSE NEIGHBOUR: 'it returns false'. Refute it at one input. -/
def fnExactSealKeyWrong : ChangeSpec := { name := "fnExactSealKey", fn := fun _ => fun
  | [d1, d2, d3, d4, d5, d6] => { results := [.lit (.bool false)], args := [d1, d2, d3, d4, d5, d6] }
  | _ => none }
def FnExactSealKeyWrongFalsely : Prop := fnExactSealKeyRow.holds Try.pinned (OpenSpec.ofChange fnExactSealKeyWrong)

/-- 'laws.FnExactSealTag': WHATEVER THE INPUT: true; the input reads as it did. -/
def fnExactSealTagSpec : ChangeSpec := { name := "fnExactSealTag", fn := fun _ => fun
  | [d1, d2, d3, d4] => { results := [.lit (.bool true)], args := [d1, d2, d3, d4] }
  | _ => none }
def fnExactSealTagRow : OpenClaim := { program := "ytbmjaiojeehifaa", sum := "e441bf9505e677b185309636212457ef99800ffcbc3c41a5a27c03661fdfb9a7", func := "loop.example/casemate/laws.FnExactSealTag", spec := "fnExactSealTag", unfollowed := true, recurses := true, apart := false }
def FnExactSealTagSaid : Prop := fnExactSealTagRow.holds Try.pinned (OpenSpec.ofChange fnExactSealTagSpec)

/-- ITS FALSE NEIGHBOUR: 'it returns false'. Refute it at one input. -/
def fnExactSealTagWrong : ChangeSpec := { name := "fnExactSealTag", fn := fun _ => fun
  | [d1, d2, d3, d4] => { results := [.lit (.bool false)], args := [d1, d2, d3, d4] }
  | _ => none }
def FnExactSealTagWrongFalsely : Prop := fnExactSealTagRow.holds Try.pinned (OpenSpec.ofChange fnExactSealTagWrong)

/-- 'laws.FnExactSealShut': WHATEVER THE INPUT: true; the input reads as it did. -/
def fnExactSealShutSpec : ChangeSpec := { name := "fnExactSealShut", fn := fun _ => fun
  | [d1, d2, d3, d4] => { results := [.lit (.bool true)], args := [d1, d2, d3, d4] }
  | _ => none }
def fnExactSealShutRow : OpenClaim := { program := "ytbmjaiojeehifaa", sum := "e441bf9505e677b185309636212457ef99800ffcbc3c41a5a27c03661fdfb9a7", func := "loop.example/casemate/laws.FnExactSealShut", spec := "fnExactSealShut", unfollowed := true, recurses := true, apart := false }
def FnExactSealShutSaid : Prop := fnExactSealShutRow.holds Try.pinned (OpenSpec.ofChange fnExactSealShutSpec)

/-- ITS FALSE NEIGHBOUR: 'it returns false'. Refute it at one input. -/
def fnExactSealShutWrong : ChangeSpec := { name := "fnExactSealShut", fn := fun _ => fun
  | [d1, d2, d3, d4] => { results := [.lit (.bool false)], args := [d1, d2, d3, d4] }
  | _ => none }
def FnExactSealShutWrongFalsely : Prop := fnExactSealShutRow.holds Try.pinned (OpenSpec.ofChange fnExactSealShutWrong)

/-- 'laws.FnExactFrmHeadOk': WHATEVER THE INPUT: true; the input reads as it did. -/
def fnExactFrmHeadOkSpec : ChangeSpec := { name := "fnExactFrmHeadOk", fn := fun _ => fun
  | [d] => { results := [.lit (.bool true)], args := [d] }
  | _ => none }
def fnExactFrmHeadOkRow : OpenClaim := { program := "ytbmjaiojeehifaa", sum := "e441bf9505e677b185309636212457ef99800ffcbc3c41a5a27c03661fdfb9a7", func := "loop.example/casemate/laws.FnExactFrmHeadOk", spec := "fnExactFrmHeadOk", unfollowed := true, recurses := true, apart := false }
def FnExactFrmHeadOkSaid : Prop := fnExactFrmHeadOkRow.holds Try.pinned (OpenSpec.ofChange fnExactFrmHeadOkSpec)

/-- ITS FALSE NEIGHBOUR: 'it returns false'. Refute it at one input. -/
def fnExactFrmHeadOkWrong : ChangeSpec := { name := "fnExactFrmHeadOk", fn := fun _ => fun
  | [d] => { results := [.lit (.bool false)], args := [d] }
  | _ => none }
def FnExactFrmHeadOkWrongFalsely : Prop := fnExactFrmHeadOkRow.holds Try.pinned (OpenSpec.ofChange fnExactFrmHeadOkWrong)

/-- 'laws.FnExactFrmHeadBytes': WHATEVER THE INPUT: true; the input reads as it did. -/
def fnExactFrmHeadBytesSpec : ChangeSpec := { name := "fnExactFrmHeadBytes", fn := fun _ => fun
  | [d] => { results := [.lit (.bool true)], args := [d] }
  | _ => none }
def fnExactFrmHeadBytesRow : OpenClaim := { program := "ytbmjaiojeehifaa", sum := "e441bf9505e677b185309636212457ef99800ffcbc3c41a5a27c03661fdfb9a7", func := "loop.example/casemate/laws.FnExactFrmHeadBytes", spec := "fnExactFrmHeadBytes", unfollowed := true, recurses := true, apart := false }
def FnExactFrmHeadBytesSaid : Prop := fnExactFrmHeadBytesRow.holds Try.pinned (OpenSpec.ofChange fnExactFrmHeadBytesSpec)

/-- ITS FALSE NEIGHBOUR: 'it returns false'. Refute it at one input. -/
def fnExactFrmHeadBytesWrong : ChangeSpec := { name := "fnExactFrmHeadBytes", fn := fun _ => fun
  | [d] => { results := [.lit (.bool false)], args := [d] }
  | _ => none }
def FnExactFrmHeadBytesWrongFalsely : Prop := fnExactFrmHeadBytesRow.holds Try.pinned (OpenSpec.ofChange fnExactFrmHeadBytesWrong)

/-- 'laws.FnExactFrmPut': WHATEVER THE INPUT: true; the input reads as it did. -/
def fnExactFrmPutSpec : ChangeSpec := { name := "fnExactFrmPut", fn := fun _ => fun
  | [d1, d2] => { results := [.lit (.bool true)], args := [d1, d2] }
  | _ => none }
def fnExactFrmPutRow : OpenClaim := { program := "ytbmjaiojeehifaa", sum := "e441bf9505e677b185309636212457ef99800ffcbc3c41a5a27c03661fdfb9a7", func := "loop.example/casemate/laws.FnExactFrmPut", spec := "fnExactFrmPut", unfollowed := true, recurses := true, apart := false }
def FnExactFrmPutSaid : Prop := fnExactFrmPutRow.holds Try.pinned (OpenSpec.ofChange fnExactFrmPutSpec)

/-- ITS FALSE NEIGHBOUR: 'it returns false'. Refute it at one input. -/
def fnExactFrmPutWrong : ChangeSpec := { name := "fnExactFrmPut", fn := fun _ => fun
  | [d1, d2] => { results := [.lit (.bool false)], args := [d1, d2] }
  | _ => none }
def FnExactFrmPutWrongFalsely : Prop := fnExactFrmPutRow.holds Try.pinned (OpenSpec.ofChange fnExactFrmPutWrong)

/-- 'laws.FnExactFrmFill': WHATEVER THE INPUT: true; the input reads as it did. -/
def fnExactFrmFillSpec : ChangeSpec := { name := "fnExactFrmFill", fn := fun _ => fun
  | [d1, d2] => { results := [.lit (.bool true)], args := [d1, d2] }
  | _ => none }
def fnExactFrmFillRow : OpenClaim := { program := "ytbmjaiojeehifaa", sum := "e441bf9505e677b185309636212457ef99800ffcbc3c41a5a27c03661fdfb9a7", func := "loop.example/casemate/laws.FnExactFrmFill", spec := "fnExactFrmFill", apart := false }
def FnExactFrmFillSaid : Prop := fnExactFrmFillRow.holds Try.pinned (OpenSpec.ofChange fnExactFrmFillSpec)

/-- ITS FALSE NEIGHBOUR: 'it returns false'. Refute it at one input. -/
def fnExactFrmFillWrong : ChangeSpec := { name := "fnExactFrmFill", fn := fun _ => fun
  | [d1, d2] => { results := [.lit (.bool false)], args := [d1, d2] }
  | _ => none }
def FnExactFrmFillWrongFalsely : Prop := fnExactFrmFillRow.holds Try.pinned (OpenSpec.ofChange fnExactFrmFillWrong)

/-- 'laws.FnExactFrmSpill': WHATEVER THE INPUT: true; the input reads as it did. -/
def fnExactFrmSpillSpec : ChangeSpec := { name := "fnExactFrmSpill", fn := fun _ => fun
  | [d] => { results := [.lit (.bool true)], args := [d] }
  | _ => none }
def fnExactFrmSpillRow : OpenClaim := { program := "ytbmjaiojeehifaa", sum := "e441bf9505e677b185309636212457ef99800ffcbc3c41a5a27c03661fdfb9a7", func := "loop.example/casemate/laws.FnExactFrmSpill", spec := "fnExactFrmSpill", apart := false }
def FnExactFrmSpillSaid : Prop := fnExactFrmSpillRow.holds Try.pinned (OpenSpec.ofChange fnExactFrmSpillSpec)

/-- ITS FALSE NEIGHBOUR: 'it returns false'. Refute it at one input. -/
def fnExactFrmSpillWrong : ChangeSpec := { name := "fnExactFrmSpill", fn := fun _ => fun
  | [d] => { results := [.lit (.bool false)], args := [d] }
  | _ => none }
def FnExactFrmSpillWrongFalsely : Prop := fnExactFrmSpillRow.holds Try.pinned (OpenSpec.ofChange fnExactFrmSpillWrong)

/- THE SECOND FORM. 'bulk': how many values and letters a reading holds, each counted each time it is reached (what is shared counts as often as it is met; a slice's spare places count too). A statement '..UptoSaid' is the law's where the arguments, and the package variables that the reading takes, are together of bulk at most 1048576: NARROWER than '..Said'. Prove '..Said' where nothing that the law and all that it calls make is longer than what came in: it says more and counts as full. Else prove '..UptoSaid'. A law counts once. -/
mutual
def uptoBulk {H : Type} : DataW H → Nat
  | .lit (.string bytes) => bytes.length + 1
  | .lit _ => 1
  | .nil => 1
  | .ptr d => uptoBulk d + 1
  | .slice elems spare => uptoBulkAll elems + uptoBulkAll spare + 1
  | .agg parts => uptoBulkAll parts + 1
  | .iface _ d => uptoBulk d + 1
  | .map entries => uptoBulkEntries entries + 1
  | .held _ => 1
def uptoBulkAll {H : Type} : List (DataW H) → Nat
  | [] => 0
  | d :: r => uptoBulk d + uptoBulkAll r
def uptoBulkEntries {H : Type} : List (Lit × DataW H) → Nat
  | [] => 0
  | x :: r => uptoBulkEntry x + uptoBulkEntries r
def uptoBulkEntry {H : Type} : Lit × DataW H → Nat
  | (.string bytes, d) => bytes.length + uptoBulk d + 1
  | (_, d) => uptoBulk d + 1
 end
def uptoSmall : (H : Type) → List (DataW H) → Bool := fun _ ds => decide (uptoBulkAll ds ≤ 1048576)
def OpenSpec.upto (s : _root_.Go.ChangeSpec) : _root_.Go.OpenSpec := { _root_.Go.OpenSpec.ofChange s with cond := some uptoSmall }

/-- 'laws.FnSealTwice', WHERE WHAT IT READS IS OF BULK AT MOST 1048576: true; the input reads as it did. -/
def fnSealTwiceUptoRow : OpenClaim := { program := "ytbmjaiojeehifaa", sum := "e441bf9505e677b185309636212457ef99800ffcbc3c41a5a27c03661fdfb9a7", func := "loop.example/casemate/laws.FnSealTwice", spec := "fnSealTwice", unfollowed := true, recurses := true, apart := false, narrowed := true }
def FnSealTwiceUptoSaid : Prop := fnSealTwiceUptoRow.holds Try.pinned (OpenSpec.upto fnSealTwiceSpec)

/-- 'laws.FnFrmBody', WHERE WHAT IT READS IS OF BULK AT MOST 1048576: true; the input reads as it did. -/
def fnFrmBodyUptoRow : OpenClaim := { program := "ytbmjaiojeehifaa", sum := "e441bf9505e677b185309636212457ef99800ffcbc3c41a5a27c03661fdfb9a7", func := "loop.example/casemate/laws.FnFrmBody", spec := "fnFrmBody", apart := false, narrowed := true }
def FnFrmBodyUptoSaid : Prop := fnFrmBodyUptoRow.holds Try.pinned (OpenSpec.upto fnFrmBodySpec)

/-- 'laws.FnExactBytMessage', WHERE WHAT IT READS IS OF BULK AT MOST 1048576: true; the input reads as it did. -/
def fnExactBytMessageUptoRow : OpenClaim := { program := "ytbmjaiojeehifaa", sum := "e441bf9505e677b185309636212457ef99800ffcbc3c41a5a27c03661fdfb9a7", func := "loop.example/casemate/laws.FnExactBytMessage", spec := "fnExactBytMessage", apart := false, narrowed := true }
def FnExactBytMessageUptoSaid : Prop := fnExactBytMessageUptoRow.holds Try.pinned (OpenSpec.upto fnExactBytMessageSpec)

/-- 'laws.FnExactBytPut', WHERE WHAT IT READS IS OF BULK AT MOST 1048576: true; the input reads as it did. -/
def fnExactBytPutUptoRow : OpenClaim := { program := "ytbmjaiojeehifaa", sum := "e441bf9505e677b185309636212457ef99800ffcbc3c41a5a27c03661fdfb9a7", func := "loop.example/casemate/laws.FnExactBytPut", spec := "fnExactBytPut", apart := false, narrowed := true }
def FnExactBytPutUptoSaid : Prop := fnExactBytPutUptoRow.holds Try.pinned (OpenSpec.upto fnExactBytPutSpec)

/-- 'laws.FnExactSealKey', WHERE WHAT IT READS IS OF BULK AT MOST 1048576: true; the input reads as it did. -/
def fnExactSealKeyUptoRow : OpenClaim := { program := "ytbmjaiojeehifaa", sum := "e441bf9505e677b185309636212457ef99800ffcbc3c41a5a27c03661fdfb9a7", func := "loop.example/casemate/laws.FnExactSealKey", spec := "fnExactSealKey", unfollowed := true, recurses := true, apart := false, narrowed := true }
def FnExactSealKeyUptoSaid : Prop := fnExactSealKeyUptoRow.holds Try.pinned (OpenSpec.upto fnExactSealKeySpec)

/-- 'laws.FnExactSealTag', WHERE WHAT IT READS IS OF BULK AT MOST 1048576: true; the input reads as it did. -/
def fnExactSealTagUptoRow : OpenClaim := { program := "ytbmjaiojeehifaa", sum := "e441bf9505e677b185309636212457ef99800ffcbc3c41a5a27c03661fdfb9a7", func := "loop.example/casemate/laws.FnExactSealTag", spec := "fnExactSealTag", unfollowed := true, recurses := true, apart := false, narrowed := true }
def FnExactSealTagUptoSaid : Prop := fnExactSealTagUptoRow.holds Try.pinned (OpenSpec.upto fnExactSealTagSpec)

/-- 'laws.FnExactSealShut', WHERE WHAT IT READS IS OF BULK AT MOST 1048576: true; the input reads as it did. -/
def fnExactSealShutUptoRow : OpenClaim := { program := "ytbmjaiojeehifaa", sum := "e441bf9505e677b185309636212457ef99800ffcbc3c41a5a27c03661fdfb9a7", func := "loop.example/casemate/laws.FnExactSealShut", spec := "fnExactSealShut", unfollowed := true, recurses := true, apart := false, narrowed := true }
def FnExactSealShutUptoSaid : Prop := fnExactSealShutUptoRow.holds Try.pinned (OpenSpec.upto fnExactSealShutSpec)

/-- 'laws.FnExactFrmHeadOk', WHERE WHAT IT READS IS OF BULK AT MOST 1048576: true; the input reads as it did. -/
def fnExactFrmHeadOkUptoRow : OpenClaim := { program := "ytbmjaiojeehifaa", sum := "e441bf9505e677b185309636212457ef99800ffcbc3c41a5a27c03661fdfb9a7", func := "loop.example/casemate/laws.FnExactFrmHeadOk", spec := "fnExactFrmHeadOk", unfollowed := true, recurses := true, apart := false, narrowed := true }
def FnExactFrmHeadOkUptoSaid : Prop := fnExactFrmHeadOkUptoRow.holds Try.pinned (OpenSpec.upto fnExactFrmHeadOkSpec)

/-- 'laws.FnExactFrmHeadBytes', WHERE WHAT IT READS IS OF BULK AT MOST 1048576: true; the input reads as it did. -/
def fnExactFrmHeadBytesUptoRow : OpenClaim := { program := "ytbmjaiojeehifaa", sum := "e441bf9505e677b185309636212457ef99800ffcbc3c41a5a27c03661fdfb9a7", func := "loop.example/casemate/laws.FnExactFrmHeadBytes", spec := "fnExactFrmHeadBytes", unfollowed := true, recurses := true, apart := false, narrowed := true }
def FnExactFrmHeadBytesUptoSaid : Prop := fnExactFrmHeadBytesUptoRow.holds Try.pinned (OpenSpec.upto fnExactFrmHeadBytesSpec)

/-- 'laws.FnExactFrmPut', WHERE WHAT IT READS IS OF BULK AT MOST 1048576: true; the input reads as it did. -/
def fnExactFrmPutUptoRow : OpenClaim := { program := "ytbmjaiojeehifaa", sum := "e441bf9505e677b185309636212457ef99800ffcbc3c41a5a27c03661fdfb9a7", func := "loop.example/casemate/laws.FnExactFrmPut", spec := "fnExactFrmPut", unfollowed := true, recurses := true, apart := false, narrowed := true }
def FnExactFrmPutUptoSaid : Prop := fnExactFrmPutUptoRow.holds Try.pinned (OpenSpec.upto fnExactFrmPutSpec)

/-- 'laws.FnExactFrmFill', WHERE WHAT IT READS IS OF BULK AT MOST 1048576: true; the input reads as it did. -/
def fnExactFrmFillUptoRow : OpenClaim := { program := "ytbmjaiojeehifaa", sum := "e441bf9505e677b185309636212457ef99800ffcbc3c41a5a27c03661fdfb9a7", func := "loop.example/casemate/laws.FnExactFrmFill", spec := "fnExactFrmFill", apart := false, narrowed := true }
def FnExactFrmFillUptoSaid : Prop := fnExactFrmFillUptoRow.holds Try.pinned (OpenSpec.upto fnExactFrmFillSpec)

/-- 'laws.FnExactFrmSpill', WHERE WHAT IT READS IS OF BULK AT MOST 1048576: true; the input reads as it did. -/
def fnExactFrmSpillUptoRow : OpenClaim := { program := "ytbmjaiojeehifaa", sum := "e441bf9505e677b185309636212457ef99800ffcbc3c41a5a27c03661fdfb9a7", func := "loop.example/casemate/laws.FnExactFrmSpill", spec := "fnExactFrmSpill", apart := false, narrowed := true }
def FnExactFrmSpillUptoSaid : Prop := fnExactFrmSpillUptoRow.holds Try.pinned (OpenSpec.upto fnExactFrmSpillSpec)

end Rows
end Go.Proofs.Ytbmjaiojeehifaa
