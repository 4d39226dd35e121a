/-
  NARROWER THAN 'FOR EVERY INPUT', by the rows' own cells (each row's printed sentence says how): FnFill: laid · FnUnfill: laid · FnExactUnfill: laid · FnExactPacketGet: laid · FnExactFrameHead: laid · FnPacketText: laid.
  DERIVED. THE GIVEN ROWS OF THIS SEAT. 6 by the template 'for every input the law returns true; each argument reads behind the call as it read before'; 0 by the template 'total and deterministic' (their statements: YtgolcjlogokbiaaDoorTotals.lean).
  GIVEN WITH THE SEED: the statements are not yours to turn. If you find one false, say at which input.
  Laid BY PROGRAM, IN A SANDBOX (cutbox-rows.mjs): the forced cells as the released guide's own fill.sh prints them over the translation b3b87f4c0fc2ad15… (all of the seat's roots in one cut). By AI agents, Wed Nov 11 2026. No macro, syntax, notation, axiom, sorry.
-/
import Derived.Test.YtgolcjlogokbiaaDoorChecked
import GoSem.Claim
import GoSem.ClaimJoined
import GoSem.ClaimMapViews
import Derived.JoinedTies
import Derived.KernelRfl
namespace Go.Proofs.YtgolcjlogokbiaaDoor
/- THE CELL 'sum', in the pinned program and in every row, IS THE sha256 OF THE DUMP (.gsa) THAT YtgolcjlogokbiaaDoorProg.lean LOADS. Nothing in Lean hashes anything: it is a label: what it is worth is what the hold of that sum in a sandbox is worth. -/
noncomputable def Tryd.pinned : Pinned := { name := "ytgolcjlogokbiaadoor", sum := "b3b87f4c0fc2ad15c8ceef5105142178a405abf10d3577f44be0ca1f51d5f9c3", checked := Tryd.checked }
namespace Rows
def none {H : Type} : Left H := { results := [], args := [] }

/- WHAT THE LISTED PACKAGE-LEVEL VARIABLES READ AS WHEN THE CALL BEGINS. Each datum BY PROGRAM (the guide's laid-datum.mjs) off the statement by which the dump's own 'gosem.cut.vars' lays the variable. In a bare row this is a premise. The card (YtgolcjlogokbiaaDoorCards.lean) ties it to the program's text. -/
def laid_errors_errorType {H : Type} : DataW H := .iface "internal/reflectlite.rtype" (.agg [.ptr (.lit (.string [101, 114, 114, 111, 114]))])

/-- 'laws.FnFill': WHATEVER THE INPUT: true; the input reads as it did. -/
def fnFillSpec : ChangeSpec := { name := "fnFill", fn := fun _ => fun
  | [d] => { results := [.lit (.bool true)], args := [d] }
  | _ => none }
def fnFillRow : OpenClaim := { program := "ytgolcjlogokbiaadoor", sum := "b3b87f4c0fc2ad15c8ceef5105142178a405abf10d3577f44be0ca1f51d5f9c3", func := "loop.example/overfare/laws.FnFill", spec := "fnFill", inPlace := ["internal/abi.NoEscape", "internal/bytealg.MakeNoZero", "internal/reflectlite.ValueOf", "(internal/reflectlite.Value).Type", "(internal/reflectlite.Value).IsNil", "internal/reflectlite.TypeOf", "(internal/reflectlite.Value).Elem", "(internal/reflectlite.Value).Set"], unfollowed := true, recurses := true, named := ["errors.errorType"], apart := false, laid := [("errors.errorType", laid_errors_errorType)] }
def FnFillSaid : Prop := fnFillRow.holds Tryd.pinned (OpenSpec.ofChange fnFillSpec)

/-- ITS FALSE NEIGHBOUR: 'it returns false'. Refute it at one input. -/
def fnFillWrong : ChangeSpec := { name := "fnFill", fn := fun _ => fun
  | [d] => { results := [.lit (.bool false)], args := [d] }
  | _ => none }
def FnFillWrongFalsely : Prop := fnFillRow.holds Tryd.pinned (OpenSpec.ofChange fnFillWrong)

/-- 'laws.FnUnfill': WHATEVER THE INPUT: true; the input reads as it did. -/
def fnUnfillSpec : ChangeSpec := { name := "fnUnfill", fn := fun _ => fun
  | [d] => { results := [.lit (.bool true)], args := [d] }
  | _ => none }
def fnUnfillRow : OpenClaim := { program := "ytgolcjlogokbiaadoor", sum := "b3b87f4c0fc2ad15c8ceef5105142178a405abf10d3577f44be0ca1f51d5f9c3", func := "loop.example/overfare/laws.FnUnfill", spec := "fnUnfill", inPlace := ["internal/abi.NoEscape", "internal/bytealg.MakeNoZero", "internal/reflectlite.ValueOf", "(internal/reflectlite.Value).Type", "(internal/reflectlite.Value).IsNil", "internal/reflectlite.TypeOf", "(internal/reflectlite.Value).Elem", "(internal/reflectlite.Value).Set"], unfollowed := true, recurses := true, named := ["errors.errorType"], apart := false, laid := [("errors.errorType", laid_errors_errorType)] }
def FnUnfillSaid : Prop := fnUnfillRow.holds Tryd.pinned (OpenSpec.ofChange fnUnfillSpec)

/-- ITS FALSE NEIGHBOUR: 'it returns false'. Refute it at one input. -/
def fnUnfillWrong : ChangeSpec := { name := "fnUnfill", fn := fun _ => fun
  | [d] => { results := [.lit (.bool false)], args := [d] }
  | _ => none }
def FnUnfillWrongFalsely : Prop := fnUnfillRow.holds Tryd.pinned (OpenSpec.ofChange fnUnfillWrong)

/-- 'laws.FnExactUnfill': WHATEVER THE INPUT: true; the input reads as it did. -/
def fnExactUnfillSpec : ChangeSpec := { name := "fnExactUnfill", fn := fun _ => fun
  | [d] => { results := [.lit (.bool true)], args := [d] }
  | _ => none }
def fnExactUnfillRow : OpenClaim := { program := "ytgolcjlogokbiaadoor", sum := "b3b87f4c0fc2ad15c8ceef5105142178a405abf10d3577f44be0ca1f51d5f9c3", func := "loop.example/overfare/laws.FnExactUnfill", spec := "fnExactUnfill", inPlace := ["internal/abi.NoEscape", "internal/bytealg.MakeNoZero", "internal/reflectlite.ValueOf", "(internal/reflectlite.Value).Type", "(internal/reflectlite.Value).IsNil", "internal/reflectlite.TypeOf", "(internal/reflectlite.Value).Elem", "(internal/reflectlite.Value).Set"], unfollowed := true, recurses := true, named := ["errors.errorType"], apart := false, laid := [("errors.errorType", laid_errors_errorType)] }
def FnExactUnfillSaid : Prop := fnExactUnfillRow.holds Tryd.pinned (OpenSpec.ofChange fnExactUnfillSpec)

/-- ITS FALSE NEIGHBOUR: 'it returns false'. Refute it at one input. -/
def fnExactUnfillWrong : ChangeSpec := { name := "fnExactUnfill", fn := fun _ => fun
  | [d] => { results := [.lit (.bool false)], args := [d] }
  | _ => none }
def FnExactUnfillWrongFalsely : Prop := fnExactUnfillRow.holds Tryd.pinned (OpenSpec.ofChange fnExactUnfillWrong)

/-- 'laws.FnExactPacketGet': WHATEVER THE INPUT: true; the input reads as it did. -/
def fnExactPacketGetSpec : ChangeSpec := { name := "fnExactPacketGet", fn := fun _ => fun
  | [d] => { results := [.lit (.bool true)], args := [d] }
  | _ => none }
def fnExactPacketGetRow : OpenClaim := { program := "ytgolcjlogokbiaadoor", sum := "b3b87f4c0fc2ad15c8ceef5105142178a405abf10d3577f44be0ca1f51d5f9c3", func := "loop.example/overfare/laws.FnExactPacketGet", spec := "fnExactPacketGet", inPlace := ["internal/reflectlite.ValueOf", "(internal/reflectlite.Value).Type", "(internal/reflectlite.Value).IsNil", "internal/reflectlite.TypeOf", "(internal/reflectlite.Value).Elem", "(internal/reflectlite.Value).Set"], unfollowed := true, recurses := true, named := ["errors.errorType"], apart := false, laid := [("errors.errorType", laid_errors_errorType)] }
def FnExactPacketGetSaid : Prop := fnExactPacketGetRow.holds Tryd.pinned (OpenSpec.ofChange fnExactPacketGetSpec)

/-- ITS FALSE NEIGHBOUR: 'it returns false'. Refute it at one input. -/
def fnExactPacketGetWrong : ChangeSpec := { name := "fnExactPacketGet", fn := fun _ => fun
  | [d] => { results := [.lit (.bool false)], args := [d] }
  | _ => none }
def FnExactPacketGetWrongFalsely : Prop := fnExactPacketGetRow.holds Tryd.pinned (OpenSpec.ofChange fnExactPacketGetWrong)

/-- 'laws.FnExactFrameHead': WHATEVER THE INPUT: true; the input reads as it did. -/
def fnExactFrameHeadSpec : ChangeSpec := { name := "fnExactFrameHead", fn := fun _ => fun
  | [d] => { results := [.lit (.bool true)], args := [d] }
  | _ => none }
def fnExactFrameHeadRow : OpenClaim := { program := "ytgolcjlogokbiaadoor", sum := "b3b87f4c0fc2ad15c8ceef5105142178a405abf10d3577f44be0ca1f51d5f9c3", func := "loop.example/overfare/laws.FnExactFrameHead", spec := "fnExactFrameHead", inPlace := ["internal/reflectlite.ValueOf", "(internal/reflectlite.Value).Type", "(internal/reflectlite.Value).IsNil", "internal/reflectlite.TypeOf", "(internal/reflectlite.Value).Elem", "(internal/reflectlite.Value).Set"], unfollowed := true, recurses := true, named := ["errors.errorType"], apart := false, laid := [("errors.errorType", laid_errors_errorType)] }
def FnExactFrameHeadSaid : Prop := fnExactFrameHeadRow.holds Tryd.pinned (OpenSpec.ofChange fnExactFrameHeadSpec)

/-- ITS FALSE NEIGHBOUR: 'it returns false'. Refute it at one input. -/
def fnExactFrameHeadWrong : ChangeSpec := { name := "fnExactFrameHead", fn := fun _ => fun
  | [d] => { results := [.lit (.bool false)], args := [d] }
  | _ => none }
def FnExactFrameHeadWrongFalsely : Prop := fnExactFrameHeadRow.holds Tryd.pinned (OpenSpec.ofChange fnExactFrameHeadWrong)

/-- 'laws.FnPacketText': WHATEVER THE INPUT: true; the input reads as it did. -/
def fnPacketTextSpec : ChangeSpec := { name := "fnPacketText", fn := fun _ => fun
  | [d1, d2] => { results := [.lit (.bool true)], args := [d1, d2] }
  | _ => none }
def fnPacketTextRow : OpenClaim := { program := "ytgolcjlogokbiaadoor", sum := "b3b87f4c0fc2ad15c8ceef5105142178a405abf10d3577f44be0ca1f51d5f9c3", func := "loop.example/overfare/laws.FnPacketText", spec := "fnPacketText", inPlace := ["internal/reflectlite.ValueOf", "(internal/reflectlite.Value).Type", "(internal/reflectlite.Value).IsNil", "internal/reflectlite.TypeOf", "(internal/reflectlite.Value).Elem", "(internal/reflectlite.Value).Set"], unfollowed := true, recurses := true, named := ["errors.errorType"], apart := false, laid := [("errors.errorType", laid_errors_errorType)] }
def FnPacketTextSaid : Prop := fnPacketTextRow.holds Tryd.pinned (OpenSpec.ofChange fnPacketTextSpec)

/-- ITS FALSE NEIGHBOUR: 'it returns false'. Refute it at one input. -/
def fnPacketTextWrong : ChangeSpec := { name := "fnPacketText", fn := fun _ => fun
  | [d1, d2] => { results := [.lit (.bool false)], args := [d1, d2] }
  | _ => none }
def FnPacketTextWrongFalsely : Prop := fnPacketTextRow.holds Tryd.pinned (OpenSpec.ofChange fnPacketTextWrong)

/- THE SECOND FORM. 'bulk': how many values and letters a reading holds, each counted each time it is reached (what is shared counts as often as it is met; a slice's spare places count too). A statement '..UptoSaid' is the law's where the arguments, and the package variables that the reading takes, are together of bulk at most 1048576: NARROWER than '..Said'. Prove '..Said' where nothing that the law and all that it calls make is longer than what came in: it says more and counts as full. Else prove '..UptoSaid'. A law counts once. -/
mutual
def uptoBulk {H : Type} : DataW H → Nat
  | .lit (.string bytes) => bytes.length + 1
  | .lit _ => 1
  | .nil => 1
  | .ptr d => uptoBulk d + 1
  | .slice elems spare => uptoBulkAll elems + uptoBulkAll spare + 1
  | .agg parts => uptoBulkAll parts + 1
  | .iface _ d => uptoBulk d + 1
  | .map entries => uptoBulkEntries entries + 1
  | .held _ => 1
def uptoBulkAll {H : Type} : List (DataW H) → Nat
  | [] => 0
  | d :: r => uptoBulk d + uptoBulkAll r
def uptoBulkEntries {H : Type} : List (Lit × DataW H) → Nat
  | [] => 0
  | x :: r => uptoBulkEntry x + uptoBulkEntries r
def uptoBulkEntry {H : Type} : Lit × DataW H → Nat
  | (.string bytes, d) => bytes.length + uptoBulk d + 1
  | (_, d) => uptoBulk d + 1
 end
def uptoSmall : (H : Type) → List (DataW H) → Bool := fun _ ds => decide (uptoBulkAll ds ≤ 1048576)
def OpenSpec.upto (s : _root_.Go.ChangeSpec) : _root_.Go.OpenSpec := { _root_.Go.OpenSpec.ofChange s with cond := some uptoSmall }

/-- 'laws.FnFill', WHERE WHAT IT READS IS OF BULK AT MOST 1048576: true; the input reads as it did. -/
def fnFillUptoRow : OpenClaim := { program := "ytgolcjlogokbiaadoor", sum := "b3b87f4c0fc2ad15c8ceef5105142178a405abf10d3577f44be0ca1f51d5f9c3", func := "loop.example/overfare/laws.FnFill", spec := "fnFill", inPlace := ["internal/abi.NoEscape", "internal/bytealg.MakeNoZero", "internal/reflectlite.ValueOf", "(internal/reflectlite.Value).Type", "(internal/reflectlite.Value).IsNil", "internal/reflectlite.TypeOf", "(internal/reflectlite.Value).Elem", "(internal/reflectlite.Value).Set"], unfollowed := true, recurses := true, named := ["errors.errorType"], apart := false, laid := [("errors.errorType", laid_errors_errorType)], narrowed := true }
def FnFillUptoSaid : Prop := fnFillUptoRow.holds Tryd.pinned (OpenSpec.upto fnFillSpec)

/-- 'laws.FnUnfill', WHERE WHAT IT READS IS OF BULK AT MOST 1048576: true; the input reads as it did. -/
def fnUnfillUptoRow : OpenClaim := { program := "ytgolcjlogokbiaadoor", sum := "b3b87f4c0fc2ad15c8ceef5105142178a405abf10d3577f44be0ca1f51d5f9c3", func := "loop.example/overfare/laws.FnUnfill", spec := "fnUnfill", inPlace := ["internal/abi.NoEscape", "internal/bytealg.MakeNoZero", "internal/reflectlite.ValueOf", "(internal/reflectlite.Value).Type", "(internal/reflectlite.Value).IsNil", "internal/reflectlite.TypeOf", "(internal/reflectlite.Value).Elem", "(internal/reflectlite.Value).Set"], unfollowed := true, recurses := true, named := ["errors.errorType"], apart := false, laid := [("errors.errorType", laid_errors_errorType)], narrowed := true }
def FnUnfillUptoSaid : Prop := fnUnfillUptoRow.holds Tryd.pinned (OpenSpec.upto fnUnfillSpec)

/-- 'laws.FnExactUnfill', WHERE WHAT IT READS IS OF BULK AT MOST 1048576: true; the input reads as it did. -/
def fnExactUnfillUptoRow : OpenClaim := { program := "ytgolcjlogokbiaadoor", sum := "b3b87f4c0fc2ad15c8ceef5105142178a405abf10d3577f44be0ca1f51d5f9c3", func := "loop.example/overfare/laws.FnExactUnfill", spec := "fnExactUnfill", inPlace := ["internal/abi.NoEscape", "internal/bytealg.MakeNoZero", "internal/reflectlite.ValueOf", "(internal/reflectlite.Value).Type", "(internal/reflectlite.Value).IsNil", "internal/reflectlite.TypeOf", "(internal/reflectlite.Value).Elem", "(internal/reflectlite.Value).Set"], unfollowed := true, recurses := true, named := ["errors.errorType"], apart := false, laid := [("errors.errorType", laid_errors_errorType)], narrowed := true }
def FnExactUnfillUptoSaid : Prop := fnExactUnfillUptoRow.holds Tryd.pinned (OpenSpec.upto fnExactUnfillSpec)

/-- 'laws.FnExactPacketGet', WHERE WHAT IT READS IS OF BULK AT MOST 1048576: true; the input reads as it did. -/
def fnExactPacketGetUptoRow : OpenClaim := { program := "ytgolcjlogokbiaadoor", sum := "b3b87f4c0fc2ad15c8ceef5105142178a405abf10d3577f44be0ca1f51d5f9c3", func := "loop.example/overfare/laws.FnExactPacketGet", spec := "fnExactPacketGet", inPlace := ["internal/reflectlite.ValueOf", "(internal/reflectlite.Value).Type", "(internal/reflectlite.Value).IsNil", "internal/reflectlite.TypeOf", "(internal/reflectlite.Value).Elem", "(internal/reflectlite.Value).Set"], unfollowed := true, recurses := true, named := ["errors.errorType"], apart := false, laid := [("errors.errorType", laid_errors_errorType)], narrowed := true }
def FnExactPacketGetUptoSaid : Prop := fnExactPacketGetUptoRow.holds Tryd.pinned (OpenSpec.upto fnExactPacketGetSpec)

/-- 'laws.FnExactFrameHead', WHERE WHAT IT READS IS OF BULK AT MOST 1048576: true; the input reads as it did. -/
def fnExactFrameHeadUptoRow : OpenClaim := { program := "ytgolcjlogokbiaadoor", sum := "b3b87f4c0fc2ad15c8ceef5105142178a405abf10d3577f44be0ca1f51d5f9c3", func := "loop.example/overfare/laws.FnExactFrameHead", spec := "fnExactFrameHead", inPlace := ["internal/reflectlite.ValueOf", "(internal/reflectlite.Value).Type", "(internal/reflectlite.Value).IsNil", "internal/reflectlite.TypeOf", "(internal/reflectlite.Value).Elem", "(internal/reflectlite.Value).Set"], unfollowed := true, recurses := true, named := ["errors.errorType"], apart := false, laid := [("errors.errorType", laid_errors_errorType)], narrowed := true }
def FnExactFrameHeadUptoSaid : Prop := fnExactFrameHeadUptoRow.holds Tryd.pinned (OpenSpec.upto fnExactFrameHeadSpec)

/-- 'laws.FnPacketText', WHERE WHAT IT READS IS OF BULK AT MOST 1048576: true; the input reads as it did. -/
def fnPacketTextUptoRow : OpenClaim := { program := "ytgolcjlogokbiaadoor", sum := "b3b87f4c0fc2ad15c8ceef5105142178a405abf10d3577f44be0ca1f51d5f9c3", func := "loop.example/overfare/laws.FnPacketText", spec := "fnPacketText", inPlace := ["internal/reflectlite.ValueOf", "(internal/reflectlite.Value).Type", "(internal/reflectlite.Value).IsNil", "internal/reflectlite.TypeOf", "(internal/reflectlite.Value).Elem", "(internal/reflectlite.Value).Set"], unfollowed := true, recurses := true, named := ["errors.errorType"], apart := false, laid := [("errors.errorType", laid_errors_errorType)], narrowed := true }
def FnPacketTextUptoSaid : Prop := fnPacketTextUptoRow.holds Tryd.pinned (OpenSpec.upto fnPacketTextSpec)

end Rows
end Go.Proofs.YtgolcjlogokbiaaDoor
