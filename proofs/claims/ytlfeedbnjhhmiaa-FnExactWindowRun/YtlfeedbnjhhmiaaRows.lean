/-
  No cell of these rows narrows 'for every input' (looked for: loops, veiled, ifaces, maps, wideKeys, modest, calm, conditions, laid).
  DERIVED. THE GIVEN ROWS OF THIS SEAT. 7 by the template 'for every input the law returns true; each argument reads behind the call as it read before'; 0 by the template 'total and deterministic' (their statements: YtlfeedbnjhhmiaaTotals.lean).
  GIVEN WITH THE SEED: the statements are not yours to turn. If you find one false, say at which input.
  Laid BY PROGRAM, IN A SANDBOX (cutbox-rows.mjs): the forced cells as the released guide's own fill.sh prints them over the translation 651cf4a8742659e7… (all of the seat's roots in one cut). By AI agents, Wed Nov 11 2026. No macro, syntax, notation, axiom, sorry.
-/
import Derived.Test.YtlfeedbnjhhmiaaChecked
import GoSem.Claim
import GoSem.ClaimJoined
import GoSem.ClaimMapViews
import Derived.JoinedTies
import Derived.KernelRfl
namespace Go.Proofs.Ytlfeedbnjhhmiaa
/- THE CELL 'sum', in the pinned program and in every row, IS THE sha256 OF THE DUMP (.gsa) THAT YtlfeedbnjhhmiaaProg.lean LOADS. Nothing in Lean hashes anything: it is a label: what it is worth is what the hold of that sum in a sandbox is worth. -/
noncomputable def Try.pinned : Pinned := { name := "ytlfeedbnjhhmiaa", sum := "651cf4a8742659e747d46955b514ecfba6827f380651c9ff4d9b49d8a3fb0d08", checked := Try.checked }
namespace Rows
def none {H : Type} : Left H := { results := [], args := [] }

/-- 'laws.FnExactHex': WHATEVER THE INPUT: true; the input reads as it did. -/
def fnExactHexSpec : ChangeSpec := { name := "fnExactHex", fn := fun _ => fun
  | [d] => { results := [.lit (.bool true)], args := [d] }
  | _ => none }
def fnExactHexRow : OpenClaim := { program := "ytlfeedbnjhhmiaa", sum := "651cf4a8742659e747d46955b514ecfba6827f380651c9ff4d9b49d8a3fb0d08", func := "loop.example/overfare/laws.FnExactHex", spec := "fnExactHex", apart := false }
def FnExactHexSaid : Prop := fnExactHexRow.holds Try.pinned (OpenSpec.ofChange fnExactHexSpec)

/-- ITS FALSE NEIGHBOUR: 'it returns false'. Refute it at one input. -/
def fnExactHexWrong : ChangeSpec := { name := "fnExactHex", fn := fun _ => fun
  | [d] => { results := [.lit (.bool false)], args := [d] }
  | _ => none }
def FnExactHexWrongFalsely : Prop := fnExactHexRow.holds Try.pinned (OpenSpec.ofChange fnExactHexWrong)

/-- 'laws.FnHex': WHATEVER THE INPUT: true; the input reads as it did. -/
def fnHexSpec : ChangeSpec := { name := "fnHex", fn := fun _ => fun
  | [d] => { results := [.lit (.bool true)], args := [d] }
  | _ => none }
def fnHexRow : OpenClaim := { program := "ytlfeedbnjhhmiaa", sum := "651cf4a8742659e747d46955b514ecfba6827f380651c9ff4d9b49d8a3fb0d08", func := "loop.example/overfare/laws.FnHex", spec := "fnHex", apart := false }
def FnHexSaid : Prop := fnHexRow.holds Try.pinned (OpenSpec.ofChange fnHexSpec)

/-- ITS FALSE NEIGHBOUR: 'it returns false'. Refute it at one input. -/
def fnHexWrong : ChangeSpec := { name := "fnHex", fn := fun _ => fun
  | [d] => { results := [.lit (.bool false)], args := [d] }
  | _ => none }
def FnHexWrongFalsely : Prop := fnHexRow.holds Try.pinned (OpenSpec.ofChange fnHexWrong)

/-- 'laws.FnExactWindowOk': WHATEVER THE INPUT: true; the input reads as it did. -/
def fnExactWindowOkSpec : ChangeSpec := { name := "fnExactWindowOk", fn := fun _ => fun
  | [d] => { results := [.lit (.bool true)], args := [d] }
  | _ => none }
def fnExactWindowOkRow : OpenClaim := { program := "ytlfeedbnjhhmiaa", sum := "651cf4a8742659e747d46955b514ecfba6827f380651c9ff4d9b49d8a3fb0d08", func := "loop.example/overfare/laws.FnExactWindowOk", spec := "fnExactWindowOk", apart := false }
def FnExactWindowOkSaid : Prop := fnExactWindowOkRow.holds Try.pinned (OpenSpec.ofChange fnExactWindowOkSpec)

/-- ITS FALSE NEIGHBOUR: 'it returns false'. Refute it at one input. -/
def fnExactWindowOkWrong : ChangeSpec := { name := "fnExactWindowOk", fn := fun _ => fun
  | [d] => { results := [.lit (.bool false)], args := [d] }
  | _ => none }
def FnExactWindowOkWrongFalsely : Prop := fnExactWindowOkRow.holds Try.pinned (OpenSpec.ofChange fnExactWindowOkWrong)

/-- 'laws.FnExactWindowRun': WHATEVER THE INPUT: true; the input reads as it did. -/
def fnExactWindowRunSpec : ChangeSpec := { name := "fnExactWindowRun", fn := fun _ => fun
  | [d] => { results := [.lit (.bool true)], args := [d] }
  | _ => none }
def fnExactWindowRunRow : OpenClaim := { program := "ytlfeedbnjhhmiaa", sum := "651cf4a8742659e747d46955b514ecfba6827f380651c9ff4d9b49d8a3fb0d08", func := "loop.example/overfare/laws.FnExactWindowRun", spec := "fnExactWindowRun", apart := false }
def FnExactWindowRunSaid : Prop := fnExactWindowRunRow.holds Try.pinned (OpenSpec.ofChange fnExactWindowRunSpec)

/-- ITS FALSE NEIGHBOUR: 'it returns false'. Refute it at one input. -/
def fnExactWindowRunWrong : ChangeSpec := { name := "fnExactWindowRun", fn := fun _ => fun
  | [d] => { results := [.lit (.bool false)], args := [d] }
  | _ => none }
def FnExactWindowRunWrongFalsely : Prop := fnExactWindowRunRow.holds Try.pinned (OpenSpec.ofChange fnExactWindowRunWrong)

/-- 'laws.FnExactWindowSee': WHATEVER THE INPUT: true; the input reads as it did. -/
def fnExactWindowSeeSpec : ChangeSpec := { name := "fnExactWindowSee", fn := fun _ => fun
  | [d1, d2] => { results := [.lit (.bool true)], args := [d1, d2] }
  | _ => none }
def fnExactWindowSeeRow : OpenClaim := { program := "ytlfeedbnjhhmiaa", sum := "651cf4a8742659e747d46955b514ecfba6827f380651c9ff4d9b49d8a3fb0d08", func := "loop.example/overfare/laws.FnExactWindowSee", spec := "fnExactWindowSee", apart := false }
def FnExactWindowSeeSaid : Prop := fnExactWindowSeeRow.holds Try.pinned (OpenSpec.ofChange fnExactWindowSeeSpec)

/-- ITS FALSE NEIGHBOUR: 'it returns false'. Refute it at one input. -/
def fnExactWindowSeeWrong : ChangeSpec := { name := "fnExactWindowSee", fn := fun _ => fun
  | [d1, d2] => { results := [.lit (.bool false)], args := [d1, d2] }
  | _ => none }
def FnExactWindowSeeWrongFalsely : Prop := fnExactWindowSeeRow.holds Try.pinned (OpenSpec.ofChange fnExactWindowSeeWrong)

/-- 'laws.FnCellsMeet': WHATEVER THE INPUT: true; the input reads as it did. -/
def fnCellsMeetSpec : ChangeSpec := { name := "fnCellsMeet", fn := fun _ => fun
  | [d] => { results := [.lit (.bool true)], args := [d] }
  | _ => none }
def fnCellsMeetRow : OpenClaim := { program := "ytlfeedbnjhhmiaa", sum := "651cf4a8742659e747d46955b514ecfba6827f380651c9ff4d9b49d8a3fb0d08", func := "loop.example/overfare/laws.FnCellsMeet", spec := "fnCellsMeet", apart := false }
def FnCellsMeetSaid : Prop := fnCellsMeetRow.holds Try.pinned (OpenSpec.ofChange fnCellsMeetSpec)

/-- ITS FALSE NEIGHBOUR: 'it returns false'. Refute it at one input. -/
def fnCellsMeetWrong : ChangeSpec := { name := "fnCellsMeet", fn := fun _ => fun
  | [d] => { results := [.lit (.bool false)], args := [d] }
  | _ => none }
def FnCellsMeetWrongFalsely : Prop := fnCellsMeetRow.holds Try.pinned (OpenSpec.ofChange fnCellsMeetWrong)

/-- 'laws.FnCellsFind': WHATEVER THE INPUT: true; the input reads as it did. -/
def fnCellsFindSpec : ChangeSpec := { name := "fnCellsFind", fn := fun _ => fun
  | [d] => { results := [.lit (.bool true)], args := [d] }
  | _ => none }
def fnCellsFindRow : OpenClaim := { program := "ytlfeedbnjhhmiaa", sum := "651cf4a8742659e747d46955b514ecfba6827f380651c9ff4d9b49d8a3fb0d08", func := "loop.example/overfare/laws.FnCellsFind", spec := "fnCellsFind", apart := false }
def FnCellsFindSaid : Prop := fnCellsFindRow.holds Try.pinned (OpenSpec.ofChange fnCellsFindSpec)

/-- ITS FALSE NEIGHBOUR: 'it returns false'. Refute it at one input. -/
def fnCellsFindWrong : ChangeSpec := { name := "fnCellsFind", fn := fun _ => fun
  | [d] => { results := [.lit (.bool false)], args := [d] }
  | _ => none }
def FnCellsFindWrongFalsely : Prop := fnCellsFindRow.holds Try.pinned (OpenSpec.ofChange fnCellsFindWrong)

/- THE SECOND FORM. 'bulk': how many values and letters a reading holds, each counted each time it is reached (what is shared counts as often as it is met; a slice's spare places count too). A statement '..UptoSaid' is the law's where the arguments, and the package variables that the reading takes, are together of bulk at most 1048576: NARROWER than '..Said'. Prove '..Said' where nothing that the law and all that it calls make is longer than what came in: it says more and counts as full. Else prove '..UptoSaid'. A law counts once. -/
mutual
def uptoBulk {H : Type} : DataW H → Nat
  | .lit (.string bytes) => bytes.length + 1
  | .lit _ => 1
  | .nil => 1
  | .ptr d => uptoBulk d + 1
  | .slice elems spare => uptoBulkAll elems + uptoBulkAll spare + 1
  | .agg parts => uptoBulkAll parts + 1
  | .iface _ d => uptoBulk d + 1
  | .map entries => uptoBulkEntries entries + 1
  | .held _ => 1
def uptoBulkAll {H : Type} : List (DataW H) → Nat
  | [] => 0
  | d :: r => uptoBulk d + uptoBulkAll r
def uptoBulkEntries {H : Type} : List (Lit × DataW H) → Nat
  | [] => 0
  | x :: r => uptoBulkEntry x + uptoBulkEntries r
def uptoBulkEntry {H : Type} : Lit × DataW H → Nat
  | (.string bytes, d) => bytes.length + uptoBulk d + 1
  | (_, d) => uptoBulk d + 1
 end
def uptoSmall : (H : Type) → List (DataW H) → Bool := fun _ ds => decide (uptoBulkAll ds ≤ 1048576)
def OpenSpec.upto (s : _root_.Go.ChangeSpec) : _root_.Go.OpenSpec := { _root_.Go.OpenSpec.ofChange s with cond := some uptoSmall }

/-- 'laws.FnExactHex', WHERE WHAT IT READS IS OF BULK AT MOST 1048576: true; the input reads as it did. -/
def fnExactHexUptoRow : OpenClaim := { program := "ytlfeedbnjhhmiaa", sum := "651cf4a8742659e747d46955b514ecfba6827f380651c9ff4d9b49d8a3fb0d08", func := "loop.example/overfare/laws.FnExactHex", spec := "fnExactHex", apart := false, narrowed := true }
def FnExactHexUptoSaid : Prop := fnExactHexUptoRow.holds Try.pinned (OpenSpec.upto fnExactHexSpec)

/-- 'laws.FnHex', WHERE WHAT IT READS IS OF BULK AT MOST 1048576: true; the input reads as it did. -/
def fnHexUptoRow : OpenClaim := { program := "ytlfeedbnjhhmiaa", sum := "651cf4a8742659e747d46955b514ecfba6827f380651c9ff4d9b49d8a3fb0d08", func := "loop.example/overfare/laws.FnHex", spec := "fnHex", apart := false, narrowed := true }
def FnHexUptoSaid : Prop := fnHexUptoRow.holds Try.pinned (OpenSpec.upto fnHexSpec)

/-- 'laws.FnExactWindowOk', WHERE WHAT IT READS IS OF BULK AT MOST 1048576: true; the input reads as it did. -/
def fnExactWindowOkUptoRow : OpenClaim := { program := "ytlfeedbnjhhmiaa", sum := "651cf4a8742659e747d46955b514ecfba6827f380651c9ff4d9b49d8a3fb0d08", func := "loop.example/overfare/laws.FnExactWindowOk", spec := "fnExactWindowOk", apart := false, narrowed := true }
def FnExactWindowOkUptoSaid : Prop := fnExactWindowOkUptoRow.holds Try.pinned (OpenSpec.upto fnExactWindowOkSpec)

/-- 'laws.FnExactWindowRun', WHERE WHAT IT READS IS OF BULK AT MOST 1048576: true; the input reads as it did. -/
def fnExactWindowRunUptoRow : OpenClaim := { program := "ytlfeedbnjhhmiaa", sum := "651cf4a8742659e747d46955b514ecfba6827f380651c9ff4d9b49d8a3fb0d08", func := "loop.example/overfare/laws.FnExactWindowRun", spec := "fnExactWindowRun", apart := false, narrowed := true }
def FnExactWindowRunUptoSaid : Prop := fnExactWindowRunUptoRow.holds Try.pinned (OpenSpec.upto fnExactWindowRunSpec)

/-- 'laws.FnExactWindowSee', WHERE WHAT IT READS IS OF BULK AT MOST 1048576: true; the input reads as it did. -/
def fnExactWindowSeeUptoRow : OpenClaim := { program := "ytlfeedbnjhhmiaa", sum := "651cf4a8742659e747d46955b514ecfba6827f380651c9ff4d9b49d8a3fb0d08", func := "loop.example/overfare/laws.FnExactWindowSee", spec := "fnExactWindowSee", apart := false, narrowed := true }
def FnExactWindowSeeUptoSaid : Prop := fnExactWindowSeeUptoRow.holds Try.pinned (OpenSpec.upto fnExactWindowSeeSpec)

/-- 'laws.FnCellsMeet', WHERE WHAT IT READS IS OF BULK AT MOST 1048576: true; the input reads as it did. -/
def fnCellsMeetUptoRow : OpenClaim := { program := "ytlfeedbnjhhmiaa", sum := "651cf4a8742659e747d46955b514ecfba6827f380651c9ff4d9b49d8a3fb0d08", func := "loop.example/overfare/laws.FnCellsMeet", spec := "fnCellsMeet", apart := false, narrowed := true }
def FnCellsMeetUptoSaid : Prop := fnCellsMeetUptoRow.holds Try.pinned (OpenSpec.upto fnCellsMeetSpec)

/-- 'laws.FnCellsFind', WHERE WHAT IT READS IS OF BULK AT MOST 1048576: true; the input reads as it did. -/
def fnCellsFindUptoRow : OpenClaim := { program := "ytlfeedbnjhhmiaa", sum := "651cf4a8742659e747d46955b514ecfba6827f380651c9ff4d9b49d8a3fb0d08", func := "loop.example/overfare/laws.FnCellsFind", spec := "fnCellsFind", apart := false, narrowed := true }
def FnCellsFindUptoSaid : Prop := fnCellsFindUptoRow.holds Try.pinned (OpenSpec.upto fnCellsFindSpec)

end Rows
end Go.Proofs.Ytlfeedbnjhhmiaa
