/-
  No cell of these rows narrows 'for every input' (looked for: loops, veiled, ifaces, maps, wideKeys, modest, calm, conditions, laid).
  DERIVED. THE GIVEN ROWS OF THIS SEAT. 12 by the template 'for every input the law returns true; each argument reads behind the call as it read before'; 0 by the template 'total and deterministic' (their statements: YtbcehchjinlacaaTotals.lean).
  GIVEN WITH THE SEED: the statements are not yours to turn. If you find one false, say at which input.
  Laid BY PROGRAM, IN A SANDBOX (cutbox-rows.mjs): the forced cells as the released guide's own fill.sh prints them over the translation fdb393b916d2a5cd… (all of the seat's roots in one cut). By AI agents, Wed Nov 11 2026. No macro, syntax, notation, axiom, sorry.
-/
import Derived.Test.YtbcehchjinlacaaChecked
import GoSem.Claim
import GoSem.ClaimJoined
import GoSem.ClaimMapViews
import Derived.JoinedTies
import Derived.KernelRfl
namespace Go.Proofs.Ytbcehchjinlacaa
/- THE CELL 'sum', in the pinned program and in every row, IS THE sha256 OF THE DUMP (.gsa) THAT YtbcehchjinlacaaProg.lean LOADS. Nothing in Lean hashes anything: it is a label: what it is worth is what the hold of that sum in a sandbox is worth. -/
noncomputable def Try.pinned : Pinned := { name := "ytbcehchjinlacaa", sum := "fdb393b916d2a5cdb62701c6e6c77fec41f5c772e7637b376ee89fbc49a674c7", checked := Try.checked }
namespace Rows
def none {H : Type} : Left H := { results := [], args := [] }

/-- 'laws.FnBlockHas': WHATEVER THE INPUT: true; the input reads as it did. -/
def fnBlockHasSpec : ChangeSpec := { name := "fnBlockHas", fn := fun _ => fun
  | [d] => { results := [.lit (.bool true)], args := [d] }
  | _ => none }
def fnBlockHasRow : OpenClaim := { program := "ytbcehchjinlacaa", sum := "fdb393b916d2a5cdb62701c6e6c77fec41f5c772e7637b376ee89fbc49a674c7", func := "loop.example/overfare/laws.FnBlockHas", spec := "fnBlockHas", apart := false }
def FnBlockHasSaid : Prop := fnBlockHasRow.holds Try.pinned (OpenSpec.ofChange fnBlockHasSpec)

/-- ITS FALSE NEIGHBOUR: 'it returns false'. Refute it at one input. -/
def fnBlockHasWrong : ChangeSpec := { name := "fnBlockHas", fn := fun _ => fun
  | [d] => { results := [.lit (.bool false)], args := [d] }
  | _ => none }
def FnBlockHasWrongFalsely : Prop := fnBlockHasRow.holds Try.pinned (OpenSpec.ofChange fnBlockHasWrong)

/-- 'laws.FnBlockIn': WHATEVER THE INPUT: true; the input reads as it did. -/
def fnBlockInSpec : ChangeSpec := { name := "fnBlockIn", fn := fun _ => fun
  | [d] => { results := [.lit (.bool true)], args := [d] }
  | _ => none }
def fnBlockInRow : OpenClaim := { program := "ytbcehchjinlacaa", sum := "fdb393b916d2a5cdb62701c6e6c77fec41f5c772e7637b376ee89fbc49a674c7", func := "loop.example/overfare/laws.FnBlockIn", spec := "fnBlockIn", apart := false }
def FnBlockInSaid : Prop := fnBlockInRow.holds Try.pinned (OpenSpec.ofChange fnBlockInSpec)

/-- ITS FALSE NEIGHBOUR: 'it returns false'. Refute it at one input. -/
def fnBlockInWrong : ChangeSpec := { name := "fnBlockIn", fn := fun _ => fun
  | [d] => { results := [.lit (.bool false)], args := [d] }
  | _ => none }
def FnBlockInWrongFalsely : Prop := fnBlockInRow.holds Try.pinned (OpenSpec.ofChange fnBlockInWrong)

/-- 'laws.FnBlockMeets': WHATEVER THE INPUT: true; the input reads as it did. -/
def fnBlockMeetsSpec : ChangeSpec := { name := "fnBlockMeets", fn := fun _ => fun
  | [d] => { results := [.lit (.bool true)], args := [d] }
  | _ => none }
def fnBlockMeetsRow : OpenClaim := { program := "ytbcehchjinlacaa", sum := "fdb393b916d2a5cdb62701c6e6c77fec41f5c772e7637b376ee89fbc49a674c7", func := "loop.example/overfare/laws.FnBlockMeets", spec := "fnBlockMeets", apart := false }
def FnBlockMeetsSaid : Prop := fnBlockMeetsRow.holds Try.pinned (OpenSpec.ofChange fnBlockMeetsSpec)

/-- ITS FALSE NEIGHBOUR: 'it returns false'. Refute it at one input. -/
def fnBlockMeetsWrong : ChangeSpec := { name := "fnBlockMeets", fn := fun _ => fun
  | [d] => { results := [.lit (.bool false)], args := [d] }
  | _ => none }
def FnBlockMeetsWrongFalsely : Prop := fnBlockMeetsRow.holds Try.pinned (OpenSpec.ofChange fnBlockMeetsWrong)

/-- 'laws.FnBlockHalves': WHATEVER THE INPUT: true; the input reads as it did. -/
def fnBlockHalvesSpec : ChangeSpec := { name := "fnBlockHalves", fn := fun _ => fun
  | [d] => { results := [.lit (.bool true)], args := [d] }
  | _ => none }
def fnBlockHalvesRow : OpenClaim := { program := "ytbcehchjinlacaa", sum := "fdb393b916d2a5cdb62701c6e6c77fec41f5c772e7637b376ee89fbc49a674c7", func := "loop.example/overfare/laws.FnBlockHalves", spec := "fnBlockHalves", apart := false }
def FnBlockHalvesSaid : Prop := fnBlockHalvesRow.holds Try.pinned (OpenSpec.ofChange fnBlockHalvesSpec)

/-- ITS FALSE NEIGHBOUR: 'it returns false'. Refute it at one input. -/
def fnBlockHalvesWrong : ChangeSpec := { name := "fnBlockHalves", fn := fun _ => fun
  | [d] => { results := [.lit (.bool false)], args := [d] }
  | _ => none }
def FnBlockHalvesWrongFalsely : Prop := fnBlockHalvesRow.holds Try.pinned (OpenSpec.ofChange fnBlockHalvesWrong)

/-- 'laws.FnBlockOver': WHATEVER THE INPUT: true; the input reads as it did. -/
def fnBlockOverSpec : ChangeSpec := { name := "fnBlockOver", fn := fun _ => fun
  | [d] => { results := [.lit (.bool true)], args := [d] }
  | _ => none }
def fnBlockOverRow : OpenClaim := { program := "ytbcehchjinlacaa", sum := "fdb393b916d2a5cdb62701c6e6c77fec41f5c772e7637b376ee89fbc49a674c7", func := "loop.example/overfare/laws.FnBlockOver", spec := "fnBlockOver", apart := false }
def FnBlockOverSaid : Prop := fnBlockOverRow.holds Try.pinned (OpenSpec.ofChange fnBlockOverSpec)

/-- ITS FALSE NEIGHBOUR: 'it returns false'. Refute it at one input. -/
def fnBlockOverWrong : ChangeSpec := { name := "fnBlockOver", fn := fun _ => fun
  | [d] => { results := [.lit (.bool false)], args := [d] }
  | _ => none }
def FnBlockOverWrongFalsely : Prop := fnBlockOverRow.holds Try.pinned (OpenSpec.ofChange fnBlockOverWrong)

/-- 'laws.FnExactBlockOk': WHATEVER THE INPUT: true; the input reads as it did. -/
def fnExactBlockOkSpec : ChangeSpec := { name := "fnExactBlockOk", fn := fun _ => fun
  | [d] => { results := [.lit (.bool true)], args := [d] }
  | _ => none }
def fnExactBlockOkRow : OpenClaim := { program := "ytbcehchjinlacaa", sum := "fdb393b916d2a5cdb62701c6e6c77fec41f5c772e7637b376ee89fbc49a674c7", func := "loop.example/overfare/laws.FnExactBlockOk", spec := "fnExactBlockOk", apart := false }
def FnExactBlockOkSaid : Prop := fnExactBlockOkRow.holds Try.pinned (OpenSpec.ofChange fnExactBlockOkSpec)

/-- ITS FALSE NEIGHBOUR: 'it returns false'. Refute it at one input. -/
def fnExactBlockOkWrong : ChangeSpec := { name := "fnExactBlockOk", fn := fun _ => fun
  | [d] => { results := [.lit (.bool false)], args := [d] }
  | _ => none }
def FnExactBlockOkWrongFalsely : Prop := fnExactBlockOkRow.holds Try.pinned (OpenSpec.ofChange fnExactBlockOkWrong)

/-- 'laws.FnExactBlockSize': WHATEVER THE INPUT: true; the input reads as it did. -/
def fnExactBlockSizeSpec : ChangeSpec := { name := "fnExactBlockSize", fn := fun _ => fun
  | [d] => { results := [.lit (.bool true)], args := [d] }
  | _ => none }
def fnExactBlockSizeRow : OpenClaim := { program := "ytbcehchjinlacaa", sum := "fdb393b916d2a5cdb62701c6e6c77fec41f5c772e7637b376ee89fbc49a674c7", func := "loop.example/overfare/laws.FnExactBlockSize", spec := "fnExactBlockSize", apart := false }
def FnExactBlockSizeSaid : Prop := fnExactBlockSizeRow.holds Try.pinned (OpenSpec.ofChange fnExactBlockSizeSpec)

/-- ITS FALSE NEIGHBOUR: 'it returns false'. Refute it at one input. -/
def fnExactBlockSizeWrong : ChangeSpec := { name := "fnExactBlockSize", fn := fun _ => fun
  | [d] => { results := [.lit (.bool false)], args := [d] }
  | _ => none }
def FnExactBlockSizeWrongFalsely : Prop := fnExactBlockSizeRow.holds Try.pinned (OpenSpec.ofChange fnExactBlockSizeWrong)

/-- 'laws.FnExactBlockHas': WHATEVER THE INPUT: true; the input reads as it did. -/
def fnExactBlockHasSpec : ChangeSpec := { name := "fnExactBlockHas", fn := fun _ => fun
  | [d1, d2] => { results := [.lit (.bool true)], args := [d1, d2] }
  | _ => none }
def fnExactBlockHasRow : OpenClaim := { program := "ytbcehchjinlacaa", sum := "fdb393b916d2a5cdb62701c6e6c77fec41f5c772e7637b376ee89fbc49a674c7", func := "loop.example/overfare/laws.FnExactBlockHas", spec := "fnExactBlockHas", apart := false }
def FnExactBlockHasSaid : Prop := fnExactBlockHasRow.holds Try.pinned (OpenSpec.ofChange fnExactBlockHasSpec)

/-- ITS FALSE NEIGHBOUR: 'it returns false'. Refute it at one input. -/
def fnExactBlockHasWrong : ChangeSpec := { name := "fnExactBlockHas", fn := fun _ => fun
  | [d1, d2] => { results := [.lit (.bool false)], args := [d1, d2] }
  | _ => none }
def FnExactBlockHasWrongFalsely : Prop := fnExactBlockHasRow.holds Try.pinned (OpenSpec.ofChange fnExactBlockHasWrong)

/-- 'laws.FnExactBlockIn': WHATEVER THE INPUT: true; the input reads as it did. -/
def fnExactBlockInSpec : ChangeSpec := { name := "fnExactBlockIn", fn := fun _ => fun
  | [d1, d2] => { results := [.lit (.bool true)], args := [d1, d2] }
  | _ => none }
def fnExactBlockInRow : OpenClaim := { program := "ytbcehchjinlacaa", sum := "fdb393b916d2a5cdb62701c6e6c77fec41f5c772e7637b376ee89fbc49a674c7", func := "loop.example/overfare/laws.FnExactBlockIn", spec := "fnExactBlockIn", apart := false }
def FnExactBlockInSaid : Prop := fnExactBlockInRow.holds Try.pinned (OpenSpec.ofChange fnExactBlockInSpec)

/-- ITS FALSE NEIGHBOUR: 'it returns false'. Refute it at one input. -/
def fnExactBlockInWrong : ChangeSpec := { name := "fnExactBlockIn", fn := fun _ => fun
  | [d1, d2] => { results := [.lit (.bool false)], args := [d1, d2] }
  | _ => none }
def FnExactBlockInWrongFalsely : Prop := fnExactBlockInRow.holds Try.pinned (OpenSpec.ofChange fnExactBlockInWrong)

/-- 'laws.FnExactBlockMeets': WHATEVER THE INPUT: true; the input reads as it did. -/
def fnExactBlockMeetsSpec : ChangeSpec := { name := "fnExactBlockMeets", fn := fun _ => fun
  | [d1, d2] => { results := [.lit (.bool true)], args := [d1, d2] }
  | _ => none }
def fnExactBlockMeetsRow : OpenClaim := { program := "ytbcehchjinlacaa", sum := "fdb393b916d2a5cdb62701c6e6c77fec41f5c772e7637b376ee89fbc49a674c7", func := "loop.example/overfare/laws.FnExactBlockMeets", spec := "fnExactBlockMeets", apart := false }
def FnExactBlockMeetsSaid : Prop := fnExactBlockMeetsRow.holds Try.pinned (OpenSpec.ofChange fnExactBlockMeetsSpec)

/-- ITS FALSE NEIGHBOUR: 'it returns false'. Refute it at one input. -/
def fnExactBlockMeetsWrong : ChangeSpec := { name := "fnExactBlockMeets", fn := fun _ => fun
  | [d1, d2] => { results := [.lit (.bool false)], args := [d1, d2] }
  | _ => none }
def FnExactBlockMeetsWrongFalsely : Prop := fnExactBlockMeetsRow.holds Try.pinned (OpenSpec.ofChange fnExactBlockMeetsWrong)

/-- 'laws.FnExactBlockHalves': WHATEVER THE INPUT: true; the input reads as it did. -/
def fnExactBlockHalvesSpec : ChangeSpec := { name := "fnExactBlockHalves", fn := fun _ => fun
  | [d] => { results := [.lit (.bool true)], args := [d] }
  | _ => none }
def fnExactBlockHalvesRow : OpenClaim := { program := "ytbcehchjinlacaa", sum := "fdb393b916d2a5cdb62701c6e6c77fec41f5c772e7637b376ee89fbc49a674c7", func := "loop.example/overfare/laws.FnExactBlockHalves", spec := "fnExactBlockHalves", apart := false }
def FnExactBlockHalvesSaid : Prop := fnExactBlockHalvesRow.holds Try.pinned (OpenSpec.ofChange fnExactBlockHalvesSpec)

/-- ITS FALSE NEIGHBOUR: 'it returns false'. Refute it at one input. -/
def fnExactBlockHalvesWrong : ChangeSpec := { name := "fnExactBlockHalves", fn := fun _ => fun
  | [d] => { results := [.lit (.bool false)], args := [d] }
  | _ => none }
def FnExactBlockHalvesWrongFalsely : Prop := fnExactBlockHalvesRow.holds Try.pinned (OpenSpec.ofChange fnExactBlockHalvesWrong)

/-- 'laws.FnExactBlockOver': WHATEVER THE INPUT: true; the input reads as it did. -/
def fnExactBlockOverSpec : ChangeSpec := { name := "fnExactBlockOver", fn := fun _ => fun
  | [d1, d2] => { results := [.lit (.bool true)], args := [d1, d2] }
  | _ => none }
def fnExactBlockOverRow : OpenClaim := { program := "ytbcehchjinlacaa", sum := "fdb393b916d2a5cdb62701c6e6c77fec41f5c772e7637b376ee89fbc49a674c7", func := "loop.example/overfare/laws.FnExactBlockOver", spec := "fnExactBlockOver", apart := false }
def FnExactBlockOverSaid : Prop := fnExactBlockOverRow.holds Try.pinned (OpenSpec.ofChange fnExactBlockOverSpec)

/-- ITS FALSE NEIGHBOUR: 'it returns false'. Refute it at one input. -/
def fnExactBlockOverWrong : ChangeSpec := { name := "fnExactBlockOver", fn := fun _ => fun
  | [d1, d2] => { results := [.lit (.bool false)], args := [d1, d2] }
  | _ => none }
def FnExactBlockOverWrongFalsely : Prop := fnExactBlockOverRow.holds Try.pinned (OpenSpec.ofChange fnExactBlockOverWrong)

/- THE SECOND FORM. 'bulk': how many values and letters a reading holds, each counted each time it is reached (what is shared counts as often as it is met; a slice's spare places count too). A statement '..UptoSaid' is the law's where the arguments, and the package variables that the reading takes, are together of bulk at most 1048576: NARROWER than '..Said'. Prove '..Said' where nothing that the law and all that it calls make is longer than what came in: it says more and counts as full. Else prove '..UptoSaid'. A law counts once. -/
mutual
def uptoBulk {H : Type} : DataW H → Nat
  | .lit (.string bytes) => bytes.length + 1
  | .lit _ => 1
  | .nil => 1
  | .ptr d => uptoBulk d + 1
  | .slice elems spare => uptoBulkAll elems + uptoBulkAll spare + 1
  | .agg parts => uptoBulkAll parts + 1
  | .iface _ d => uptoBulk d + 1
  | .map entries => uptoBulkEntries entries + 1
  | .held _ => 1
def uptoBulkAll {H : Type} : List (DataW H) → Nat
  | [] => 0
  | d :: r => uptoBulk d + uptoBulkAll r
def uptoBulkEntries {H : Type} : List (Lit × DataW H) → Nat
  | [] => 0
  | x :: r => uptoBulkEntry x + uptoBulkEntries r
def uptoBulkEntry {H : Type} : Lit × DataW H → Nat
  | (.string bytes, d) => bytes.length + uptoBulk d + 1
  | (_, d) => uptoBulk d + 1
 end
def uptoSmall : (H : Type) → List (DataW H) → Bool := fun _ ds => decide (uptoBulkAll ds ≤ 1048576)
def OpenSpec.upto (s : _root_.Go.ChangeSpec) : _root_.Go.OpenSpec := { _root_.Go.OpenSpec.ofChange s with cond := some uptoSmall }

/-- 'laws.FnBlockHas', WHERE WHAT IT READS IS OF BULK AT MOST 1048576: true; the input reads as it did. -/
def fnBlockHasUptoRow : OpenClaim := { program := "ytbcehchjinlacaa", sum := "fdb393b916d2a5cdb62701c6e6c77fec41f5c772e7637b376ee89fbc49a674c7", func := "loop.example/overfare/laws.FnBlockHas", spec := "fnBlockHas", apart := false, narrowed := true }
def FnBlockHasUptoSaid : Prop := fnBlockHasUptoRow.holds Try.pinned (OpenSpec.upto fnBlockHasSpec)

/-- 'laws.FnBlockIn', WHERE WHAT IT READS IS OF BULK AT MOST 1048576: true; the input reads as it did. -/
def fnBlockInUptoRow : OpenClaim := { program := "ytbcehchjinlacaa", sum := "fdb393b916d2a5cdb62701c6e6c77fec41f5c772e7637b376ee89fbc49a674c7", func := "loop.example/overfare/laws.FnBlockIn", spec := "fnBlockIn", apart := false, narrowed := true }
def FnBlockInUptoSaid : Prop := fnBlockInUptoRow.holds Try.pinned (OpenSpec.upto fnBlockInSpec)

/-- 'laws.FnBlockMeets', WHERE WHAT IT READS IS OF BULK AT MOST 1048576: true; the input reads as it did. -/
def fnBlockMeetsUptoRow : OpenClaim := { program := "ytbcehchjinlacaa", sum := "fdb393b916d2a5cdb62701c6e6c77fec41f5c772e7637b376ee89fbc49a674c7", func := "loop.example/overfare/laws.FnBlockMeets", spec := "fnBlockMeets", apart := false, narrowed := true }
def FnBlockMeetsUptoSaid : Prop := fnBlockMeetsUptoRow.holds Try.pinned (OpenSpec.upto fnBlockMeetsSpec)

/-- 'laws.FnBlockHalves', WHERE WHAT IT READS IS OF BULK AT MOST 1048576: true; the input reads as it did. -/
def fnBlockHalvesUptoRow : OpenClaim := { program := "ytbcehchjinlacaa", sum := "fdb393b916d2a5cdb62701c6e6c77fec41f5c772e7637b376ee89fbc49a674c7", func := "loop.example/overfare/laws.FnBlockHalves", spec := "fnBlockHalves", apart := false, narrowed := true }
def FnBlockHalvesUptoSaid : Prop := fnBlockHalvesUptoRow.holds Try.pinned (OpenSpec.upto fnBlockHalvesSpec)

/-- 'laws.FnBlockOver', WHERE WHAT IT READS IS OF BULK AT MOST 1048576: true; the input reads as it did. -/
def fnBlockOverUptoRow : OpenClaim := { program := "ytbcehchjinlacaa", sum := "fdb393b916d2a5cdb62701c6e6c77fec41f5c772e7637b376ee89fbc49a674c7", func := "loop.example/overfare/laws.FnBlockOver", spec := "fnBlockOver", apart := false, narrowed := true }
def FnBlockOverUptoSaid : Prop := fnBlockOverUptoRow.holds Try.pinned (OpenSpec.upto fnBlockOverSpec)

/-- 'laws.FnExactBlockOk', WHERE WHAT IT READS IS OF BULK AT MOST 1048576: true; the input reads as it did. -/
def fnExactBlockOkUptoRow : OpenClaim := { program := "ytbcehchjinlacaa", sum := "fdb393b916d2a5cdb62701c6e6c77fec41f5c772e7637b376ee89fbc49a674c7", func := "loop.example/overfare/laws.FnExactBlockOk", spec := "fnExactBlockOk", apart := false, narrowed := true }
def FnExactBlockOkUptoSaid : Prop := fnExactBlockOkUptoRow.holds Try.pinned (OpenSpec.upto fnExactBlockOkSpec)

/-- 'laws.FnExactBlockSize', WHERE WHAT IT READS IS OF BULK AT MOST 1048576: true; the input reads as it did. -/
def fnExactBlockSizeUptoRow : OpenClaim := { program := "ytbcehchjinlacaa", sum := "fdb393b916d2a5cdb62701c6e6c77fec41f5c772e7637b376ee89fbc49a674c7", func := "loop.example/overfare/laws.FnExactBlockSize", spec := "fnExactBlockSize", apart := false, narrowed := true }
def FnExactBlockSizeUptoSaid : Prop := fnExactBlockSizeUptoRow.holds Try.pinned (OpenSpec.upto fnExactBlockSizeSpec)

/-- 'laws.FnExactBlockHas', WHERE WHAT IT READS IS OF BULK AT MOST 1048576: true; the input reads as it did. -/
def fnExactBlockHasUptoRow : OpenClaim := { program := "ytbcehchjinlacaa", sum := "fdb393b916d2a5cdb62701c6e6c77fec41f5c772e7637b376ee89fbc49a674c7", func := "loop.example/overfare/laws.FnExactBlockHas", spec := "fnExactBlockHas", apart := false, narrowed := true }
def FnExactBlockHasUptoSaid : Prop := fnExactBlockHasUptoRow.holds Try.pinned (OpenSpec.upto fnExactBlockHasSpec)

/-- 'laws.FnExactBlockIn', WHERE WHAT IT READS IS OF BULK AT MOST 1048576: true; the input reads as it did. -/
def fnExactBlockInUptoRow : OpenClaim := { program := "ytbcehchjinlacaa", sum := "fdb393b916d2a5cdb62701c6e6c77fec41f5c772e7637b376ee89fbc49a674c7", func := "loop.example/overfare/laws.FnExactBlockIn", spec := "fnExactBlockIn", apart := false, narrowed := true }
def FnExactBlockInUptoSaid : Prop := fnExactBlockInUptoRow.holds Try.pinned (OpenSpec.upto fnExactBlockInSpec)

/-- 'laws.FnExactBlockMeets', WHERE WHAT IT READS IS OF BULK AT MOST 1048576: true; the input reads as it did. -/
def fnExactBlockMeetsUptoRow : OpenClaim := { program := "ytbcehchjinlacaa", sum := "fdb393b916d2a5cdb62701c6e6c77fec41f5c772e7637b376ee89fbc49a674c7", func := "loop.example/overfare/laws.FnExactBlockMeets", spec := "fnExactBlockMeets", apart := false, narrowed := true }
def FnExactBlockMeetsUptoSaid : Prop := fnExactBlockMeetsUptoRow.holds Try.pinned (OpenSpec.upto fnExactBlockMeetsSpec)

/-- 'laws.FnExactBlockHalves', WHERE WHAT IT READS IS OF BULK AT MOST 1048576: true; the input reads as it did. -/
def fnExactBlockHalvesUptoRow : OpenClaim := { program := "ytbcehchjinlacaa", sum := "fdb393b916d2a5cdb62701c6e6c77fec41f5c772e7637b376ee89fbc49a674c7", func := "loop.example/overfare/laws.FnExactBlockHalves", spec := "fnExactBlockHalves", apart := false, narrowed := true }
def FnExactBlockHalvesUptoSaid : Prop := fnExactBlockHalvesUptoRow.holds Try.pinned (OpenSpec.upto fnExactBlockHalvesSpec)

/-- 'laws.FnExactBlockOver', WHERE WHAT IT READS IS OF BULK AT MOST 1048576: true; the input reads as it did. -/
def fnExactBlockOverUptoRow : OpenClaim := { program := "ytbcehchjinlacaa", sum := "fdb393b916d2a5cdb62701c6e6c77fec41f5c772e7637b376ee89fbc49a674c7", func := "loop.example/overfare/laws.FnExactBlockOver", spec := "fnExactBlockOver", apart := false, narrowed := true }
def FnExactBlockOverUptoSaid : Prop := fnExactBlockOverUptoRow.holds Try.pinned (OpenSpec.upto fnExactBlockOverSpec)

end Rows
end Go.Proofs.Ytbcehchjinlacaa
