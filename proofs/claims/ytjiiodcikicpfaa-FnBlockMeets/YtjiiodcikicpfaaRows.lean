/-
  No cell of these rows narrows 'for every input' (looked for: loops, veiled, ifaces, maps, wideKeys, modest, calm, conditions, laid).
  DERIVED. THE GIVEN ROWS OF THIS SEAT. 6 by the template 'for every input the law returns true; each argument reads behind the call as it read before'; 0 by the template 'total and deterministic' (their statements: YtjiiodcikicpfaaTotals.lean).
  GIVEN WITH THE SEED: the statements are not yours to turn. If you find one false, say at which input.
  Laid BY PROGRAM, IN A SANDBOX (cutbox-rows.mjs): the forced cells as the released guide's own fill.sh prints them over the translation 94f23d9814c346a0… (all of the seat's roots in one cut). By AI agents, Wed Nov 11 2026. No macro, syntax, notation, axiom, sorry.
-/
import Derived.Test.YtjiiodcikicpfaaChecked
import GoSem.Claim
import GoSem.ClaimJoined
import GoSem.ClaimMapViews
import Derived.JoinedTies
import Derived.KernelRfl
namespace Go.Proofs.Ytjiiodcikicpfaa
/- THE CELL 'sum', in the pinned program and in every row, IS THE sha256 OF THE DUMP (.gsa) THAT YtjiiodcikicpfaaProg.lean LOADS. Nothing in Lean hashes anything: it is a label: what it is worth is what the hold of that sum in a sandbox is worth. -/
noncomputable def Try.pinned : Pinned := { name := "ytjiiodcikicpfaa", sum := "94f23d9814c346a09a69dbd0cd0091d0cb9fc5981a4e60bbbbcf1e26bf40074f", checked := Try.checked }
namespace Rows
def none {H : Type} : Left H := { results := [], args := [] }

/-- 'laws.FnBlockHas': WHATEVER THE INPUT: true; the input reads as it did. -/
def fnBlockHasSpec : ChangeSpec := { name := "fnBlockHas", fn := fun _ => fun
  | [d] => { results := [.lit (.bool true)], args := [d] }
  | _ => none }
def fnBlockHasRow : OpenClaim := { program := "ytjiiodcikicpfaa", sum := "94f23d9814c346a09a69dbd0cd0091d0cb9fc5981a4e60bbbbcf1e26bf40074f", func := "loop.example/overfare/laws.FnBlockHas", spec := "fnBlockHas", apart := false }
def FnBlockHasSaid : Prop := fnBlockHasRow.holds Try.pinned (OpenSpec.ofChange fnBlockHasSpec)

/-- ITS FALSE NEIGHBOUR: 'it returns false'. Refute it at one input. -/
def fnBlockHasWrong : ChangeSpec := { name := "fnBlockHas", fn := fun _ => fun
  | [d] => { results := [.lit (.bool false)], args := [d] }
  | _ => none }
def FnBlockHasWrongFalsely : Prop := fnBlockHasRow.holds Try.pinned (OpenSpec.ofChange fnBlockHasWrong)

/-- 'laws.FnBlockMeets': WHATEVER THE INPUT: true; the input reads as it did. -/
def fnBlockMeetsSpec : ChangeSpec := { name := "fnBlockMeets", fn := fun _ => fun
  | [d] => { results := [.lit (.bool true)], args := [d] }
  | _ => none }
def fnBlockMeetsRow : OpenClaim := { program := "ytjiiodcikicpfaa", sum := "94f23d9814c346a09a69dbd0cd0091d0cb9fc5981a4e60bbbbcf1e26bf40074f", func := "loop.example/overfare/laws.FnBlockMeets", spec := "fnBlockMeets", apart := false }
def FnBlockMeetsSaid : Prop := fnBlockMeetsRow.holds Try.pinned (OpenSpec.ofChange fnBlockMeetsSpec)

/-- ITS FALSE NEIGHBOUR: 'it returns false'. Refute it at one input. -/
def fnBlockMeetsWrong : ChangeSpec := { name := "fnBlockMeets", fn := fun _ => fun
  | [d] => { results := [.lit (.bool false)], args := [d] }
  | _ => none }
def FnBlockMeetsWrongFalsely : Prop := fnBlockMeetsRow.holds Try.pinned (OpenSpec.ofChange fnBlockMeetsWrong)

/-- 'laws.FnCellsMeet': WHATEVER THE INPUT: true; the input reads as it did. -/
def fnCellsMeetSpec : ChangeSpec := { name := "fnCellsMeet", fn := fun _ => fun
  | [d] => { results := [.lit (.bool true)], args := [d] }
  | _ => none }
def fnCellsMeetRow : OpenClaim := { program := "ytjiiodcikicpfaa", sum := "94f23d9814c346a09a69dbd0cd0091d0cb9fc5981a4e60bbbbcf1e26bf40074f", func := "loop.example/overfare/laws.FnCellsMeet", spec := "fnCellsMeet", apart := false }
def FnCellsMeetSaid : Prop := fnCellsMeetRow.holds Try.pinned (OpenSpec.ofChange fnCellsMeetSpec)

/-- ITS FALSE NEIGHBOUR: 'it returns false'. Refute it at one input. -/
def fnCellsMeetWrong : ChangeSpec := { name := "fnCellsMeet", fn := fun _ => fun
  | [d] => { results := [.lit (.bool false)], args := [d] }
  | _ => none }
def FnCellsMeetWrongFalsely : Prop := fnCellsMeetRow.holds Try.pinned (OpenSpec.ofChange fnCellsMeetWrong)

/-- 'laws.FnExactWaysOk': WHATEVER THE INPUT: true; the input reads as it did. -/
def fnExactWaysOkSpec : ChangeSpec := { name := "fnExactWaysOk", fn := fun _ => fun
  | [d] => { results := [.lit (.bool true)], args := [d] }
  | _ => none }
def fnExactWaysOkRow : OpenClaim := { program := "ytjiiodcikicpfaa", sum := "94f23d9814c346a09a69dbd0cd0091d0cb9fc5981a4e60bbbbcf1e26bf40074f", func := "loop.example/overfare/laws.FnExactWaysOk", spec := "fnExactWaysOk", apart := false }
def FnExactWaysOkSaid : Prop := fnExactWaysOkRow.holds Try.pinned (OpenSpec.ofChange fnExactWaysOkSpec)

/-- ITS FALSE NEIGHBOUR: 'it returns false'. Refute it at one input. -/
def fnExactWaysOkWrong : ChangeSpec := { name := "fnExactWaysOk", fn := fun _ => fun
  | [d] => { results := [.lit (.bool false)], args := [d] }
  | _ => none }
def FnExactWaysOkWrongFalsely : Prop := fnExactWaysOkRow.holds Try.pinned (OpenSpec.ofChange fnExactWaysOkWrong)

/-- 'laws.FnExactCellsFind': WHATEVER THE INPUT: true; the input reads as it did. -/
def fnExactCellsFindSpec : ChangeSpec := { name := "fnExactCellsFind", fn := fun _ => fun
  | [d1, d2] => { results := [.lit (.bool true)], args := [d1, d2] }
  | _ => none }
def fnExactCellsFindRow : OpenClaim := { program := "ytjiiodcikicpfaa", sum := "94f23d9814c346a09a69dbd0cd0091d0cb9fc5981a4e60bbbbcf1e26bf40074f", func := "loop.example/overfare/laws.FnExactCellsFind", spec := "fnExactCellsFind", apart := false }
def FnExactCellsFindSaid : Prop := fnExactCellsFindRow.holds Try.pinned (OpenSpec.ofChange fnExactCellsFindSpec)

/-- ITS FALSE NEIGHBOUR: 'it returns false'. Refute it at one input. -/
def fnExactCellsFindWrong : ChangeSpec := { name := "fnExactCellsFind", fn := fun _ => fun
  | [d1, d2] => { results := [.lit (.bool false)], args := [d1, d2] }
  | _ => none }
def FnExactCellsFindWrongFalsely : Prop := fnExactCellsFindRow.holds Try.pinned (OpenSpec.ofChange fnExactCellsFindWrong)

/-- 'laws.FnExactCellsMeet': WHATEVER THE INPUT: true; the input reads as it did. -/
def fnExactCellsMeetSpec : ChangeSpec := { name := "fnExactCellsMeet", fn := fun _ => fun
  | [d1, d2] => { results := [.lit (.bool true)], args := [d1, d2] }
  | _ => none }
def fnExactCellsMeetRow : OpenClaim := { program := "ytjiiodcikicpfaa", sum := "94f23d9814c346a09a69dbd0cd0091d0cb9fc5981a4e60bbbbcf1e26bf40074f", func := "loop.example/overfare/laws.FnExactCellsMeet", spec := "fnExactCellsMeet", apart := false }
def FnExactCellsMeetSaid : Prop := fnExactCellsMeetRow.holds Try.pinned (OpenSpec.ofChange fnExactCellsMeetSpec)

/-- ITS FALSE NEIGHBOUR: 'it returns false'. Refute it at one input. -/
def fnExactCellsMeetWrong : ChangeSpec := { name := "fnExactCellsMeet", fn := fun _ => fun
  | [d1, d2] => { results := [.lit (.bool false)], args := [d1, d2] }
  | _ => none }
def FnExactCellsMeetWrongFalsely : Prop := fnExactCellsMeetRow.holds Try.pinned (OpenSpec.ofChange fnExactCellsMeetWrong)

/- THE SECOND FORM. 'bulk': how many values and letters a reading holds, each counted each time it is reached (what is shared counts as often as it is met; a slice's spare places count too). A statement '..UptoSaid' is the law's where the arguments, and the package variables that the reading takes, are together of bulk at most 1048576: NARROWER than '..Said'. Prove '..Said' where nothing that the law and all that it calls make is longer than what came in: it says more and counts as full. Else prove '..UptoSaid'. A law counts once. -/
mutual
def uptoBulk {H : Type} : DataW H → Nat
  | .lit (.string bytes) => bytes.length + 1
  | .lit _ => 1
  | .nil => 1
  | .ptr d => uptoBulk d + 1
  | .slice elems spare => uptoBulkAll elems + uptoBulkAll spare + 1
  | .agg parts => uptoBulkAll parts + 1
  | .iface _ d => uptoBulk d + 1
  | .map entries => uptoBulkEntries entries + 1
  | .held _ => 1
def uptoBulkAll {H : Type} : List (DataW H) → Nat
  | [] => 0
  | d :: r => uptoBulk d + uptoBulkAll r
def uptoBulkEntries {H : Type} : List (Lit × DataW H) → Nat
  | [] => 0
  | x :: r => uptoBulkEntry x + uptoBulkEntries r
def uptoBulkEntry {H : Type} : Lit × DataW H → Nat
  | (.string bytes, d) => bytes.length + uptoBulk d + 1
  | (_, d) => uptoBulk d + 1
 end
def uptoSmall : (H : Type) → List (DataW H) → Bool := fun _ ds => decide (uptoBulkAll ds ≤ 1048576)
def OpenSpec.upto (s : _root_.Go.ChangeSpec) : _root_.Go.OpenSpec := { _root_.Go.OpenSpec.ofChange s with cond := some uptoSmall }

/-- 'laws.FnBlockHas', WHERE WHAT IT READS IS OF BULK AT MOST 1048576: true; the input reads as it did. -/
def fnBlockHasUptoRow : OpenClaim := { program := "ytjiiodcikicpfaa", sum := "94f23d9814c346a09a69dbd0cd0091d0cb9fc5981a4e60bbbbcf1e26bf40074f", func := "loop.example/overfare/laws.FnBlockHas", spec := "fnBlockHas", apart := false, narrowed := true }
def FnBlockHasUptoSaid : Prop := fnBlockHasUptoRow.holds Try.pinned (OpenSpec.upto fnBlockHasSpec)

/-- 'laws.FnBlockMeets', WHERE WHAT IT READS IS OF BULK AT MOST 1048576: true; the input reads as it did. -/
def fnBlockMeetsUptoRow : OpenClaim := { program := "ytjiiodcikicpfaa", sum := "94f23d9814c346a09a69dbd0cd0091d0cb9fc5981a4e60bbbbcf1e26bf40074f", func := "loop.example/overfare/laws.FnBlockMeets", spec := "fnBlockMeets", apart := false, narrowed := true }
def FnBlockMeetsUptoSaid : Prop := fnBlockMeetsUptoRow.holds Try.pinned (OpenSpec.upto fnBlockMeetsSpec)

/-- 'laws.FnCellsMeet', WHERE WHAT IT READS IS OF BULK AT MOST 1048576: true; the input reads as it did. -/
def fnCellsMeetUptoRow : OpenClaim := { program := "ytjiiodcikicpfaa", sum := "94f23d9814c346a09a69dbd0cd0091d0cb9fc5981a4e60bbbbcf1e26bf40074f", func := "loop.example/overfare/laws.FnCellsMeet", spec := "fnCellsMeet", apart := false, narrowed := true }
def FnCellsMeetUptoSaid : Prop := fnCellsMeetUptoRow.holds Try.pinned (OpenSpec.upto fnCellsMeetSpec)

/-- 'laws.FnExactWaysOk', WHERE WHAT IT READS IS OF BULK AT MOST 1048576: true; the input reads as it did. -/
def fnExactWaysOkUptoRow : OpenClaim := { program := "ytjiiodcikicpfaa", sum := "94f23d9814c346a09a69dbd0cd0091d0cb9fc5981a4e60bbbbcf1e26bf40074f", func := "loop.example/overfare/laws.FnExactWaysOk", spec := "fnExactWaysOk", apart := false, narrowed := true }
def FnExactWaysOkUptoSaid : Prop := fnExactWaysOkUptoRow.holds Try.pinned (OpenSpec.upto fnExactWaysOkSpec)

/-- 'laws.FnExactCellsFind', WHERE WHAT IT READS IS OF BULK AT MOST 1048576: true; the input reads as it did. -/
def fnExactCellsFindUptoRow : OpenClaim := { program := "ytjiiodcikicpfaa", sum := "94f23d9814c346a09a69dbd0cd0091d0cb9fc5981a4e60bbbbcf1e26bf40074f", func := "loop.example/overfare/laws.FnExactCellsFind", spec := "fnExactCellsFind", apart := false, narrowed := true }
def FnExactCellsFindUptoSaid : Prop := fnExactCellsFindUptoRow.holds Try.pinned (OpenSpec.upto fnExactCellsFindSpec)

/-- 'laws.FnExactCellsMeet', WHERE WHAT IT READS IS OF BULK AT MOST 1048576: true; the input reads as it did. -/
def fnExactCellsMeetUptoRow : OpenClaim := { program := "ytjiiodcikicpfaa", sum := "94f23d9814c346a09a69dbd0cd0091d0cb9fc5981a4e60bbbbcf1e26bf40074f", func := "loop.example/overfare/laws.FnExactCellsMeet", spec := "fnExactCellsMeet", apart := false, narrowed := true }
def FnExactCellsMeetUptoSaid : Prop := fnExactCellsMeetUptoRow.holds Try.pinned (OpenSpec.upto fnExactCellsMeetSpec)

end Rows
end Go.Proofs.Ytjiiodcikicpfaa
