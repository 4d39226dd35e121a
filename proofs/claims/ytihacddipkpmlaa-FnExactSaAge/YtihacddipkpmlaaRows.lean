/-
  No cell of these rows narrows 'for every input' (looked for: loops, veiled, ifaces, maps, wideKeys, modest, calm, conditions, laid).
  DERIVED. THE GIVEN ROWS OF THIS SEAT. 3 by the template 'for every input the law returns true; each argument reads behind the call as it read before'; 0 by the template 'total and deterministic' (their statements: YtihacddipkpmlaaTotals.lean).
  GIVEN WITH THE SEED: the statements are not yours to turn. If you find one false, say at which input.
  Laid BY PROGRAM, IN A SANDBOX (cutbox-rows.mjs): the forced cells as the released guide's own fill.sh prints them over the translation 9f93ea83d60bfed2… (all of the seat's roots in one cut). By AI agents, Wed Nov 11 2026. No macro, syntax, notation, axiom, sorry.
-/
import Derived.Test.YtihacddipkpmlaaChecked
import GoSem.Claim
import GoSem.ClaimJoined
import GoSem.ClaimMapViews
import Derived.JoinedTies
import Derived.KernelRfl
namespace Go.Proofs.Ytihacddipkpmlaa
/- THE CELL 'sum', in the pinned program and in every row, IS THE sha256 OF THE DUMP (.gsa) THAT YtihacddipkpmlaaProg.lean LOADS. Nothing in Lean hashes anything: it is a label: what it is worth is what the hold of that sum in a sandbox is worth. -/
noncomputable def Try.pinned : Pinned := { name := "ytihacddipkpmlaa", sum := "9f93ea83d60bfed2fed4db06bd308c4390fc73e06e211d7607eaaa5f1fe09a1b", checked := Try.checked }
namespace Rows
def none {H : Type} : Left H := { results := [], args := [] }

/-- 'laws.FnExactPacketOk': WHATEVER THE INPUT: true; the input reads as it did. -/
def fnExactPacketOkSpec : ChangeSpec := { name := "fnExactPacketOk", fn := fun _ => fun
  | [d] => { results := [.lit (.bool true)], args := [d] }
  | _ => none }
def fnExactPacketOkRow : OpenClaim := { program := "ytihacddipkpmlaa", sum := "9f93ea83d60bfed2fed4db06bd308c4390fc73e06e211d7607eaaa5f1fe09a1b", func := "loop.example/overfare/laws.FnExactPacketOk", spec := "fnExactPacketOk", apart := false }
def FnExactPacketOkSaid : Prop := fnExactPacketOkRow.holds Try.pinned (OpenSpec.ofChange fnExactPacketOkSpec)

/-- ITS FALSE NEIGHBOUR: 'it returns false'. Refute it at one input. -/
def fnExactPacketOkWrong : ChangeSpec := { name := "fnExactPacketOk", fn := fun _ => fun
  | [d] => { results := [.lit (.bool false)], args := [d] }
  | _ => none }
def FnExactPacketOkWrongFalsely : Prop := fnExactPacketOkRow.holds Try.pinned (OpenSpec.ofChange fnExactPacketOkWrong)

/-- 'laws.FnExactSaOk': WHATEVER THE INPUT: true; the input reads as it did. -/
def fnExactSaOkSpec : ChangeSpec := { name := "fnExactSaOk", fn := fun _ => fun
  | [d] => { results := [.lit (.bool true)], args := [d] }
  | _ => none }
def fnExactSaOkRow : OpenClaim := { program := "ytihacddipkpmlaa", sum := "9f93ea83d60bfed2fed4db06bd308c4390fc73e06e211d7607eaaa5f1fe09a1b", func := "loop.example/overfare/laws.FnExactSaOk", spec := "fnExactSaOk", apart := false }
def FnExactSaOkSaid : Prop := fnExactSaOkRow.holds Try.pinned (OpenSpec.ofChange fnExactSaOkSpec)

/-- ITS FALSE NEIGHBOUR: 'it returns false'. Refute it at one input. -/
def fnExactSaOkWrong : ChangeSpec := { name := "fnExactSaOk", fn := fun _ => fun
  | [d] => { results := [.lit (.bool false)], args := [d] }
  | _ => none }
def FnExactSaOkWrongFalsely : Prop := fnExactSaOkRow.holds Try.pinned (OpenSpec.ofChange fnExactSaOkWrong)

/-- 'laws.FnExactSaAge': WHATEVER THE INPUT: true; the input reads as it did. -/
def fnExactSaAgeSpec : ChangeSpec := { name := "fnExactSaAge", fn := fun _ => fun
  | [d1, d2] => { results := [.lit (.bool true)], args := [d1, d2] }
  | _ => none }
def fnExactSaAgeRow : OpenClaim := { program := "ytihacddipkpmlaa", sum := "9f93ea83d60bfed2fed4db06bd308c4390fc73e06e211d7607eaaa5f1fe09a1b", func := "loop.example/overfare/laws.FnExactSaAge", spec := "fnExactSaAge", apart := false }
def FnExactSaAgeSaid : Prop := fnExactSaAgeRow.holds Try.pinned (OpenSpec.ofChange fnExactSaAgeSpec)

/-- ITS FALSE NEIGHBOUR: 'it returns false'. Refute it at one input. -/
def fnExactSaAgeWrong : ChangeSpec := { name := "fnExactSaAge", fn := fun _ => fun
  | [d1, d2] => { results := [.lit (.bool false)], args := [d1, d2] }
  | _ => none }
def FnExactSaAgeWrongFalsely : Prop := fnExactSaAgeRow.holds Try.pinned (OpenSpec.ofChange fnExactSaAgeWrong)

/- THE SECOND FORM. 'bulk': how many values and letters a reading holds, each counted each time it is reached (what is shared counts as often as it is met; a slice's spare places count too). A statement '..UptoSaid' is the law's where the arguments, and the package variables that the reading takes, are together of bulk at most 1048576: NARROWER than '..Said'. Prove '..Said' where nothing that the law and all that it calls make is longer than what came in: it says more and counts as full. Else prove '..UptoSaid'. A law counts once. -/
mutual
def uptoBulk {H : Type} : DataW H → Nat
  | .lit (.string bytes) => bytes.length + 1
  | .lit _ => 1
  | .nil => 1
  | .ptr d => uptoBulk d + 1
  | .slice elems spare => uptoBulkAll elems + uptoBulkAll spare + 1
  | .agg parts => uptoBulkAll parts + 1
  | .iface _ d => uptoBulk d + 1
  | .map entries => uptoBulkEntries entries + 1
  | .held _ => 1
def uptoBulkAll {H : Type} : List (DataW H) → Nat
  | [] => 0
  | d :: r => uptoBulk d + uptoBulkAll r
def uptoBulkEntries {H : Type} : List (Lit × DataW H) → Nat
  | [] => 0
  | x :: r => uptoBulkEntry x + uptoBulkEntries r
def uptoBulkEntry {H : Type} : Lit × DataW H → Nat
  | (.string bytes, d) => bytes.length + uptoBulk d + 1
  | (_, d) => uptoBulk d + 1
 end
def uptoSmall : (H : Type) → List (DataW H) → Bool := fun _ ds => decide (uptoBulkAll ds ≤ 1048576)
def OpenSpec.upto (s : _root_.Go.ChangeSpec) : _root_.Go.OpenSpec := { _root_.Go.OpenSpec.ofChange s with cond := some uptoSmall }

/-- 'laws.FnExactPacketOk', WHERE WHAT IT READS IS OF BULK AT MOST 1048576: true; the input reads as it did. -/
def fnExactPacketOkUptoRow : OpenClaim := { program := "ytihacddipkpmlaa", sum := "9f93ea83d60bfed2fed4db06bd308c4390fc73e06e211d7607eaaa5f1fe09a1b", func := "loop.example/overfare/laws.FnExactPacketOk", spec := "fnExactPacketOk", apart := false, narrowed := true }
def FnExactPacketOkUptoSaid : Prop := fnExactPacketOkUptoRow.holds Try.pinned (OpenSpec.upto fnExactPacketOkSpec)

/-- 'laws.FnExactSaOk', WHERE WHAT IT READS IS OF BULK AT MOST 1048576: true; the input reads as it did. -/
def fnExactSaOkUptoRow : OpenClaim := { program := "ytihacddipkpmlaa", sum := "9f93ea83d60bfed2fed4db06bd308c4390fc73e06e211d7607eaaa5f1fe09a1b", func := "loop.example/overfare/laws.FnExactSaOk", spec := "fnExactSaOk", apart := false, narrowed := true }
def FnExactSaOkUptoSaid : Prop := fnExactSaOkUptoRow.holds Try.pinned (OpenSpec.upto fnExactSaOkSpec)

/-- 'laws.FnExactSaAge', WHERE WHAT IT READS IS OF BULK AT MOST 1048576: true; the input reads as it did. -/
def fnExactSaAgeUptoRow : OpenClaim := { program := "ytihacddipkpmlaa", sum := "9f93ea83d60bfed2fed4db06bd308c4390fc73e06e211d7607eaaa5f1fe09a1b", func := "loop.example/overfare/laws.FnExactSaAge", spec := "fnExactSaAge", apart := false, narrowed := true }
def FnExactSaAgeUptoSaid : Prop := fnExactSaAgeUptoRow.holds Try.pinned (OpenSpec.upto fnExactSaAgeSpec)

end Rows
end Go.Proofs.Ytihacddipkpmlaa
