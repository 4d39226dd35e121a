/-
  No cell of these rows narrows 'for every input' (looked for: loops, veiled, ifaces, maps, wideKeys, modest, calm, conditions, laid).
  DERIVED. THE GIVEN ROWS OF THIS SEAT. 2 by the template 'for every input the law returns true; each argument reads behind the call as it read before'; 0 by the template 'total and deterministic' (their statements: YtmkmbbbmelejoaaTotals.lean).
  GIVEN WITH THE SEED: the statements are not yours to turn. If you find one false, say at which input.
  Laid BY PROGRAM, IN A SANDBOX (cutbox-rows.mjs): the forced cells as the released guide's own fill.sh prints them over the translation 92d80317fb781955… (all of the seat's roots in one cut). By AI agents, Wed Nov 11 2026. No macro, syntax, notation, axiom, sorry.
-/
import Derived.Test.YtmkmbbbmelejoaaChecked
import GoSem.Claim
import GoSem.ClaimJoined
import GoSem.ClaimMapViews
import Derived.JoinedTies
import Derived.KernelRfl
namespace Go.Proofs.Ytmkmbbbmelejoaa
/- THE CELL 'sum', in the pinned program and in every row, IS THE sha256 OF THE DUMP (.gsa) THAT YtmkmbbbmelejoaaProg.lean LOADS. Nothing in Lean hashes anything: it is a label: what it is worth is what the hold of that sum in a sandbox is worth. -/
noncomputable def Try.pinned : Pinned := { name := "ytmkmbbbmelejoaa", sum := "92d80317fb7819553ce12fa1ea6e98d5f6226f905f6fc9a67d9a76d5f86bd05a", checked := Try.checked }
namespace Rows
def none {H : Type} : Left H := { results := [], args := [] }

/-- 'laws.FnWindowSee': WHATEVER THE INPUT: true; the input reads as it did. -/
def fnWindowSeeSpec : ChangeSpec := { name := "fnWindowSee", fn := fun _ => fun
  | [d] => { results := [.lit (.bool true)], args := [d] }
  | _ => none }
def fnWindowSeeRow : OpenClaim := { program := "ytmkmbbbmelejoaa", sum := "92d80317fb7819553ce12fa1ea6e98d5f6226f905f6fc9a67d9a76d5f86bd05a", func := "loop.example/overfare/laws.FnWindowSee", spec := "fnWindowSee", apart := false }
def FnWindowSeeSaid : Prop := fnWindowSeeRow.holds Try.pinned (OpenSpec.ofChange fnWindowSeeSpec)

/-- ITS FALSE NEIGHBOUR: 'it returns false'. Refute it at one input. -/
def fnWindowSeeWrong : ChangeSpec := { name := "fnWindowSee", fn := fun _ => fun
  | [d] => { results := [.lit (.bool false)], args := [d] }
  | _ => none }
def FnWindowSeeWrongFalsely : Prop := fnWindowSeeRow.holds Try.pinned (OpenSpec.ofChange fnWindowSeeWrong)

/-- 'laws.FnWindowOnce': WHATEVER THE INPUT: true; the input reads as it did. -/
def fnWindowOnceSpec : ChangeSpec := { name := "fnWindowOnce", fn := fun _ => fun
  | [d] => { results := [.lit (.bool true)], args := [d] }
  | _ => none }
def fnWindowOnceRow : OpenClaim := { program := "ytmkmbbbmelejoaa", sum := "92d80317fb7819553ce12fa1ea6e98d5f6226f905f6fc9a67d9a76d5f86bd05a", func := "loop.example/overfare/laws.FnWindowOnce", spec := "fnWindowOnce", apart := false }
def FnWindowOnceSaid : Prop := fnWindowOnceRow.holds Try.pinned (OpenSpec.ofChange fnWindowOnceSpec)

/-- ITS FALSE NEIGHBOUR: 'it returns false'. Refute it at one input. -/
def fnWindowOnceWrong : ChangeSpec := { name := "fnWindowOnce", fn := fun _ => fun
  | [d] => { results := [.lit (.bool false)], args := [d] }
  | _ => none }
def FnWindowOnceWrongFalsely : Prop := fnWindowOnceRow.holds Try.pinned (OpenSpec.ofChange fnWindowOnceWrong)

/- THE SECOND FORM. 'bulk': how many values and letters a reading holds, each counted each time it is reached (what is shared counts as often as it is met; a slice's spare places count too). A statement '..UptoSaid' is the law's where the arguments, and the package variables that the reading takes, are together of bulk at most 1048576: NARROWER than '..Said'. Prove '..Said' where nothing that the law and all that it calls make is longer than what came in: it says more and counts as full. Else prove '..UptoSaid'. A law counts once. -/
mutual
def uptoBulk {H : Type} : DataW H → Nat
  | .lit (.string bytes) => bytes.length + 1
  | .lit _ => 1
  | .nil => 1
  | .ptr d => uptoBulk d + 1
  | .slice elems spare => uptoBulkAll elems + uptoBulkAll spare + 1
  | .agg parts => uptoBulkAll parts + 1
  | .iface _ d => uptoBulk d + 1
  | .map entries => uptoBulkEntries entries + 1
  | .held _ => 1
def uptoBulkAll {H : Type} : List (DataW H) → Nat
  | [] => 0
  | d :: r => uptoBulk d + uptoBulkAll r
def uptoBulkEntries {H : Type} : List (Lit × DataW H) → Nat
  | [] => 0
  | x :: r => uptoBulkEntry x + uptoBulkEntries r
def uptoBulkEntry {H : Type} : Lit × DataW H → Nat
  | (.string bytes, d) => bytes.length + uptoBulk d + 1
  | (_, d) => uptoBulk d + 1
 end
def uptoSmall : (H : Type) → List (DataW H) → Bool := fun _ ds => decide (uptoBulkAll ds ≤ 1048576)
def OpenSpec.upto (s : _root_.Go.ChangeSpec) : _root_.Go.OpenSpec := { _root_.Go.OpenSpec.ofChange s with cond := some uptoSmall }

/-- 'laws.FnWindowSee', WHERE WHAT IT READS IS OF BULK AT MOST 1048576: true; the input reads as it did. -/
def fnWindowSeeUptoRow : OpenClaim := { program := "ytmkmbbbmelejoaa", sum := "92d80317fb7819553ce12fa1ea6e98d5f6226f905f6fc9a67d9a76d5f86bd05a", func := "loop.example/overfare/laws.FnWindowSee", spec := "fnWindowSee", apart := false, narrowed := true }
def FnWindowSeeUptoSaid : Prop := fnWindowSeeUptoRow.holds Try.pinned (OpenSpec.upto fnWindowSeeSpec)

/-- 'laws.FnWindowOnce', WHERE WHAT IT READS IS OF BULK AT MOST 1048576: true; the input reads as it did. -/
def fnWindowOnceUptoRow : OpenClaim := { program := "ytmkmbbbmelejoaa", sum := "92d80317fb7819553ce12fa1ea6e98d5f6226f905f6fc9a67d9a76d5f86bd05a", func := "loop.example/overfare/laws.FnWindowOnce", spec := "fnWindowOnce", apart := false, narrowed := true }
def FnWindowOnceUptoSaid : Prop := fnWindowOnceUptoRow.holds Try.pinned (OpenSpec.upto fnWindowOnceSpec)

end Rows
end Go.Proofs.Ytmkmbbbmelejoaa
