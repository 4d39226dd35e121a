/-
  No cell of these rows narrows 'for every input' (looked for: loops, veiled, ifaces, maps, wideKeys, modest, calm, conditions, laid).
  DERIVED. THE GIVEN ROWS OF THIS SEAT. 11 by the template 'for every input the law returns true; each argument reads behind the call as it read before'; 0 by the template 'total and deterministic' (their statements: YtdbobeojbdcmdaaTotals.lean).
  GIVEN WITH THE SEED: the statements are not yours to turn. If you find one false, say at which input.
  Laid BY PROGRAM, IN A SANDBOX (cutbox-rows.mjs): the forced cells as the released guide's own fill.sh prints them over the translation 3676e2461f15293f… (all of the seat's roots in one cut). By AI agents, Wed Nov 11 2026. No macro, syntax, notation, axiom, sorry.
-/
import Derived.Test.YtdbobeojbdcmdaaChecked
import GoSem.Claim
import GoSem.ClaimJoined
import GoSem.ClaimMapViews
import Derived.JoinedTies
import Derived.KernelRfl
namespace Go.Proofs.Ytdbobeojbdcmdaa
/- THE CELL 'sum', in the pinned program and in every row, IS THE sha256 OF THE DUMP (.gsa) THAT YtdbobeojbdcmdaaProg.lean LOADS. Nothing in Lean hashes anything: it is a label: what it is worth is what the hold of that sum in a sandbox is worth. -/
noncomputable def Try.pinned : Pinned := { name := "ytdbobeojbdcmdaa", sum := "3676e2461f15293f64481aa9acc5ebac6adabfb747488486c027d86653165c65", checked := Try.checked }
namespace Rows
def none {H : Type} : Left H := { results := [], args := [] }

/-- 'laws.FnExactAesPut': WHATEVER THE INPUT: true; the input reads as it did. -/
def fnExactAesPutSpec : ChangeSpec := { name := "fnExactAesPut", fn := fun _ => fun
  | [d1, d2] => { results := [.lit (.bool true)], args := [d1, d2] }
  | _ => none }
def fnExactAesPutRow : OpenClaim := { program := "ytdbobeojbdcmdaa", sum := "3676e2461f15293f64481aa9acc5ebac6adabfb747488486c027d86653165c65", func := "loop.example/overfare/laws.FnExactAesPut", spec := "fnExactAesPut", unfollowed := true, recurses := true, apart := false }
def FnExactAesPutSaid : Prop := fnExactAesPutRow.holds Try.pinned (OpenSpec.ofChange fnExactAesPutSpec)

/-- ITS FALSE NEIGHBOUR: 'it returns false'. Refute it at one input. -/
def fnExactAesPutWrong : ChangeSpec := { name := "fnExactAesPut", fn := fun _ => fun
  | [d1, d2] => { results := [.lit (.bool false)], args := [d1, d2] }
  | _ => none }
def FnExactAesPutWrongFalsely : Prop := fnExactAesPutRow.holds Try.pinned (OpenSpec.ofChange fnExactAesPutWrong)

/-- 'laws.FnExactAesGet': WHATEVER THE INPUT: true; the input reads as it did. -/
def fnExactAesGetSpec : ChangeSpec := { name := "fnExactAesGet", fn := fun _ => fun
  | [d1, d2] => { results := [.lit (.bool true)], args := [d1, d2] }
  | _ => none }
def fnExactAesGetRow : OpenClaim := { program := "ytdbobeojbdcmdaa", sum := "3676e2461f15293f64481aa9acc5ebac6adabfb747488486c027d86653165c65", func := "loop.example/overfare/laws.FnExactAesGet", spec := "fnExactAesGet", unfollowed := true, recurses := true, apart := false }
def FnExactAesGetSaid : Prop := fnExactAesGetRow.holds Try.pinned (OpenSpec.ofChange fnExactAesGetSpec)

/-- ITS FALSE NEIGHBOUR: 'it returns false'. Refute it at one input. -/
def fnExactAesGetWrong : ChangeSpec := { name := "fnExactAesGet", fn := fun _ => fun
  | [d1, d2] => { results := [.lit (.bool false)], args := [d1, d2] }
  | _ => none }
def FnExactAesGetWrongFalsely : Prop := fnExactAesGetRow.holds Try.pinned (OpenSpec.ofChange fnExactAesGetWrong)

/-- 'laws.FnExactAesKeys': WHATEVER THE INPUT: true; the input reads as it did. -/
def fnExactAesKeysSpec : ChangeSpec := { name := "fnExactAesKeys", fn := fun _ => fun
  | [d] => { results := [.lit (.bool true)], args := [d] }
  | _ => none }
def fnExactAesKeysRow : OpenClaim := { program := "ytdbobeojbdcmdaa", sum := "3676e2461f15293f64481aa9acc5ebac6adabfb747488486c027d86653165c65", func := "loop.example/overfare/laws.FnExactAesKeys", spec := "fnExactAesKeys", inPlace := ["internal/abi.NoEscape"], unfollowed := true, recurses := true, apart := false }
def FnExactAesKeysSaid : Prop := fnExactAesKeysRow.holds Try.pinned (OpenSpec.ofChange fnExactAesKeysSpec)

/-- ITS FALSE NEIGHBOUR: 'it returns false'. Refute it at one input. -/
def fnExactAesKeysWrong : ChangeSpec := { name := "fnExactAesKeys", fn := fun _ => fun
  | [d] => { results := [.lit (.bool false)], args := [d] }
  | _ => none }
def FnExactAesKeysWrongFalsely : Prop := fnExactAesKeysRow.holds Try.pinned (OpenSpec.ofChange fnExactAesKeysWrong)

/-- 'laws.FnExactChainPut': WHATEVER THE INPUT: true; the input reads as it did. -/
def fnExactChainPutSpec : ChangeSpec := { name := "fnExactChainPut", fn := fun _ => fun
  | [d1, d2, d3] => { results := [.lit (.bool true)], args := [d1, d2, d3] }
  | _ => none }
def fnExactChainPutRow : OpenClaim := { program := "ytdbobeojbdcmdaa", sum := "3676e2461f15293f64481aa9acc5ebac6adabfb747488486c027d86653165c65", func := "loop.example/overfare/laws.FnExactChainPut", spec := "fnExactChainPut", inPlace := ["internal/abi.NoEscape"], unfollowed := true, recurses := true, apart := false }
def FnExactChainPutSaid : Prop := fnExactChainPutRow.holds Try.pinned (OpenSpec.ofChange fnExactChainPutSpec)

/-- ITS FALSE NEIGHBOUR: 'it returns false'. Refute it at one input. -/
def fnExactChainPutWrong : ChangeSpec := { name := "fnExactChainPut", fn := fun _ => fun
  | [d1, d2, d3] => { results := [.lit (.bool false)], args := [d1, d2, d3] }
  | _ => none }
def FnExactChainPutWrongFalsely : Prop := fnExactChainPutRow.holds Try.pinned (OpenSpec.ofChange fnExactChainPutWrong)

/-- 'laws.FnExactChainGet': WHATEVER THE INPUT: true; the input reads as it did. -/
def fnExactChainGetSpec : ChangeSpec := { name := "fnExactChainGet", fn := fun _ => fun
  | [d1, d2, d3] => { results := [.lit (.bool true)], args := [d1, d2, d3] }
  | _ => none }
def fnExactChainGetRow : OpenClaim := { program := "ytdbobeojbdcmdaa", sum := "3676e2461f15293f64481aa9acc5ebac6adabfb747488486c027d86653165c65", func := "loop.example/overfare/laws.FnExactChainGet", spec := "fnExactChainGet", inPlace := ["internal/abi.NoEscape"], unfollowed := true, recurses := true, apart := false }
def FnExactChainGetSaid : Prop := fnExactChainGetRow.holds Try.pinned (OpenSpec.ofChange fnExactChainGetSpec)

/-- ITS FALSE NEIGHBOUR: 'it returns false'. Refute it at one input. -/
def fnExactChainGetWrong : ChangeSpec := { name := "fnExactChainGet", fn := fun _ => fun
  | [d1, d2, d3] => { results := [.lit (.bool false)], args := [d1, d2, d3] }
  | _ => none }
def FnExactChainGetWrongFalsely : Prop := fnExactChainGetRow.holds Try.pinned (OpenSpec.ofChange fnExactChainGetWrong)

/-- 'laws.FnAesKnown': WHATEVER THE INPUT: true; the input reads as it did. -/
def fnAesKnownSpec : ChangeSpec := { name := "fnAesKnown", fn := fun _ => fun
  | [d] => { results := [.lit (.bool true)], args := [d] }
  | _ => none }
def fnAesKnownRow : OpenClaim := { program := "ytdbobeojbdcmdaa", sum := "3676e2461f15293f64481aa9acc5ebac6adabfb747488486c027d86653165c65", func := "loop.example/overfare/laws.FnAesKnown", spec := "fnAesKnown", unfollowed := true, recurses := true, apart := false }
def FnAesKnownSaid : Prop := fnAesKnownRow.holds Try.pinned (OpenSpec.ofChange fnAesKnownSpec)

/-- ITS FALSE NEIGHBOUR: 'it returns false'. Refute it at one input. -/
def fnAesKnownWrong : ChangeSpec := { name := "fnAesKnown", fn := fun _ => fun
  | [d] => { results := [.lit (.bool false)], args := [d] }
  | _ => none }
def FnAesKnownWrongFalsely : Prop := fnAesKnownRow.holds Try.pinned (OpenSpec.ofChange fnAesKnownWrong)

/-- 'laws.FnAesBack': WHATEVER THE INPUT: true; the input reads as it did. -/
def fnAesBackSpec : ChangeSpec := { name := "fnAesBack", fn := fun _ => fun
  | [d] => { results := [.lit (.bool true)], args := [d] }
  | _ => none }
def fnAesBackRow : OpenClaim := { program := "ytdbobeojbdcmdaa", sum := "3676e2461f15293f64481aa9acc5ebac6adabfb747488486c027d86653165c65", func := "loop.example/overfare/laws.FnAesBack", spec := "fnAesBack", unfollowed := true, recurses := true, apart := false }
def FnAesBackSaid : Prop := fnAesBackRow.holds Try.pinned (OpenSpec.ofChange fnAesBackSpec)

/-- ITS FALSE NEIGHBOUR: 'it returns false'. Refute it at one input. -/
def fnAesBackWrong : ChangeSpec := { name := "fnAesBack", fn := fun _ => fun
  | [d] => { results := [.lit (.bool false)], args := [d] }
  | _ => none }
def FnAesBackWrongFalsely : Prop := fnAesBackRow.holds Try.pinned (OpenSpec.ofChange fnAesBackWrong)

/-- 'laws.FnAesOne': WHATEVER THE INPUT: true; the input reads as it did. -/
def fnAesOneSpec : ChangeSpec := { name := "fnAesOne", fn := fun _ => fun
  | [d1, d2] => { results := [.lit (.bool true)], args := [d1, d2] }
  | _ => none }
def fnAesOneRow : OpenClaim := { program := "ytdbobeojbdcmdaa", sum := "3676e2461f15293f64481aa9acc5ebac6adabfb747488486c027d86653165c65", func := "loop.example/overfare/laws.FnAesOne", spec := "fnAesOne", unfollowed := true, recurses := true, apart := false }
def FnAesOneSaid : Prop := fnAesOneRow.holds Try.pinned (OpenSpec.ofChange fnAesOneSpec)

/-- ITS FALSE NEIGHBOUR: 'it returns false'. Refute it at one input. -/
def fnAesOneWrong : ChangeSpec := { name := "fnAesOne", fn := fun _ => fun
  | [d1, d2] => { results := [.lit (.bool false)], args := [d1, d2] }
  | _ => none }
def FnAesOneWrongFalsely : Prop := fnAesOneRow.holds Try.pinned (OpenSpec.ofChange fnAesOneWrong)

/-- 'laws.FnAesKeys': WHATEVER THE INPUT: true; the input reads as it did. -/
def fnAesKeysSpec : ChangeSpec := { name := "fnAesKeys", fn := fun _ => fun
  | [d] => { results := [.lit (.bool true)], args := [d] }
  | _ => none }
def fnAesKeysRow : OpenClaim := { program := "ytdbobeojbdcmdaa", sum := "3676e2461f15293f64481aa9acc5ebac6adabfb747488486c027d86653165c65", func := "loop.example/overfare/laws.FnAesKeys", spec := "fnAesKeys", inPlace := ["internal/abi.NoEscape"], unfollowed := true, recurses := true, apart := false }
def FnAesKeysSaid : Prop := fnAesKeysRow.holds Try.pinned (OpenSpec.ofChange fnAesKeysSpec)

/-- ITS FALSE NEIGHBOUR: 'it returns false'. Refute it at one input. -/
def fnAesKeysWrong : ChangeSpec := { name := "fnAesKeys", fn := fun _ => fun
  | [d] => { results := [.lit (.bool false)], args := [d] }
  | _ => none }
def FnAesKeysWrongFalsely : Prop := fnAesKeysRow.holds Try.pinned (OpenSpec.ofChange fnAesKeysWrong)

/-- 'laws.FnChain': WHATEVER THE INPUT: true; the input reads as it did. -/
def fnChainSpec : ChangeSpec := { name := "fnChain", fn := fun _ => fun
  | [d] => { results := [.lit (.bool true)], args := [d] }
  | _ => none }
def fnChainRow : OpenClaim := { program := "ytdbobeojbdcmdaa", sum := "3676e2461f15293f64481aa9acc5ebac6adabfb747488486c027d86653165c65", func := "loop.example/overfare/laws.FnChain", spec := "fnChain", inPlace := ["internal/abi.NoEscape"], unfollowed := true, recurses := true, apart := false }
def FnChainSaid : Prop := fnChainRow.holds Try.pinned (OpenSpec.ofChange fnChainSpec)

/-- ITS FALSE NEIGHBOUR: 'it returns false'. Refute it at one input. -/
def fnChainWrong : ChangeSpec := { name := "fnChain", fn := fun _ => fun
  | [d] => { results := [.lit (.bool false)], args := [d] }
  | _ => none }
def FnChainWrongFalsely : Prop := fnChainRow.holds Try.pinned (OpenSpec.ofChange fnChainWrong)

/-- 'laws.FnChainTurn': WHATEVER THE INPUT: true; the input reads as it did. -/
def fnChainTurnSpec : ChangeSpec := { name := "fnChainTurn", fn := fun _ => fun
  | [d1, d2] => { results := [.lit (.bool true)], args := [d1, d2] }
  | _ => none }
def fnChainTurnRow : OpenClaim := { program := "ytdbobeojbdcmdaa", sum := "3676e2461f15293f64481aa9acc5ebac6adabfb747488486c027d86653165c65", func := "loop.example/overfare/laws.FnChainTurn", spec := "fnChainTurn", inPlace := ["internal/abi.NoEscape"], unfollowed := true, recurses := true, apart := false }
def FnChainTurnSaid : Prop := fnChainTurnRow.holds Try.pinned (OpenSpec.ofChange fnChainTurnSpec)

/-- ITS FALSE NEIGHBOUR: 'it returns false'. Refute it at one input. -/
def fnChainTurnWrong : ChangeSpec := { name := "fnChainTurn", fn := fun _ => fun
  | [d1, d2] => { results := [.lit (.bool false)], args := [d1, d2] }
  | _ => none }
def FnChainTurnWrongFalsely : Prop := fnChainTurnRow.holds Try.pinned (OpenSpec.ofChange fnChainTurnWrong)

/- THE SECOND FORM. 'bulk': how many values and letters a reading holds, each counted each time it is reached (what is shared counts as often as it is met; a slice's spare places count too). A statement '..UptoSaid' is the law's where the arguments, and the package variables that the reading takes, are together of bulk at most 1048576: NARROWER than '..Said'. Prove '..Said' where nothing that the law and all that it calls make is longer than what came in: it says more and counts as full. Else prove '..UptoSaid'. A law counts once. -/
mutual
def uptoBulk {H : Type} : DataW H → Nat
  | .lit (.string bytes) => bytes.length + 1
  | .lit _ => 1
  | .nil => 1
  | .ptr d => uptoBulk d + 1
  | .slice elems spare => uptoBulkAll elems + uptoBulkAll spare + 1
  | .agg parts => uptoBulkAll parts + 1
  | .iface _ d => uptoBulk d + 1
  | .map entries => uptoBulkEntries entries + 1
  | .held _ => 1
def uptoBulkAll {H : Type} : List (DataW H) → Nat
  | [] => 0
  | d :: r => uptoBulk d + uptoBulkAll r
def uptoBulkEntries {H : Type} : List (Lit × DataW H) → Nat
  | [] => 0
  | x :: r => uptoBulkEntry x + uptoBulkEntries r
def uptoBulkEntry {H : Type} : Lit × DataW H → Nat
  | (.string bytes, d) => bytes.length + uptoBulk d + 1
  | (_, d) => uptoBulk d + 1
 end
def uptoSmall : (H : Type) → List (DataW H) → Bool := fun _ ds => decide (uptoBulkAll ds ≤ 1048576)
def OpenSpec.upto (s : _root_.Go.ChangeSpec) : _root_.Go.OpenSpec := { _root_.Go.OpenSpec.ofChange s with cond := some uptoSmall }

/-- 'laws.FnExactAesPut', WHERE WHAT IT READS IS OF BULK AT MOST 1048576: true; the input reads as it did. -/
def fnExactAesPutUptoRow : OpenClaim := { program := "ytdbobeojbdcmdaa", sum := "3676e2461f15293f64481aa9acc5ebac6adabfb747488486c027d86653165c65", func := "loop.example/overfare/laws.FnExactAesPut", spec := "fnExactAesPut", unfollowed := true, recurses := true, apart := false, narrowed := true }
def FnExactAesPutUptoSaid : Prop := fnExactAesPutUptoRow.holds Try.pinned (OpenSpec.upto fnExactAesPutSpec)

/-- 'laws.FnExactAesGet', WHERE WHAT IT READS IS OF BULK AT MOST 1048576: true; the input reads as it did. -/
def fnExactAesGetUptoRow : OpenClaim := { program := "ytdbobeojbdcmdaa", sum := "3676e2461f15293f64481aa9acc5ebac6adabfb747488486c027d86653165c65", func := "loop.example/overfare/laws.FnExactAesGet", spec := "fnExactAesGet", unfollowed := true, recurses := true, apart := false, narrowed := true }
def FnExactAesGetUptoSaid : Prop := fnExactAesGetUptoRow.holds Try.pinned (OpenSpec.upto fnExactAesGetSpec)

/-- 'laws.FnExactAesKeys', WHERE WHAT IT READS IS OF BULK AT MOST 1048576: true; the input reads as it did. -/
def fnExactAesKeysUptoRow : OpenClaim := { program := "ytdbobeojbdcmdaa", sum := "3676e2461f15293f64481aa9acc5ebac6adabfb747488486c027d86653165c65", func := "loop.example/overfare/laws.FnExactAesKeys", spec := "fnExactAesKeys", inPlace := ["internal/abi.NoEscape"], unfollowed := true, recurses := true, apart := false, narrowed := true }
def FnExactAesKeysUptoSaid : Prop := fnExactAesKeysUptoRow.holds Try.pinned (OpenSpec.upto fnExactAesKeysSpec)

/-- 'laws.FnExactChainPut', WHERE WHAT IT READS IS OF BULK AT MOST 1048576: true; the input reads as it did. -/
def fnExactChainPutUptoRow : OpenClaim := { program := "ytdbobeojbdcmdaa", sum := "3676e2461f15293f64481aa9acc5ebac6adabfb747488486c027d86653165c65", func := "loop.example/overfare/laws.FnExactChainPut", spec := "fnExactChainPut", inPlace := ["internal/abi.NoEscape"], unfollowed := true, recurses := true, apart := false, narrowed := true }
def FnExactChainPutUptoSaid : Prop := fnExactChainPutUptoRow.holds Try.pinned (OpenSpec.upto fnExactChainPutSpec)

/-- 'laws.FnExactChainGet', WHERE WHAT IT READS IS OF BULK AT MOST 1048576: true; the input reads as it did. -/
def fnExactChainGetUptoRow : OpenClaim := { program := "ytdbobeojbdcmdaa", sum := "3676e2461f15293f64481aa9acc5ebac6adabfb747488486c027d86653165c65", func := "loop.example/overfare/laws.FnExactChainGet", spec := "fnExactChainGet", inPlace := ["internal/abi.NoEscape"], unfollowed := true, recurses := true, apart := false, narrowed := true }
def FnExactChainGetUptoSaid : Prop := fnExactChainGetUptoRow.holds Try.pinned (OpenSpec.upto fnExactChainGetSpec)

/-- 'laws.FnAesKnown', WHERE WHAT IT READS IS OF BULK AT MOST 1048576: true; the input reads as it did. -/
def fnAesKnownUptoRow : OpenClaim := { program := "ytdbobeojbdcmdaa", sum := "3676e2461f15293f64481aa9acc5ebac6adabfb747488486c027d86653165c65", func := "loop.example/overfare/laws.FnAesKnown", spec := "fnAesKnown", unfollowed := true, recurses := true, apart := false, narrowed := true }
def FnAesKnownUptoSaid : Prop := fnAesKnownUptoRow.holds Try.pinned (OpenSpec.upto fnAesKnownSpec)

/-- 'laws.FnAesBack', WHERE WHAT IT READS IS OF BULK AT MOST 1048576: true; the input reads as it did. -/
def fnAesBackUptoRow : OpenClaim := { program := "ytdbobeojbdcmdaa", sum := "3676e2461f15293f64481aa9acc5ebac6adabfb747488486c027d86653165c65", func := "loop.example/overfare/laws.FnAesBack", spec := "fnAesBack", unfollowed := true, recurses := true, apart := false, narrowed := true }
def FnAesBackUptoSaid : Prop := fnAesBackUptoRow.holds Try.pinned (OpenSpec.upto fnAesBackSpec)

/-- 'laws.FnAesOne', WHERE WHAT IT READS IS OF BULK AT MOST 1048576: true; the input reads as it did. -/
def fnAesOneUptoRow : OpenClaim := { program := "ytdbobeojbdcmdaa", sum := "3676e2461f15293f64481aa9acc5ebac6adabfb747488486c027d86653165c65", func := "loop.example/overfare/laws.FnAesOne", spec := "fnAesOne", unfollowed := true, recurses := true, apart := false, narrowed := true }
def FnAesOneUptoSaid : Prop := fnAesOneUptoRow.holds Try.pinned (OpenSpec.upto fnAesOneSpec)

/-- 'laws.FnAesKeys', WHERE WHAT IT READS IS OF BULK AT MOST 1048576: true; the input reads as it did. -/
def fnAesKeysUptoRow : OpenClaim := { program := "ytdbobeojbdcmdaa", sum := "3676e2461f15293f64481aa9acc5ebac6adabfb747488486c027d86653165c65", func := "loop.example/overfare/laws.FnAesKeys", spec := "fnAesKeys", inPlace := ["internal/abi.NoEscape"], unfollowed := true, recurses := true, apart := false, narrowed := true }
def FnAesKeysUptoSaid : Prop := fnAesKeysUptoRow.holds Try.pinned (OpenSpec.upto fnAesKeysSpec)

/-- 'laws.FnChain', WHERE WHAT IT READS IS OF BULK AT MOST 1048576: true; the input reads as it did. -/
def fnChainUptoRow : OpenClaim := { program := "ytdbobeojbdcmdaa", sum := "3676e2461f15293f64481aa9acc5ebac6adabfb747488486c027d86653165c65", func := "loop.example/overfare/laws.FnChain", spec := "fnChain", inPlace := ["internal/abi.NoEscape"], unfollowed := true, recurses := true, apart := false, narrowed := true }
def FnChainUptoSaid : Prop := fnChainUptoRow.holds Try.pinned (OpenSpec.upto fnChainSpec)

/-- 'laws.FnChainTurn', WHERE WHAT IT READS IS OF BULK AT MOST 1048576: true; the input reads as it did. -/
def fnChainTurnUptoRow : OpenClaim := { program := "ytdbobeojbdcmdaa", sum := "3676e2461f15293f64481aa9acc5ebac6adabfb747488486c027d86653165c65", func := "loop.example/overfare/laws.FnChainTurn", spec := "fnChainTurn", inPlace := ["internal/abi.NoEscape"], unfollowed := true, recurses := true, apart := false, narrowed := true }
def FnChainTurnUptoSaid : Prop := fnChainTurnUptoRow.holds Try.pinned (OpenSpec.upto fnChainTurnSpec)

end Rows
end Go.Proofs.Ytdbobeojbdcmdaa
