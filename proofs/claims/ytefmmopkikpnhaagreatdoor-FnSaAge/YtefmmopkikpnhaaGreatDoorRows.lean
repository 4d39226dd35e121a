/-
  NARROWER THAN 'FOR EVERY INPUT', by the rows' own cells (each row's printed sentence says how): FnExactFrameGet: laid · FnFrame: laid · FnFrameHead: laid · FnFrameByte: laid · FnFrameKey: laid · FnExactSaSend: laid · FnExactSaTake: laid · FnSaAge: laid · FnSaSend: laid · FnSaTake: laid · FnSaBoth: laid.
  DERIVED. THE GIVEN ROWS OF THIS SEAT. 11 by the template 'for every input the law returns true; each argument reads behind the call as it read before'; 0 by the template 'total and deterministic' (their statements: YtefmmopkikpnhaaGreatDoorTotals.lean).
  GIVEN WITH THE SEED: the statements are not yours to turn. If you find one false, say at which input.
  Laid BY PROGRAM, IN A SANDBOX (cutbox-rows.mjs): the forced cells as the released guide's own fill.sh prints them over the translation 2f24d947fe4a20f5… (all of the seat's roots in one cut). By AI agents, Wed Nov 11 2026. No macro, syntax, notation, axiom, sorry.
-/
import Derived.Test.YtefmmopkikpnhaaGreatDoorChecked
import GoSem.Claim
import GoSem.ClaimJoined
import GoSem.ClaimMapViews
import Derived.JoinedTies
import Derived.KernelRfl
namespace Go.Proofs.YtefmmopkikpnhaaGreatDoor
/- THE CELL 'sum', in the pinned program and in every row, IS THE sha256 OF THE DUMP (.gsa) THAT YtefmmopkikpnhaaGreatDoorProg.lean LOADS. Nothing in Lean hashes anything: it is a label: what it is worth is what the hold of that sum in a sandbox is worth. -/
noncomputable def Tryz.pinned : Pinned := { name := "ytefmmopkikpnhaagreatdoor", sum := "2f24d947fe4a20f51fe252511b0c841d012086e22636b71fb42ac9eedb79e0d3", checked := Tryz.checked }
namespace Rows
def none {H : Type} : Left H := { results := [], args := [] }

/- WHAT THE LISTED PACKAGE-LEVEL VARIABLES READ AS WHEN THE CALL BEGINS. Each datum BY PROGRAM (the guide's laid-datum.mjs) off the statement by which the dump's own 'gosem.cut.vars' lays the variable. In a bare row this is a premise. The card (YtefmmopkikpnhaaGreatDoorCards.lean) ties it to the program's text. -/
def laid_errors_errorType {H : Type} : DataW H := .iface "internal/reflectlite.rtype" (.agg [.ptr (.lit (.string [101, 114, 114, 111, 114]))])
def laid_loop_example_overfare_impl_sumStart {H : Type} : DataW H := .agg [.lit (.int .u32 1779033703), .lit (.int .u32 3144134277), .lit (.int .u32 1013904242), .lit (.int .u32 2773480762), .lit (.int .u32 1359893119), .lit (.int .u32 2600822924), .lit (.int .u32 528734635), .lit (.int .u32 1541459225)]
def laid_loop_example_overfare_impl_sumSteps {H : Type} : DataW H := .agg [.lit (.int .u32 1116352408), .lit (.int .u32 1899447441), .lit (.int .u32 3049323471), .lit (.int .u32 3921009573), .lit (.int .u32 961987163), .lit (.int .u32 1508970993), .lit (.int .u32 2453635748), .lit (.int .u32 2870763221), .lit (.int .u32 3624381080), .lit (.int .u32 310598401), .lit (.int .u32 607225278), .lit (.int .u32 1426881987), .lit (.int .u32 1925078388), .lit (.int .u32 2162078206), .lit (.int .u32 2614888103), .lit (.int .u32 3248222580), .lit (.int .u32 3835390401), .lit (.int .u32 4022224774), .lit (.int .u32 264347078), .lit (.int .u32 604807628), .lit (.int .u32 770255983), .lit (.int .u32 1249150122), .lit (.int .u32 1555081692), .lit (.int .u32 1996064986), .lit (.int .u32 2554220882), .lit (.int .u32 2821834349), .lit (.int .u32 2952996808), .lit (.int .u32 3210313671), .lit (.int .u32 3336571891), .lit (.int .u32 3584528711), .lit (.int .u32 113926993), .lit (.int .u32 338241895), .lit (.int .u32 666307205), .lit (.int .u32 773529912), .lit (.int .u32 1294757372), .lit (.int .u32 1396182291), .lit (.int .u32 1695183700), .lit (.int .u32 1986661051), .lit (.int .u32 2177026350), .lit (.int .u32 2456956037), .lit (.int .u32 2730485921), .lit (.int .u32 2820302411), .lit (.int .u32 3259730800), .lit (.int .u32 3345764771), .lit (.int .u32 3516065817), .lit (.int .u32 3600352804), .lit (.int .u32 4094571909), .lit (.int .u32 275423344), .lit (.int .u32 430227734), .lit (.int .u32 506948616), .lit (.int .u32 659060556), .lit (.int .u32 883997877), .lit (.int .u32 958139571), .lit (.int .u32 1322822218), .lit (.int .u32 1537002063), .lit (.int .u32 1747873779), .lit (.int .u32 1955562222), .lit (.int .u32 2024104815), .lit (.int .u32 2227730452), .lit (.int .u32 2361852424), .lit (.int .u32 2428436474), .lit (.int .u32 2756734187), .lit (.int .u32 3204031479), .lit (.int .u32 3329325298)]

/-- 'laws.FnExactFrameGet': WHATEVER THE INPUT: true; the input reads as it did. -/
def fnExactFrameGetSpec : ChangeSpec := { name := "fnExactFrameGet", vars := ["loop.example/overfare/impl.sumStart", "loop.example/overfare/impl.sumSteps"], fn := fun _ => fun
  | [d1, d2, d3, g1, g2] => { results := [.lit (.bool true)], args := [d1, d2, d3], vars := [g1, g2] }
  | _ => none }
def fnExactFrameGetRow : OpenClaim := { program := "ytefmmopkikpnhaagreatdoor", sum := "2f24d947fe4a20f51fe252511b0c841d012086e22636b71fb42ac9eedb79e0d3", func := "loop.example/overfare/laws.FnExactFrameGet", spec := "fnExactFrameGet", inPlace := ["internal/reflectlite.ValueOf", "(internal/reflectlite.Value).Type", "(internal/reflectlite.Value).IsNil", "internal/reflectlite.TypeOf", "(internal/reflectlite.Value).Elem", "(internal/reflectlite.Value).Set", "internal/abi.NoEscape", "internal/bytealg.MakeNoZero"], unfollowed := true, recurses := true, named := ["errors.errorType", "loop.example/overfare/impl.sumStart", "loop.example/overfare/impl.sumSteps"], apart := false, laid := [("errors.errorType", laid_errors_errorType), ("loop.example/overfare/impl.sumStart", laid_loop_example_overfare_impl_sumStart), ("loop.example/overfare/impl.sumSteps", laid_loop_example_overfare_impl_sumSteps)] }
def FnExactFrameGetSaid : Prop := fnExactFrameGetRow.holds Tryz.pinned (OpenSpec.ofChange fnExactFrameGetSpec)

/-- ITS FALSE NEIGHBOUR: 'it returns false'. Refute it at one input. -/
def fnExactFrameGetWrong : ChangeSpec := { name := "fnExactFrameGet", vars := ["loop.example/overfare/impl.sumStart", "loop.example/overfare/impl.sumSteps"], fn := fun _ => fun
  | [d1, d2, d3, g1, g2] => { results := [.lit (.bool false)], args := [d1, d2, d3], vars := [g1, g2] }
  | _ => none }
def FnExactFrameGetWrongFalsely : Prop := fnExactFrameGetRow.holds Tryz.pinned (OpenSpec.ofChange fnExactFrameGetWrong)

/-- 'laws.FnFrame': WHATEVER THE INPUT: true; the input reads as it did. -/
def fnFrameSpec : ChangeSpec := { name := "fnFrame", vars := ["loop.example/overfare/impl.sumStart", "loop.example/overfare/impl.sumSteps"], fn := fun _ => fun
  | [d, g1, g2] => { results := [.lit (.bool true)], args := [d], vars := [g1, g2] }
  | _ => none }
def fnFrameRow : OpenClaim := { program := "ytefmmopkikpnhaagreatdoor", sum := "2f24d947fe4a20f51fe252511b0c841d012086e22636b71fb42ac9eedb79e0d3", func := "loop.example/overfare/laws.FnFrame", spec := "fnFrame", inPlace := ["internal/abi.NoEscape", "internal/bytealg.MakeNoZero", "internal/reflectlite.ValueOf", "(internal/reflectlite.Value).Type", "(internal/reflectlite.Value).IsNil", "internal/reflectlite.TypeOf", "(internal/reflectlite.Value).Elem", "(internal/reflectlite.Value).Set"], unfollowed := true, recurses := true, named := ["loop.example/overfare/impl.sumStart", "loop.example/overfare/impl.sumSteps", "errors.errorType"], apart := false, laid := [("errors.errorType", laid_errors_errorType), ("loop.example/overfare/impl.sumStart", laid_loop_example_overfare_impl_sumStart), ("loop.example/overfare/impl.sumSteps", laid_loop_example_overfare_impl_sumSteps)] }
def FnFrameSaid : Prop := fnFrameRow.holds Tryz.pinned (OpenSpec.ofChange fnFrameSpec)

/-- ITS FALSE NEIGHBOUR: 'it returns false'. Refute it at one input. -/
def fnFrameWrong : ChangeSpec := { name := "fnFrame", vars := ["loop.example/overfare/impl.sumStart", "loop.example/overfare/impl.sumSteps"], fn := fun _ => fun
  | [d, g1, g2] => { results := [.lit (.bool false)], args := [d], vars := [g1, g2] }
  | _ => none }
def FnFrameWrongFalsely : Prop := fnFrameRow.holds Tryz.pinned (OpenSpec.ofChange fnFrameWrong)

/-- 'laws.FnFrameHead': WHATEVER THE INPUT: true; the input reads as it did. -/
def fnFrameHeadSpec : ChangeSpec := { name := "fnFrameHead", vars := ["loop.example/overfare/impl.sumStart", "loop.example/overfare/impl.sumSteps"], fn := fun _ => fun
  | [d1, d2, g1, g2] => { results := [.lit (.bool true)], args := [d1, d2], vars := [g1, g2] }
  | _ => none }
def fnFrameHeadRow : OpenClaim := { program := "ytefmmopkikpnhaagreatdoor", sum := "2f24d947fe4a20f51fe252511b0c841d012086e22636b71fb42ac9eedb79e0d3", func := "loop.example/overfare/laws.FnFrameHead", spec := "fnFrameHead", inPlace := ["internal/reflectlite.ValueOf", "(internal/reflectlite.Value).Type", "(internal/reflectlite.Value).IsNil", "internal/reflectlite.TypeOf", "(internal/reflectlite.Value).Elem", "(internal/reflectlite.Value).Set", "internal/abi.NoEscape", "internal/bytealg.MakeNoZero"], unfollowed := true, recurses := true, named := ["errors.errorType", "loop.example/overfare/impl.sumStart", "loop.example/overfare/impl.sumSteps"], apart := false, laid := [("errors.errorType", laid_errors_errorType), ("loop.example/overfare/impl.sumStart", laid_loop_example_overfare_impl_sumStart), ("loop.example/overfare/impl.sumSteps", laid_loop_example_overfare_impl_sumSteps)] }
def FnFrameHeadSaid : Prop := fnFrameHeadRow.holds Tryz.pinned (OpenSpec.ofChange fnFrameHeadSpec)

/-- ITS FALSE NEIGHBOUR: 'it returns false'. Refute it at one input. -/
def fnFrameHeadWrong : ChangeSpec := { name := "fnFrameHead", vars := ["loop.example/overfare/impl.sumStart", "loop.example/overfare/impl.sumSteps"], fn := fun _ => fun
  | [d1, d2, g1, g2] => { results := [.lit (.bool false)], args := [d1, d2], vars := [g1, g2] }
  | _ => none }
def FnFrameHeadWrongFalsely : Prop := fnFrameHeadRow.holds Tryz.pinned (OpenSpec.ofChange fnFrameHeadWrong)

/-- 'laws.FnFrameByte': WHATEVER THE INPUT: true; the input reads as it did. -/
def fnFrameByteSpec : ChangeSpec := { name := "fnFrameByte", vars := ["loop.example/overfare/impl.sumStart", "loop.example/overfare/impl.sumSteps"], fn := fun _ => fun
  | [d1, d2, g1, g2] => { results := [.lit (.bool true)], args := [d1, d2], vars := [g1, g2] }
  | _ => none }
def fnFrameByteRow : OpenClaim := { program := "ytefmmopkikpnhaagreatdoor", sum := "2f24d947fe4a20f51fe252511b0c841d012086e22636b71fb42ac9eedb79e0d3", func := "loop.example/overfare/laws.FnFrameByte", spec := "fnFrameByte", inPlace := ["internal/reflectlite.ValueOf", "(internal/reflectlite.Value).Type", "(internal/reflectlite.Value).IsNil", "internal/reflectlite.TypeOf", "(internal/reflectlite.Value).Elem", "(internal/reflectlite.Value).Set", "internal/abi.NoEscape", "internal/bytealg.MakeNoZero"], unfollowed := true, recurses := true, named := ["errors.errorType", "loop.example/overfare/impl.sumStart", "loop.example/overfare/impl.sumSteps"], apart := false, laid := [("errors.errorType", laid_errors_errorType), ("loop.example/overfare/impl.sumStart", laid_loop_example_overfare_impl_sumStart), ("loop.example/overfare/impl.sumSteps", laid_loop_example_overfare_impl_sumSteps)] }
def FnFrameByteSaid : Prop := fnFrameByteRow.holds Tryz.pinned (OpenSpec.ofChange fnFrameByteSpec)

/-- ITS FALSE NEIGHBOUR: 'it returns false'. Refute it at one input. -/
def fnFrameByteWrong : ChangeSpec := { name := "fnFrameByte", vars := ["loop.example/overfare/impl.sumStart", "loop.example/overfare/impl.sumSteps"], fn := fun _ => fun
  | [d1, d2, g1, g2] => { results := [.lit (.bool false)], args := [d1, d2], vars := [g1, g2] }
  | _ => none }
def FnFrameByteWrongFalsely : Prop := fnFrameByteRow.holds Tryz.pinned (OpenSpec.ofChange fnFrameByteWrong)

/-- 'laws.FnFrameKey': WHATEVER THE INPUT: true; the input reads as it did. -/
def fnFrameKeySpec : ChangeSpec := { name := "fnFrameKey", vars := ["loop.example/overfare/impl.sumStart", "loop.example/overfare/impl.sumSteps"], fn := fun _ => fun
  | [d, g1, g2] => { results := [.lit (.bool true)], args := [d], vars := [g1, g2] }
  | _ => none }
def fnFrameKeyRow : OpenClaim := { program := "ytefmmopkikpnhaagreatdoor", sum := "2f24d947fe4a20f51fe252511b0c841d012086e22636b71fb42ac9eedb79e0d3", func := "loop.example/overfare/laws.FnFrameKey", spec := "fnFrameKey", inPlace := ["internal/reflectlite.ValueOf", "(internal/reflectlite.Value).Type", "(internal/reflectlite.Value).IsNil", "internal/reflectlite.TypeOf", "(internal/reflectlite.Value).Elem", "(internal/reflectlite.Value).Set", "internal/abi.NoEscape", "internal/bytealg.MakeNoZero"], unfollowed := true, recurses := true, named := ["errors.errorType", "loop.example/overfare/impl.sumStart", "loop.example/overfare/impl.sumSteps"], apart := false, laid := [("errors.errorType", laid_errors_errorType), ("loop.example/overfare/impl.sumStart", laid_loop_example_overfare_impl_sumStart), ("loop.example/overfare/impl.sumSteps", laid_loop_example_overfare_impl_sumSteps)] }
def FnFrameKeySaid : Prop := fnFrameKeyRow.holds Tryz.pinned (OpenSpec.ofChange fnFrameKeySpec)

/-- ITS FALSE NEIGHBOUR: 'it returns false'. Refute it at one input. -/
def fnFrameKeyWrong : ChangeSpec := { name := "fnFrameKey", vars := ["loop.example/overfare/impl.sumStart", "loop.example/overfare/impl.sumSteps"], fn := fun _ => fun
  | [d, g1, g2] => { results := [.lit (.bool false)], args := [d], vars := [g1, g2] }
  | _ => none }
def FnFrameKeyWrongFalsely : Prop := fnFrameKeyRow.holds Tryz.pinned (OpenSpec.ofChange fnFrameKeyWrong)

/-- 'laws.FnExactSaSend': WHATEVER THE INPUT: true; the input reads as it did. -/
def fnExactSaSendSpec : ChangeSpec := { name := "fnExactSaSend", vars := ["loop.example/overfare/impl.sumStart", "loop.example/overfare/impl.sumSteps"], fn := fun _ => fun
  | [d1, d2, d3, g1, g2] => { results := [.lit (.bool true)], args := [d1, d2, d3], vars := [g1, g2] }
  | _ => none }
def fnExactSaSendRow : OpenClaim := { program := "ytefmmopkikpnhaagreatdoor", sum := "2f24d947fe4a20f51fe252511b0c841d012086e22636b71fb42ac9eedb79e0d3", func := "loop.example/overfare/laws.FnExactSaSend", spec := "fnExactSaSend", inPlace := ["internal/abi.NoEscape", "internal/bytealg.MakeNoZero"], unfollowed := true, recurses := true, named := ["loop.example/overfare/impl.sumStart", "loop.example/overfare/impl.sumSteps"], apart := false, laid := [("loop.example/overfare/impl.sumStart", laid_loop_example_overfare_impl_sumStart), ("loop.example/overfare/impl.sumSteps", laid_loop_example_overfare_impl_sumSteps)] }
def FnExactSaSendSaid : Prop := fnExactSaSendRow.holds Tryz.pinned (OpenSpec.ofChange fnExactSaSendSpec)

/-- ITS FALSE NEIGHBOUR: 'it returns false'. Refute it at one input. -/
def fnExactSaSendWrong : ChangeSpec := { name := "fnExactSaSend", vars := ["loop.example/overfare/impl.sumStart", "loop.example/overfare/impl.sumSteps"], fn := fun _ => fun
  | [d1, d2, d3, g1, g2] => { results := [.lit (.bool false)], args := [d1, d2, d3], vars := [g1, g2] }
  | _ => none }
def FnExactSaSendWrongFalsely : Prop := fnExactSaSendRow.holds Tryz.pinned (OpenSpec.ofChange fnExactSaSendWrong)

/-- 'laws.FnExactSaTake': WHATEVER THE INPUT: true; the input reads as it did. -/
def fnExactSaTakeSpec : ChangeSpec := { name := "fnExactSaTake", vars := ["loop.example/overfare/impl.sumStart", "loop.example/overfare/impl.sumSteps"], fn := fun _ => fun
  | [d1, d2, d3, g1, g2] => { results := [.lit (.bool true)], args := [d1, d2, d3], vars := [g1, g2] }
  | _ => none }
def fnExactSaTakeRow : OpenClaim := { program := "ytefmmopkikpnhaagreatdoor", sum := "2f24d947fe4a20f51fe252511b0c841d012086e22636b71fb42ac9eedb79e0d3", func := "loop.example/overfare/laws.FnExactSaTake", spec := "fnExactSaTake", inPlace := ["internal/reflectlite.ValueOf", "(internal/reflectlite.Value).Type", "(internal/reflectlite.Value).IsNil", "internal/reflectlite.TypeOf", "(internal/reflectlite.Value).Elem", "(internal/reflectlite.Value).Set", "internal/abi.NoEscape", "internal/bytealg.MakeNoZero"], unfollowed := true, recurses := true, named := ["errors.errorType", "loop.example/overfare/impl.sumStart", "loop.example/overfare/impl.sumSteps"], apart := false, laid := [("errors.errorType", laid_errors_errorType), ("loop.example/overfare/impl.sumStart", laid_loop_example_overfare_impl_sumStart), ("loop.example/overfare/impl.sumSteps", laid_loop_example_overfare_impl_sumSteps)] }
def FnExactSaTakeSaid : Prop := fnExactSaTakeRow.holds Tryz.pinned (OpenSpec.ofChange fnExactSaTakeSpec)

/-- ITS FALSE NEIGHBOUR: 'it returns false'. Refute it at one input. -/
def fnExactSaTakeWrong : ChangeSpec := { name := "fnExactSaTake", vars := ["loop.example/overfare/impl.sumStart", "loop.example/overfare/impl.sumSteps"], fn := fun _ => fun
  | [d1, d2, d3, g1, g2] => { results := [.lit (.bool false)], args := [d1, d2, d3], vars := [g1, g2] }
  | _ => none }
def FnExactSaTakeWrongFalsely : Prop := fnExactSaTakeRow.holds Tryz.pinned (OpenSpec.ofChange fnExactSaTakeWrong)

/-- 'laws.FnSaAge': WHATEVER THE INPUT: true; the input reads as it did. -/
def fnSaAgeSpec : ChangeSpec := { name := "fnSaAge", vars := ["loop.example/overfare/impl.sumStart", "loop.example/overfare/impl.sumSteps"], fn := fun _ => fun
  | [d, g1, g2] => { results := [.lit (.bool true)], args := [d], vars := [g1, g2] }
  | _ => none }
def fnSaAgeRow : OpenClaim := { program := "ytefmmopkikpnhaagreatdoor", sum := "2f24d947fe4a20f51fe252511b0c841d012086e22636b71fb42ac9eedb79e0d3", func := "loop.example/overfare/laws.FnSaAge", spec := "fnSaAge", inPlace := ["internal/abi.NoEscape", "internal/bytealg.MakeNoZero"], unfollowed := true, recurses := true, named := ["loop.example/overfare/impl.sumStart", "loop.example/overfare/impl.sumSteps"], apart := false, laid := [("loop.example/overfare/impl.sumStart", laid_loop_example_overfare_impl_sumStart), ("loop.example/overfare/impl.sumSteps", laid_loop_example_overfare_impl_sumSteps)] }
def FnSaAgeSaid : Prop := fnSaAgeRow.holds Tryz.pinned (OpenSpec.ofChange fnSaAgeSpec)

/-- ITS FALSE NEIGHBOUR: 'it returns false'. Refute it at one input. -/
def fnSaAgeWrong : ChangeSpec := { name := "fnSaAge", vars := ["loop.example/overfare/impl.sumStart", "loop.example/overfare/impl.sumSteps"], fn := fun _ => fun
  | [d, g1, g2] => { results := [.lit (.bool false)], args := [d], vars := [g1, g2] }
  | _ => none }
def FnSaAgeWrongFalsely : Prop := fnSaAgeRow.holds Tryz.pinned (OpenSpec.ofChange fnSaAgeWrong)

/-- 'laws.FnSaSend': WHATEVER THE INPUT: true; the input reads as it did. -/
def fnSaSendSpec : ChangeSpec := { name := "fnSaSend", vars := ["loop.example/overfare/impl.sumStart", "loop.example/overfare/impl.sumSteps"], fn := fun _ => fun
  | [d, g1, g2] => { results := [.lit (.bool true)], args := [d], vars := [g1, g2] }
  | _ => none }
def fnSaSendRow : OpenClaim := { program := "ytefmmopkikpnhaagreatdoor", sum := "2f24d947fe4a20f51fe252511b0c841d012086e22636b71fb42ac9eedb79e0d3", func := "loop.example/overfare/laws.FnSaSend", spec := "fnSaSend", inPlace := ["internal/abi.NoEscape", "internal/bytealg.MakeNoZero", "internal/reflectlite.ValueOf", "(internal/reflectlite.Value).Type", "(internal/reflectlite.Value).IsNil", "internal/reflectlite.TypeOf", "(internal/reflectlite.Value).Elem", "(internal/reflectlite.Value).Set"], unfollowed := true, recurses := true, named := ["loop.example/overfare/impl.sumStart", "loop.example/overfare/impl.sumSteps", "errors.errorType"], apart := false, laid := [("errors.errorType", laid_errors_errorType), ("loop.example/overfare/impl.sumStart", laid_loop_example_overfare_impl_sumStart), ("loop.example/overfare/impl.sumSteps", laid_loop_example_overfare_impl_sumSteps)] }
def FnSaSendSaid : Prop := fnSaSendRow.holds Tryz.pinned (OpenSpec.ofChange fnSaSendSpec)

/-- ITS FALSE NEIGHBOUR: 'it returns false'. Refute it at one input. -/
def fnSaSendWrong : ChangeSpec := { name := "fnSaSend", vars := ["loop.example/overfare/impl.sumStart", "loop.example/overfare/impl.sumSteps"], fn := fun _ => fun
  | [d, g1, g2] => { results := [.lit (.bool false)], args := [d], vars := [g1, g2] }
  | _ => none }
def FnSaSendWrongFalsely : Prop := fnSaSendRow.holds Tryz.pinned (OpenSpec.ofChange fnSaSendWrong)

/-- 'laws.FnSaTake': WHATEVER THE INPUT: true; the input reads as it did. -/
def fnSaTakeSpec : ChangeSpec := { name := "fnSaTake", vars := ["loop.example/overfare/impl.sumStart", "loop.example/overfare/impl.sumSteps"], fn := fun _ => fun
  | [d, g1, g2] => { results := [.lit (.bool true)], args := [d], vars := [g1, g2] }
  | _ => none }
def fnSaTakeRow : OpenClaim := { program := "ytefmmopkikpnhaagreatdoor", sum := "2f24d947fe4a20f51fe252511b0c841d012086e22636b71fb42ac9eedb79e0d3", func := "loop.example/overfare/laws.FnSaTake", spec := "fnSaTake", inPlace := ["internal/reflectlite.ValueOf", "(internal/reflectlite.Value).Type", "(internal/reflectlite.Value).IsNil", "internal/reflectlite.TypeOf", "(internal/reflectlite.Value).Elem", "(internal/reflectlite.Value).Set", "internal/abi.NoEscape", "internal/bytealg.MakeNoZero"], unfollowed := true, recurses := true, named := ["errors.errorType", "loop.example/overfare/impl.sumStart", "loop.example/overfare/impl.sumSteps"], apart := false, laid := [("errors.errorType", laid_errors_errorType), ("loop.example/overfare/impl.sumStart", laid_loop_example_overfare_impl_sumStart), ("loop.example/overfare/impl.sumSteps", laid_loop_example_overfare_impl_sumSteps)] }
def FnSaTakeSaid : Prop := fnSaTakeRow.holds Tryz.pinned (OpenSpec.ofChange fnSaTakeSpec)

/-- ITS FALSE NEIGHBOUR: 'it returns false'. Refute it at one input. -/
def fnSaTakeWrong : ChangeSpec := { name := "fnSaTake", vars := ["loop.example/overfare/impl.sumStart", "loop.example/overfare/impl.sumSteps"], fn := fun _ => fun
  | [d, g1, g2] => { results := [.lit (.bool false)], args := [d], vars := [g1, g2] }
  | _ => none }
def FnSaTakeWrongFalsely : Prop := fnSaTakeRow.holds Tryz.pinned (OpenSpec.ofChange fnSaTakeWrong)

/-- 'laws.FnSaBoth': WHATEVER THE INPUT: true; the input reads as it did. -/
def fnSaBothSpec : ChangeSpec := { name := "fnSaBoth", vars := ["loop.example/overfare/impl.sumStart", "loop.example/overfare/impl.sumSteps"], fn := fun _ => fun
  | [d, g1, g2] => { results := [.lit (.bool true)], args := [d], vars := [g1, g2] }
  | _ => none }
def fnSaBothRow : OpenClaim := { program := "ytefmmopkikpnhaagreatdoor", sum := "2f24d947fe4a20f51fe252511b0c841d012086e22636b71fb42ac9eedb79e0d3", func := "loop.example/overfare/laws.FnSaBoth", spec := "fnSaBoth", inPlace := ["internal/abi.NoEscape", "internal/bytealg.MakeNoZero", "internal/reflectlite.ValueOf", "(internal/reflectlite.Value).Type", "(internal/reflectlite.Value).IsNil", "internal/reflectlite.TypeOf", "(internal/reflectlite.Value).Elem", "(internal/reflectlite.Value).Set"], unfollowed := true, recurses := true, named := ["loop.example/overfare/impl.sumStart", "loop.example/overfare/impl.sumSteps", "errors.errorType"], apart := false, laid := [("errors.errorType", laid_errors_errorType), ("loop.example/overfare/impl.sumStart", laid_loop_example_overfare_impl_sumStart), ("loop.example/overfare/impl.sumSteps", laid_loop_example_overfare_impl_sumSteps)] }
def FnSaBothSaid : Prop := fnSaBothRow.holds Tryz.pinned (OpenSpec.ofChange fnSaBothSpec)

/-- ITS FALSE NEIGHBOUR: 'it returns false'. Refute it at one input. -/
def fnSaBothWrong : ChangeSpec := { name := "fnSaBoth", vars := ["loop.example/overfare/impl.sumStart", "loop.example/overfare/impl.sumSteps"], fn := fun _ => fun
  | [d, g1, g2] => { results := [.lit (.bool false)], args := [d], vars := [g1, g2] }
  | _ => none }
def FnSaBothWrongFalsely : Prop := fnSaBothRow.holds Tryz.pinned (OpenSpec.ofChange fnSaBothWrong)

/- THE SECOND FORM. 'bulk': how many values and letters a reading holds, each counted each time it is reached (what is shared counts as often as it is met; a slice's spare places count too). A statement '..UptoSaid' is the law's where the arguments, and the package variables that the reading takes, are together of bulk at most 1048576: NARROWER than '..Said'. Prove '..Said' where nothing that the law and all that it calls make is longer than what came in: it says more and counts as full. Else prove '..UptoSaid'. A law counts once. -/
mutual
def uptoBulk {H : Type} : DataW H → Nat
  | .lit (.string bytes) => bytes.length + 1
  | .lit _ => 1
  | .nil => 1
  | .ptr d => uptoBulk d + 1
  | .slice elems spare => uptoBulkAll elems + uptoBulkAll spare + 1
  | .agg parts => uptoBulkAll parts + 1
  | .iface _ d => uptoBulk d + 1
  | .map entries => uptoBulkEntries entries + 1
  | .held _ => 1
def uptoBulkAll {H : Type} : List (DataW H) → Nat
  | [] => 0
  | d :: r => uptoBulk d + uptoBulkAll r
def uptoBulkEntries {H : Type} : List (Lit × DataW H) → Nat
  | [] => 0
  | x :: r => uptoBulkEntry x + uptoBulkEntries r
def uptoBulkEntry {H : Type} : Lit × DataW H → Nat
  | (.string bytes, d) => bytes.length + uptoBulk d + 1
  | (_, d) => uptoBulk d + 1
 end
def uptoSmall : (H : Type) → List (DataW H) → Bool := fun _ ds => decide (uptoBulkAll ds ≤ 1048576)
def OpenSpec.upto (s : _root_.Go.ChangeSpec) : _root_.Go.OpenSpec := { _root_.Go.OpenSpec.ofChange s with cond := some uptoSmall }

/-- 'laws.FnExactFrameGet', WHERE WHAT IT READS IS OF BULK AT MOST 1048576: true; the input reads as it did. -/
def fnExactFrameGetUptoRow : OpenClaim := { program := "ytefmmopkikpnhaagreatdoor", sum := "2f24d947fe4a20f51fe252511b0c841d012086e22636b71fb42ac9eedb79e0d3", func := "loop.example/overfare/laws.FnExactFrameGet", spec := "fnExactFrameGet", inPlace := ["internal/reflectlite.ValueOf", "(internal/reflectlite.Value).Type", "(internal/reflectlite.Value).IsNil", "internal/reflectlite.TypeOf", "(internal/reflectlite.Value).Elem", "(internal/reflectlite.Value).Set", "internal/abi.NoEscape", "internal/bytealg.MakeNoZero"], unfollowed := true, recurses := true, named := ["errors.errorType", "loop.example/overfare/impl.sumStart", "loop.example/overfare/impl.sumSteps"], apart := false, laid := [("errors.errorType", laid_errors_errorType), ("loop.example/overfare/impl.sumStart", laid_loop_example_overfare_impl_sumStart), ("loop.example/overfare/impl.sumSteps", laid_loop_example_overfare_impl_sumSteps)], narrowed := true }
def FnExactFrameGetUptoSaid : Prop := fnExactFrameGetUptoRow.holds Tryz.pinned (OpenSpec.upto fnExactFrameGetSpec)

/-- 'laws.FnFrame', WHERE WHAT IT READS IS OF BULK AT MOST 1048576: true; the input reads as it did. -/
def fnFrameUptoRow : OpenClaim := { program := "ytefmmopkikpnhaagreatdoor", sum := "2f24d947fe4a20f51fe252511b0c841d012086e22636b71fb42ac9eedb79e0d3", func := "loop.example/overfare/laws.FnFrame", spec := "fnFrame", inPlace := ["internal/abi.NoEscape", "internal/bytealg.MakeNoZero", "internal/reflectlite.ValueOf", "(internal/reflectlite.Value).Type", "(internal/reflectlite.Value).IsNil", "internal/reflectlite.TypeOf", "(internal/reflectlite.Value).Elem", "(internal/reflectlite.Value).Set"], unfollowed := true, recurses := true, named := ["loop.example/overfare/impl.sumStart", "loop.example/overfare/impl.sumSteps", "errors.errorType"], apart := false, laid := [("errors.errorType", laid_errors_errorType), ("loop.example/overfare/impl.sumStart", laid_loop_example_overfare_impl_sumStart), ("loop.example/overfare/impl.sumSteps", laid_loop_example_overfare_impl_sumSteps)], narrowed := true }
def FnFrameUptoSaid : Prop := fnFrameUptoRow.holds Tryz.pinned (OpenSpec.upto fnFrameSpec)

/-- 'laws.FnFrameHead', WHERE WHAT IT READS IS OF BULK AT MOST 1048576: true; the input reads as it did. -/
def fnFrameHeadUptoRow : OpenClaim := { program := "ytefmmopkikpnhaagreatdoor", sum := "2f24d947fe4a20f51fe252511b0c841d012086e22636b71fb42ac9eedb79e0d3", func := "loop.example/overfare/laws.FnFrameHead", spec := "fnFrameHead", inPlace := ["internal/reflectlite.ValueOf", "(internal/reflectlite.Value).Type", "(internal/reflectlite.Value).IsNil", "internal/reflectlite.TypeOf", "(internal/reflectlite.Value).Elem", "(internal/reflectlite.Value).Set", "internal/abi.NoEscape", "internal/bytealg.MakeNoZero"], unfollowed := true, recurses := true, named := ["errors.errorType", "loop.example/overfare/impl.sumStart", "loop.example/overfare/impl.sumSteps"], apart := false, laid := [("errors.errorType", laid_errors_errorType), ("loop.example/overfare/impl.sumStart", laid_loop_example_overfare_impl_sumStart), ("loop.example/overfare/impl.sumSteps", laid_loop_example_overfare_impl_sumSteps)], narrowed := true }
def FnFrameHeadUptoSaid : Prop := fnFrameHeadUptoRow.holds Tryz.pinned (OpenSpec.upto fnFrameHeadSpec)

/-- 'laws.FnFrameByte', WHERE WHAT IT READS IS OF BULK AT MOST 1048576: true; the input reads as it did. -/
def fnFrameByteUptoRow : OpenClaim := { program := "ytefmmopkikpnhaagreatdoor", sum := "2f24d947fe4a20f51fe252511b0c841d012086e22636b71fb42ac9eedb79e0d3", func := "loop.example/overfare/laws.FnFrameByte", spec := "fnFrameByte", inPlace := ["internal/reflectlite.ValueOf", "(internal/reflectlite.Value).Type", "(internal/reflectlite.Value).IsNil", "internal/reflectlite.TypeOf", "(internal/reflectlite.Value).Elem", "(internal/reflectlite.Value).Set", "internal/abi.NoEscape", "internal/bytealg.MakeNoZero"], unfollowed := true, recurses := true, named := ["errors.errorType", "loop.example/overfare/impl.sumStart", "loop.example/overfare/impl.sumSteps"], apart := false, laid := [("errors.errorType", laid_errors_errorType), ("loop.example/overfare/impl.sumStart", laid_loop_example_overfare_impl_sumStart), ("loop.example/overfare/impl.sumSteps", laid_loop_example_overfare_impl_sumSteps)], narrowed := true }
def FnFrameByteUptoSaid : Prop := fnFrameByteUptoRow.holds Tryz.pinned (OpenSpec.upto fnFrameByteSpec)

/-- 'laws.FnFrameKey', WHERE WHAT IT READS IS OF BULK AT MOST 1048576: true; the input reads as it did. -/
def fnFrameKeyUptoRow : OpenClaim := { program := "ytefmmopkikpnhaagreatdoor", sum := "2f24d947fe4a20f51fe252511b0c841d012086e22636b71fb42ac9eedb79e0d3", func := "loop.example/overfare/laws.FnFrameKey", spec := "fnFrameKey", inPlace := ["internal/reflectlite.ValueOf", "(internal/reflectlite.Value).Type", "(internal/reflectlite.Value).IsNil", "internal/reflectlite.TypeOf", "(internal/reflectlite.Value).Elem", "(internal/reflectlite.Value).Set", "internal/abi.NoEscape", "internal/bytealg.MakeNoZero"], unfollowed := true, recurses := true, named := ["errors.errorType", "loop.example/overfare/impl.sumStart", "loop.example/overfare/impl.sumSteps"], apart := false, laid := [("errors.errorType", laid_errors_errorType), ("loop.example/overfare/impl.sumStart", laid_loop_example_overfare_impl_sumStart), ("loop.example/overfare/impl.sumSteps", laid_loop_example_overfare_impl_sumSteps)], narrowed := true }
def FnFrameKeyUptoSaid : Prop := fnFrameKeyUptoRow.holds Tryz.pinned (OpenSpec.upto fnFrameKeySpec)

/-- 'laws.FnExactSaSend', WHERE WHAT IT READS IS OF BULK AT MOST 1048576: true; the input reads as it did. -/
def fnExactSaSendUptoRow : OpenClaim := { program := "ytefmmopkikpnhaagreatdoor", sum := "2f24d947fe4a20f51fe252511b0c841d012086e22636b71fb42ac9eedb79e0d3", func := "loop.example/overfare/laws.FnExactSaSend", spec := "fnExactSaSend", inPlace := ["internal/abi.NoEscape", "internal/bytealg.MakeNoZero"], unfollowed := true, recurses := true, named := ["loop.example/overfare/impl.sumStart", "loop.example/overfare/impl.sumSteps"], apart := false, laid := [("loop.example/overfare/impl.sumStart", laid_loop_example_overfare_impl_sumStart), ("loop.example/overfare/impl.sumSteps", laid_loop_example_overfare_impl_sumSteps)], narrowed := true }
def FnExactSaSendUptoSaid : Prop := fnExactSaSendUptoRow.holds Tryz.pinned (OpenSpec.upto fnExactSaSendSpec)

/-- 'laws.FnExactSaTake', WHERE WHAT IT READS IS OF BULK AT MOST 1048576: true; the input reads as it did. -/
def fnExactSaTakeUptoRow : OpenClaim := { program := "ytefmmopkikpnhaagreatdoor", sum := "2f24d947fe4a20f51fe252511b0c841d012086e22636b71fb42ac9eedb79e0d3", func := "loop.example/overfare/laws.FnExactSaTake", spec := "fnExactSaTake", inPlace := ["internal/reflectlite.ValueOf", "(internal/reflectlite.Value).Type", "(internal/reflectlite.Value).IsNil", "internal/reflectlite.TypeOf", "(internal/reflectlite.Value).Elem", "(internal/reflectlite.Value).Set", "internal/abi.NoEscape", "internal/bytealg.MakeNoZero"], unfollowed := true, recurses := true, named := ["errors.errorType", "loop.example/overfare/impl.sumStart", "loop.example/overfare/impl.sumSteps"], apart := false, laid := [("errors.errorType", laid_errors_errorType), ("loop.example/overfare/impl.sumStart", laid_loop_example_overfare_impl_sumStart), ("loop.example/overfare/impl.sumSteps", laid_loop_example_overfare_impl_sumSteps)], narrowed := true }
def FnExactSaTakeUptoSaid : Prop := fnExactSaTakeUptoRow.holds Tryz.pinned (OpenSpec.upto fnExactSaTakeSpec)

/-- 'laws.FnSaAge', WHERE WHAT IT READS IS OF BULK AT MOST 1048576: true; the input reads as it did. -/
def fnSaAgeUptoRow : OpenClaim := { program := "ytefmmopkikpnhaagreatdoor", sum := "2f24d947fe4a20f51fe252511b0c841d012086e22636b71fb42ac9eedb79e0d3", func := "loop.example/overfare/laws.FnSaAge", spec := "fnSaAge", inPlace := ["internal/abi.NoEscape", "internal/bytealg.MakeNoZero"], unfollowed := true, recurses := true, named := ["loop.example/overfare/impl.sumStart", "loop.example/overfare/impl.sumSteps"], apart := false, laid := [("loop.example/overfare/impl.sumStart", laid_loop_example_overfare_impl_sumStart), ("loop.example/overfare/impl.sumSteps", laid_loop_example_overfare_impl_sumSteps)], narrowed := true }
def FnSaAgeUptoSaid : Prop := fnSaAgeUptoRow.holds Tryz.pinned (OpenSpec.upto fnSaAgeSpec)

/-- 'laws.FnSaSend', WHERE WHAT IT READS IS OF BULK AT MOST 1048576: true; the input reads as it did. -/
def fnSaSendUptoRow : OpenClaim := { program := "ytefmmopkikpnhaagreatdoor", sum := "2f24d947fe4a20f51fe252511b0c841d012086e22636b71fb42ac9eedb79e0d3", func := "loop.example/overfare/laws.FnSaSend", spec := "fnSaSend", inPlace := ["internal/abi.NoEscape", "internal/bytealg.MakeNoZero", "internal/reflectlite.ValueOf", "(internal/reflectlite.Value).Type", "(internal/reflectlite.Value).IsNil", "internal/reflectlite.TypeOf", "(internal/reflectlite.Value).Elem", "(internal/reflectlite.Value).Set"], unfollowed := true, recurses := true, named := ["loop.example/overfare/impl.sumStart", "loop.example/overfare/impl.sumSteps", "errors.errorType"], apart := false, laid := [("errors.errorType", laid_errors_errorType), ("loop.example/overfare/impl.sumStart", laid_loop_example_overfare_impl_sumStart), ("loop.example/overfare/impl.sumSteps", laid_loop_example_overfare_impl_sumSteps)], narrowed := true }
def FnSaSendUptoSaid : Prop := fnSaSendUptoRow.holds Tryz.pinned (OpenSpec.upto fnSaSendSpec)

/-- 'laws.FnSaTake', WHERE WHAT IT READS IS OF BULK AT MOST 1048576: true; the input reads as it did. -/
def fnSaTakeUptoRow : OpenClaim := { program := "ytefmmopkikpnhaagreatdoor", sum := "2f24d947fe4a20f51fe252511b0c841d012086e22636b71fb42ac9eedb79e0d3", func := "loop.example/overfare/laws.FnSaTake", spec := "fnSaTake", inPlace := ["internal/reflectlite.ValueOf", "(internal/reflectlite.Value).Type", "(internal/reflectlite.Value).IsNil", "internal/reflectlite.TypeOf", "(internal/reflectlite.Value).Elem", "(internal/reflectlite.Value).Set", "internal/abi.NoEscape", "internal/bytealg.MakeNoZero"], unfollowed := true, recurses := true, named := ["errors.errorType", "loop.example/overfare/impl.sumStart", "loop.example/overfare/impl.sumSteps"], apart := false, laid := [("errors.errorType", laid_errors_errorType), ("loop.example/overfare/impl.sumStart", laid_loop_example_overfare_impl_sumStart), ("loop.example/overfare/impl.sumSteps", laid_loop_example_overfare_impl_sumSteps)], narrowed := true }
def FnSaTakeUptoSaid : Prop := fnSaTakeUptoRow.holds Tryz.pinned (OpenSpec.upto fnSaTakeSpec)

/-- 'laws.FnSaBoth', WHERE WHAT IT READS IS OF BULK AT MOST 1048576: true; the input reads as it did. -/
def fnSaBothUptoRow : OpenClaim := { program := "ytefmmopkikpnhaagreatdoor", sum := "2f24d947fe4a20f51fe252511b0c841d012086e22636b71fb42ac9eedb79e0d3", func := "loop.example/overfare/laws.FnSaBoth", spec := "fnSaBoth", inPlace := ["internal/abi.NoEscape", "internal/bytealg.MakeNoZero", "internal/reflectlite.ValueOf", "(internal/reflectlite.Value).Type", "(internal/reflectlite.Value).IsNil", "internal/reflectlite.TypeOf", "(internal/reflectlite.Value).Elem", "(internal/reflectlite.Value).Set"], unfollowed := true, recurses := true, named := ["loop.example/overfare/impl.sumStart", "loop.example/overfare/impl.sumSteps", "errors.errorType"], apart := false, laid := [("errors.errorType", laid_errors_errorType), ("loop.example/overfare/impl.sumStart", laid_loop_example_overfare_impl_sumStart), ("loop.example/overfare/impl.sumSteps", laid_loop_example_overfare_impl_sumSteps)], narrowed := true }
def FnSaBothUptoSaid : Prop := fnSaBothUptoRow.holds Tryz.pinned (OpenSpec.upto fnSaBothSpec)

end Rows
end Go.Proofs.YtefmmopkikpnhaaGreatDoor
