/-
  DERIVED. GIVEN WITH THE SEED: THE CARDS: each row of YtbimfhlmcdpnmaaDoorRows.lean that lists a variable, with what it lists TIED to the program's text (the seventh form; the later family's looks); each row that meets fmt, with fmt's text TOLD by the authors' own Lean function (tested against real Go, not proved from fmt's source: count such statements apart). THE CARD IS WHAT COUNTS. Prove the row's statement (the work); the ties are given (YtbimfhlmcdpnmaaDoorTie.lean); close each card by the builder's one call (the guide's Derived/Test/ToyasCard.lean, 'card_holds'). Laid BY PROGRAM, IN A SANDBOX (cutbox-door.mjs). By AI agents, Wed Nov 11 2026. No macro, syntax, notation, axiom, sorry.
-/
import Derived.Test.YtbimfhlmcdpnmaaDoorRows
import GoSem.ClaimSeven
namespace Go.Proofs.YtbimfhlmcdpnmaaDoor
namespace Rows

/-- THE TIED CARD OF 'laws.FnExactRulesPut'. -/
def fnExactRulesPutCard : Claim7 := { stood := { row := fnExactRulesPutRow, standIns := [], harness := (true, "fa7b0123d692217bc8b1030a282d9a7bd2a3bd79c79e3d71cf98daaeb4cfcfd5"), looks := false }, kinds := [], alts := [], laidByText := true, laidKinds := [.data, .data, .data], laidTests := true, laidLooks := .later }
def FnExactRulesPutCardSaid : Prop := Claim7.holds Tryd.pinned (.plain (OpenSpec.ofChange fnExactRulesPutSpec)) fnExactRulesPutCard

/-- THE TIED CARD OF 'laws.FnExactRulesGet'. -/
def fnExactRulesGetCard : Claim7 := { stood := { row := fnExactRulesGetRow, standIns := [], harness := (true, "fa7b0123d692217bc8b1030a282d9a7bd2a3bd79c79e3d71cf98daaeb4cfcfd5"), looks := false }, kinds := [], alts := [], laidByText := true, laidKinds := [.data, .data, .data, .data, .sentinel, .pinned], laidTests := true, laidLooks := .later }
def FnExactRulesGetCardSaid : Prop := Claim7.holds Tryd.pinned (.plain (OpenSpec.ofChange fnExactRulesGetSpec)) fnExactRulesGetCard

/-- THE SECOND FORM's CARD OF 'laws.FnExactRulesPut'. -/
def fnExactRulesPutUptoCard : Claim7 := { stood := { row := fnExactRulesPutUptoRow, standIns := [], harness := (true, "fa7b0123d692217bc8b1030a282d9a7bd2a3bd79c79e3d71cf98daaeb4cfcfd5"), looks := false }, kinds := [], alts := [], laidByText := true, laidKinds := [.data, .data, .data], laidTests := true, laidLooks := .later }
def FnExactRulesPutUptoCardSaid : Prop := Claim7.holds Tryd.pinned (.plain (OpenSpec.upto fnExactRulesPutSpec)) fnExactRulesPutUptoCard

/-- THE SECOND FORM's CARD OF 'laws.FnExactRulesGet'. -/
def fnExactRulesGetUptoCard : Claim7 := { stood := { row := fnExactRulesGetUptoRow, standIns := [], harness := (true, "fa7b0123d692217bc8b1030a282d9a7bd2a3bd79c79e3d71cf98daaeb4cfcfd5"), looks := false }, kinds := [], alts := [], laidByText := true, laidKinds := [.data, .data, .data, .data, .sentinel, .pinned], laidTests := true, laidLooks := .later }
def FnExactRulesGetUptoCardSaid : Prop := Claim7.holds Tryd.pinned (.plain (OpenSpec.upto fnExactRulesGetSpec)) fnExactRulesGetUptoCard
end Rows
end Go.Proofs.YtbimfhlmcdpnmaaDoor
