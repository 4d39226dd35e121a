/-
  DERIVED. GIVEN WITH THE SEED: THE CARDS: each row of YtdljoopioglkiaaDoorRows.lean that lists a variable, with what it lists TIED to the program's text (the seventh form; the later family's looks); each row that meets fmt, with fmt's text TOLD by the authors' own Lean function (tested against real Go, not proved from fmt's source: count such statements apart). THE CARD IS WHAT COUNTS. Prove the row's statement (the work); the ties are given (YtdljoopioglkiaaDoorTie.lean); close each card by the builder's one call (the guide's Derived/Test/ToyasCard.lean, 'card_holds'). Laid BY PROGRAM, IN A SANDBOX (cutbox-door.mjs). By AI agents, Wed Nov 11 2026. No macro, syntax, notation, axiom, sorry.
-/
import Derived.Test.YtdljoopioglkiaaDoorRows
import GoSem.ClaimSeven
namespace Go.Proofs.YtdljoopioglkiaaDoor
namespace Rows

/-- THE TIED CARD OF 'laws.FnRulesFirst'. -/
def fnRulesFirstCard : Claim7 := { stood := { row := fnRulesFirstRow, standIns := [], harness := (true, "53852ffe8dd8b40167a33827a87520551bd6156ed86dd37c1d2fb7789bb70b60"), looks := false }, kinds := [], alts := [], laidByText := true, laidKinds := [.data, .data, .data], laidTests := true, laidLooks := .later }
def FnRulesFirstCardSaid : Prop := Claim7.holds Tryd.pinned (.plain (OpenSpec.ofChange fnRulesFirstSpec)) fnRulesFirstCard

/-- THE TIED CARD OF 'laws.FnExactCacheOk'. -/
def fnExactCacheOkCard : Claim7 := { stood := { row := fnExactCacheOkRow, standIns := [], harness := (true, "53852ffe8dd8b40167a33827a87520551bd6156ed86dd37c1d2fb7789bb70b60"), looks := false }, kinds := [], alts := [], laidByText := true, laidKinds := [.data, .data, .data], laidTests := true, laidLooks := .later }
def FnExactCacheOkCardSaid : Prop := Claim7.holds Tryd.pinned (.plain (OpenSpec.ofChange fnExactCacheOkSpec)) fnExactCacheOkCard

/-- THE TIED CARD OF 'laws.FnExactCacheFind'. -/
def fnExactCacheFindCard : Claim7 := { stood := { row := fnExactCacheFindRow, standIns := [], harness := (true, "53852ffe8dd8b40167a33827a87520551bd6156ed86dd37c1d2fb7789bb70b60"), looks := false }, kinds := [], alts := [], laidByText := true, laidKinds := [.data, .data, .data], laidTests := true, laidLooks := .later }
def FnExactCacheFindCardSaid : Prop := Claim7.holds Tryd.pinned (.plain (OpenSpec.ofChange fnExactCacheFindSpec)) fnExactCacheFindCard

/-- THE TIED CARD OF 'laws.FnExactCacheRun'. -/
def fnExactCacheRunCard : Claim7 := { stood := { row := fnExactCacheRunRow, standIns := [], harness := (true, "53852ffe8dd8b40167a33827a87520551bd6156ed86dd37c1d2fb7789bb70b60"), looks := false }, kinds := [], alts := [], laidByText := true, laidKinds := [.data, .data, .data], laidTests := true, laidLooks := .later }
def FnExactCacheRunCardSaid : Prop := Claim7.holds Tryd.pinned (.plain (OpenSpec.ofChange fnExactCacheRunSpec)) fnExactCacheRunCard

/-- THE TIED CARD OF 'laws.FnCacheFind'. -/
def fnCacheFindCard : Claim7 := { stood := { row := fnCacheFindRow, standIns := [], harness := (true, "53852ffe8dd8b40167a33827a87520551bd6156ed86dd37c1d2fb7789bb70b60"), looks := false }, kinds := [], alts := [], laidByText := true, laidKinds := [.data, .data, .data], laidTests := true, laidLooks := .later }
def FnCacheFindCardSaid : Prop := Claim7.holds Tryd.pinned (.plain (OpenSpec.ofChange fnCacheFindSpec)) fnCacheFindCard

/-- THE TIED CARD OF 'laws.FnCacheRun'. -/
def fnCacheRunCard : Claim7 := { stood := { row := fnCacheRunRow, standIns := [], harness := (true, "53852ffe8dd8b40167a33827a87520551bd6156ed86dd37c1d2fb7789bb70b60"), looks := false }, kinds := [], alts := [], laidByText := true, laidKinds := [.data, .data, .data], laidTests := true, laidLooks := .later }
def FnCacheRunCardSaid : Prop := Claim7.holds Tryd.pinned (.plain (OpenSpec.ofChange fnCacheRunSpec)) fnCacheRunCard

/-- THE TIED CARD OF 'laws.FnCacheAgain'. -/
def fnCacheAgainCard : Claim7 := { stood := { row := fnCacheAgainRow, standIns := [], harness := (true, "53852ffe8dd8b40167a33827a87520551bd6156ed86dd37c1d2fb7789bb70b60"), looks := false }, kinds := [], alts := [], laidByText := true, laidKinds := [.data, .data, .data], laidTests := true, laidLooks := .later }
def FnCacheAgainCardSaid : Prop := Claim7.holds Tryd.pinned (.plain (OpenSpec.ofChange fnCacheAgainSpec)) fnCacheAgainCard

/-- THE TIED CARD OF 'laws.FnExactRulesDead'. -/
def fnExactRulesDeadCard : Claim7 := { stood := { row := fnExactRulesDeadRow, standIns := [], harness := (true, "53852ffe8dd8b40167a33827a87520551bd6156ed86dd37c1d2fb7789bb70b60"), looks := false }, kinds := [], alts := [], laidByText := true, laidKinds := [.data, .data, .data], laidTests := true, laidLooks := .later }
def FnExactRulesDeadCardSaid : Prop := Claim7.holds Tryd.pinned (.plain (OpenSpec.ofChange fnExactRulesDeadSpec)) fnExactRulesDeadCard

/-- THE TIED CARD OF 'laws.FnExactRulesDiffer'. -/
def fnExactRulesDifferCard : Claim7 := { stood := { row := fnExactRulesDifferRow, standIns := [], harness := (true, "53852ffe8dd8b40167a33827a87520551bd6156ed86dd37c1d2fb7789bb70b60"), looks := false }, kinds := [], alts := [], laidByText := true, laidKinds := [.data, .data, .data], laidTests := true, laidLooks := .later }
def FnExactRulesDifferCardSaid : Prop := Claim7.holds Tryd.pinned (.plain (OpenSpec.ofChange fnExactRulesDifferSpec)) fnExactRulesDifferCard

/-- THE TIED CARD OF 'laws.FnExactCells'. -/
def fnExactCellsCard : Claim7 := { stood := { row := fnExactCellsRow, standIns := [], harness := (true, "53852ffe8dd8b40167a33827a87520551bd6156ed86dd37c1d2fb7789bb70b60"), looks := false }, kinds := [], alts := [], laidByText := true, laidKinds := [.data, .data, .data], laidTests := true, laidLooks := .later }
def FnExactCellsCardSaid : Prop := Claim7.holds Tryd.pinned (.plain (OpenSpec.ofChange fnExactCellsSpec)) fnExactCellsCard

/-- THE SECOND FORM's CARD OF 'laws.FnRulesFirst'. -/
def fnRulesFirstUptoCard : Claim7 := { stood := { row := fnRulesFirstUptoRow, standIns := [], harness := (true, "53852ffe8dd8b40167a33827a87520551bd6156ed86dd37c1d2fb7789bb70b60"), looks := false }, kinds := [], alts := [], laidByText := true, laidKinds := [.data, .data, .data], laidTests := true, laidLooks := .later }
def FnRulesFirstUptoCardSaid : Prop := Claim7.holds Tryd.pinned (.plain (OpenSpec.upto fnRulesFirstSpec)) fnRulesFirstUptoCard

/-- THE SECOND FORM's CARD OF 'laws.FnExactCacheOk'. -/
def fnExactCacheOkUptoCard : Claim7 := { stood := { row := fnExactCacheOkUptoRow, standIns := [], harness := (true, "53852ffe8dd8b40167a33827a87520551bd6156ed86dd37c1d2fb7789bb70b60"), looks := false }, kinds := [], alts := [], laidByText := true, laidKinds := [.data, .data, .data], laidTests := true, laidLooks := .later }
def FnExactCacheOkUptoCardSaid : Prop := Claim7.holds Tryd.pinned (.plain (OpenSpec.upto fnExactCacheOkSpec)) fnExactCacheOkUptoCard

/-- THE SECOND FORM's CARD OF 'laws.FnExactCacheFind'. -/
def fnExactCacheFindUptoCard : Claim7 := { stood := { row := fnExactCacheFindUptoRow, standIns := [], harness := (true, "53852ffe8dd8b40167a33827a87520551bd6156ed86dd37c1d2fb7789bb70b60"), looks := false }, kinds := [], alts := [], laidByText := true, laidKinds := [.data, .data, .data], laidTests := true, laidLooks := .later }
def FnExactCacheFindUptoCardSaid : Prop := Claim7.holds Tryd.pinned (.plain (OpenSpec.upto fnExactCacheFindSpec)) fnExactCacheFindUptoCard

/-- THE SECOND FORM's CARD OF 'laws.FnExactCacheRun'. -/
def fnExactCacheRunUptoCard : Claim7 := { stood := { row := fnExactCacheRunUptoRow, standIns := [], harness := (true, "53852ffe8dd8b40167a33827a87520551bd6156ed86dd37c1d2fb7789bb70b60"), looks := false }, kinds := [], alts := [], laidByText := true, laidKinds := [.data, .data, .data], laidTests := true, laidLooks := .later }
def FnExactCacheRunUptoCardSaid : Prop := Claim7.holds Tryd.pinned (.plain (OpenSpec.upto fnExactCacheRunSpec)) fnExactCacheRunUptoCard

/-- THE SECOND FORM's CARD OF 'laws.FnCacheFind'. -/
def fnCacheFindUptoCard : Claim7 := { stood := { row := fnCacheFindUptoRow, standIns := [], harness := (true, "53852ffe8dd8b40167a33827a87520551bd6156ed86dd37c1d2fb7789bb70b60"), looks := false }, kinds := [], alts := [], laidByText := true, laidKinds := [.data, .data, .data], laidTests := true, laidLooks := .later }
def FnCacheFindUptoCardSaid : Prop := Claim7.holds Tryd.pinned (.plain (OpenSpec.upto fnCacheFindSpec)) fnCacheFindUptoCard

/-- THE SECOND FORM's CARD OF 'laws.FnCacheRun'. -/
def fnCacheRunUptoCard : Claim7 := { stood := { row := fnCacheRunUptoRow, standIns := [], harness := (true, "53852ffe8dd8b40167a33827a87520551bd6156ed86dd37c1d2fb7789bb70b60"), looks := false }, kinds := [], alts := [], laidByText := true, laidKinds := [.data, .data, .data], laidTests := true, laidLooks := .later }
def FnCacheRunUptoCardSaid : Prop := Claim7.holds Tryd.pinned (.plain (OpenSpec.upto fnCacheRunSpec)) fnCacheRunUptoCard

/-- THE SECOND FORM's CARD OF 'laws.FnCacheAgain'. -/
def fnCacheAgainUptoCard : Claim7 := { stood := { row := fnCacheAgainUptoRow, standIns := [], harness := (true, "53852ffe8dd8b40167a33827a87520551bd6156ed86dd37c1d2fb7789bb70b60"), looks := false }, kinds := [], alts := [], laidByText := true, laidKinds := [.data, .data, .data], laidTests := true, laidLooks := .later }
def FnCacheAgainUptoCardSaid : Prop := Claim7.holds Tryd.pinned (.plain (OpenSpec.upto fnCacheAgainSpec)) fnCacheAgainUptoCard

/-- THE SECOND FORM's CARD OF 'laws.FnExactRulesDead'. -/
def fnExactRulesDeadUptoCard : Claim7 := { stood := { row := fnExactRulesDeadUptoRow, standIns := [], harness := (true, "53852ffe8dd8b40167a33827a87520551bd6156ed86dd37c1d2fb7789bb70b60"), looks := false }, kinds := [], alts := [], laidByText := true, laidKinds := [.data, .data, .data], laidTests := true, laidLooks := .later }
def FnExactRulesDeadUptoCardSaid : Prop := Claim7.holds Tryd.pinned (.plain (OpenSpec.upto fnExactRulesDeadSpec)) fnExactRulesDeadUptoCard

/-- THE SECOND FORM's CARD OF 'laws.FnExactRulesDiffer'. -/
def fnExactRulesDifferUptoCard : Claim7 := { stood := { row := fnExactRulesDifferUptoRow, standIns := [], harness := (true, "53852ffe8dd8b40167a33827a87520551bd6156ed86dd37c1d2fb7789bb70b60"), looks := false }, kinds := [], alts := [], laidByText := true, laidKinds := [.data, .data, .data], laidTests := true, laidLooks := .later }
def FnExactRulesDifferUptoCardSaid : Prop := Claim7.holds Tryd.pinned (.plain (OpenSpec.upto fnExactRulesDifferSpec)) fnExactRulesDifferUptoCard

/-- THE SECOND FORM's CARD OF 'laws.FnExactCells'. -/
def fnExactCellsUptoCard : Claim7 := { stood := { row := fnExactCellsUptoRow, standIns := [], harness := (true, "53852ffe8dd8b40167a33827a87520551bd6156ed86dd37c1d2fb7789bb70b60"), looks := false }, kinds := [], alts := [], laidByText := true, laidKinds := [.data, .data, .data], laidTests := true, laidLooks := .later }
def FnExactCellsUptoCardSaid : Prop := Claim7.holds Tryd.pinned (.plain (OpenSpec.upto fnExactCellsSpec)) fnExactCellsUptoCard
end Rows
end Go.Proofs.YtdljoopioglkiaaDoor
