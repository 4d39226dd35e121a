/-
  DERIVED. GIVEN WITH THE SEED: THE CARDS: each row of YtlfeedbnjhhmiaaDoorRows.lean that lists a variable, with what it lists TIED to the program's text (the seventh form; the later family's looks); each row that meets fmt, with fmt's text TOLD by the authors' own Lean function (tested against real Go, not proved from fmt's source: count such statements apart). THE CARD IS WHAT COUNTS. Prove the row's statement (the work); the ties are given (YtlfeedbnjhhmiaaDoorTie.lean); close each card by the builder's one call (the guide's Derived/Test/ToyasCard.lean, 'card_holds'). Laid BY PROGRAM, IN A SANDBOX (cutbox-door.mjs). By AI agents, Wed Nov 11 2026. No macro, syntax, notation, axiom, sorry.
-/
import Derived.Test.YtlfeedbnjhhmiaaDoorRows
import GoSem.ClaimSeven
namespace Go.Proofs.YtlfeedbnjhhmiaaDoor
namespace Rows

/-- THE TIED CARD OF 'laws.FnAddrText'. -/
def fnAddrTextCard : Claim7 := { stood := { row := fnAddrTextRow, standIns := [], harness := (true, "6d05c111e4ac4cf3fe894ac2ad8ad23272d5f22a631052d0e5acdcbd2bfed78b"), looks := false }, kinds := [], alts := [], laidByText := true, laidKinds := [.data, .data, .data, .data, .pinned], laidTests := true, laidLooks := .later }
def FnAddrTextCardSaid : Prop := Claim7.holds Tryd.pinned (.plain (OpenSpec.ofChange fnAddrTextSpec)) fnAddrTextCard

/-- THE TIED CARD OF 'laws.FnBlockText'. -/
def fnBlockTextCard : Claim7 := { stood := { row := fnBlockTextRow, standIns := [], harness := (true, "6d05c111e4ac4cf3fe894ac2ad8ad23272d5f22a631052d0e5acdcbd2bfed78b"), looks := false }, kinds := [], alts := [], laidByText := true, laidKinds := [.data, .data, .data, .data, .pinned], laidTests := true, laidLooks := .later }
def FnBlockTextCardSaid : Prop := Claim7.holds Tryd.pinned (.plain (OpenSpec.ofChange fnBlockTextSpec)) fnBlockTextCard

/-- THE TIED CARD OF 'laws.FnExactRulesPut'. -/
def fnExactRulesPutCard : Claim7 := { stood := { row := fnExactRulesPutRow, standIns := [], harness := (true, "6d05c111e4ac4cf3fe894ac2ad8ad23272d5f22a631052d0e5acdcbd2bfed78b"), looks := false }, kinds := [], alts := [], laidByText := true, laidKinds := [.data, .data, .data], laidTests := true, laidLooks := .later }
def FnExactRulesPutCardSaid : Prop := Claim7.holds Tryd.pinned (.plain (OpenSpec.ofChange fnExactRulesPutSpec)) fnExactRulesPutCard

/-- THE TIED CARD OF 'laws.FnExactCacheOk'. -/
def fnExactCacheOkCard : Claim7 := { stood := { row := fnExactCacheOkRow, standIns := [], harness := (true, "6d05c111e4ac4cf3fe894ac2ad8ad23272d5f22a631052d0e5acdcbd2bfed78b"), looks := false }, kinds := [], alts := [], laidByText := true, laidKinds := [.data, .data, .data], laidTests := true, laidLooks := .later }
def FnExactCacheOkCardSaid : Prop := Claim7.holds Tryd.pinned (.plain (OpenSpec.ofChange fnExactCacheOkSpec)) fnExactCacheOkCard

/-- THE TIED CARD OF 'laws.FnRulesFirst'. -/
def fnRulesFirstCard : Claim7 := { stood := { row := fnRulesFirstRow, standIns := [], harness := (true, "6d05c111e4ac4cf3fe894ac2ad8ad23272d5f22a631052d0e5acdcbd2bfed78b"), looks := false }, kinds := [], alts := [], laidByText := true, laidKinds := [.data, .data, .data], laidTests := true, laidLooks := .later }
def FnRulesFirstCardSaid : Prop := Claim7.holds Tryd.pinned (.plain (OpenSpec.ofChange fnRulesFirstSpec)) fnRulesFirstCard

/-- THE SECOND FORM's CARD OF 'laws.FnAddrText'. -/
def fnAddrTextUptoCard : Claim7 := { stood := { row := fnAddrTextUptoRow, standIns := [], harness := (true, "6d05c111e4ac4cf3fe894ac2ad8ad23272d5f22a631052d0e5acdcbd2bfed78b"), looks := false }, kinds := [], alts := [], laidByText := true, laidKinds := [.data, .data, .data, .data, .pinned], laidTests := true, laidLooks := .later }
def FnAddrTextUptoCardSaid : Prop := Claim7.holds Tryd.pinned (.plain (OpenSpec.upto fnAddrTextSpec)) fnAddrTextUptoCard

/-- THE SECOND FORM's CARD OF 'laws.FnBlockText'. -/
def fnBlockTextUptoCard : Claim7 := { stood := { row := fnBlockTextUptoRow, standIns := [], harness := (true, "6d05c111e4ac4cf3fe894ac2ad8ad23272d5f22a631052d0e5acdcbd2bfed78b"), looks := false }, kinds := [], alts := [], laidByText := true, laidKinds := [.data, .data, .data, .data, .pinned], laidTests := true, laidLooks := .later }
def FnBlockTextUptoCardSaid : Prop := Claim7.holds Tryd.pinned (.plain (OpenSpec.upto fnBlockTextSpec)) fnBlockTextUptoCard

/-- THE SECOND FORM's CARD OF 'laws.FnExactRulesPut'. -/
def fnExactRulesPutUptoCard : Claim7 := { stood := { row := fnExactRulesPutUptoRow, standIns := [], harness := (true, "6d05c111e4ac4cf3fe894ac2ad8ad23272d5f22a631052d0e5acdcbd2bfed78b"), looks := false }, kinds := [], alts := [], laidByText := true, laidKinds := [.data, .data, .data], laidTests := true, laidLooks := .later }
def FnExactRulesPutUptoCardSaid : Prop := Claim7.holds Tryd.pinned (.plain (OpenSpec.upto fnExactRulesPutSpec)) fnExactRulesPutUptoCard

/-- THE SECOND FORM's CARD OF 'laws.FnExactCacheOk'. -/
def fnExactCacheOkUptoCard : Claim7 := { stood := { row := fnExactCacheOkUptoRow, standIns := [], harness := (true, "6d05c111e4ac4cf3fe894ac2ad8ad23272d5f22a631052d0e5acdcbd2bfed78b"), looks := false }, kinds := [], alts := [], laidByText := true, laidKinds := [.data, .data, .data], laidTests := true, laidLooks := .later }
def FnExactCacheOkUptoCardSaid : Prop := Claim7.holds Tryd.pinned (.plain (OpenSpec.upto fnExactCacheOkSpec)) fnExactCacheOkUptoCard

/-- THE SECOND FORM's CARD OF 'laws.FnRulesFirst'. -/
def fnRulesFirstUptoCard : Claim7 := { stood := { row := fnRulesFirstUptoRow, standIns := [], harness := (true, "6d05c111e4ac4cf3fe894ac2ad8ad23272d5f22a631052d0e5acdcbd2bfed78b"), looks := false }, kinds := [], alts := [], laidByText := true, laidKinds := [.data, .data, .data], laidTests := true, laidLooks := .later }
def FnRulesFirstUptoCardSaid : Prop := Claim7.holds Tryd.pinned (.plain (OpenSpec.upto fnRulesFirstSpec)) fnRulesFirstUptoCard
end Rows
end Go.Proofs.YtlfeedbnjhhmiaaDoor
