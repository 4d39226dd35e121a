/-
  DERIVED. GIVEN WITH THE SEED: THE CARDS: each row of YtjiiodcikicpfaaDoorRows.lean that lists a variable, with what it lists TIED to the program's text (the seventh form; the later family's looks); each row that meets fmt, with fmt's text TOLD by the authors' own Lean function (tested against real Go, not proved from fmt's source: count such statements apart). THE CARD IS WHAT COUNTS. Prove the row's statement (the work); the ties are given (YtjiiodcikicpfaaDoorTie.lean); close each card by the builder's one call (the guide's Derived/Test/ToyasCard.lean, 'card_holds'). Laid BY PROGRAM, IN A SANDBOX (cutbox-door.mjs). By AI agents, Wed Nov 11 2026. No macro, syntax, notation, axiom, sorry.
-/
import Derived.Test.YtjiiodcikicpfaaDoorRows
import GoSem.ClaimSeven
namespace Go.Proofs.YtjiiodcikicpfaaDoor
namespace Rows

/-- THE TIED CARD OF 'laws.FnExactAddrText'. -/
def fnExactAddrTextCard : Claim7 := { stood := { row := fnExactAddrTextRow, standIns := [], harness := (true, "0b64386d8cd325b918c94308ff6edabff7f5db7e42f54059636a8050ad04375e"), looks := false }, kinds := [], alts := [], laidByText := true, laidKinds := [.data, .data, .data], laidTests := true, laidLooks := .later }
def FnExactAddrTextCardSaid : Prop := Claim7.holds Tryd.pinned (.plain (OpenSpec.ofChange fnExactAddrTextSpec)) fnExactAddrTextCard

/-- THE TIED CARD OF 'laws.FnExactAddrGet'. -/
def fnExactAddrGetCard : Claim7 := { stood := { row := fnExactAddrGetRow, standIns := [], harness := (true, "0b64386d8cd325b918c94308ff6edabff7f5db7e42f54059636a8050ad04375e"), looks := false }, kinds := [], alts := [], laidByText := true, laidKinds := [.data, .pinned], laidTests := true, laidLooks := .later }
def FnExactAddrGetCardSaid : Prop := Claim7.holds Tryd.pinned (.plain (OpenSpec.ofChange fnExactAddrGetSpec)) fnExactAddrGetCard

/-- THE TIED CARD OF 'laws.FnExactBlockText'. -/
def fnExactBlockTextCard : Claim7 := { stood := { row := fnExactBlockTextRow, standIns := [], harness := (true, "0b64386d8cd325b918c94308ff6edabff7f5db7e42f54059636a8050ad04375e"), looks := false }, kinds := [], alts := [], laidByText := true, laidKinds := [.data, .data, .data], laidTests := true, laidLooks := .later }
def FnExactBlockTextCardSaid : Prop := Claim7.holds Tryd.pinned (.plain (OpenSpec.ofChange fnExactBlockTextSpec)) fnExactBlockTextCard

/-- THE TIED CARD OF 'laws.FnExactBlockGet'. -/
def fnExactBlockGetCard : Claim7 := { stood := { row := fnExactBlockGetRow, standIns := [], harness := (true, "0b64386d8cd325b918c94308ff6edabff7f5db7e42f54059636a8050ad04375e"), looks := false }, kinds := [], alts := [], laidByText := true, laidKinds := [.data, .pinned], laidTests := true, laidLooks := .later }
def FnExactBlockGetCardSaid : Prop := Claim7.holds Tryd.pinned (.plain (OpenSpec.ofChange fnExactBlockGetSpec)) fnExactBlockGetCard

/-- THE TIED CARD OF 'laws.FnExactRulesOk'. -/
def fnExactRulesOkCard : Claim7 := { stood := { row := fnExactRulesOkRow, standIns := [], harness := (true, "0b64386d8cd325b918c94308ff6edabff7f5db7e42f54059636a8050ad04375e"), looks := false }, kinds := [], alts := [], laidByText := true, laidKinds := [.data, .data, .data], laidTests := true, laidLooks := .later }
def FnExactRulesOkCardSaid : Prop := Claim7.holds Tryd.pinned (.plain (OpenSpec.ofChange fnExactRulesOkSpec)) fnExactRulesOkCard

/-- THE TIED CARD OF 'laws.FnExactRulesFirst'. -/
def fnExactRulesFirstCard : Claim7 := { stood := { row := fnExactRulesFirstRow, standIns := [], harness := (true, "0b64386d8cd325b918c94308ff6edabff7f5db7e42f54059636a8050ad04375e"), looks := false }, kinds := [], alts := [], laidByText := true, laidKinds := [.data, .data, .data], laidTests := true, laidLooks := .later }
def FnExactRulesFirstCardSaid : Prop := Claim7.holds Tryd.pinned (.plain (OpenSpec.ofChange fnExactRulesFirstSpec)) fnExactRulesFirstCard

/-- THE SECOND FORM's CARD OF 'laws.FnExactAddrText'. -/
def fnExactAddrTextUptoCard : Claim7 := { stood := { row := fnExactAddrTextUptoRow, standIns := [], harness := (true, "0b64386d8cd325b918c94308ff6edabff7f5db7e42f54059636a8050ad04375e"), looks := false }, kinds := [], alts := [], laidByText := true, laidKinds := [.data, .data, .data], laidTests := true, laidLooks := .later }
def FnExactAddrTextUptoCardSaid : Prop := Claim7.holds Tryd.pinned (.plain (OpenSpec.upto fnExactAddrTextSpec)) fnExactAddrTextUptoCard

/-- THE SECOND FORM's CARD OF 'laws.FnExactAddrGet'. -/
def fnExactAddrGetUptoCard : Claim7 := { stood := { row := fnExactAddrGetUptoRow, standIns := [], harness := (true, "0b64386d8cd325b918c94308ff6edabff7f5db7e42f54059636a8050ad04375e"), looks := false }, kinds := [], alts := [], laidByText := true, laidKinds := [.data, .pinned], laidTests := true, laidLooks := .later }
def FnExactAddrGetUptoCardSaid : Prop := Claim7.holds Tryd.pinned (.plain (OpenSpec.upto fnExactAddrGetSpec)) fnExactAddrGetUptoCard

/-- THE SECOND FORM's CARD OF 'laws.FnExactBlockText'. -/
def fnExactBlockTextUptoCard : Claim7 := { stood := { row := fnExactBlockTextUptoRow, standIns := [], harness := (true, "0b64386d8cd325b918c94308ff6edabff7f5db7e42f54059636a8050ad04375e"), looks := false }, kinds := [], alts := [], laidByText := true, laidKinds := [.data, .data, .data], laidTests := true, laidLooks := .later }
def FnExactBlockTextUptoCardSaid : Prop := Claim7.holds Tryd.pinned (.plain (OpenSpec.upto fnExactBlockTextSpec)) fnExactBlockTextUptoCard

/-- THE SECOND FORM's CARD OF 'laws.FnExactBlockGet'. -/
def fnExactBlockGetUptoCard : Claim7 := { stood := { row := fnExactBlockGetUptoRow, standIns := [], harness := (true, "0b64386d8cd325b918c94308ff6edabff7f5db7e42f54059636a8050ad04375e"), looks := false }, kinds := [], alts := [], laidByText := true, laidKinds := [.data, .pinned], laidTests := true, laidLooks := .later }
def FnExactBlockGetUptoCardSaid : Prop := Claim7.holds Tryd.pinned (.plain (OpenSpec.upto fnExactBlockGetSpec)) fnExactBlockGetUptoCard

/-- THE SECOND FORM's CARD OF 'laws.FnExactRulesOk'. -/
def fnExactRulesOkUptoCard : Claim7 := { stood := { row := fnExactRulesOkUptoRow, standIns := [], harness := (true, "0b64386d8cd325b918c94308ff6edabff7f5db7e42f54059636a8050ad04375e"), looks := false }, kinds := [], alts := [], laidByText := true, laidKinds := [.data, .data, .data], laidTests := true, laidLooks := .later }
def FnExactRulesOkUptoCardSaid : Prop := Claim7.holds Tryd.pinned (.plain (OpenSpec.upto fnExactRulesOkSpec)) fnExactRulesOkUptoCard

/-- THE SECOND FORM's CARD OF 'laws.FnExactRulesFirst'. -/
def fnExactRulesFirstUptoCard : Claim7 := { stood := { row := fnExactRulesFirstUptoRow, standIns := [], harness := (true, "0b64386d8cd325b918c94308ff6edabff7f5db7e42f54059636a8050ad04375e"), looks := false }, kinds := [], alts := [], laidByText := true, laidKinds := [.data, .data, .data], laidTests := true, laidLooks := .later }
def FnExactRulesFirstUptoCardSaid : Prop := Claim7.holds Tryd.pinned (.plain (OpenSpec.upto fnExactRulesFirstSpec)) fnExactRulesFirstUptoCard
end Rows
end Go.Proofs.YtjiiodcikicpfaaDoor
