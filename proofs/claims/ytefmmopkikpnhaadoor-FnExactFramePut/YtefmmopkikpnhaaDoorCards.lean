/-
  DERIVED. GIVEN WITH THE SEED: THE CARDS: each row of YtefmmopkikpnhaaDoorRows.lean that lists a variable, with what it lists TIED to the program's text (the seventh form; the later family's looks); each row that meets fmt, with fmt's text TOLD by the authors' own Lean function (tested against real Go, not proved from fmt's source: count such statements apart). THE CARD IS WHAT COUNTS. Prove the row's statement (the work); the ties are given (YtefmmopkikpnhaaDoorTie.lean); close each card by the builder's one call (the guide's Derived/Test/ToyasCard.lean, 'card_holds'). Laid BY PROGRAM, IN A SANDBOX (cutbox-door.mjs). By AI agents, Wed Nov 11 2026. No macro, syntax, notation, axiom, sorry.
-/
import Derived.Test.YtefmmopkikpnhaaDoorRows
import GoSem.ClaimSeven
namespace Go.Proofs.YtefmmopkikpnhaaDoor
namespace Rows

/-- THE TIED CARD OF 'laws.FnExactFramePut'. -/
def fnExactFramePutCard : Claim7 := { stood := { row := fnExactFramePutRow, standIns := [], harness := (true, "d040946735e1f4cab6af9acce6493bd916189e227e1943175acf346db1720702"), looks := false }, kinds := [], alts := [], laidByText := true, laidKinds := [.data, .data], laidTests := true, laidLooks := .later }
def FnExactFramePutCardSaid : Prop := Claim7.holds Tryd.pinned (.plain (OpenSpec.ofChange fnExactFramePutSpec)) fnExactFramePutCard

/-- THE SECOND FORM's CARD OF 'laws.FnExactFramePut'. -/
def fnExactFramePutUptoCard : Claim7 := { stood := { row := fnExactFramePutUptoRow, standIns := [], harness := (true, "d040946735e1f4cab6af9acce6493bd916189e227e1943175acf346db1720702"), looks := false }, kinds := [], alts := [], laidByText := true, laidKinds := [.data, .data], laidTests := true, laidLooks := .later }
def FnExactFramePutUptoCardSaid : Prop := Claim7.holds Tryd.pinned (.plain (OpenSpec.upto fnExactFramePutSpec)) fnExactFramePutUptoCard
end Rows
end Go.Proofs.YtefmmopkikpnhaaDoor
