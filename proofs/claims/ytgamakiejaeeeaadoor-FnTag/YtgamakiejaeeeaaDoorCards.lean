/-
  DERIVED. GIVEN WITH THE SEED: THE CARDS: each row of YtgamakiejaeeeaaDoorRows.lean that lists a variable, with what it lists TIED to the program's text (the seventh form; the later family's looks); each row that meets fmt, with fmt's text TOLD by the authors' own Lean function (tested against real Go, not proved from fmt's source: count such statements apart). THE CARD IS WHAT COUNTS. Prove the row's statement (the work); the ties are given (YtgamakiejaeeeaaDoorTie.lean); close each card by the builder's one call (the guide's Derived/Test/ToyasCard.lean, 'card_holds'). Laid BY PROGRAM, IN A SANDBOX (cutbox-door.mjs). By AI agents, Wed Nov 11 2026. No macro, syntax, notation, axiom, sorry.
-/
import Derived.Test.YtgamakiejaeeeaaDoorRows
import GoSem.ClaimSeven
namespace Go.Proofs.YtgamakiejaeeeaaDoor
namespace Rows

/-- THE TIED CARD OF 'laws.FnExactHashSum'. -/
def fnExactHashSumCard : Claim7 := { stood := { row := fnExactHashSumRow, standIns := [], harness := (true, "460a6a272c0c128a4acb6924789115a8f89f4ec8eda51a17e3945cb020f3c831"), looks := false }, kinds := [], alts := [], laidByText := true, laidKinds := [.data, .data], laidTests := true, laidLooks := .later }
def FnExactHashSumCardSaid : Prop := Claim7.holds Tryd.pinned (.plain (OpenSpec.ofChange fnExactHashSumSpec)) fnExactHashSumCard

/-- THE TIED CARD OF 'laws.FnExactTag'. -/
def fnExactTagCard : Claim7 := { stood := { row := fnExactTagRow, standIns := [], harness := (true, "460a6a272c0c128a4acb6924789115a8f89f4ec8eda51a17e3945cb020f3c831"), looks := false }, kinds := [], alts := [], laidByText := true, laidKinds := [.data, .data], laidTests := true, laidLooks := .later }
def FnExactTagCardSaid : Prop := Claim7.holds Tryd.pinned (.plain (OpenSpec.ofChange fnExactTagSpec)) fnExactTagCard

/-- THE TIED CARD OF 'laws.FnHashSum'. -/
def fnHashSumCard : Claim7 := { stood := { row := fnHashSumRow, standIns := [], harness := (true, "460a6a272c0c128a4acb6924789115a8f89f4ec8eda51a17e3945cb020f3c831"), looks := false }, kinds := [], alts := [], laidByText := true, laidKinds := [.data, .data], laidTests := true, laidLooks := .later }
def FnHashSumCardSaid : Prop := Claim7.holds Tryd.pinned (.plain (OpenSpec.ofChange fnHashSumSpec)) fnHashSumCard

/-- THE TIED CARD OF 'laws.FnTag'. -/
def fnTagCard : Claim7 := { stood := { row := fnTagRow, standIns := [], harness := (true, "460a6a272c0c128a4acb6924789115a8f89f4ec8eda51a17e3945cb020f3c831"), looks := false }, kinds := [], alts := [], laidByText := true, laidKinds := [.data, .data], laidTests := true, laidLooks := .later }
def FnTagCardSaid : Prop := Claim7.holds Tryd.pinned (.plain (OpenSpec.ofChange fnTagSpec)) fnTagCard

/-- THE SECOND FORM's CARD OF 'laws.FnExactHashSum'. -/
def fnExactHashSumUptoCard : Claim7 := { stood := { row := fnExactHashSumUptoRow, standIns := [], harness := (true, "460a6a272c0c128a4acb6924789115a8f89f4ec8eda51a17e3945cb020f3c831"), looks := false }, kinds := [], alts := [], laidByText := true, laidKinds := [.data, .data], laidTests := true, laidLooks := .later }
def FnExactHashSumUptoCardSaid : Prop := Claim7.holds Tryd.pinned (.plain (OpenSpec.upto fnExactHashSumSpec)) fnExactHashSumUptoCard

/-- THE SECOND FORM's CARD OF 'laws.FnExactTag'. -/
def fnExactTagUptoCard : Claim7 := { stood := { row := fnExactTagUptoRow, standIns := [], harness := (true, "460a6a272c0c128a4acb6924789115a8f89f4ec8eda51a17e3945cb020f3c831"), looks := false }, kinds := [], alts := [], laidByText := true, laidKinds := [.data, .data], laidTests := true, laidLooks := .later }
def FnExactTagUptoCardSaid : Prop := Claim7.holds Tryd.pinned (.plain (OpenSpec.upto fnExactTagSpec)) fnExactTagUptoCard

/-- THE SECOND FORM's CARD OF 'laws.FnHashSum'. -/
def fnHashSumUptoCard : Claim7 := { stood := { row := fnHashSumUptoRow, standIns := [], harness := (true, "460a6a272c0c128a4acb6924789115a8f89f4ec8eda51a17e3945cb020f3c831"), looks := false }, kinds := [], alts := [], laidByText := true, laidKinds := [.data, .data], laidTests := true, laidLooks := .later }
def FnHashSumUptoCardSaid : Prop := Claim7.holds Tryd.pinned (.plain (OpenSpec.upto fnHashSumSpec)) fnHashSumUptoCard

/-- THE SECOND FORM's CARD OF 'laws.FnTag'. -/
def fnTagUptoCard : Claim7 := { stood := { row := fnTagUptoRow, standIns := [], harness := (true, "460a6a272c0c128a4acb6924789115a8f89f4ec8eda51a17e3945cb020f3c831"), looks := false }, kinds := [], alts := [], laidByText := true, laidKinds := [.data, .data], laidTests := true, laidLooks := .later }
def FnTagUptoCardSaid : Prop := Claim7.holds Tryd.pinned (.plain (OpenSpec.upto fnTagSpec)) fnTagUptoCard
end Rows
end Go.Proofs.YtgamakiejaeeeaaDoor
