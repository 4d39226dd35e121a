/-
  DERIVED. GIVEN WITH THE SEED: THE CARDS: each row of YtgolcjlogokbiaaDoorRows.lean that lists a variable, with what it lists TIED to the program's text (the seventh form; the later family's looks); each row that meets fmt, with fmt's text TOLD by the authors' own Lean function (tested against real Go, not proved from fmt's source: count such statements apart). THE CARD IS WHAT COUNTS. Prove the row's statement (the work); the ties are given (YtgolcjlogokbiaaDoorTie.lean); close each card by the builder's one call (the guide's Derived/Test/ToyasCard.lean, 'card_holds'). Laid BY PROGRAM, IN A SANDBOX (cutbox-door.mjs). By AI agents, Wed Nov 11 2026. No macro, syntax, notation, axiom, sorry.
-/
import Derived.Test.YtgolcjlogokbiaaDoorRows
import GoSem.ClaimSeven
namespace Go.Proofs.YtgolcjlogokbiaaDoor
namespace Rows

/-- THE TIED CARD OF 'laws.FnFill'. -/
def fnFillCard : Claim7 := { stood := { row := fnFillRow, standIns := [], harness := (true, "8ab006076750868ca6ba7881bbb739c3f889347eb1c9f40c9272aee1c5f0e1de"), looks := true }, kinds := [], alts := [], laidByText := true, laidKinds := [.handle], laidTests := true, laidLooks := .later }
def FnFillCardSaid : Prop := Claim7.holds Tryd.pinned (.plain (OpenSpec.ofChange fnFillSpec)) fnFillCard

/-- THE TIED CARD OF 'laws.FnUnfill'. -/
def fnUnfillCard : Claim7 := { stood := { row := fnUnfillRow, standIns := [], harness := (true, "8ab006076750868ca6ba7881bbb739c3f889347eb1c9f40c9272aee1c5f0e1de"), looks := true }, kinds := [], alts := [], laidByText := true, laidKinds := [.handle], laidTests := true, laidLooks := .later }
def FnUnfillCardSaid : Prop := Claim7.holds Tryd.pinned (.plain (OpenSpec.ofChange fnUnfillSpec)) fnUnfillCard

/-- THE TIED CARD OF 'laws.FnExactUnfill'. -/
def fnExactUnfillCard : Claim7 := { stood := { row := fnExactUnfillRow, standIns := [], harness := (true, "8ab006076750868ca6ba7881bbb739c3f889347eb1c9f40c9272aee1c5f0e1de"), looks := true }, kinds := [], alts := [], laidByText := true, laidKinds := [.handle], laidTests := true, laidLooks := .later }
def FnExactUnfillCardSaid : Prop := Claim7.holds Tryd.pinned (.plain (OpenSpec.ofChange fnExactUnfillSpec)) fnExactUnfillCard

/-- THE TIED CARD OF 'laws.FnExactPacketGet'. -/
def fnExactPacketGetCard : Claim7 := { stood := { row := fnExactPacketGetRow, standIns := [], harness := (true, "8ab006076750868ca6ba7881bbb739c3f889347eb1c9f40c9272aee1c5f0e1de"), looks := true }, kinds := [], alts := [], laidByText := true, laidKinds := [.handle], laidTests := true, laidLooks := .later }
def FnExactPacketGetCardSaid : Prop := Claim7.holds Tryd.pinned (.plain (OpenSpec.ofChange fnExactPacketGetSpec)) fnExactPacketGetCard

/-- THE TIED CARD OF 'laws.FnExactFrameHead'. -/
def fnExactFrameHeadCard : Claim7 := { stood := { row := fnExactFrameHeadRow, standIns := [], harness := (true, "8ab006076750868ca6ba7881bbb739c3f889347eb1c9f40c9272aee1c5f0e1de"), looks := true }, kinds := [], alts := [], laidByText := true, laidKinds := [.handle], laidTests := true, laidLooks := .later }
def FnExactFrameHeadCardSaid : Prop := Claim7.holds Tryd.pinned (.plain (OpenSpec.ofChange fnExactFrameHeadSpec)) fnExactFrameHeadCard

/-- THE TIED CARD OF 'laws.FnPacketText'. -/
def fnPacketTextCard : Claim7 := { stood := { row := fnPacketTextRow, standIns := [], harness := (true, "8ab006076750868ca6ba7881bbb739c3f889347eb1c9f40c9272aee1c5f0e1de"), looks := true }, kinds := [], alts := [], laidByText := true, laidKinds := [.handle], laidTests := true, laidLooks := .later }
def FnPacketTextCardSaid : Prop := Claim7.holds Tryd.pinned (.plain (OpenSpec.ofChange fnPacketTextSpec)) fnPacketTextCard

/-- THE SECOND FORM's CARD OF 'laws.FnFill'. -/
def fnFillUptoCard : Claim7 := { stood := { row := fnFillUptoRow, standIns := [], harness := (true, "8ab006076750868ca6ba7881bbb739c3f889347eb1c9f40c9272aee1c5f0e1de"), looks := true }, kinds := [], alts := [], laidByText := true, laidKinds := [.handle], laidTests := true, laidLooks := .later }
def FnFillUptoCardSaid : Prop := Claim7.holds Tryd.pinned (.plain (OpenSpec.upto fnFillSpec)) fnFillUptoCard

/-- THE SECOND FORM's CARD OF 'laws.FnUnfill'. -/
def fnUnfillUptoCard : Claim7 := { stood := { row := fnUnfillUptoRow, standIns := [], harness := (true, "8ab006076750868ca6ba7881bbb739c3f889347eb1c9f40c9272aee1c5f0e1de"), looks := true }, kinds := [], alts := [], laidByText := true, laidKinds := [.handle], laidTests := true, laidLooks := .later }
def FnUnfillUptoCardSaid : Prop := Claim7.holds Tryd.pinned (.plain (OpenSpec.upto fnUnfillSpec)) fnUnfillUptoCard

/-- THE SECOND FORM's CARD OF 'laws.FnExactUnfill'. -/
def fnExactUnfillUptoCard : Claim7 := { stood := { row := fnExactUnfillUptoRow, standIns := [], harness := (true, "8ab006076750868ca6ba7881bbb739c3f889347eb1c9f40c9272aee1c5f0e1de"), looks := true }, kinds := [], alts := [], laidByText := true, laidKinds := [.handle], laidTests := true, laidLooks := .later }
def FnExactUnfillUptoCardSaid : Prop := Claim7.holds Tryd.pinned (.plain (OpenSpec.upto fnExactUnfillSpec)) fnExactUnfillUptoCard

/-- THE SECOND FORM's CARD OF 'laws.FnExactPacketGet'. -/
def fnExactPacketGetUptoCard : Claim7 := { stood := { row := fnExactPacketGetUptoRow, standIns := [], harness := (true, "8ab006076750868ca6ba7881bbb739c3f889347eb1c9f40c9272aee1c5f0e1de"), looks := true }, kinds := [], alts := [], laidByText := true, laidKinds := [.handle], laidTests := true, laidLooks := .later }
def FnExactPacketGetUptoCardSaid : Prop := Claim7.holds Tryd.pinned (.plain (OpenSpec.upto fnExactPacketGetSpec)) fnExactPacketGetUptoCard

/-- THE SECOND FORM's CARD OF 'laws.FnExactFrameHead'. -/
def fnExactFrameHeadUptoCard : Claim7 := { stood := { row := fnExactFrameHeadUptoRow, standIns := [], harness := (true, "8ab006076750868ca6ba7881bbb739c3f889347eb1c9f40c9272aee1c5f0e1de"), looks := true }, kinds := [], alts := [], laidByText := true, laidKinds := [.handle], laidTests := true, laidLooks := .later }
def FnExactFrameHeadUptoCardSaid : Prop := Claim7.holds Tryd.pinned (.plain (OpenSpec.upto fnExactFrameHeadSpec)) fnExactFrameHeadUptoCard

/-- THE SECOND FORM's CARD OF 'laws.FnPacketText'. -/
def fnPacketTextUptoCard : Claim7 := { stood := { row := fnPacketTextUptoRow, standIns := [], harness := (true, "8ab006076750868ca6ba7881bbb739c3f889347eb1c9f40c9272aee1c5f0e1de"), looks := true }, kinds := [], alts := [], laidByText := true, laidKinds := [.handle], laidTests := true, laidLooks := .later }
def FnPacketTextUptoCardSaid : Prop := Claim7.holds Tryd.pinned (.plain (OpenSpec.upto fnPacketTextSpec)) fnPacketTextUptoCard
end Rows
end Go.Proofs.YtgolcjlogokbiaaDoor
