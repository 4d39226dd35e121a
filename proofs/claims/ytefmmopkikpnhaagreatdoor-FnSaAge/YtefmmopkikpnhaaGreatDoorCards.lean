/-
  DERIVED. GIVEN WITH THE SEED: THE CARDS: each row of YtefmmopkikpnhaaGreatDoorRows.lean that lists a variable, with what it lists TIED to the program's text (the seventh form; the later family's looks); each row that meets fmt, with fmt's text TOLD by the authors' own Lean function (tested against real Go, not proved from fmt's source: count such statements apart). THE CARD IS WHAT COUNTS. Prove the row's statement (the work); the ties are given (YtefmmopkikpnhaaGreatDoorTie.lean); close each card by the builder's one call (the guide's Derived/Test/ToyasCard.lean, 'card_holds'). Laid BY PROGRAM, IN A SANDBOX (cutbox-door.mjs). By AI agents, Wed Nov 11 2026. No macro, syntax, notation, axiom, sorry.
-/
import Derived.Test.YtefmmopkikpnhaaGreatDoorRows
import GoSem.ClaimSeven
namespace Go.Proofs.YtefmmopkikpnhaaGreatDoor
namespace Rows

/-- THE TIED CARD OF 'laws.FnExactFrameGet'. -/
def fnExactFrameGetCard : Claim7 := { stood := { row := fnExactFrameGetRow, standIns := [], harness := (true, "9bea47af0a7b7fa9e0c084579950cafb726153b42fad7654bd4a7eb54be28159"), looks := true }, kinds := [], alts := [], laidByText := true, laidKinds := [.handle, .data, .data], laidTests := true, laidLooks := .later }
def FnExactFrameGetCardSaid : Prop := Claim7.holds Tryz.pinned (.plain (OpenSpec.ofChange fnExactFrameGetSpec)) fnExactFrameGetCard

/-- THE TIED CARD OF 'laws.FnFrame'. -/
def fnFrameCard : Claim7 := { stood := { row := fnFrameRow, standIns := [], harness := (true, "9bea47af0a7b7fa9e0c084579950cafb726153b42fad7654bd4a7eb54be28159"), looks := true }, kinds := [], alts := [], laidByText := true, laidKinds := [.handle, .data, .data], laidTests := true, laidLooks := .later }
def FnFrameCardSaid : Prop := Claim7.holds Tryz.pinned (.plain (OpenSpec.ofChange fnFrameSpec)) fnFrameCard

/-- THE TIED CARD OF 'laws.FnFrameHead'. -/
def fnFrameHeadCard : Claim7 := { stood := { row := fnFrameHeadRow, standIns := [], harness := (true, "9bea47af0a7b7fa9e0c084579950cafb726153b42fad7654bd4a7eb54be28159"), looks := true }, kinds := [], alts := [], laidByText := true, laidKinds := [.handle, .data, .data], laidTests := true, laidLooks := .later }
def FnFrameHeadCardSaid : Prop := Claim7.holds Tryz.pinned (.plain (OpenSpec.ofChange fnFrameHeadSpec)) fnFrameHeadCard

/-- THE TIED CARD OF 'laws.FnFrameByte'. -/
def fnFrameByteCard : Claim7 := { stood := { row := fnFrameByteRow, standIns := [], harness := (true, "9bea47af0a7b7fa9e0c084579950cafb726153b42fad7654bd4a7eb54be28159"), looks := true }, kinds := [], alts := [], laidByText := true, laidKinds := [.handle, .data, .data], laidTests := true, laidLooks := .later }
def FnFrameByteCardSaid : Prop := Claim7.holds Tryz.pinned (.plain (OpenSpec.ofChange fnFrameByteSpec)) fnFrameByteCard

/-- THE TIED CARD OF 'laws.FnFrameKey'. -/
def fnFrameKeyCard : Claim7 := { stood := { row := fnFrameKeyRow, standIns := [], harness := (true, "9bea47af0a7b7fa9e0c084579950cafb726153b42fad7654bd4a7eb54be28159"), looks := true }, kinds := [], alts := [], laidByText := true, laidKinds := [.handle, .data, .data], laidTests := true, laidLooks := .later }
def FnFrameKeyCardSaid : Prop := Claim7.holds Tryz.pinned (.plain (OpenSpec.ofChange fnFrameKeySpec)) fnFrameKeyCard

/-- THE TIED CARD OF 'laws.FnExactSaSend'. -/
def fnExactSaSendCard : Claim7 := { stood := { row := fnExactSaSendRow, standIns := [], harness := (true, "9bea47af0a7b7fa9e0c084579950cafb726153b42fad7654bd4a7eb54be28159"), looks := true }, kinds := [], alts := [], laidByText := true, laidKinds := [.data, .data], laidTests := true, laidLooks := .later }
def FnExactSaSendCardSaid : Prop := Claim7.holds Tryz.pinned (.plain (OpenSpec.ofChange fnExactSaSendSpec)) fnExactSaSendCard

/-- THE TIED CARD OF 'laws.FnExactSaTake'. -/
def fnExactSaTakeCard : Claim7 := { stood := { row := fnExactSaTakeRow, standIns := [], harness := (true, "9bea47af0a7b7fa9e0c084579950cafb726153b42fad7654bd4a7eb54be28159"), looks := true }, kinds := [], alts := [], laidByText := true, laidKinds := [.handle, .data, .data], laidTests := true, laidLooks := .later }
def FnExactSaTakeCardSaid : Prop := Claim7.holds Tryz.pinned (.plain (OpenSpec.ofChange fnExactSaTakeSpec)) fnExactSaTakeCard

/-- THE TIED CARD OF 'laws.FnSaAge'. -/
def fnSaAgeCard : Claim7 := { stood := { row := fnSaAgeRow, standIns := [], harness := (true, "9bea47af0a7b7fa9e0c084579950cafb726153b42fad7654bd4a7eb54be28159"), looks := true }, kinds := [], alts := [], laidByText := true, laidKinds := [.data, .data], laidTests := true, laidLooks := .later }
def FnSaAgeCardSaid : Prop := Claim7.holds Tryz.pinned (.plain (OpenSpec.ofChange fnSaAgeSpec)) fnSaAgeCard

/-- THE TIED CARD OF 'laws.FnSaSend'. -/
def fnSaSendCard : Claim7 := { stood := { row := fnSaSendRow, standIns := [], harness := (true, "9bea47af0a7b7fa9e0c084579950cafb726153b42fad7654bd4a7eb54be28159"), looks := true }, kinds := [], alts := [], laidByText := true, laidKinds := [.handle, .data, .data], laidTests := true, laidLooks := .later }
def FnSaSendCardSaid : Prop := Claim7.holds Tryz.pinned (.plain (OpenSpec.ofChange fnSaSendSpec)) fnSaSendCard

/-- THE TIED CARD OF 'laws.FnSaTake'. -/
def fnSaTakeCard : Claim7 := { stood := { row := fnSaTakeRow, standIns := [], harness := (true, "9bea47af0a7b7fa9e0c084579950cafb726153b42fad7654bd4a7eb54be28159"), looks := true }, kinds := [], alts := [], laidByText := true, laidKinds := [.handle, .data, .data], laidTests := true, laidLooks := .later }
def FnSaTakeCardSaid : Prop := Claim7.holds Tryz.pinned (.plain (OpenSpec.ofChange fnSaTakeSpec)) fnSaTakeCard

/-- THE TIED CARD OF 'laws.FnSaBoth'. -/
def fnSaBothCard : Claim7 := { stood := { row := fnSaBothRow, standIns := [], harness := (true, "9bea47af0a7b7fa9e0c084579950cafb726153b42fad7654bd4a7eb54be28159"), looks := true }, kinds := [], alts := [], laidByText := true, laidKinds := [.handle, .data, .data], laidTests := true, laidLooks := .later }
def FnSaBothCardSaid : Prop := Claim7.holds Tryz.pinned (.plain (OpenSpec.ofChange fnSaBothSpec)) fnSaBothCard

/-- THE SECOND FORM's CARD OF 'laws.FnExactFrameGet'. -/
def fnExactFrameGetUptoCard : Claim7 := { stood := { row := fnExactFrameGetUptoRow, standIns := [], harness := (true, "9bea47af0a7b7fa9e0c084579950cafb726153b42fad7654bd4a7eb54be28159"), looks := true }, kinds := [], alts := [], laidByText := true, laidKinds := [.handle, .data, .data], laidTests := true, laidLooks := .later }
def FnExactFrameGetUptoCardSaid : Prop := Claim7.holds Tryz.pinned (.plain (OpenSpec.upto fnExactFrameGetSpec)) fnExactFrameGetUptoCard

/-- THE SECOND FORM's CARD OF 'laws.FnFrame'. -/
def fnFrameUptoCard : Claim7 := { stood := { row := fnFrameUptoRow, standIns := [], harness := (true, "9bea47af0a7b7fa9e0c084579950cafb726153b42fad7654bd4a7eb54be28159"), looks := true }, kinds := [], alts := [], laidByText := true, laidKinds := [.handle, .data, .data], laidTests := true, laidLooks := .later }
def FnFrameUptoCardSaid : Prop := Claim7.holds Tryz.pinned (.plain (OpenSpec.upto fnFrameSpec)) fnFrameUptoCard

/-- THE SECOND FORM's CARD OF 'laws.FnFrameHead'. -/
def fnFrameHeadUptoCard : Claim7 := { stood := { row := fnFrameHeadUptoRow, standIns := [], harness := (true, "9bea47af0a7b7fa9e0c084579950cafb726153b42fad7654bd4a7eb54be28159"), looks := true }, kinds := [], alts := [], laidByText := true, laidKinds := [.handle, .data, .data], laidTests := true, laidLooks := .later }
def FnFrameHeadUptoCardSaid : Prop := Claim7.holds Tryz.pinned (.plain (OpenSpec.upto fnFrameHeadSpec)) fnFrameHeadUptoCard

/-- THE SECOND FORM's CARD OF 'laws.FnFrameByte'. -/
def fnFrameByteUptoCard : Claim7 := { stood := { row := fnFrameByteUptoRow, standIns := [], harness := (true, "9bea47af0a7b7fa9e0c084579950cafb726153b42fad7654bd4a7eb54be28159"), looks := true }, kinds := [], alts := [], laidByText := true, laidKinds := [.handle, .data, .data], laidTests := true, laidLooks := .later }
def FnFrameByteUptoCardSaid : Prop := Claim7.holds Tryz.pinned (.plain (OpenSpec.upto fnFrameByteSpec)) fnFrameByteUptoCard

/-- THE SECOND FORM's CARD OF 'laws.FnFrameKey'. -/
def fnFrameKeyUptoCard : Claim7 := { stood := { row := fnFrameKeyUptoRow, standIns := [], harness := (true, "9bea47af0a7b7fa9e0c084579950cafb726153b42fad7654bd4a7eb54be28159"), looks := true }, kinds := [], alts := [], laidByText := true, laidKinds := [.handle, .data, .data], laidTests := true, laidLooks := .later }
def FnFrameKeyUptoCardSaid : Prop := Claim7.holds Tryz.pinned (.plain (OpenSpec.upto fnFrameKeySpec)) fnFrameKeyUptoCard

/-- THE SECOND FORM's CARD OF 'laws.FnExactSaSend'. -/
def fnExactSaSendUptoCard : Claim7 := { stood := { row := fnExactSaSendUptoRow, standIns := [], harness := (true, "9bea47af0a7b7fa9e0c084579950cafb726153b42fad7654bd4a7eb54be28159"), looks := true }, kinds := [], alts := [], laidByText := true, laidKinds := [.data, .data], laidTests := true, laidLooks := .later }
def FnExactSaSendUptoCardSaid : Prop := Claim7.holds Tryz.pinned (.plain (OpenSpec.upto fnExactSaSendSpec)) fnExactSaSendUptoCard

/-- THE SECOND FORM's CARD OF 'laws.FnExactSaTake'. -/
def fnExactSaTakeUptoCard : Claim7 := { stood := { row := fnExactSaTakeUptoRow, standIns := [], harness := (true, "9bea47af0a7b7fa9e0c084579950cafb726153b42fad7654bd4a7eb54be28159"), looks := true }, kinds := [], alts := [], laidByText := true, laidKinds := [.handle, .data, .data], laidTests := true, laidLooks := .later }
def FnExactSaTakeUptoCardSaid : Prop := Claim7.holds Tryz.pinned (.plain (OpenSpec.upto fnExactSaTakeSpec)) fnExactSaTakeUptoCard

/-- THE SECOND FORM's CARD OF 'laws.FnSaAge'. -/
def fnSaAgeUptoCard : Claim7 := { stood := { row := fnSaAgeUptoRow, standIns := [], harness := (true, "9bea47af0a7b7fa9e0c084579950cafb726153b42fad7654bd4a7eb54be28159"), looks := true }, kinds := [], alts := [], laidByText := true, laidKinds := [.data, .data], laidTests := true, laidLooks := .later }
def FnSaAgeUptoCardSaid : Prop := Claim7.holds Tryz.pinned (.plain (OpenSpec.upto fnSaAgeSpec)) fnSaAgeUptoCard

/-- THE SECOND FORM's CARD OF 'laws.FnSaSend'. -/
def fnSaSendUptoCard : Claim7 := { stood := { row := fnSaSendUptoRow, standIns := [], harness := (true, "9bea47af0a7b7fa9e0c084579950cafb726153b42fad7654bd4a7eb54be28159"), looks := true }, kinds := [], alts := [], laidByText := true, laidKinds := [.handle, .data, .data], laidTests := true, laidLooks := .later }
def FnSaSendUptoCardSaid : Prop := Claim7.holds Tryz.pinned (.plain (OpenSpec.upto fnSaSendSpec)) fnSaSendUptoCard

/-- THE SECOND FORM's CARD OF 'laws.FnSaTake'. -/
def fnSaTakeUptoCard : Claim7 := { stood := { row := fnSaTakeUptoRow, standIns := [], harness := (true, "9bea47af0a7b7fa9e0c084579950cafb726153b42fad7654bd4a7eb54be28159"), looks := true }, kinds := [], alts := [], laidByText := true, laidKinds := [.handle, .data, .data], laidTests := true, laidLooks := .later }
def FnSaTakeUptoCardSaid : Prop := Claim7.holds Tryz.pinned (.plain (OpenSpec.upto fnSaTakeSpec)) fnSaTakeUptoCard

/-- THE SECOND FORM's CARD OF 'laws.FnSaBoth'. -/
def fnSaBothUptoCard : Claim7 := { stood := { row := fnSaBothUptoRow, standIns := [], harness := (true, "9bea47af0a7b7fa9e0c084579950cafb726153b42fad7654bd4a7eb54be28159"), looks := true }, kinds := [], alts := [], laidByText := true, laidKinds := [.handle, .data, .data], laidTests := true, laidLooks := .later }
def FnSaBothUptoCardSaid : Prop := Claim7.holds Tryz.pinned (.plain (OpenSpec.upto fnSaBothSpec)) fnSaBothUptoCard
end Rows
end Go.Proofs.YtefmmopkikpnhaaGreatDoor
