/-
  DERIVED. GIVEN WITH THE SEED: THE CARDS: each row of YtkjkjhheckfhbaaGreatDoorRows.lean that lists a variable, with what it lists TIED to the program's text (the seventh form; the later family's looks); each row that meets fmt, with fmt's text TOLD by the authors' own Lean function (tested against real Go, not proved from fmt's source: count such statements apart). THE CARD IS WHAT COUNTS. Prove the row's statement (the work); the ties are given (YtkjkjhheckfhbaaGreatDoorTie.lean); close each card by the builder's one call (the guide's Derived/Test/ToyasCard.lean, 'card_holds'). Laid BY PROGRAM, IN A SANDBOX (cutbox-door.mjs). By AI agents, Wed Nov 11 2026. No macro, syntax, notation, axiom, sorry.
-/
import Derived.Test.YtkjkjhheckfhbaaGreatDoorRows
import GoSem.ClaimSeven
namespace Go.Proofs.YtkjkjhheckfhbaaGreatDoor
namespace Rows

/-- THE TIED CARD OF 'genlocklaw01.PictureBasics'. -/
def pictureBasicsCard : Claim7 := { stood := { row := pictureBasicsRow, standIns := [], harness := (true, "3cddcd6fed15881d34669d7b96e4ded45c37bee076cc330bda26bb9bd2994fa0"), looks := false }, kinds := [], alts := [], laidByText := true, laidKinds := [.data, .data, .data, .data], laidTests := true, laidLooks := .later }
def PictureBasicsCardSaid : Prop := Claim7.holds Tryz.pinned (.plain (OpenSpec.ofChange pictureBasicsSpec)) pictureBasicsCard

/-- THE TIED CARD OF 'genlocklaw01.PictureParts'. -/
def picturePartsCard : Claim7 := { stood := { row := picturePartsRow, standIns := [], harness := (true, "3cddcd6fed15881d34669d7b96e4ded45c37bee076cc330bda26bb9bd2994fa0"), looks := false }, kinds := [], alts := [], laidByText := true, laidKinds := [.data, .data, .data, .data], laidTests := true, laidLooks := .later }
def PicturePartsCardSaid : Prop := Claim7.holds Tryz.pinned (.plain (OpenSpec.ofChange picturePartsSpec)) picturePartsCard

/-- THE TIED CARD OF 'genlocklaw01.PictureJoins'. -/
def pictureJoinsCard : Claim7 := { stood := { row := pictureJoinsRow, standIns := [], harness := (true, "3cddcd6fed15881d34669d7b96e4ded45c37bee076cc330bda26bb9bd2994fa0"), looks := false }, kinds := [], alts := [], laidByText := true, laidKinds := [.data, .data, .data, .data], laidTests := true, laidLooks := .later }
def PictureJoinsCardSaid : Prop := Claim7.holds Tryz.pinned (.plain (OpenSpec.ofChange pictureJoinsSpec)) pictureJoinsCard

/-- THE TIED CARD OF 'genlocklaw01.PictureTurns'. -/
def pictureTurnsCard : Claim7 := { stood := { row := pictureTurnsRow, standIns := [], harness := (true, "3cddcd6fed15881d34669d7b96e4ded45c37bee076cc330bda26bb9bd2994fa0"), looks := false }, kinds := [], alts := [], laidByText := true, laidKinds := [.data, .data, .data, .data], laidTests := true, laidLooks := .later }
def PictureTurnsCardSaid : Prop := Claim7.holds Tryz.pinned (.plain (OpenSpec.ofChange pictureTurnsSpec)) pictureTurnsCard

/-- THE TIED CARD OF 'genlocklaw01.PictureSums'. -/
def pictureSumsCard : Claim7 := { stood := { row := pictureSumsRow, standIns := [], harness := (true, "3cddcd6fed15881d34669d7b96e4ded45c37bee076cc330bda26bb9bd2994fa0"), looks := false }, kinds := [], alts := [], laidByText := true, laidKinds := [.data, .data, .data, .data], laidTests := true, laidLooks := .later }
def PictureSumsCardSaid : Prop := Claim7.holds Tryz.pinned (.plain (OpenSpec.ofChange pictureSumsSpec)) pictureSumsCard

/-- THE TIED CARD OF 'genlocklaw01.PicturePackets'. -/
def picturePacketsCard : Claim7 := { stood := { row := picturePacketsRow, standIns := [], harness := (true, "3cddcd6fed15881d34669d7b96e4ded45c37bee076cc330bda26bb9bd2994fa0"), looks := false }, kinds := [], alts := [], laidByText := true, laidKinds := [.data, .data, .data, .data], laidTests := true, laidLooks := .later }
def PicturePacketsCardSaid : Prop := Claim7.holds Tryz.pinned (.plain (OpenSpec.ofChange picturePacketsSpec)) picturePacketsCard

/-- THE TIED CARD OF 'genlocklaw01.PictureStreams'. -/
def pictureStreamsCard : Claim7 := { stood := { row := pictureStreamsRow, standIns := [], harness := (true, "3cddcd6fed15881d34669d7b96e4ded45c37bee076cc330bda26bb9bd2994fa0"), looks := false }, kinds := [], alts := [], laidByText := true, laidKinds := [.data, .data, .data, .data], laidTests := true, laidLooks := .later }
def PictureStreamsCardSaid : Prop := Claim7.holds Tryz.pinned (.plain (OpenSpec.ofChange pictureStreamsSpec)) pictureStreamsCard

/-- THE TIED CARD OF 'genlocklaw01.PictureTexts'. -/
def pictureTextsCard : Claim7 := { stood := { row := pictureTextsRow, standIns := [], harness := (true, "3cddcd6fed15881d34669d7b96e4ded45c37bee076cc330bda26bb9bd2994fa0"), looks := false }, kinds := [], alts := [], laidByText := true, laidKinds := [.data, .data, .data, .data, .data, .pinned], laidTests := true, laidLooks := .later }
def PictureTextsCardSaid : Prop := Claim7.holds Tryz.pinned (.plain (OpenSpec.ofChange pictureTextsSpec)) pictureTextsCard

/-- THE TIED CARD OF 'genlocklaw01.PictureTiles'. -/
def pictureTilesCard : Claim7 := { stood := { row := pictureTilesRow, standIns := [], harness := (true, "3cddcd6fed15881d34669d7b96e4ded45c37bee076cc330bda26bb9bd2994fa0"), looks := false }, kinds := [], alts := [], laidByText := true, laidKinds := [.data, .data, .data, .data], laidTests := true, laidLooks := .later }
def PictureTilesCardSaid : Prop := Claim7.holds Tryz.pinned (.plain (OpenSpec.ofChange pictureTilesSpec)) pictureTilesCard

/-- THE TIED CARD OF 'genlocklaw01.PictureRound'. -/
def pictureRoundCard : Claim7 := { stood := { row := pictureRoundRow, standIns := [], harness := (true, "3cddcd6fed15881d34669d7b96e4ded45c37bee076cc330bda26bb9bd2994fa0"), looks := false }, kinds := [], alts := [], laidByText := true, laidKinds := [.data, .data, .data, .data], laidTests := true, laidLooks := .later }
def PictureRoundCardSaid : Prop := Claim7.holds Tryz.pinned (.plain (OpenSpec.ofChange pictureRoundSpec)) pictureRoundCard

/-- THE TIED CARD OF 'genlocklaw01.PictureLinear'. -/
def pictureLinearCard : Claim7 := { stood := { row := pictureLinearRow, standIns := [], harness := (true, "3cddcd6fed15881d34669d7b96e4ded45c37bee076cc330bda26bb9bd2994fa0"), looks := false }, kinds := [], alts := [], laidByText := true, laidKinds := [.data, .data, .data, .data], laidTests := true, laidLooks := .later }
def PictureLinearCardSaid : Prop := Claim7.holds Tryz.pinned (.plain (OpenSpec.ofChange pictureLinearSpec)) pictureLinearCard

/-- THE TIED CARD OF 'genlocklaw01.PictureFound'. -/
def pictureFoundCard : Claim7 := { stood := { row := pictureFoundRow, standIns := [], harness := (true, "3cddcd6fed15881d34669d7b96e4ded45c37bee076cc330bda26bb9bd2994fa0"), looks := false }, kinds := [], alts := [], laidByText := true, laidKinds := [.data, .data, .data, .data], laidTests := true, laidLooks := .later }
def PictureFoundCardSaid : Prop := Claim7.holds Tryz.pinned (.plain (OpenSpec.ofChange pictureFoundSpec)) pictureFoundCard

/-- THE TIED CARD OF 'genlocklaw01.PictureBack'. -/
def pictureBackCard : Claim7 := { stood := { row := pictureBackRow, standIns := [], harness := (true, "3cddcd6fed15881d34669d7b96e4ded45c37bee076cc330bda26bb9bd2994fa0"), looks := false }, kinds := [], alts := [], laidByText := true, laidKinds := [.data, .data, .data, .data, .data, .pinned], laidTests := true, laidLooks := .later }
def PictureBackCardSaid : Prop := Claim7.holds Tryz.pinned (.plain (OpenSpec.ofChange pictureBackSpec)) pictureBackCard

/-- THE SECOND FORM's CARD OF 'genlocklaw01.PictureBasics'. -/
def pictureBasicsUptoCard : Claim7 := { stood := { row := pictureBasicsUptoRow, standIns := [], harness := (true, "3cddcd6fed15881d34669d7b96e4ded45c37bee076cc330bda26bb9bd2994fa0"), looks := false }, kinds := [], alts := [], laidByText := true, laidKinds := [.data, .data, .data, .data], laidTests := true, laidLooks := .later }
def PictureBasicsUptoCardSaid : Prop := Claim7.holds Tryz.pinned (.plain (OpenSpec.upto pictureBasicsSpec)) pictureBasicsUptoCard

/-- THE SECOND FORM's CARD OF 'genlocklaw01.PictureParts'. -/
def picturePartsUptoCard : Claim7 := { stood := { row := picturePartsUptoRow, standIns := [], harness := (true, "3cddcd6fed15881d34669d7b96e4ded45c37bee076cc330bda26bb9bd2994fa0"), looks := false }, kinds := [], alts := [], laidByText := true, laidKinds := [.data, .data, .data, .data], laidTests := true, laidLooks := .later }
def PicturePartsUptoCardSaid : Prop := Claim7.holds Tryz.pinned (.plain (OpenSpec.upto picturePartsSpec)) picturePartsUptoCard

/-- THE SECOND FORM's CARD OF 'genlocklaw01.PictureJoins'. -/
def pictureJoinsUptoCard : Claim7 := { stood := { row := pictureJoinsUptoRow, standIns := [], harness := (true, "3cddcd6fed15881d34669d7b96e4ded45c37bee076cc330bda26bb9bd2994fa0"), looks := false }, kinds := [], alts := [], laidByText := true, laidKinds := [.data, .data, .data, .data], laidTests := true, laidLooks := .later }
def PictureJoinsUptoCardSaid : Prop := Claim7.holds Tryz.pinned (.plain (OpenSpec.upto pictureJoinsSpec)) pictureJoinsUptoCard

/-- THE SECOND FORM's CARD OF 'genlocklaw01.PictureTurns'. -/
def pictureTurnsUptoCard : Claim7 := { stood := { row := pictureTurnsUptoRow, standIns := [], harness := (true, "3cddcd6fed15881d34669d7b96e4ded45c37bee076cc330bda26bb9bd2994fa0"), looks := false }, kinds := [], alts := [], laidByText := true, laidKinds := [.data, .data, .data, .data], laidTests := true, laidLooks := .later }
def PictureTurnsUptoCardSaid : Prop := Claim7.holds Tryz.pinned (.plain (OpenSpec.upto pictureTurnsSpec)) pictureTurnsUptoCard

/-- THE SECOND FORM's CARD OF 'genlocklaw01.PictureSums'. -/
def pictureSumsUptoCard : Claim7 := { stood := { row := pictureSumsUptoRow, standIns := [], harness := (true, "3cddcd6fed15881d34669d7b96e4ded45c37bee076cc330bda26bb9bd2994fa0"), looks := false }, kinds := [], alts := [], laidByText := true, laidKinds := [.data, .data, .data, .data], laidTests := true, laidLooks := .later }
def PictureSumsUptoCardSaid : Prop := Claim7.holds Tryz.pinned (.plain (OpenSpec.upto pictureSumsSpec)) pictureSumsUptoCard

/-- THE SECOND FORM's CARD OF 'genlocklaw01.PicturePackets'. -/
def picturePacketsUptoCard : Claim7 := { stood := { row := picturePacketsUptoRow, standIns := [], harness := (true, "3cddcd6fed15881d34669d7b96e4ded45c37bee076cc330bda26bb9bd2994fa0"), looks := false }, kinds := [], alts := [], laidByText := true, laidKinds := [.data, .data, .data, .data], laidTests := true, laidLooks := .later }
def PicturePacketsUptoCardSaid : Prop := Claim7.holds Tryz.pinned (.plain (OpenSpec.upto picturePacketsSpec)) picturePacketsUptoCard

/-- THE SECOND FORM's CARD OF 'genlocklaw01.PictureStreams'. -/
def pictureStreamsUptoCard : Claim7 := { stood := { row := pictureStreamsUptoRow, standIns := [], harness := (true, "3cddcd6fed15881d34669d7b96e4ded45c37bee076cc330bda26bb9bd2994fa0"), looks := false }, kinds := [], alts := [], laidByText := true, laidKinds := [.data, .data, .data, .data], laidTests := true, laidLooks := .later }
def PictureStreamsUptoCardSaid : Prop := Claim7.holds Tryz.pinned (.plain (OpenSpec.upto pictureStreamsSpec)) pictureStreamsUptoCard

/-- THE SECOND FORM's CARD OF 'genlocklaw01.PictureTexts'. -/
def pictureTextsUptoCard : Claim7 := { stood := { row := pictureTextsUptoRow, standIns := [], harness := (true, "3cddcd6fed15881d34669d7b96e4ded45c37bee076cc330bda26bb9bd2994fa0"), looks := false }, kinds := [], alts := [], laidByText := true, laidKinds := [.data, .data, .data, .data, .data, .pinned], laidTests := true, laidLooks := .later }
def PictureTextsUptoCardSaid : Prop := Claim7.holds Tryz.pinned (.plain (OpenSpec.upto pictureTextsSpec)) pictureTextsUptoCard

/-- THE SECOND FORM's CARD OF 'genlocklaw01.PictureTiles'. -/
def pictureTilesUptoCard : Claim7 := { stood := { row := pictureTilesUptoRow, standIns := [], harness := (true, "3cddcd6fed15881d34669d7b96e4ded45c37bee076cc330bda26bb9bd2994fa0"), looks := false }, kinds := [], alts := [], laidByText := true, laidKinds := [.data, .data, .data, .data], laidTests := true, laidLooks := .later }
def PictureTilesUptoCardSaid : Prop := Claim7.holds Tryz.pinned (.plain (OpenSpec.upto pictureTilesSpec)) pictureTilesUptoCard

/-- THE SECOND FORM's CARD OF 'genlocklaw01.PictureRound'. -/
def pictureRoundUptoCard : Claim7 := { stood := { row := pictureRoundUptoRow, standIns := [], harness := (true, "3cddcd6fed15881d34669d7b96e4ded45c37bee076cc330bda26bb9bd2994fa0"), looks := false }, kinds := [], alts := [], laidByText := true, laidKinds := [.data, .data, .data, .data], laidTests := true, laidLooks := .later }
def PictureRoundUptoCardSaid : Prop := Claim7.holds Tryz.pinned (.plain (OpenSpec.upto pictureRoundSpec)) pictureRoundUptoCard

/-- THE SECOND FORM's CARD OF 'genlocklaw01.PictureLinear'. -/
def pictureLinearUptoCard : Claim7 := { stood := { row := pictureLinearUptoRow, standIns := [], harness := (true, "3cddcd6fed15881d34669d7b96e4ded45c37bee076cc330bda26bb9bd2994fa0"), looks := false }, kinds := [], alts := [], laidByText := true, laidKinds := [.data, .data, .data, .data], laidTests := true, laidLooks := .later }
def PictureLinearUptoCardSaid : Prop := Claim7.holds Tryz.pinned (.plain (OpenSpec.upto pictureLinearSpec)) pictureLinearUptoCard

/-- THE SECOND FORM's CARD OF 'genlocklaw01.PictureFound'. -/
def pictureFoundUptoCard : Claim7 := { stood := { row := pictureFoundUptoRow, standIns := [], harness := (true, "3cddcd6fed15881d34669d7b96e4ded45c37bee076cc330bda26bb9bd2994fa0"), looks := false }, kinds := [], alts := [], laidByText := true, laidKinds := [.data, .data, .data, .data], laidTests := true, laidLooks := .later }
def PictureFoundUptoCardSaid : Prop := Claim7.holds Tryz.pinned (.plain (OpenSpec.upto pictureFoundSpec)) pictureFoundUptoCard

/-- THE SECOND FORM's CARD OF 'genlocklaw01.PictureBack'. -/
def pictureBackUptoCard : Claim7 := { stood := { row := pictureBackUptoRow, standIns := [], harness := (true, "3cddcd6fed15881d34669d7b96e4ded45c37bee076cc330bda26bb9bd2994fa0"), looks := false }, kinds := [], alts := [], laidByText := true, laidKinds := [.data, .data, .data, .data, .data, .pinned], laidTests := true, laidLooks := .later }
def PictureBackUptoCardSaid : Prop := Claim7.holds Tryz.pinned (.plain (OpenSpec.upto pictureBackSpec)) pictureBackUptoCard
end Rows
end Go.Proofs.YtkjkjhheckfhbaaGreatDoor
