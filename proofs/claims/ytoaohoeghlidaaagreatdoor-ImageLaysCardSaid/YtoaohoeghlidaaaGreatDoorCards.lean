/-
  DERIVED. GIVEN WITH THE SEED: THE CARDS: each row of YtoaohoeghlidaaaGreatDoorRows.lean that lists a variable, with what it lists TIED to the program's text (the seventh form; the later family's looks); each row that meets fmt, with fmt's text TOLD by the authors' own Lean function (tested against real Go, not proved from fmt's source: count such statements apart). THE CARD IS WHAT COUNTS. Prove the row's statement (the work); the ties are given (YtoaohoeghlidaaaGreatDoorTie.lean); close each card by the builder's one call (the guide's Derived/Test/ToyasCard.lean, 'card_holds'). Laid BY PROGRAM, IN A SANDBOX (cutbox-door.mjs). By AI agents, Wed Nov 11 2026. No macro, syntax, notation, axiom, sorry.
-/
import Derived.Test.YtoaohoeghlidaaaGreatDoorRows
import GoSem.ClaimSeven
namespace Go.Proofs.YtoaohoeghlidaaaGreatDoor
namespace Rows

/-- THE TIED CARD OF 'governorlaw15.ImageLays'. -/
def imageLaysCard : Claim7 := { stood := { row := imageLaysRow, standIns := [], harness := (true, "8b7c36a5a25ecc3b908d8dc8d21f9a01b7cbd8f74e519018e2e87e0de8ae3b7b"), looks := true }, kinds := [], alts := [], laidByText := true, laidKinds := [.handle], laidTests := true, laidLooks := .later }
def ImageLaysCardSaid : Prop := Claim7.holds Tryz.pinned (.plain (OpenSpec.ofChange imageLaysSpec)) imageLaysCard

/-- THE TIED CARD OF 'governorlaw15.ImageReads'. -/
def imageReadsCard : Claim7 := { stood := { row := imageReadsRow, standIns := [], harness := (true, "8b7c36a5a25ecc3b908d8dc8d21f9a01b7cbd8f74e519018e2e87e0de8ae3b7b"), looks := true }, kinds := [], alts := [], laidByText := true, laidKinds := [.handle], laidTests := true, laidLooks := .later }
def ImageReadsCardSaid : Prop := Claim7.holds Tryz.pinned (.plain (OpenSpec.ofChange imageReadsSpec)) imageReadsCard

/-- THE TIED CARD OF 'governorlaw15.ImageBack'. -/
def imageBackCard : Claim7 := { stood := { row := imageBackRow, standIns := [], harness := (true, "8b7c36a5a25ecc3b908d8dc8d21f9a01b7cbd8f74e519018e2e87e0de8ae3b7b"), looks := true }, kinds := [], alts := [], laidByText := true, laidKinds := [.handle], laidTests := true, laidLooks := .later }
def ImageBackCardSaid : Prop := Claim7.holds Tryz.pinned (.plain (OpenSpec.ofChange imageBackSpec)) imageBackCard

/-- THE TIED CARD OF 'governorlaw15.ImageFlips'. -/
def imageFlipsCard : Claim7 := { stood := { row := imageFlipsRow, standIns := [], harness := (true, "8b7c36a5a25ecc3b908d8dc8d21f9a01b7cbd8f74e519018e2e87e0de8ae3b7b"), looks := true }, kinds := [], alts := [], laidByText := true, laidKinds := [.handle], laidTests := true, laidLooks := .later }
def ImageFlipsCardSaid : Prop := Claim7.holds Tryz.pinned (.plain (OpenSpec.ofChange imageFlipsSpec)) imageFlipsCard

/-- THE SECOND FORM's CARD OF 'governorlaw15.ImageLays'. -/
def imageLaysUptoCard : Claim7 := { stood := { row := imageLaysUptoRow, standIns := [], harness := (true, "8b7c36a5a25ecc3b908d8dc8d21f9a01b7cbd8f74e519018e2e87e0de8ae3b7b"), looks := true }, kinds := [], alts := [], laidByText := true, laidKinds := [.handle], laidTests := true, laidLooks := .later }
def ImageLaysUptoCardSaid : Prop := Claim7.holds Tryz.pinned (.plain (OpenSpec.upto imageLaysSpec)) imageLaysUptoCard

/-- THE SECOND FORM's CARD OF 'governorlaw15.ImageReads'. -/
def imageReadsUptoCard : Claim7 := { stood := { row := imageReadsUptoRow, standIns := [], harness := (true, "8b7c36a5a25ecc3b908d8dc8d21f9a01b7cbd8f74e519018e2e87e0de8ae3b7b"), looks := true }, kinds := [], alts := [], laidByText := true, laidKinds := [.handle], laidTests := true, laidLooks := .later }
def ImageReadsUptoCardSaid : Prop := Claim7.holds Tryz.pinned (.plain (OpenSpec.upto imageReadsSpec)) imageReadsUptoCard

/-- THE SECOND FORM's CARD OF 'governorlaw15.ImageBack'. -/
def imageBackUptoCard : Claim7 := { stood := { row := imageBackUptoRow, standIns := [], harness := (true, "8b7c36a5a25ecc3b908d8dc8d21f9a01b7cbd8f74e519018e2e87e0de8ae3b7b"), looks := true }, kinds := [], alts := [], laidByText := true, laidKinds := [.handle], laidTests := true, laidLooks := .later }
def ImageBackUptoCardSaid : Prop := Claim7.holds Tryz.pinned (.plain (OpenSpec.upto imageBackSpec)) imageBackUptoCard

/-- THE SECOND FORM's CARD OF 'governorlaw15.ImageFlips'. -/
def imageFlipsUptoCard : Claim7 := { stood := { row := imageFlipsUptoRow, standIns := [], harness := (true, "8b7c36a5a25ecc3b908d8dc8d21f9a01b7cbd8f74e519018e2e87e0de8ae3b7b"), looks := true }, kinds := [], alts := [], laidByText := true, laidKinds := [.handle], laidTests := true, laidLooks := .later }
def ImageFlipsUptoCardSaid : Prop := Claim7.holds Tryz.pinned (.plain (OpenSpec.upto imageFlipsSpec)) imageFlipsUptoCard
end Rows
end Go.Proofs.YtoaohoeghlidaaaGreatDoor
