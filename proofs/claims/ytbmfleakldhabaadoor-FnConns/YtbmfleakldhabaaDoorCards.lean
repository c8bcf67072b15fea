/-
  DERIVED. GIVEN WITH THE SEED: THE CARDS: each row of YtbmfleakldhabaaDoorRows.lean that lists a variable, with what it lists TIED to the program's text (the seventh form; the later family's looks); each row that meets fmt, with fmt's text TOLD by the authors' own Lean function (tested against real Go, not proved from fmt's source: count such statements apart). THE CARD IS WHAT COUNTS. Prove the row's statement (the work); the ties are given (YtbmfleakldhabaaDoorTie.lean); close each card by the builder's one call (the guide's Derived/Test/ToyasCard.lean, 'card_holds'). Laid BY PROGRAM, IN A SANDBOX (cutbox-door.mjs). By AI agents, Wed Nov 11 2026. No macro, syntax, notation, axiom, sorry.
-/
import Derived.Test.YtbmfleakldhabaaDoorRows
import GoSem.ClaimSeven
namespace Go.Proofs.YtbmfleakldhabaaDoor
namespace Rows

/-- THE TIED CARD OF 'laws.FnConns'. -/
def fnConnsCard : Claim7 := { stood := { row := fnConnsRow, standIns := [], harness := (true, "2f19595fb743fe8df77cf7f99bac655020cd6257e95170f9a862883072414168"), looks := false }, kinds := [], alts := [], laidByText := true, laidKinds := [.sentinel], laidTests := true, laidLooks := .later }
def FnConnsCardSaid : Prop := Claim7.holds Tryd.pinned (.plain (OpenSpec.ofChange fnConnsSpec)) fnConnsCard

/-- THE TIED CARD OF 'laws.FnExactStepConn'. -/
def fnExactStepConnCard : Claim7 := { stood := { row := fnExactStepConnRow, standIns := [], harness := (true, "2f19595fb743fe8df77cf7f99bac655020cd6257e95170f9a862883072414168"), looks := false }, kinds := [], alts := [], laidByText := true, laidKinds := [.sentinel], laidTests := true, laidLooks := .later }
def FnExactStepConnCardSaid : Prop := Claim7.holds Tryd.pinned (.plain (OpenSpec.ofChange fnExactStepConnSpec)) fnExactStepConnCard

/-- THE TIED CARD OF 'laws.FnExactPlayConn'. -/
def fnExactPlayConnCard : Claim7 := { stood := { row := fnExactPlayConnRow, standIns := [], harness := (true, "2f19595fb743fe8df77cf7f99bac655020cd6257e95170f9a862883072414168"), looks := false }, kinds := [], alts := [], laidByText := true, laidKinds := [.sentinel], laidTests := true, laidLooks := .later }
def FnExactPlayConnCardSaid : Prop := Claim7.holds Tryd.pinned (.plain (OpenSpec.ofChange fnExactPlayConnSpec)) fnExactPlayConnCard

/-- THE TIED CARD OF 'laws.FnExactConnText'. -/
def fnExactConnTextCard : Claim7 := { stood := { row := fnExactConnTextRow, standIns := [], harness := (true, "2f19595fb743fe8df77cf7f99bac655020cd6257e95170f9a862883072414168"), looks := false }, kinds := [], alts := [], laidByText := true, laidKinds := [.data, .data, .data, .data], laidTests := true, laidLooks := .later }
def FnExactConnTextCardSaid : Prop := Claim7.holds Tryd.pinned (.plain (OpenSpec.ofChange fnExactConnTextSpec)) fnExactConnTextCard

/-- THE SECOND FORM's CARD OF 'laws.FnConns'. -/
def fnConnsUptoCard : Claim7 := { stood := { row := fnConnsUptoRow, standIns := [], harness := (true, "2f19595fb743fe8df77cf7f99bac655020cd6257e95170f9a862883072414168"), looks := false }, kinds := [], alts := [], laidByText := true, laidKinds := [.sentinel], laidTests := true, laidLooks := .later }
def FnConnsUptoCardSaid : Prop := Claim7.holds Tryd.pinned (.plain (OpenSpec.upto fnConnsSpec)) fnConnsUptoCard

/-- THE SECOND FORM's CARD OF 'laws.FnExactStepConn'. -/
def fnExactStepConnUptoCard : Claim7 := { stood := { row := fnExactStepConnUptoRow, standIns := [], harness := (true, "2f19595fb743fe8df77cf7f99bac655020cd6257e95170f9a862883072414168"), looks := false }, kinds := [], alts := [], laidByText := true, laidKinds := [.sentinel], laidTests := true, laidLooks := .later }
def FnExactStepConnUptoCardSaid : Prop := Claim7.holds Tryd.pinned (.plain (OpenSpec.upto fnExactStepConnSpec)) fnExactStepConnUptoCard

/-- THE SECOND FORM's CARD OF 'laws.FnExactPlayConn'. -/
def fnExactPlayConnUptoCard : Claim7 := { stood := { row := fnExactPlayConnUptoRow, standIns := [], harness := (true, "2f19595fb743fe8df77cf7f99bac655020cd6257e95170f9a862883072414168"), looks := false }, kinds := [], alts := [], laidByText := true, laidKinds := [.sentinel], laidTests := true, laidLooks := .later }
def FnExactPlayConnUptoCardSaid : Prop := Claim7.holds Tryd.pinned (.plain (OpenSpec.upto fnExactPlayConnSpec)) fnExactPlayConnUptoCard

/-- THE SECOND FORM's CARD OF 'laws.FnExactConnText'. -/
def fnExactConnTextUptoCard : Claim7 := { stood := { row := fnExactConnTextUptoRow, standIns := [], harness := (true, "2f19595fb743fe8df77cf7f99bac655020cd6257e95170f9a862883072414168"), looks := false }, kinds := [], alts := [], laidByText := true, laidKinds := [.data, .data, .data, .data], laidTests := true, laidLooks := .later }
def FnExactConnTextUptoCardSaid : Prop := Claim7.holds Tryd.pinned (.plain (OpenSpec.upto fnExactConnTextSpec)) fnExactConnTextUptoCard
end Rows
end Go.Proofs.YtbmfleakldhabaaDoor
