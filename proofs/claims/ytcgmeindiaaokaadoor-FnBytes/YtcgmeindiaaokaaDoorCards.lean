/-
  DERIVED. GIVEN WITH THE SEED: THE CARDS: each row of YtcgmeindiaaokaaDoorRows.lean that lists a variable, with what it lists TIED to the program's text (the seventh form; the later family's looks); each row that meets fmt, with fmt's text TOLD by the authors' own Lean function (tested against real Go, not proved from fmt's source: count such statements apart). THE CARD IS WHAT COUNTS. Prove the row's statement (the work); the ties are given (YtcgmeindiaaokaaDoorTie.lean); close each card by the builder's one call (the guide's Derived/Test/ToyasCard.lean, 'card_holds'). Laid BY PROGRAM, IN A SANDBOX (cutbox-door.mjs). By AI agents, Wed Nov 11 2026. No macro, syntax, notation, axiom, sorry.
-/
import Derived.Test.YtcgmeindiaaokaaDoorRows
import GoSem.ClaimSeven
namespace Go.Proofs.YtcgmeindiaaokaaDoor
namespace Rows

/-- THE TIED CARD OF 'laws.FnBytes'. -/
def fnBytesCard : Claim7 := { stood := { row := fnBytesRow, standIns := [], harness := (true, "280ad7e5bbbc88c2a52f75ae33711d5239907ecf0a3790cbf0e4037d9775c3ff"), looks := true }, kinds := [], alts := [], laidByText := true, laidKinds := [.sentinel, .sentinel, .sentinel], laidTests := true, laidLooks := .later }
def FnBytesCardSaid : Prop := Claim7.holds Tryd.pinned (.plain (OpenSpec.ofChange fnBytesSpec)) fnBytesCard

/-- THE TIED CARD OF 'laws.FnExactTakeNumber'. -/
def fnExactTakeNumberCard : Claim7 := { stood := { row := fnExactTakeNumberRow, standIns := [], harness := (true, "280ad7e5bbbc88c2a52f75ae33711d5239907ecf0a3790cbf0e4037d9775c3ff"), looks := true }, kinds := [], alts := [], laidByText := true, laidKinds := [.sentinel], laidTests := true, laidLooks := .later }
def FnExactTakeNumberCardSaid : Prop := Claim7.holds Tryd.pinned (.plain (OpenSpec.ofChange fnExactTakeNumberSpec)) fnExactTakeNumberCard

/-- THE TIED CARD OF 'laws.FnExactTakeEvent'. -/
def fnExactTakeEventCard : Claim7 := { stood := { row := fnExactTakeEventRow, standIns := [], harness := (true, "280ad7e5bbbc88c2a52f75ae33711d5239907ecf0a3790cbf0e4037d9775c3ff"), looks := true }, kinds := [], alts := [], laidByText := true, laidKinds := [.sentinel, .sentinel], laidTests := true, laidLooks := .later }
def FnExactTakeEventCardSaid : Prop := Claim7.holds Tryd.pinned (.plain (OpenSpec.ofChange fnExactTakeEventSpec)) fnExactTakeEventCard

/-- THE TIED CARD OF 'laws.FnExactTakeLog'. -/
def fnExactTakeLogCard : Claim7 := { stood := { row := fnExactTakeLogRow, standIns := [], harness := (true, "280ad7e5bbbc88c2a52f75ae33711d5239907ecf0a3790cbf0e4037d9775c3ff"), looks := true }, kinds := [], alts := [], laidByText := true, laidKinds := [.sentinel, .sentinel, .sentinel], laidTests := true, laidLooks := .later }
def FnExactTakeLogCardSaid : Prop := Claim7.holds Tryd.pinned (.plain (OpenSpec.ofChange fnExactTakeLogSpec)) fnExactTakeLogCard

/-- THE TIED CARD OF 'laws.FnExactTakeMost'. -/
def fnExactTakeMostCard : Claim7 := { stood := { row := fnExactTakeMostRow, standIns := [], harness := (true, "280ad7e5bbbc88c2a52f75ae33711d5239907ecf0a3790cbf0e4037d9775c3ff"), looks := true }, kinds := [], alts := [], laidByText := true, laidKinds := [.sentinel, .sentinel, .sentinel], laidTests := true, laidLooks := .later }
def FnExactTakeMostCardSaid : Prop := Claim7.holds Tryd.pinned (.plain (OpenSpec.ofChange fnExactTakeMostSpec)) fnExactTakeMostCard

/-- THE SECOND FORM's CARD OF 'laws.FnBytes'. -/
def fnBytesUptoCard : Claim7 := { stood := { row := fnBytesUptoRow, standIns := [], harness := (true, "280ad7e5bbbc88c2a52f75ae33711d5239907ecf0a3790cbf0e4037d9775c3ff"), looks := true }, kinds := [], alts := [], laidByText := true, laidKinds := [.sentinel, .sentinel, .sentinel], laidTests := true, laidLooks := .later }
def FnBytesUptoCardSaid : Prop := Claim7.holds Tryd.pinned (.plain (OpenSpec.upto fnBytesSpec)) fnBytesUptoCard

/-- THE SECOND FORM's CARD OF 'laws.FnExactTakeNumber'. -/
def fnExactTakeNumberUptoCard : Claim7 := { stood := { row := fnExactTakeNumberUptoRow, standIns := [], harness := (true, "280ad7e5bbbc88c2a52f75ae33711d5239907ecf0a3790cbf0e4037d9775c3ff"), looks := true }, kinds := [], alts := [], laidByText := true, laidKinds := [.sentinel], laidTests := true, laidLooks := .later }
def FnExactTakeNumberUptoCardSaid : Prop := Claim7.holds Tryd.pinned (.plain (OpenSpec.upto fnExactTakeNumberSpec)) fnExactTakeNumberUptoCard

/-- THE SECOND FORM's CARD OF 'laws.FnExactTakeEvent'. -/
def fnExactTakeEventUptoCard : Claim7 := { stood := { row := fnExactTakeEventUptoRow, standIns := [], harness := (true, "280ad7e5bbbc88c2a52f75ae33711d5239907ecf0a3790cbf0e4037d9775c3ff"), looks := true }, kinds := [], alts := [], laidByText := true, laidKinds := [.sentinel, .sentinel], laidTests := true, laidLooks := .later }
def FnExactTakeEventUptoCardSaid : Prop := Claim7.holds Tryd.pinned (.plain (OpenSpec.upto fnExactTakeEventSpec)) fnExactTakeEventUptoCard

/-- THE SECOND FORM's CARD OF 'laws.FnExactTakeLog'. -/
def fnExactTakeLogUptoCard : Claim7 := { stood := { row := fnExactTakeLogUptoRow, standIns := [], harness := (true, "280ad7e5bbbc88c2a52f75ae33711d5239907ecf0a3790cbf0e4037d9775c3ff"), looks := true }, kinds := [], alts := [], laidByText := true, laidKinds := [.sentinel, .sentinel, .sentinel], laidTests := true, laidLooks := .later }
def FnExactTakeLogUptoCardSaid : Prop := Claim7.holds Tryd.pinned (.plain (OpenSpec.upto fnExactTakeLogSpec)) fnExactTakeLogUptoCard

/-- THE SECOND FORM's CARD OF 'laws.FnExactTakeMost'. -/
def fnExactTakeMostUptoCard : Claim7 := { stood := { row := fnExactTakeMostUptoRow, standIns := [], harness := (true, "280ad7e5bbbc88c2a52f75ae33711d5239907ecf0a3790cbf0e4037d9775c3ff"), looks := true }, kinds := [], alts := [], laidByText := true, laidKinds := [.sentinel, .sentinel, .sentinel], laidTests := true, laidLooks := .later }
def FnExactTakeMostUptoCardSaid : Prop := Claim7.holds Tryd.pinned (.plain (OpenSpec.upto fnExactTakeMostSpec)) fnExactTakeMostUptoCard
end Rows
end Go.Proofs.YtcgmeindiaaokaaDoor
