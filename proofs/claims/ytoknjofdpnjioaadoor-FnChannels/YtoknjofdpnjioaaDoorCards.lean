/-
  DERIVED. GIVEN WITH THE SEED: THE CARDS: each row of YtoknjofdpnjioaaDoorRows.lean that lists a variable, with what it lists TIED to the program's text (the seventh form; the later family's looks); each row that meets fmt, with fmt's text TOLD by the authors' own Lean function (tested against real Go, not proved from fmt's source: count such statements apart). THE CARD IS WHAT COUNTS. Prove the row's statement (the work); the ties are given (YtoknjofdpnjioaaDoorTie.lean); close each card by the builder's one call (the guide's Derived/Test/ToyasCard.lean, 'card_holds'). Laid BY PROGRAM, IN A SANDBOX (cutbox-door.mjs). By AI agents, Wed Nov 11 2026. No macro, syntax, notation, axiom, sorry.
-/
import Derived.Test.YtoknjofdpnjioaaDoorRows
import GoSem.ClaimSeven
namespace Go.Proofs.YtoknjofdpnjioaaDoor
namespace Rows

/-- THE TIED CARD OF 'laws.FnChannels'. -/
def fnChannelsCard : Claim7 := { stood := { row := fnChannelsRow, standIns := [], harness := (true, "109ab3a88f915d527db4198b4b9133d1ec6c67c71d502db20dec996f892cce7e"), looks := false }, kinds := [], alts := [], laidByText := true, laidKinds := [.data], laidTests := true, laidLooks := .later }
def FnChannelsCardSaid : Prop := Claim7.holds Tryd.pinned (.plain (OpenSpec.ofChange fnChannelsSpec)) fnChannelsCard

/-- THE TIED CARD OF 'laws.FnExactStepChannel'. -/
def fnExactStepChannelCard : Claim7 := { stood := { row := fnExactStepChannelRow, standIns := [], harness := (true, "109ab3a88f915d527db4198b4b9133d1ec6c67c71d502db20dec996f892cce7e"), looks := false }, kinds := [], alts := [], laidByText := true, laidKinds := [.data], laidTests := true, laidLooks := .later }
def FnExactStepChannelCardSaid : Prop := Claim7.holds Tryd.pinned (.plain (OpenSpec.ofChange fnExactStepChannelSpec)) fnExactStepChannelCard

/-- THE TIED CARD OF 'laws.FnExactPlayChannel'. -/
def fnExactPlayChannelCard : Claim7 := { stood := { row := fnExactPlayChannelRow, standIns := [], harness := (true, "109ab3a88f915d527db4198b4b9133d1ec6c67c71d502db20dec996f892cce7e"), looks := false }, kinds := [], alts := [], laidByText := true, laidKinds := [.data], laidTests := true, laidLooks := .later }
def FnExactPlayChannelCardSaid : Prop := Claim7.holds Tryd.pinned (.plain (OpenSpec.ofChange fnExactPlayChannelSpec)) fnExactPlayChannelCard

/-- THE TIED CARD OF 'laws.FnExactChannelName'. -/
def fnExactChannelNameCard : Claim7 := { stood := { row := fnExactChannelNameRow, standIns := [], harness := (true, "109ab3a88f915d527db4198b4b9133d1ec6c67c71d502db20dec996f892cce7e"), looks := false }, kinds := [], alts := [], laidByText := true, laidKinds := [.data], laidTests := true, laidLooks := .later }
def FnExactChannelNameCardSaid : Prop := Claim7.holds Tryd.pinned (.plain (OpenSpec.ofChange fnExactChannelNameSpec)) fnExactChannelNameCard

/-- THE TIED CARD OF 'laws.FnExactCanReach'. -/
def fnExactCanReachCard : Claim7 := { stood := { row := fnExactCanReachRow, standIns := [], harness := (true, "109ab3a88f915d527db4198b4b9133d1ec6c67c71d502db20dec996f892cce7e"), looks := false }, kinds := [], alts := [], laidByText := true, laidKinds := [.data], laidTests := true, laidLooks := .later }
def FnExactCanReachCardSaid : Prop := Claim7.holds Tryd.pinned (.plain (OpenSpec.ofChange fnExactCanReachSpec)) fnExactCanReachCard

/-- THE TIED CARD OF 'laws.FnExactShortestEvents'. -/
def fnExactShortestEventsCard : Claim7 := { stood := { row := fnExactShortestEventsRow, standIns := [], harness := (true, "109ab3a88f915d527db4198b4b9133d1ec6c67c71d502db20dec996f892cce7e"), looks := false }, kinds := [], alts := [], laidByText := true, laidKinds := [.data], laidTests := true, laidLooks := .later }
def FnExactShortestEventsCardSaid : Prop := Claim7.holds Tryd.pinned (.plain (OpenSpec.ofChange fnExactShortestEventsSpec)) fnExactShortestEventsCard

/-- THE TIED CARD OF 'laws.FnExactWatched'. -/
def fnExactWatchedCard : Claim7 := { stood := { row := fnExactWatchedRow, standIns := [], harness := (true, "109ab3a88f915d527db4198b4b9133d1ec6c67c71d502db20dec996f892cce7e"), looks := false }, kinds := [], alts := [], laidByText := true, laidKinds := [.data], laidTests := true, laidLooks := .later }
def FnExactWatchedCardSaid : Prop := Claim7.holds Tryd.pinned (.plain (OpenSpec.ofChange fnExactWatchedSpec)) fnExactWatchedCard

/-- THE SECOND FORM's CARD OF 'laws.FnChannels'. -/
def fnChannelsUptoCard : Claim7 := { stood := { row := fnChannelsUptoRow, standIns := [], harness := (true, "109ab3a88f915d527db4198b4b9133d1ec6c67c71d502db20dec996f892cce7e"), looks := false }, kinds := [], alts := [], laidByText := true, laidKinds := [.data], laidTests := true, laidLooks := .later }
def FnChannelsUptoCardSaid : Prop := Claim7.holds Tryd.pinned (.plain (OpenSpec.upto fnChannelsSpec)) fnChannelsUptoCard

/-- THE SECOND FORM's CARD OF 'laws.FnExactStepChannel'. -/
def fnExactStepChannelUptoCard : Claim7 := { stood := { row := fnExactStepChannelUptoRow, standIns := [], harness := (true, "109ab3a88f915d527db4198b4b9133d1ec6c67c71d502db20dec996f892cce7e"), looks := false }, kinds := [], alts := [], laidByText := true, laidKinds := [.data], laidTests := true, laidLooks := .later }
def FnExactStepChannelUptoCardSaid : Prop := Claim7.holds Tryd.pinned (.plain (OpenSpec.upto fnExactStepChannelSpec)) fnExactStepChannelUptoCard

/-- THE SECOND FORM's CARD OF 'laws.FnExactPlayChannel'. -/
def fnExactPlayChannelUptoCard : Claim7 := { stood := { row := fnExactPlayChannelUptoRow, standIns := [], harness := (true, "109ab3a88f915d527db4198b4b9133d1ec6c67c71d502db20dec996f892cce7e"), looks := false }, kinds := [], alts := [], laidByText := true, laidKinds := [.data], laidTests := true, laidLooks := .later }
def FnExactPlayChannelUptoCardSaid : Prop := Claim7.holds Tryd.pinned (.plain (OpenSpec.upto fnExactPlayChannelSpec)) fnExactPlayChannelUptoCard

/-- THE SECOND FORM's CARD OF 'laws.FnExactChannelName'. -/
def fnExactChannelNameUptoCard : Claim7 := { stood := { row := fnExactChannelNameUptoRow, standIns := [], harness := (true, "109ab3a88f915d527db4198b4b9133d1ec6c67c71d502db20dec996f892cce7e"), looks := false }, kinds := [], alts := [], laidByText := true, laidKinds := [.data], laidTests := true, laidLooks := .later }
def FnExactChannelNameUptoCardSaid : Prop := Claim7.holds Tryd.pinned (.plain (OpenSpec.upto fnExactChannelNameSpec)) fnExactChannelNameUptoCard

/-- THE SECOND FORM's CARD OF 'laws.FnExactCanReach'. -/
def fnExactCanReachUptoCard : Claim7 := { stood := { row := fnExactCanReachUptoRow, standIns := [], harness := (true, "109ab3a88f915d527db4198b4b9133d1ec6c67c71d502db20dec996f892cce7e"), looks := false }, kinds := [], alts := [], laidByText := true, laidKinds := [.data], laidTests := true, laidLooks := .later }
def FnExactCanReachUptoCardSaid : Prop := Claim7.holds Tryd.pinned (.plain (OpenSpec.upto fnExactCanReachSpec)) fnExactCanReachUptoCard

/-- THE SECOND FORM's CARD OF 'laws.FnExactShortestEvents'. -/
def fnExactShortestEventsUptoCard : Claim7 := { stood := { row := fnExactShortestEventsUptoRow, standIns := [], harness := (true, "109ab3a88f915d527db4198b4b9133d1ec6c67c71d502db20dec996f892cce7e"), looks := false }, kinds := [], alts := [], laidByText := true, laidKinds := [.data], laidTests := true, laidLooks := .later }
def FnExactShortestEventsUptoCardSaid : Prop := Claim7.holds Tryd.pinned (.plain (OpenSpec.upto fnExactShortestEventsSpec)) fnExactShortestEventsUptoCard

/-- THE SECOND FORM's CARD OF 'laws.FnExactWatched'. -/
def fnExactWatchedUptoCard : Claim7 := { stood := { row := fnExactWatchedUptoRow, standIns := [], harness := (true, "109ab3a88f915d527db4198b4b9133d1ec6c67c71d502db20dec996f892cce7e"), looks := false }, kinds := [], alts := [], laidByText := true, laidKinds := [.data], laidTests := true, laidLooks := .later }
def FnExactWatchedUptoCardSaid : Prop := Claim7.holds Tryd.pinned (.plain (OpenSpec.upto fnExactWatchedSpec)) fnExactWatchedUptoCard
end Rows
end Go.Proofs.YtoknjofdpnjioaaDoor
