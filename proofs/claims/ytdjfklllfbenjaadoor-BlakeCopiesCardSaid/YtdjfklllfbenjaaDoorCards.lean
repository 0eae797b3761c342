/-
  DERIVED. GIVEN WITH THE SEED: THE CARDS: each row of YtdjfklllfbenjaaDoorRows.lean that lists a variable, with what it lists TIED to the program's text (the seventh form; the later family's looks); each row that meets fmt, with fmt's text TOLD by the authors' own Lean function (tested against real Go, not proved from fmt's source: count such statements apart). THE CARD IS WHAT COUNTS. Prove the row's statement (the work); the ties are given (YtdjfklllfbenjaaDoorTie.lean); close each card by the builder's one call (the guide's Derived/Test/ToyasCard.lean, 'card_holds'). Laid BY PROGRAM, IN A SANDBOX (cutbox-door.mjs). By AI agents, Wed Nov 11 2026. No macro, syntax, notation, axiom, sorry.
-/
import Derived.Test.YtdjfklllfbenjaaDoorRows
import GoSem.ClaimSeven
namespace Go.Proofs.YtdjfklllfbenjaaDoor
namespace Rows

/-- THE TIED CARD OF 'bandplanlaw04.BlakeSums'. -/
def blakeSumsCard : Claim7 := { stood := { row := blakeSumsRow, standIns := [], harness := (true, "3c713923cf758f3d532dc91496b340fa4be48d045692fa437669881b2b20c718"), looks := false }, kinds := [], alts := [], laidByText := true, laidKinds := [.data, .data], laidTests := true, laidLooks := .later }
def BlakeSumsCardSaid : Prop := Claim7.holds Tryd.pinned (.plain (OpenSpec.ofChange blakeSumsSpec)) blakeSumsCard

/-- THE TIED CARD OF 'bandplanlaw04.BlakeKeys'. -/
def blakeKeysCard : Claim7 := { stood := { row := blakeKeysRow, standIns := [], harness := (true, "3c713923cf758f3d532dc91496b340fa4be48d045692fa437669881b2b20c718"), looks := false }, kinds := [], alts := [], laidByText := true, laidKinds := [.data, .data], laidTests := true, laidLooks := .later }
def BlakeKeysCardSaid : Prop := Claim7.holds Tryd.pinned (.plain (OpenSpec.ofChange blakeKeysSpec)) blakeKeysCard

/-- THE TIED CARD OF 'bandplanlaw04.BlakeParts'. -/
def blakePartsCard : Claim7 := { stood := { row := blakePartsRow, standIns := [], harness := (true, "3c713923cf758f3d532dc91496b340fa4be48d045692fa437669881b2b20c718"), looks := false }, kinds := [], alts := [], laidByText := true, laidKinds := [.data, .data], laidTests := true, laidLooks := .later }
def BlakePartsCardSaid : Prop := Claim7.holds Tryd.pinned (.plain (OpenSpec.ofChange blakePartsSpec)) blakePartsCard

/-- THE TIED CARD OF 'bandplanlaw04.BlakeLong'. -/
def blakeLongCard : Claim7 := { stood := { row := blakeLongRow, standIns := [], harness := (true, "3c713923cf758f3d532dc91496b340fa4be48d045692fa437669881b2b20c718"), looks := false }, kinds := [], alts := [], laidByText := true, laidKinds := [.data, .data], laidTests := true, laidLooks := .later }
def BlakeLongCardSaid : Prop := Claim7.holds Tryd.pinned (.plain (OpenSpec.ofChange blakeLongSpec)) blakeLongCard

/-- THE TIED CARD OF 'bandplanlaw04.BlakeCopies'. -/
def blakeCopiesCard : Claim7 := { stood := { row := blakeCopiesRow, standIns := [], harness := (true, "3c713923cf758f3d532dc91496b340fa4be48d045692fa437669881b2b20c718"), looks := false }, kinds := [], alts := [], laidByText := true, laidKinds := [.data, .data], laidTests := true, laidLooks := .later }
def BlakeCopiesCardSaid : Prop := Claim7.holds Tryd.pinned (.plain (OpenSpec.ofChange blakeCopiesSpec)) blakeCopiesCard

/-- THE TIED CARD OF 'bandplanlaw05.SealDerives'. -/
def sealDerivesCard : Claim7 := { stood := { row := sealDerivesRow, standIns := [], harness := (true, "3c713923cf758f3d532dc91496b340fa4be48d045692fa437669881b2b20c718"), looks := false }, kinds := [], alts := [], laidByText := true, laidKinds := [.data, .data], laidTests := true, laidLooks := .later }
def SealDerivesCardSaid : Prop := Claim7.holds Tryd.pinned (.plain (OpenSpec.ofChange sealDerivesSpec)) sealDerivesCard

/-- THE TIED CARD OF 'bandplanlaw05.SealStreams'. -/
def sealStreamsCard : Claim7 := { stood := { row := sealStreamsRow, standIns := [], harness := (true, "3c713923cf758f3d532dc91496b340fa4be48d045692fa437669881b2b20c718"), looks := false }, kinds := [], alts := [], laidByText := true, laidKinds := [.data, .data], laidTests := true, laidLooks := .later }
def SealStreamsCardSaid : Prop := Claim7.holds Tryd.pinned (.plain (OpenSpec.ofChange sealStreamsSpec)) sealStreamsCard

/-- THE TIED CARD OF 'bandplanlaw05.SealSeals'. -/
def sealSealsCard : Claim7 := { stood := { row := sealSealsRow, standIns := [], harness := (true, "3c713923cf758f3d532dc91496b340fa4be48d045692fa437669881b2b20c718"), looks := false }, kinds := [], alts := [], laidByText := true, laidKinds := [.data, .data], laidTests := true, laidLooks := .later }
def SealSealsCardSaid : Prop := Claim7.holds Tryd.pinned (.plain (OpenSpec.ofChange sealSealsSpec)) sealSealsCard

/-- THE TIED CARD OF 'bandplanlaw05.SealOpens'. -/
def sealOpensCard : Claim7 := { stood := { row := sealOpensRow, standIns := [], harness := (true, "3c713923cf758f3d532dc91496b340fa4be48d045692fa437669881b2b20c718"), looks := false }, kinds := [], alts := [], laidByText := true, laidKinds := [.data, .data], laidTests := true, laidLooks := .later }
def SealOpensCardSaid : Prop := Claim7.holds Tryd.pinned (.plain (OpenSpec.ofChange sealOpensSpec)) sealOpensCard

/-- THE TIED CARD OF 'bandplanlaw05.SealChanged'. -/
def sealChangedCard : Claim7 := { stood := { row := sealChangedRow, standIns := [], harness := (true, "3c713923cf758f3d532dc91496b340fa4be48d045692fa437669881b2b20c718"), looks := false }, kinds := [], alts := [], laidByText := true, laidKinds := [.data, .data], laidTests := true, laidLooks := .later }
def SealChangedCardSaid : Prop := Claim7.holds Tryd.pinned (.plain (OpenSpec.ofChange sealChangedSpec)) sealChangedCard

/-- THE TIED CARD OF 'bandplanlaw05.SealLimits'. -/
def sealLimitsCard : Claim7 := { stood := { row := sealLimitsRow, standIns := [], harness := (true, "3c713923cf758f3d532dc91496b340fa4be48d045692fa437669881b2b20c718"), looks := false }, kinds := [], alts := [], laidByText := true, laidKinds := [.data, .data], laidTests := true, laidLooks := .later }
def SealLimitsCardSaid : Prop := Claim7.holds Tryd.pinned (.plain (OpenSpec.ofChange sealLimitsSpec)) sealLimitsCard

/-- THE SECOND FORM's CARD OF 'bandplanlaw04.BlakeSums'. -/
def blakeSumsUptoCard : Claim7 := { stood := { row := blakeSumsUptoRow, standIns := [], harness := (true, "3c713923cf758f3d532dc91496b340fa4be48d045692fa437669881b2b20c718"), looks := false }, kinds := [], alts := [], laidByText := true, laidKinds := [.data, .data], laidTests := true, laidLooks := .later }
def BlakeSumsUptoCardSaid : Prop := Claim7.holds Tryd.pinned (.plain (OpenSpec.upto blakeSumsSpec)) blakeSumsUptoCard

/-- THE SECOND FORM's CARD OF 'bandplanlaw04.BlakeKeys'. -/
def blakeKeysUptoCard : Claim7 := { stood := { row := blakeKeysUptoRow, standIns := [], harness := (true, "3c713923cf758f3d532dc91496b340fa4be48d045692fa437669881b2b20c718"), looks := false }, kinds := [], alts := [], laidByText := true, laidKinds := [.data, .data], laidTests := true, laidLooks := .later }
def BlakeKeysUptoCardSaid : Prop := Claim7.holds Tryd.pinned (.plain (OpenSpec.upto blakeKeysSpec)) blakeKeysUptoCard

/-- THE SECOND FORM's CARD OF 'bandplanlaw04.BlakeParts'. -/
def blakePartsUptoCard : Claim7 := { stood := { row := blakePartsUptoRow, standIns := [], harness := (true, "3c713923cf758f3d532dc91496b340fa4be48d045692fa437669881b2b20c718"), looks := false }, kinds := [], alts := [], laidByText := true, laidKinds := [.data, .data], laidTests := true, laidLooks := .later }
def BlakePartsUptoCardSaid : Prop := Claim7.holds Tryd.pinned (.plain (OpenSpec.upto blakePartsSpec)) blakePartsUptoCard

/-- THE SECOND FORM's CARD OF 'bandplanlaw04.BlakeLong'. -/
def blakeLongUptoCard : Claim7 := { stood := { row := blakeLongUptoRow, standIns := [], harness := (true, "3c713923cf758f3d532dc91496b340fa4be48d045692fa437669881b2b20c718"), looks := false }, kinds := [], alts := [], laidByText := true, laidKinds := [.data, .data], laidTests := true, laidLooks := .later }
def BlakeLongUptoCardSaid : Prop := Claim7.holds Tryd.pinned (.plain (OpenSpec.upto blakeLongSpec)) blakeLongUptoCard

/-- THE SECOND FORM's CARD OF 'bandplanlaw04.BlakeCopies'. -/
def blakeCopiesUptoCard : Claim7 := { stood := { row := blakeCopiesUptoRow, standIns := [], harness := (true, "3c713923cf758f3d532dc91496b340fa4be48d045692fa437669881b2b20c718"), looks := false }, kinds := [], alts := [], laidByText := true, laidKinds := [.data, .data], laidTests := true, laidLooks := .later }
def BlakeCopiesUptoCardSaid : Prop := Claim7.holds Tryd.pinned (.plain (OpenSpec.upto blakeCopiesSpec)) blakeCopiesUptoCard

/-- THE SECOND FORM's CARD OF 'bandplanlaw05.SealDerives'. -/
def sealDerivesUptoCard : Claim7 := { stood := { row := sealDerivesUptoRow, standIns := [], harness := (true, "3c713923cf758f3d532dc91496b340fa4be48d045692fa437669881b2b20c718"), looks := false }, kinds := [], alts := [], laidByText := true, laidKinds := [.data, .data], laidTests := true, laidLooks := .later }
def SealDerivesUptoCardSaid : Prop := Claim7.holds Tryd.pinned (.plain (OpenSpec.upto sealDerivesSpec)) sealDerivesUptoCard

/-- THE SECOND FORM's CARD OF 'bandplanlaw05.SealStreams'. -/
def sealStreamsUptoCard : Claim7 := { stood := { row := sealStreamsUptoRow, standIns := [], harness := (true, "3c713923cf758f3d532dc91496b340fa4be48d045692fa437669881b2b20c718"), looks := false }, kinds := [], alts := [], laidByText := true, laidKinds := [.data, .data], laidTests := true, laidLooks := .later }
def SealStreamsUptoCardSaid : Prop := Claim7.holds Tryd.pinned (.plain (OpenSpec.upto sealStreamsSpec)) sealStreamsUptoCard

/-- THE SECOND FORM's CARD OF 'bandplanlaw05.SealSeals'. -/
def sealSealsUptoCard : Claim7 := { stood := { row := sealSealsUptoRow, standIns := [], harness := (true, "3c713923cf758f3d532dc91496b340fa4be48d045692fa437669881b2b20c718"), looks := false }, kinds := [], alts := [], laidByText := true, laidKinds := [.data, .data], laidTests := true, laidLooks := .later }
def SealSealsUptoCardSaid : Prop := Claim7.holds Tryd.pinned (.plain (OpenSpec.upto sealSealsSpec)) sealSealsUptoCard

/-- THE SECOND FORM's CARD OF 'bandplanlaw05.SealOpens'. -/
def sealOpensUptoCard : Claim7 := { stood := { row := sealOpensUptoRow, standIns := [], harness := (true, "3c713923cf758f3d532dc91496b340fa4be48d045692fa437669881b2b20c718"), looks := false }, kinds := [], alts := [], laidByText := true, laidKinds := [.data, .data], laidTests := true, laidLooks := .later }
def SealOpensUptoCardSaid : Prop := Claim7.holds Tryd.pinned (.plain (OpenSpec.upto sealOpensSpec)) sealOpensUptoCard

/-- THE SECOND FORM's CARD OF 'bandplanlaw05.SealChanged'. -/
def sealChangedUptoCard : Claim7 := { stood := { row := sealChangedUptoRow, standIns := [], harness := (true, "3c713923cf758f3d532dc91496b340fa4be48d045692fa437669881b2b20c718"), looks := false }, kinds := [], alts := [], laidByText := true, laidKinds := [.data, .data], laidTests := true, laidLooks := .later }
def SealChangedUptoCardSaid : Prop := Claim7.holds Tryd.pinned (.plain (OpenSpec.upto sealChangedSpec)) sealChangedUptoCard

/-- THE SECOND FORM's CARD OF 'bandplanlaw05.SealLimits'. -/
def sealLimitsUptoCard : Claim7 := { stood := { row := sealLimitsUptoRow, standIns := [], harness := (true, "3c713923cf758f3d532dc91496b340fa4be48d045692fa437669881b2b20c718"), looks := false }, kinds := [], alts := [], laidByText := true, laidKinds := [.data, .data], laidTests := true, laidLooks := .later }
def SealLimitsUptoCardSaid : Prop := Claim7.holds Tryd.pinned (.plain (OpenSpec.upto sealLimitsSpec)) sealLimitsUptoCard
end Rows
end Go.Proofs.YtdjfklllfbenjaaDoor
