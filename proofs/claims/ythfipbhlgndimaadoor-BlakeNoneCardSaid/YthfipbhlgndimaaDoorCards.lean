/-
  DERIVED. GIVEN WITH THE SEED: THE CARDS: each row of YthfipbhlgndimaaDoorRows.lean that lists a variable, with what it lists TIED to the program's text (the seventh form; the later family's looks); each row that meets fmt, with fmt's text TOLD by the authors' own Lean function (tested against real Go, not proved from fmt's source: count such statements apart). THE CARD IS WHAT COUNTS. Prove the row's statement (the work); the ties are given (YthfipbhlgndimaaDoorTie.lean); close each card by the builder's one call (the guide's Derived/Test/ToyasCard.lean, 'card_holds'). Laid BY PROGRAM, IN A SANDBOX (cutbox-door.mjs). By AI agents, Wed Nov 11 2026. No macro, syntax, notation, axiom, sorry.
-/
import Derived.Test.YthfipbhlgndimaaDoorRows
import GoSem.ClaimSeven
namespace Go.Proofs.YthfipbhlgndimaaDoor
namespace Rows

/-- THE TIED CARD OF 'bandplanlaw04.BlakeSums'. -/
def blakeSumsCard : Claim7 := { stood := { row := blakeSumsRow, standIns := [], harness := (true, "ea86acd9724af565efcbfdb6df734c7c36cac4ea6903b613cd473c60149ee4c4"), looks := false }, kinds := [], alts := [], laidByText := true, laidKinds := [.data, .data], laidTests := true, laidLooks := .later }
def BlakeSumsCardSaid : Prop := Claim7.holds Tryd.pinned (.plain (OpenSpec.ofChange blakeSumsSpec)) blakeSumsCard

/-- THE TIED CARD OF 'bandplanlaw04.BlakeKeys'. -/
def blakeKeysCard : Claim7 := { stood := { row := blakeKeysRow, standIns := [], harness := (true, "ea86acd9724af565efcbfdb6df734c7c36cac4ea6903b613cd473c60149ee4c4"), looks := false }, kinds := [], alts := [], laidByText := true, laidKinds := [.data, .data], laidTests := true, laidLooks := .later }
def BlakeKeysCardSaid : Prop := Claim7.holds Tryd.pinned (.plain (OpenSpec.ofChange blakeKeysSpec)) blakeKeysCard

/-- THE TIED CARD OF 'bandplanlaw04.BlakeParts'. -/
def blakePartsCard : Claim7 := { stood := { row := blakePartsRow, standIns := [], harness := (true, "ea86acd9724af565efcbfdb6df734c7c36cac4ea6903b613cd473c60149ee4c4"), looks := false }, kinds := [], alts := [], laidByText := true, laidKinds := [.data, .data], laidTests := true, laidLooks := .later }
def BlakePartsCardSaid : Prop := Claim7.holds Tryd.pinned (.plain (OpenSpec.ofChange blakePartsSpec)) blakePartsCard

/-- THE TIED CARD OF 'bandplanlaw04.BlakeLong'. -/
def blakeLongCard : Claim7 := { stood := { row := blakeLongRow, standIns := [], harness := (true, "ea86acd9724af565efcbfdb6df734c7c36cac4ea6903b613cd473c60149ee4c4"), looks := false }, kinds := [], alts := [], laidByText := true, laidKinds := [.data, .data], laidTests := true, laidLooks := .later }
def BlakeLongCardSaid : Prop := Claim7.holds Tryd.pinned (.plain (OpenSpec.ofChange blakeLongSpec)) blakeLongCard

/-- THE TIED CARD OF 'bandplanlaw04.BlakeCopies'. -/
def blakeCopiesCard : Claim7 := { stood := { row := blakeCopiesRow, standIns := [], harness := (true, "ea86acd9724af565efcbfdb6df734c7c36cac4ea6903b613cd473c60149ee4c4"), looks := false }, kinds := [], alts := [], laidByText := true, laidKinds := [.data, .data], laidTests := true, laidLooks := .later }
def BlakeCopiesCardSaid : Prop := Claim7.holds Tryd.pinned (.plain (OpenSpec.ofChange blakeCopiesSpec)) blakeCopiesCard

/-- THE TIED CARD OF 'bandplanlaw04.BlakeNone'. -/
def blakeNoneCard : Claim7 := { stood := { row := blakeNoneRow, standIns := [], harness := (true, "ea86acd9724af565efcbfdb6df734c7c36cac4ea6903b613cd473c60149ee4c4"), looks := false }, kinds := [], alts := [], laidByText := true, laidKinds := [.data, .data], laidTests := true, laidLooks := .later }
def BlakeNoneCardSaid : Prop := Claim7.holds Tryd.pinned (.plain (OpenSpec.ofChange blakeNoneSpec)) blakeNoneCard

/-- THE SECOND FORM's CARD OF 'bandplanlaw04.BlakeSums'. -/
def blakeSumsUptoCard : Claim7 := { stood := { row := blakeSumsUptoRow, standIns := [], harness := (true, "ea86acd9724af565efcbfdb6df734c7c36cac4ea6903b613cd473c60149ee4c4"), looks := false }, kinds := [], alts := [], laidByText := true, laidKinds := [.data, .data], laidTests := true, laidLooks := .later }
def BlakeSumsUptoCardSaid : Prop := Claim7.holds Tryd.pinned (.plain (OpenSpec.upto blakeSumsSpec)) blakeSumsUptoCard

/-- THE SECOND FORM's CARD OF 'bandplanlaw04.BlakeKeys'. -/
def blakeKeysUptoCard : Claim7 := { stood := { row := blakeKeysUptoRow, standIns := [], harness := (true, "ea86acd9724af565efcbfdb6df734c7c36cac4ea6903b613cd473c60149ee4c4"), looks := false }, kinds := [], alts := [], laidByText := true, laidKinds := [.data, .data], laidTests := true, laidLooks := .later }
def BlakeKeysUptoCardSaid : Prop := Claim7.holds Tryd.pinned (.plain (OpenSpec.upto blakeKeysSpec)) blakeKeysUptoCard

/-- THE SECOND FORM's CARD OF 'bandplanlaw04.BlakeParts'. -/
def blakePartsUptoCard : Claim7 := { stood := { row := blakePartsUptoRow, standIns := [], harness := (true, "ea86acd9724af565efcbfdb6df734c7c36cac4ea6903b613cd473c60149ee4c4"), looks := false }, kinds := [], alts := [], laidByText := true, laidKinds := [.data, .data], laidTests := true, laidLooks := .later }
def BlakePartsUptoCardSaid : Prop := Claim7.holds Tryd.pinned (.plain (OpenSpec.upto blakePartsSpec)) blakePartsUptoCard

/-- THE SECOND FORM's CARD OF 'bandplanlaw04.BlakeLong'. -/
def blakeLongUptoCard : Claim7 := { stood := { row := blakeLongUptoRow, standIns := [], harness := (true, "ea86acd9724af565efcbfdb6df734c7c36cac4ea6903b613cd473c60149ee4c4"), looks := false }, kinds := [], alts := [], laidByText := true, laidKinds := [.data, .data], laidTests := true, laidLooks := .later }
def BlakeLongUptoCardSaid : Prop := Claim7.holds Tryd.pinned (.plain (OpenSpec.upto blakeLongSpec)) blakeLongUptoCard

/-- THE SECOND FORM's CARD OF 'bandplanlaw04.BlakeCopies'. -/
def blakeCopiesUptoCard : Claim7 := { stood := { row := blakeCopiesUptoRow, standIns := [], harness := (true, "ea86acd9724af565efcbfdb6df734c7c36cac4ea6903b613cd473c60149ee4c4"), looks := false }, kinds := [], alts := [], laidByText := true, laidKinds := [.data, .data], laidTests := true, laidLooks := .later }
def BlakeCopiesUptoCardSaid : Prop := Claim7.holds Tryd.pinned (.plain (OpenSpec.upto blakeCopiesSpec)) blakeCopiesUptoCard

/-- THE SECOND FORM's CARD OF 'bandplanlaw04.BlakeNone'. -/
def blakeNoneUptoCard : Claim7 := { stood := { row := blakeNoneUptoRow, standIns := [], harness := (true, "ea86acd9724af565efcbfdb6df734c7c36cac4ea6903b613cd473c60149ee4c4"), looks := false }, kinds := [], alts := [], laidByText := true, laidKinds := [.data, .data], laidTests := true, laidLooks := .later }
def BlakeNoneUptoCardSaid : Prop := Claim7.holds Tryd.pinned (.plain (OpenSpec.upto blakeNoneSpec)) blakeNoneUptoCard
end Rows
end Go.Proofs.YthfipbhlgndimaaDoor
