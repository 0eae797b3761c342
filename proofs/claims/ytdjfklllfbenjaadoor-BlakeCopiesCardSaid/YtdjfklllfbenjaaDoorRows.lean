/-
  NARROWER THAN 'FOR EVERY INPUT', by the rows' own cells (each row's printed sentence says how): BlakeSums: laid · BlakeKeys: laid · BlakeParts: laid · BlakeLong: laid · BlakeCopies: laid · SealDerives: laid · SealStreams: laid · SealSeals: laid · SealOpens: laid · SealChanged: laid · SealLimits: laid.
  DERIVED. THE GIVEN ROWS OF THIS SEAT. 11 by the template 'for every input the law returns true; each argument reads behind the call as it read before'; 0 by the template 'total and deterministic' (their statements: YtdjfklllfbenjaaDoorTotals.lean).
  GIVEN WITH THE SEED: the statements are not yours to turn. If you find one false, say at which input.
  Laid BY PROGRAM, IN A SANDBOX (cutbox-rows.mjs): the forced cells as the released guide's own fill.sh prints them over the translation 28d8eac570005299… (all of the seat's roots in one cut). By AI agents, Wed Nov 11 2026. No macro, syntax, notation, axiom, sorry.
-/
import Derived.Test.YtdjfklllfbenjaaDoorChecked
import GoSem.Claim
import GoSem.ClaimJoined
import GoSem.ClaimMapViews
import Derived.JoinedTies
import Derived.KernelRfl
namespace Go.Proofs.YtdjfklllfbenjaaDoor
/- THE CELL 'sum', in the pinned program and in every row, IS THE sha256 OF THE DUMP (.gsa) THAT YtdjfklllfbenjaaDoorProg.lean LOADS. Nothing in Lean hashes anything: it is a label: what it is worth is what the hold of that sum in a sandbox is worth. -/
noncomputable def Tryd.pinned : Pinned := { name := "ytdjfklllfbenjaadoor", sum := "28d8eac57000529920179641cf3af564b35d9721309bb9c76ee067c0b98e5c95", checked := Tryd.checked }
namespace Rows
def none {H : Type} : Left H := { results := [], args := [] }

/- WHAT THE LISTED PACKAGE-LEVEL VARIABLES READ AS WHEN THE CALL BEGINS. Each datum BY PROGRAM (the guide's laid-datum.mjs) off the statement by which the dump's own 'gosem.cut.vars' lays the variable. In a bare row this is a premise. The card (YtdjfklllfbenjaaDoorCards.lean) ties it to the program's text. -/
def laid_bandplan_blake_initialWords {H : Type} : DataW H := .agg [.lit (.int .u32 1779033703), .lit (.int .u32 3144134277), .lit (.int .u32 1013904242), .lit (.int .u32 2773480762), .lit (.int .u32 1359893119), .lit (.int .u32 2600822924), .lit (.int .u32 528734635), .lit (.int .u32 1541459225)]
def laid_bandplan_blake_rows {H : Type} : DataW H := .agg [.agg [.lit (.int .u8 0), .lit (.int .u8 1), .lit (.int .u8 2), .lit (.int .u8 3), .lit (.int .u8 4), .lit (.int .u8 5), .lit (.int .u8 6), .lit (.int .u8 7), .lit (.int .u8 8), .lit (.int .u8 9), .lit (.int .u8 10), .lit (.int .u8 11), .lit (.int .u8 12), .lit (.int .u8 13), .lit (.int .u8 14), .lit (.int .u8 15)], .agg [.lit (.int .u8 14), .lit (.int .u8 10), .lit (.int .u8 4), .lit (.int .u8 8), .lit (.int .u8 9), .lit (.int .u8 15), .lit (.int .u8 13), .lit (.int .u8 6), .lit (.int .u8 1), .lit (.int .u8 12), .lit (.int .u8 0), .lit (.int .u8 2), .lit (.int .u8 11), .lit (.int .u8 7), .lit (.int .u8 5), .lit (.int .u8 3)], .agg [.lit (.int .u8 11), .lit (.int .u8 8), .lit (.int .u8 12), .lit (.int .u8 0), .lit (.int .u8 5), .lit (.int .u8 2), .lit (.int .u8 15), .lit (.int .u8 13), .lit (.int .u8 10), .lit (.int .u8 14), .lit (.int .u8 3), .lit (.int .u8 6), .lit (.int .u8 7), .lit (.int .u8 1), .lit (.int .u8 9), .lit (.int .u8 4)], .agg [.lit (.int .u8 7), .lit (.int .u8 9), .lit (.int .u8 3), .lit (.int .u8 1), .lit (.int .u8 13), .lit (.int .u8 12), .lit (.int .u8 11), .lit (.int .u8 14), .lit (.int .u8 2), .lit (.int .u8 6), .lit (.int .u8 5), .lit (.int .u8 10), .lit (.int .u8 4), .lit (.int .u8 0), .lit (.int .u8 15), .lit (.int .u8 8)], .agg [.lit (.int .u8 9), .lit (.int .u8 0), .lit (.int .u8 5), .lit (.int .u8 7), .lit (.int .u8 2), .lit (.int .u8 4), .lit (.int .u8 10), .lit (.int .u8 15), .lit (.int .u8 14), .lit (.int .u8 1), .lit (.int .u8 11), .lit (.int .u8 12), .lit (.int .u8 6), .lit (.int .u8 8), .lit (.int .u8 3), .lit (.int .u8 13)], .agg [.lit (.int .u8 2), .lit (.int .u8 12), .lit (.int .u8 6), .lit (.int .u8 10), .lit (.int .u8 0), .lit (.int .u8 11), .lit (.int .u8 8), .lit (.int .u8 3), .lit (.int .u8 4), .lit (.int .u8 13), .lit (.int .u8 7), .lit (.int .u8 5), .lit (.int .u8 15), .lit (.int .u8 14), .lit (.int .u8 1), .lit (.int .u8 9)], .agg [.lit (.int .u8 12), .lit (.int .u8 5), .lit (.int .u8 1), .lit (.int .u8 15), .lit (.int .u8 14), .lit (.int .u8 13), .lit (.int .u8 4), .lit (.int .u8 10), .lit (.int .u8 0), .lit (.int .u8 7), .lit (.int .u8 6), .lit (.int .u8 3), .lit (.int .u8 9), .lit (.int .u8 2), .lit (.int .u8 8), .lit (.int .u8 11)], .agg [.lit (.int .u8 13), .lit (.int .u8 11), .lit (.int .u8 7), .lit (.int .u8 14), .lit (.int .u8 12), .lit (.int .u8 1), .lit (.int .u8 3), .lit (.int .u8 9), .lit (.int .u8 5), .lit (.int .u8 0), .lit (.int .u8 15), .lit (.int .u8 4), .lit (.int .u8 8), .lit (.int .u8 6), .lit (.int .u8 2), .lit (.int .u8 10)], .agg [.lit (.int .u8 6), .lit (.int .u8 15), .lit (.int .u8 14), .lit (.int .u8 9), .lit (.int .u8 11), .lit (.int .u8 3), .lit (.int .u8 0), .lit (.int .u8 8), .lit (.int .u8 12), .lit (.int .u8 2), .lit (.int .u8 13), .lit (.int .u8 7), .lit (.int .u8 1), .lit (.int .u8 4), .lit (.int .u8 10), .lit (.int .u8 5)], .agg [.lit (.int .u8 10), .lit (.int .u8 2), .lit (.int .u8 8), .lit (.int .u8 4), .lit (.int .u8 7), .lit (.int .u8 6), .lit (.int .u8 1), .lit (.int .u8 5), .lit (.int .u8 15), .lit (.int .u8 11), .lit (.int .u8 9), .lit (.int .u8 14), .lit (.int .u8 3), .lit (.int .u8 12), .lit (.int .u8 13), .lit (.int .u8 0)]]

/-- 'bandplanlaw04.BlakeSums': WHATEVER THE INPUT: true; the input reads as it did. -/
def blakeSumsSpec : ChangeSpec := { name := "blakeSums", fn := fun _ => fun
  | [d] => { results := [.lit (.bool true)], args := [d] }
  | _ => none }
def blakeSumsRow : OpenClaim := { program := "ytdjfklllfbenjaadoor", sum := "28d8eac57000529920179641cf3af564b35d9721309bb9c76ee067c0b98e5c95", func := "bandplan/bandplanlaw04.BlakeSums", spec := "blakeSums", named := ["bandplan/blake.initialWords", "bandplan/blake.rows"], apart := false, laid := [("bandplan/blake.initialWords", laid_bandplan_blake_initialWords), ("bandplan/blake.rows", laid_bandplan_blake_rows)] }
def BlakeSumsSaid : Prop := blakeSumsRow.holds Tryd.pinned (OpenSpec.ofChange blakeSumsSpec)

/-- ITS FALSE NEIGHBOUR: 'it returns false'. Refute it at one input. -/
def blakeSumsWrong : ChangeSpec := { name := "blakeSums", fn := fun _ => fun
  | [d] => { results := [.lit (.bool false)], args := [d] }
  | _ => none }
def BlakeSumsWrongFalsely : Prop := blakeSumsRow.holds Tryd.pinned (OpenSpec.ofChange blakeSumsWrong)

/-- 'bandplanlaw04.BlakeKeys': WHATEVER THE INPUT: true; the input reads as it did. -/
def blakeKeysSpec : ChangeSpec := { name := "blakeKeys", fn := fun _ => fun
  | [d1, d2] => { results := [.lit (.bool true)], args := [d1, d2] }
  | _ => none }
def blakeKeysRow : OpenClaim := { program := "ytdjfklllfbenjaadoor", sum := "28d8eac57000529920179641cf3af564b35d9721309bb9c76ee067c0b98e5c95", func := "bandplan/bandplanlaw04.BlakeKeys", spec := "blakeKeys", named := ["bandplan/blake.initialWords", "bandplan/blake.rows"], apart := false, laid := [("bandplan/blake.initialWords", laid_bandplan_blake_initialWords), ("bandplan/blake.rows", laid_bandplan_blake_rows)] }
def BlakeKeysSaid : Prop := blakeKeysRow.holds Tryd.pinned (OpenSpec.ofChange blakeKeysSpec)

/-- ITS FALSE NEIGHBOUR: 'it returns false'. Refute it at one input. -/
def blakeKeysWrong : ChangeSpec := { name := "blakeKeys", fn := fun _ => fun
  | [d1, d2] => { results := [.lit (.bool false)], args := [d1, d2] }
  | _ => none }
def BlakeKeysWrongFalsely : Prop := blakeKeysRow.holds Tryd.pinned (OpenSpec.ofChange blakeKeysWrong)

/-- 'bandplanlaw04.BlakeParts': WHATEVER THE INPUT: true; the input reads as it did. -/
def blakePartsSpec : ChangeSpec := { name := "blakeParts", fn := fun _ => fun
  | [d1, d2] => { results := [.lit (.bool true)], args := [d1, d2] }
  | _ => none }
def blakePartsRow : OpenClaim := { program := "ytdjfklllfbenjaadoor", sum := "28d8eac57000529920179641cf3af564b35d9721309bb9c76ee067c0b98e5c95", func := "bandplan/bandplanlaw04.BlakeParts", spec := "blakeParts", named := ["bandplan/blake.initialWords", "bandplan/blake.rows"], apart := false, laid := [("bandplan/blake.initialWords", laid_bandplan_blake_initialWords), ("bandplan/blake.rows", laid_bandplan_blake_rows)] }
def BlakePartsSaid : Prop := blakePartsRow.holds Tryd.pinned (OpenSpec.ofChange blakePartsSpec)

/-- ITS FALSE NEIGHBOUR: 'it returns false'. Refute it at one input. -/
def blakePartsWrong : ChangeSpec := { name := "blakeParts", fn := fun _ => fun
  | [d1, d2] => { results := [.lit (.bool false)], args := [d1, d2] }
  | _ => none }
def BlakePartsWrongFalsely : Prop := blakePartsRow.holds Tryd.pinned (OpenSpec.ofChange blakePartsWrong)

/-- 'bandplanlaw04.BlakeLong': WHATEVER THE INPUT: true; the input reads as it did. -/
def blakeLongSpec : ChangeSpec := { name := "blakeLong", fn := fun _ => fun
  | [d1, d2, d3] => { results := [.lit (.bool true)], args := [d1, d2, d3] }
  | _ => none }
def blakeLongRow : OpenClaim := { program := "ytdjfklllfbenjaadoor", sum := "28d8eac57000529920179641cf3af564b35d9721309bb9c76ee067c0b98e5c95", func := "bandplan/bandplanlaw04.BlakeLong", spec := "blakeLong", named := ["bandplan/blake.initialWords", "bandplan/blake.rows"], apart := false, laid := [("bandplan/blake.initialWords", laid_bandplan_blake_initialWords), ("bandplan/blake.rows", laid_bandplan_blake_rows)] }
def BlakeLongSaid : Prop := blakeLongRow.holds Tryd.pinned (OpenSpec.ofChange blakeLongSpec)

/-- ITS FALSE NEIGHBOUR: 'it returns false'. Refute it at one input. -/
def blakeLongWrong : ChangeSpec := { name := "blakeLong", fn := fun _ => fun
  | [d1, d2, d3] => { results := [.lit (.bool false)], args := [d1, d2, d3] }
  | _ => none }
def BlakeLongWrongFalsely : Prop := blakeLongRow.holds Tryd.pinned (OpenSpec.ofChange blakeLongWrong)

/-- 'bandplanlaw04.BlakeCopies': WHATEVER THE INPUT: true; the input reads as it did. -/
def blakeCopiesSpec : ChangeSpec := { name := "blakeCopies", fn := fun _ => fun
  | [d1, d2, d3, d4] => { results := [.lit (.bool true)], args := [d1, d2, d3, d4] }
  | _ => none }
def blakeCopiesRow : OpenClaim := { program := "ytdjfklllfbenjaadoor", sum := "28d8eac57000529920179641cf3af564b35d9721309bb9c76ee067c0b98e5c95", func := "bandplan/bandplanlaw04.BlakeCopies", spec := "blakeCopies", named := ["bandplan/blake.initialWords", "bandplan/blake.rows"], apart := false, laid := [("bandplan/blake.initialWords", laid_bandplan_blake_initialWords), ("bandplan/blake.rows", laid_bandplan_blake_rows)] }
def BlakeCopiesSaid : Prop := blakeCopiesRow.holds Tryd.pinned (OpenSpec.ofChange blakeCopiesSpec)

/-- ITS FALSE NEIGHBOUR: 'it returns false'. Refute it at one input. -/
def blakeCopiesWrong : ChangeSpec := { name := "blakeCopies", fn := fun _ => fun
  | [d1, d2, d3, d4] => { results := [.lit (.bool false)], args := [d1, d2, d3, d4] }
  | _ => none }
def BlakeCopiesWrongFalsely : Prop := blakeCopiesRow.holds Tryd.pinned (OpenSpec.ofChange blakeCopiesWrong)

/-- 'bandplanlaw05.SealDerives': WHATEVER THE INPUT: true; the input reads as it did. -/
def sealDerivesSpec : ChangeSpec := { name := "sealDerives", fn := fun _ => fun
  | [d1, d2] => { results := [.lit (.bool true)], args := [d1, d2] }
  | _ => none }
def sealDerivesRow : OpenClaim := { program := "ytdjfklllfbenjaadoor", sum := "28d8eac57000529920179641cf3af564b35d9721309bb9c76ee067c0b98e5c95", func := "bandplan/bandplanlaw05.SealDerives", spec := "sealDerives", named := ["bandplan/blake.initialWords", "bandplan/blake.rows"], apart := false, laid := [("bandplan/blake.initialWords", laid_bandplan_blake_initialWords), ("bandplan/blake.rows", laid_bandplan_blake_rows)] }
def SealDerivesSaid : Prop := sealDerivesRow.holds Tryd.pinned (OpenSpec.ofChange sealDerivesSpec)

/-- ITS FALSE NEIGHBOUR: 'it returns false'. Refute it at one input. -/
def sealDerivesWrong : ChangeSpec := { name := "sealDerives", fn := fun _ => fun
  | [d1, d2] => { results := [.lit (.bool false)], args := [d1, d2] }
  | _ => none }
def SealDerivesWrongFalsely : Prop := sealDerivesRow.holds Tryd.pinned (OpenSpec.ofChange sealDerivesWrong)

/-- 'bandplanlaw05.SealStreams': WHATEVER THE INPUT: true; the input reads as it did. -/
def sealStreamsSpec : ChangeSpec := { name := "sealStreams", fn := fun _ => fun
  | [d1, d2, d3] => { results := [.lit (.bool true)], args := [d1, d2, d3] }
  | _ => none }
def sealStreamsRow : OpenClaim := { program := "ytdjfklllfbenjaadoor", sum := "28d8eac57000529920179641cf3af564b35d9721309bb9c76ee067c0b98e5c95", func := "bandplan/bandplanlaw05.SealStreams", spec := "sealStreams", named := ["bandplan/blake.initialWords", "bandplan/blake.rows"], apart := false, laid := [("bandplan/blake.initialWords", laid_bandplan_blake_initialWords), ("bandplan/blake.rows", laid_bandplan_blake_rows)] }
def SealStreamsSaid : Prop := sealStreamsRow.holds Tryd.pinned (OpenSpec.ofChange sealStreamsSpec)

/-- ITS FALSE NEIGHBOUR: 'it returns false'. Refute it at one input. -/
def sealStreamsWrong : ChangeSpec := { name := "sealStreams", fn := fun _ => fun
  | [d1, d2, d3] => { results := [.lit (.bool false)], args := [d1, d2, d3] }
  | _ => none }
def SealStreamsWrongFalsely : Prop := sealStreamsRow.holds Tryd.pinned (OpenSpec.ofChange sealStreamsWrong)

/-- 'bandplanlaw05.SealSeals': WHATEVER THE INPUT: true; the input reads as it did. -/
def sealSealsSpec : ChangeSpec := { name := "sealSeals", fn := fun _ => fun
  | [d1, d2, d3] => { results := [.lit (.bool true)], args := [d1, d2, d3] }
  | _ => none }
def sealSealsRow : OpenClaim := { program := "ytdjfklllfbenjaadoor", sum := "28d8eac57000529920179641cf3af564b35d9721309bb9c76ee067c0b98e5c95", func := "bandplan/bandplanlaw05.SealSeals", spec := "sealSeals", named := ["bandplan/blake.initialWords", "bandplan/blake.rows"], apart := false, laid := [("bandplan/blake.initialWords", laid_bandplan_blake_initialWords), ("bandplan/blake.rows", laid_bandplan_blake_rows)] }
def SealSealsSaid : Prop := sealSealsRow.holds Tryd.pinned (OpenSpec.ofChange sealSealsSpec)

/-- ITS FALSE NEIGHBOUR: 'it returns false'. Refute it at one input. -/
def sealSealsWrong : ChangeSpec := { name := "sealSeals", fn := fun _ => fun
  | [d1, d2, d3] => { results := [.lit (.bool false)], args := [d1, d2, d3] }
  | _ => none }
def SealSealsWrongFalsely : Prop := sealSealsRow.holds Tryd.pinned (OpenSpec.ofChange sealSealsWrong)

/-- 'bandplanlaw05.SealOpens': WHATEVER THE INPUT: true; the input reads as it did. -/
def sealOpensSpec : ChangeSpec := { name := "sealOpens", fn := fun _ => fun
  | [d1, d2] => { results := [.lit (.bool true)], args := [d1, d2] }
  | _ => none }
def sealOpensRow : OpenClaim := { program := "ytdjfklllfbenjaadoor", sum := "28d8eac57000529920179641cf3af564b35d9721309bb9c76ee067c0b98e5c95", func := "bandplan/bandplanlaw05.SealOpens", spec := "sealOpens", named := ["bandplan/blake.initialWords", "bandplan/blake.rows"], apart := false, laid := [("bandplan/blake.initialWords", laid_bandplan_blake_initialWords), ("bandplan/blake.rows", laid_bandplan_blake_rows)] }
def SealOpensSaid : Prop := sealOpensRow.holds Tryd.pinned (OpenSpec.ofChange sealOpensSpec)

/-- ITS FALSE NEIGHBOUR: 'it returns false'. Refute it at one input. -/
def sealOpensWrong : ChangeSpec := { name := "sealOpens", fn := fun _ => fun
  | [d1, d2] => { results := [.lit (.bool false)], args := [d1, d2] }
  | _ => none }
def SealOpensWrongFalsely : Prop := sealOpensRow.holds Tryd.pinned (OpenSpec.ofChange sealOpensWrong)

/-- 'bandplanlaw05.SealChanged': WHATEVER THE INPUT: true; the input reads as it did. -/
def sealChangedSpec : ChangeSpec := { name := "sealChanged", fn := fun _ => fun
  | [d1, d2, d3, d4, d5, d6] => { results := [.lit (.bool true)], args := [d1, d2, d3, d4, d5, d6] }
  | _ => none }
def sealChangedRow : OpenClaim := { program := "ytdjfklllfbenjaadoor", sum := "28d8eac57000529920179641cf3af564b35d9721309bb9c76ee067c0b98e5c95", func := "bandplan/bandplanlaw05.SealChanged", spec := "sealChanged", named := ["bandplan/blake.initialWords", "bandplan/blake.rows"], apart := false, laid := [("bandplan/blake.initialWords", laid_bandplan_blake_initialWords), ("bandplan/blake.rows", laid_bandplan_blake_rows)] }
def SealChangedSaid : Prop := sealChangedRow.holds Tryd.pinned (OpenSpec.ofChange sealChangedSpec)

/-- ITS FALSE NEIGHBOUR: 'it returns false'. Refute it at one input. -/
def sealChangedWrong : ChangeSpec := { name := "sealChanged", fn := fun _ => fun
  | [d1, d2, d3, d4, d5, d6] => { results := [.lit (.bool false)], args := [d1, d2, d3, d4, d5, d6] }
  | _ => none }
def SealChangedWrongFalsely : Prop := sealChangedRow.holds Tryd.pinned (OpenSpec.ofChange sealChangedWrong)

/-- 'bandplanlaw05.SealLimits': WHATEVER THE INPUT: true; the input reads as it did. -/
def sealLimitsSpec : ChangeSpec := { name := "sealLimits", fn := fun _ => fun
  | [d] => { results := [.lit (.bool true)], args := [d] }
  | _ => none }
def sealLimitsRow : OpenClaim := { program := "ytdjfklllfbenjaadoor", sum := "28d8eac57000529920179641cf3af564b35d9721309bb9c76ee067c0b98e5c95", func := "bandplan/bandplanlaw05.SealLimits", spec := "sealLimits", named := ["bandplan/blake.initialWords", "bandplan/blake.rows"], apart := false, laid := [("bandplan/blake.initialWords", laid_bandplan_blake_initialWords), ("bandplan/blake.rows", laid_bandplan_blake_rows)] }
def SealLimitsSaid : Prop := sealLimitsRow.holds Tryd.pinned (OpenSpec.ofChange sealLimitsSpec)

/-- ITS FALSE NEIGHBOUR: 'it returns false'. Refute it at one input. -/
def sealLimitsWrong : ChangeSpec := { name := "sealLimits", fn := fun _ => fun
  | [d] => { results := [.lit (.bool false)], args := [d] }
  | _ => none }
def SealLimitsWrongFalsely : Prop := sealLimitsRow.holds Tryd.pinned (OpenSpec.ofChange sealLimitsWrong)

/- THE SECOND FORM. 'bulk': how many values and letters a reading holds, each counted each time it is reached (what is shared counts as often as it is met; a slice's spare places count too). A statement '..UptoSaid' is the law's where the arguments, and the package variables that the reading takes, are together of bulk at most 1048576: NARROWER than '..Said'. Prove '..Said' where nothing that the law and all that it calls make is longer than what came in: it says more and counts as full. Else prove '..UptoSaid'. A law counts once. -/
mutual
def uptoBulk {H : Type} : DataW H → Nat
  | .lit (.string bytes) => bytes.length + 1
  | .lit _ => 1
  | .nil => 1
  | .ptr d => uptoBulk d + 1
  | .slice elems spare => uptoBulkAll elems + uptoBulkAll spare + 1
  | .agg parts => uptoBulkAll parts + 1
  | .iface _ d => uptoBulk d + 1
  | .map entries => uptoBulkEntries entries + 1
  | .held _ => 1
def uptoBulkAll {H : Type} : List (DataW H) → Nat
  | [] => 0
  | d :: r => uptoBulk d + uptoBulkAll r
def uptoBulkEntries {H : Type} : List (Lit × DataW H) → Nat
  | [] => 0
  | x :: r => uptoBulkEntry x + uptoBulkEntries r
def uptoBulkEntry {H : Type} : Lit × DataW H → Nat
  | (.string bytes, d) => bytes.length + uptoBulk d + 1
  | (_, d) => uptoBulk d + 1
 end
def uptoSmall : (H : Type) → List (DataW H) → Bool := fun _ ds => decide (uptoBulkAll ds ≤ 1048576)
def OpenSpec.upto (s : _root_.Go.ChangeSpec) : _root_.Go.OpenSpec := { _root_.Go.OpenSpec.ofChange s with cond := some uptoSmall }

/-- 'bandplanlaw04.BlakeSums', WHERE WHAT IT READS IS OF BULK AT MOST 1048576: true; the input reads as it did. -/
def blakeSumsUptoRow : OpenClaim := { program := "ytdjfklllfbenjaadoor", sum := "28d8eac57000529920179641cf3af564b35d9721309bb9c76ee067c0b98e5c95", func := "bandplan/bandplanlaw04.BlakeSums", spec := "blakeSums", named := ["bandplan/blake.initialWords", "bandplan/blake.rows"], apart := false, laid := [("bandplan/blake.initialWords", laid_bandplan_blake_initialWords), ("bandplan/blake.rows", laid_bandplan_blake_rows)], narrowed := true }
def BlakeSumsUptoSaid : Prop := blakeSumsUptoRow.holds Tryd.pinned (OpenSpec.upto blakeSumsSpec)

/-- 'bandplanlaw04.BlakeKeys', WHERE WHAT IT READS IS OF BULK AT MOST 1048576: true; the input reads as it did. -/
def blakeKeysUptoRow : OpenClaim := { program := "ytdjfklllfbenjaadoor", sum := "28d8eac57000529920179641cf3af564b35d9721309bb9c76ee067c0b98e5c95", func := "bandplan/bandplanlaw04.BlakeKeys", spec := "blakeKeys", named := ["bandplan/blake.initialWords", "bandplan/blake.rows"], apart := false, laid := [("bandplan/blake.initialWords", laid_bandplan_blake_initialWords), ("bandplan/blake.rows", laid_bandplan_blake_rows)], narrowed := true }
def BlakeKeysUptoSaid : Prop := blakeKeysUptoRow.holds Tryd.pinned (OpenSpec.upto blakeKeysSpec)

/-- 'bandplanlaw04.BlakeParts', WHERE WHAT IT READS IS OF BULK AT MOST 1048576: true; the input reads as it did. -/
def blakePartsUptoRow : OpenClaim := { program := "ytdjfklllfbenjaadoor", sum := "28d8eac57000529920179641cf3af564b35d9721309bb9c76ee067c0b98e5c95", func := "bandplan/bandplanlaw04.BlakeParts", spec := "blakeParts", named := ["bandplan/blake.initialWords", "bandplan/blake.rows"], apart := false, laid := [("bandplan/blake.initialWords", laid_bandplan_blake_initialWords), ("bandplan/blake.rows", laid_bandplan_blake_rows)], narrowed := true }
def BlakePartsUptoSaid : Prop := blakePartsUptoRow.holds Tryd.pinned (OpenSpec.upto blakePartsSpec)

/-- 'bandplanlaw04.BlakeLong', WHERE WHAT IT READS IS OF BULK AT MOST 1048576: true; the input reads as it did. -/
def blakeLongUptoRow : OpenClaim := { program := "ytdjfklllfbenjaadoor", sum := "28d8eac57000529920179641cf3af564b35d9721309bb9c76ee067c0b98e5c95", func := "bandplan/bandplanlaw04.BlakeLong", spec := "blakeLong", named := ["bandplan/blake.initialWords", "bandplan/blake.rows"], apart := false, laid := [("bandplan/blake.initialWords", laid_bandplan_blake_initialWords), ("bandplan/blake.rows", laid_bandplan_blake_rows)], narrowed := true }
def BlakeLongUptoSaid : Prop := blakeLongUptoRow.holds Tryd.pinned (OpenSpec.upto blakeLongSpec)

/-- 'bandplanlaw04.BlakeCopies', WHERE WHAT IT READS IS OF BULK AT MOST 1048576: true; the input reads as it did. -/
def blakeCopiesUptoRow : OpenClaim := { program := "ytdjfklllfbenjaadoor", sum := "28d8eac57000529920179641cf3af564b35d9721309bb9c76ee067c0b98e5c95", func := "bandplan/bandplanlaw04.BlakeCopies", spec := "blakeCopies", named := ["bandplan/blake.initialWords", "bandplan/blake.rows"], apart := false, laid := [("bandplan/blake.initialWords", laid_bandplan_blake_initialWords), ("bandplan/blake.rows", laid_bandplan_blake_rows)], narrowed := true }
def BlakeCopiesUptoSaid : Prop := blakeCopiesUptoRow.holds Tryd.pinned (OpenSpec.upto blakeCopiesSpec)

/-- 'bandplanlaw05.SealDerives', WHERE WHAT IT READS IS OF BULK AT MOST 1048576: true; the input reads as it did. -/
def sealDerivesUptoRow : OpenClaim := { program := "ytdjfklllfbenjaadoor", sum := "28d8eac57000529920179641cf3af564b35d9721309bb9c76ee067c0b98e5c95", func := "bandplan/bandplanlaw05.SealDerives", spec := "sealDerives", named := ["bandplan/blake.initialWords", "bandplan/blake.rows"], apart := false, laid := [("bandplan/blake.initialWords", laid_bandplan_blake_initialWords), ("bandplan/blake.rows", laid_bandplan_blake_rows)], narrowed := true }
def SealDerivesUptoSaid : Prop := sealDerivesUptoRow.holds Tryd.pinned (OpenSpec.upto sealDerivesSpec)

/-- 'bandplanlaw05.SealStreams', WHERE WHAT IT READS IS OF BULK AT MOST 1048576: true; the input reads as it did. -/
def sealStreamsUptoRow : OpenClaim := { program := "ytdjfklllfbenjaadoor", sum := "28d8eac57000529920179641cf3af564b35d9721309bb9c76ee067c0b98e5c95", func := "bandplan/bandplanlaw05.SealStreams", spec := "sealStreams", named := ["bandplan/blake.initialWords", "bandplan/blake.rows"], apart := false, laid := [("bandplan/blake.initialWords", laid_bandplan_blake_initialWords), ("bandplan/blake.rows", laid_bandplan_blake_rows)], narrowed := true }
def SealStreamsUptoSaid : Prop := sealStreamsUptoRow.holds Tryd.pinned (OpenSpec.upto sealStreamsSpec)

/-- 'bandplanlaw05.SealSeals', WHERE WHAT IT READS IS OF BULK AT MOST 1048576: true; the input reads as it did. -/
def sealSealsUptoRow : OpenClaim := { program := "ytdjfklllfbenjaadoor", sum := "28d8eac57000529920179641cf3af564b35d9721309bb9c76ee067c0b98e5c95", func := "bandplan/bandplanlaw05.SealSeals", spec := "sealSeals", named := ["bandplan/blake.initialWords", "bandplan/blake.rows"], apart := false, laid := [("bandplan/blake.initialWords", laid_bandplan_blake_initialWords), ("bandplan/blake.rows", laid_bandplan_blake_rows)], narrowed := true }
def SealSealsUptoSaid : Prop := sealSealsUptoRow.holds Tryd.pinned (OpenSpec.upto sealSealsSpec)

/-- 'bandplanlaw05.SealOpens', WHERE WHAT IT READS IS OF BULK AT MOST 1048576: true; the input reads as it did. -/
def sealOpensUptoRow : OpenClaim := { program := "ytdjfklllfbenjaadoor", sum := "28d8eac57000529920179641cf3af564b35d9721309bb9c76ee067c0b98e5c95", func := "bandplan/bandplanlaw05.SealOpens", spec := "sealOpens", named := ["bandplan/blake.initialWords", "bandplan/blake.rows"], apart := false, laid := [("bandplan/blake.initialWords", laid_bandplan_blake_initialWords), ("bandplan/blake.rows", laid_bandplan_blake_rows)], narrowed := true }
def SealOpensUptoSaid : Prop := sealOpensUptoRow.holds Tryd.pinned (OpenSpec.upto sealOpensSpec)

/-- 'bandplanlaw05.SealChanged', WHERE WHAT IT READS IS OF BULK AT MOST 1048576: true; the input reads as it did. -/
def sealChangedUptoRow : OpenClaim := { program := "ytdjfklllfbenjaadoor", sum := "28d8eac57000529920179641cf3af564b35d9721309bb9c76ee067c0b98e5c95", func := "bandplan/bandplanlaw05.SealChanged", spec := "sealChanged", named := ["bandplan/blake.initialWords", "bandplan/blake.rows"], apart := false, laid := [("bandplan/blake.initialWords", laid_bandplan_blake_initialWords), ("bandplan/blake.rows", laid_bandplan_blake_rows)], narrowed := true }
def SealChangedUptoSaid : Prop := sealChangedUptoRow.holds Tryd.pinned (OpenSpec.upto sealChangedSpec)

/-- 'bandplanlaw05.SealLimits', WHERE WHAT IT READS IS OF BULK AT MOST 1048576: true; the input reads as it did. -/
def sealLimitsUptoRow : OpenClaim := { program := "ytdjfklllfbenjaadoor", sum := "28d8eac57000529920179641cf3af564b35d9721309bb9c76ee067c0b98e5c95", func := "bandplan/bandplanlaw05.SealLimits", spec := "sealLimits", named := ["bandplan/blake.initialWords", "bandplan/blake.rows"], apart := false, laid := [("bandplan/blake.initialWords", laid_bandplan_blake_initialWords), ("bandplan/blake.rows", laid_bandplan_blake_rows)], narrowed := true }
def SealLimitsUptoSaid : Prop := sealLimitsUptoRow.holds Tryd.pinned (OpenSpec.upto sealLimitsSpec)

end Rows
end Go.Proofs.YtdjfklllfbenjaaDoor
