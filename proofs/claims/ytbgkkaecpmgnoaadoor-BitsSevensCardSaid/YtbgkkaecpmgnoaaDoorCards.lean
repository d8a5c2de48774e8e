/-
  DERIVED. GIVEN WITH THE SEED: THE CARDS: each row of YtbgkkaecpmgnoaaDoorRows.lean that lists a variable, with what it lists TIED to the program's text (the seventh form; the later family's looks); each row that meets fmt, with fmt's text TOLD by the authors' own Lean function (tested against real Go, not proved from fmt's source: count such statements apart). THE CARD IS WHAT COUNTS. Prove the row's statement (the work); the ties are given (YtbgkkaecpmgnoaaDoorTie.lean); close each card by the builder's one call (the guide's Derived/Test/ToyasCard.lean, 'card_holds'). Laid BY PROGRAM, IN A SANDBOX (cutbox-door.mjs). By AI agents, Wed Nov 11 2026. No macro, syntax, notation, axiom, sorry.
-/
import Derived.Test.YtbgkkaecpmgnoaaDoorRows
import GoSem.ClaimSeven
namespace Go.Proofs.YtbgkkaecpmgnoaaDoor
namespace Rows

/-- THE TIED CARD OF 'wireglasslaw01.BitsGets'. -/
def bitsGetsCard : Claim7 := { stood := { row := bitsGetsRow, standIns := [], harness := (true, "2e5e55170f6ad7afe13469615e3381857b360f850527c618fbcf25f2d4f7605d"), looks := false }, kinds := [], alts := [], laidByText := true, laidKinds := [.data], laidTests := true, laidLooks := .later }
def BitsGetsCardSaid : Prop := Claim7.holds Tryd.pinned (.plain (OpenSpec.ofChange bitsGetsSpec)) bitsGetsCard

/-- THE TIED CARD OF 'wireglasslaw01.BitsPuts'. -/
def bitsPutsCard : Claim7 := { stood := { row := bitsPutsRow, standIns := [], harness := (true, "2e5e55170f6ad7afe13469615e3381857b360f850527c618fbcf25f2d4f7605d"), looks := false }, kinds := [], alts := [], laidByText := true, laidKinds := [.data], laidTests := true, laidLooks := .later }
def BitsPutsCardSaid : Prop := Claim7.holds Tryd.pinned (.plain (OpenSpec.ofChange bitsPutsSpec)) bitsPutsCard

/-- THE TIED CARD OF 'wireglasslaw01.BitsBack'. -/
def bitsBackCard : Claim7 := { stood := { row := bitsBackRow, standIns := [], harness := (true, "2e5e55170f6ad7afe13469615e3381857b360f850527c618fbcf25f2d4f7605d"), looks := false }, kinds := [], alts := [], laidByText := true, laidKinds := [.data], laidTests := true, laidLooks := .later }
def BitsBackCardSaid : Prop := Claim7.holds Tryd.pinned (.plain (OpenSpec.ofChange bitsBackSpec)) bitsBackCard

/-- THE TIED CARD OF 'wireglasslaw01.BitsSigns'. -/
def bitsSignsCard : Claim7 := { stood := { row := bitsSignsRow, standIns := [], harness := (true, "2e5e55170f6ad7afe13469615e3381857b360f850527c618fbcf25f2d4f7605d"), looks := false }, kinds := [], alts := [], laidByText := true, laidKinds := [.data], laidTests := true, laidLooks := .later }
def BitsSignsCardSaid : Prop := Claim7.holds Tryd.pinned (.plain (OpenSpec.ofChange bitsSignsSpec)) bitsSignsCard

/-- THE TIED CARD OF 'wireglasslaw01.BitsBytes'. -/
def bitsBytesCard : Claim7 := { stood := { row := bitsBytesRow, standIns := [], harness := (true, "2e5e55170f6ad7afe13469615e3381857b360f850527c618fbcf25f2d4f7605d"), looks := false }, kinds := [], alts := [], laidByText := true, laidKinds := [.data], laidTests := true, laidLooks := .later }
def BitsBytesCardSaid : Prop := Claim7.holds Tryd.pinned (.plain (OpenSpec.ofChange bitsBytesSpec)) bitsBytesCard

/-- THE TIED CARD OF 'wireglasslaw01.BitsChecks'. -/
def bitsChecksCard : Claim7 := { stood := { row := bitsChecksRow, standIns := [], harness := (true, "2e5e55170f6ad7afe13469615e3381857b360f850527c618fbcf25f2d4f7605d"), looks := false }, kinds := [], alts := [], laidByText := true, laidKinds := [.data], laidTests := true, laidLooks := .later }
def BitsChecksCardSaid : Prop := Claim7.holds Tryd.pinned (.plain (OpenSpec.ofChange bitsChecksSpec)) bitsChecksCard

/-- THE TIED CARD OF 'wireglasslaw01.BitsMends'. -/
def bitsMendsCard : Claim7 := { stood := { row := bitsMendsRow, standIns := [], harness := (true, "2e5e55170f6ad7afe13469615e3381857b360f850527c618fbcf25f2d4f7605d"), looks := false }, kinds := [], alts := [], laidByText := true, laidKinds := [.data], laidTests := true, laidLooks := .later }
def BitsMendsCardSaid : Prop := Claim7.holds Tryd.pinned (.plain (OpenSpec.ofChange bitsMendsSpec)) bitsMendsCard

/-- THE TIED CARD OF 'wireglasslaw01.BitsMended'. -/
def bitsMendedCard : Claim7 := { stood := { row := bitsMendedRow, standIns := [], harness := (true, "2e5e55170f6ad7afe13469615e3381857b360f850527c618fbcf25f2d4f7605d"), looks := false }, kinds := [], alts := [], laidByText := true, laidKinds := [.data], laidTests := true, laidLooks := .later }
def BitsMendedCardSaid : Prop := Claim7.holds Tryd.pinned (.plain (OpenSpec.ofChange bitsMendedSpec)) bitsMendedCard

/-- THE TIED CARD OF 'wireglasslaw01.BitsSevens'. -/
def bitsSevensCard : Claim7 := { stood := { row := bitsSevensRow, standIns := [], harness := (true, "2e5e55170f6ad7afe13469615e3381857b360f850527c618fbcf25f2d4f7605d"), looks := false }, kinds := [], alts := [], laidByText := true, laidKinds := [.data], laidTests := true, laidLooks := .later }
def BitsSevensCardSaid : Prop := Claim7.holds Tryd.pinned (.plain (OpenSpec.ofChange bitsSevensSpec)) bitsSevensCard

/-- THE SECOND FORM's CARD OF 'wireglasslaw01.BitsGets'. -/
def bitsGetsUptoCard : Claim7 := { stood := { row := bitsGetsUptoRow, standIns := [], harness := (true, "2e5e55170f6ad7afe13469615e3381857b360f850527c618fbcf25f2d4f7605d"), looks := false }, kinds := [], alts := [], laidByText := true, laidKinds := [.data], laidTests := true, laidLooks := .later }
def BitsGetsUptoCardSaid : Prop := Claim7.holds Tryd.pinned (.plain (OpenSpec.upto bitsGetsSpec)) bitsGetsUptoCard

/-- THE SECOND FORM's CARD OF 'wireglasslaw01.BitsPuts'. -/
def bitsPutsUptoCard : Claim7 := { stood := { row := bitsPutsUptoRow, standIns := [], harness := (true, "2e5e55170f6ad7afe13469615e3381857b360f850527c618fbcf25f2d4f7605d"), looks := false }, kinds := [], alts := [], laidByText := true, laidKinds := [.data], laidTests := true, laidLooks := .later }
def BitsPutsUptoCardSaid : Prop := Claim7.holds Tryd.pinned (.plain (OpenSpec.upto bitsPutsSpec)) bitsPutsUptoCard

/-- THE SECOND FORM's CARD OF 'wireglasslaw01.BitsBack'. -/
def bitsBackUptoCard : Claim7 := { stood := { row := bitsBackUptoRow, standIns := [], harness := (true, "2e5e55170f6ad7afe13469615e3381857b360f850527c618fbcf25f2d4f7605d"), looks := false }, kinds := [], alts := [], laidByText := true, laidKinds := [.data], laidTests := true, laidLooks := .later }
def BitsBackUptoCardSaid : Prop := Claim7.holds Tryd.pinned (.plain (OpenSpec.upto bitsBackSpec)) bitsBackUptoCard

/-- THE SECOND FORM's CARD OF 'wireglasslaw01.BitsSigns'. -/
def bitsSignsUptoCard : Claim7 := { stood := { row := bitsSignsUptoRow, standIns := [], harness := (true, "2e5e55170f6ad7afe13469615e3381857b360f850527c618fbcf25f2d4f7605d"), looks := false }, kinds := [], alts := [], laidByText := true, laidKinds := [.data], laidTests := true, laidLooks := .later }
def BitsSignsUptoCardSaid : Prop := Claim7.holds Tryd.pinned (.plain (OpenSpec.upto bitsSignsSpec)) bitsSignsUptoCard

/-- THE SECOND FORM's CARD OF 'wireglasslaw01.BitsBytes'. -/
def bitsBytesUptoCard : Claim7 := { stood := { row := bitsBytesUptoRow, standIns := [], harness := (true, "2e5e55170f6ad7afe13469615e3381857b360f850527c618fbcf25f2d4f7605d"), looks := false }, kinds := [], alts := [], laidByText := true, laidKinds := [.data], laidTests := true, laidLooks := .later }
def BitsBytesUptoCardSaid : Prop := Claim7.holds Tryd.pinned (.plain (OpenSpec.upto bitsBytesSpec)) bitsBytesUptoCard

/-- THE SECOND FORM's CARD OF 'wireglasslaw01.BitsChecks'. -/
def bitsChecksUptoCard : Claim7 := { stood := { row := bitsChecksUptoRow, standIns := [], harness := (true, "2e5e55170f6ad7afe13469615e3381857b360f850527c618fbcf25f2d4f7605d"), looks := false }, kinds := [], alts := [], laidByText := true, laidKinds := [.data], laidTests := true, laidLooks := .later }
def BitsChecksUptoCardSaid : Prop := Claim7.holds Tryd.pinned (.plain (OpenSpec.upto bitsChecksSpec)) bitsChecksUptoCard

/-- THE SECOND FORM's CARD OF 'wireglasslaw01.BitsMends'. -/
def bitsMendsUptoCard : Claim7 := { stood := { row := bitsMendsUptoRow, standIns := [], harness := (true, "2e5e55170f6ad7afe13469615e3381857b360f850527c618fbcf25f2d4f7605d"), looks := false }, kinds := [], alts := [], laidByText := true, laidKinds := [.data], laidTests := true, laidLooks := .later }
def BitsMendsUptoCardSaid : Prop := Claim7.holds Tryd.pinned (.plain (OpenSpec.upto bitsMendsSpec)) bitsMendsUptoCard

/-- THE SECOND FORM's CARD OF 'wireglasslaw01.BitsMended'. -/
def bitsMendedUptoCard : Claim7 := { stood := { row := bitsMendedUptoRow, standIns := [], harness := (true, "2e5e55170f6ad7afe13469615e3381857b360f850527c618fbcf25f2d4f7605d"), looks := false }, kinds := [], alts := [], laidByText := true, laidKinds := [.data], laidTests := true, laidLooks := .later }
def BitsMendedUptoCardSaid : Prop := Claim7.holds Tryd.pinned (.plain (OpenSpec.upto bitsMendedSpec)) bitsMendedUptoCard

/-- THE SECOND FORM's CARD OF 'wireglasslaw01.BitsSevens'. -/
def bitsSevensUptoCard : Claim7 := { stood := { row := bitsSevensUptoRow, standIns := [], harness := (true, "2e5e55170f6ad7afe13469615e3381857b360f850527c618fbcf25f2d4f7605d"), looks := false }, kinds := [], alts := [], laidByText := true, laidKinds := [.data], laidTests := true, laidLooks := .later }
def BitsSevensUptoCardSaid : Prop := Claim7.holds Tryd.pinned (.plain (OpenSpec.upto bitsSevensSpec)) bitsSevensUptoCard
end Rows
end Go.Proofs.YtbgkkaecpmgnoaaDoor
