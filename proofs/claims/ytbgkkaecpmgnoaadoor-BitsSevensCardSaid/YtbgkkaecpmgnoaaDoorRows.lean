/-
  NARROWER THAN 'FOR EVERY INPUT', by the rows' own cells (each row's printed sentence says how): BitsGets: laid · BitsPuts: laid · BitsBack: laid · BitsSigns: laid · BitsBytes: laid · BitsChecks: laid · BitsMends: laid · BitsMended: laid · BitsSevens: laid.
  DERIVED. THE GIVEN ROWS OF THIS SEAT. 9 by the template 'for every input the law returns true; each argument reads behind the call as it read before'; 0 by the template 'total and deterministic' (their statements: YtbgkkaecpmgnoaaDoorTotals.lean).
  GIVEN WITH THE SEED: the statements are not yours to turn. If you find one false, say at which input.
  Laid BY PROGRAM, IN A SANDBOX (cutbox-rows.mjs): the forced cells as the released guide's own fill.sh prints them over the translation 7059835769031af6… (all of the seat's roots in one cut). By AI agents, Wed Nov 11 2026. No macro, syntax, notation, axiom, sorry.
-/
import Derived.Test.YtbgkkaecpmgnoaaDoorChecked
import GoSem.Claim
import GoSem.ClaimJoined
import GoSem.ClaimMapViews
import Derived.JoinedTies
import Derived.KernelRfl
namespace Go.Proofs.YtbgkkaecpmgnoaaDoor
/- THE CELL 'sum', in the pinned program and in every row, IS THE sha256 OF THE DUMP (.gsa) THAT YtbgkkaecpmgnoaaDoorProg.lean LOADS. Nothing in Lean hashes anything: it is a label: what it is worth is what the hold of that sum in a sandbox is worth. -/
noncomputable def Tryd.pinned : Pinned := { name := "ytbgkkaecpmgnoaadoor", sum := "7059835769031af644f68d65e42a6665a1a2640355065a887b6d3b102597d561", checked := Tryd.checked }
namespace Rows
def none {H : Type} : Left H := { results := [], args := [] }

/- WHAT THE LISTED PACKAGE-LEVEL VARIABLES READ AS WHEN THE CALL BEGINS. Each datum BY PROGRAM (the guide's laid-datum.mjs) off the statement by which the dump's own 'gosem.cut.vars' lays the variable. In a bare row this is a premise. The card (YtbgkkaecpmgnoaaDoorCards.lean) ties it to the program's text. -/
def laid_wireglass_bits_crcTable {H : Type} : DataW H := .agg [.lit (.int .u32 0), .lit (.int .u32 498536548), .lit (.int .u32 997073096), .lit (.int .u32 651767980), .lit (.int .u32 1994146192), .lit (.int .u32 1802195444), .lit (.int .u32 1303535960), .lit (.int .u32 1342533948), .lit (.int .u32 3988292384), .lit (.int .u32 4027552580), .lit (.int .u32 3604390888), .lit (.int .u32 3412177804), .lit (.int .u32 2607071920), .lit (.int .u32 2262029012), .lit (.int .u32 2685067896), .lit (.int .u32 3183342108)]

/-- 'wireglasslaw01.BitsGets': WHATEVER THE INPUT: true; the input reads as it did. -/
def bitsGetsSpec : ChangeSpec := { name := "bitsGets", fn := fun _ => fun
  | [d1, d2] => { results := [.lit (.bool true)], args := [d1, d2] }
  | _ => none }
def bitsGetsRow : OpenClaim := { program := "ytbgkkaecpmgnoaadoor", sum := "7059835769031af644f68d65e42a6665a1a2640355065a887b6d3b102597d561", func := "wireglass/wireglasslaw01.BitsGets", spec := "bitsGets", unfollowed := true, recurses := true, named := ["wireglass/bits.crcTable"], apart := false, laid := [("wireglass/bits.crcTable", laid_wireglass_bits_crcTable)] }
def BitsGetsSaid : Prop := bitsGetsRow.holds Tryd.pinned (OpenSpec.ofChange bitsGetsSpec)

/-- ITS FALSE NEIGHBOUR: 'it returns false'. Refute it at one input. -/
def bitsGetsWrong : ChangeSpec := { name := "bitsGets", fn := fun _ => fun
  | [d1, d2] => { results := [.lit (.bool false)], args := [d1, d2] }
  | _ => none }
def BitsGetsWrongFalsely : Prop := bitsGetsRow.holds Tryd.pinned (OpenSpec.ofChange bitsGetsWrong)

/-- 'wireglasslaw01.BitsPuts': WHATEVER THE INPUT: true; the input reads as it did. -/
def bitsPutsSpec : ChangeSpec := { name := "bitsPuts", fn := fun _ => fun
  | [d1, d2] => { results := [.lit (.bool true)], args := [d1, d2] }
  | _ => none }
def bitsPutsRow : OpenClaim := { program := "ytbgkkaecpmgnoaadoor", sum := "7059835769031af644f68d65e42a6665a1a2640355065a887b6d3b102597d561", func := "wireglass/wireglasslaw01.BitsPuts", spec := "bitsPuts", unfollowed := true, recurses := true, named := ["wireglass/bits.crcTable"], apart := false, laid := [("wireglass/bits.crcTable", laid_wireglass_bits_crcTable)] }
def BitsPutsSaid : Prop := bitsPutsRow.holds Tryd.pinned (OpenSpec.ofChange bitsPutsSpec)

/-- ITS FALSE NEIGHBOUR: 'it returns false'. Refute it at one input. -/
def bitsPutsWrong : ChangeSpec := { name := "bitsPuts", fn := fun _ => fun
  | [d1, d2] => { results := [.lit (.bool false)], args := [d1, d2] }
  | _ => none }
def BitsPutsWrongFalsely : Prop := bitsPutsRow.holds Tryd.pinned (OpenSpec.ofChange bitsPutsWrong)

/-- 'wireglasslaw01.BitsBack': WHATEVER THE INPUT: true; the input reads as it did. -/
def bitsBackSpec : ChangeSpec := { name := "bitsBack", fn := fun _ => fun
  | [d1, d2, d3] => { results := [.lit (.bool true)], args := [d1, d2, d3] }
  | _ => none }
def bitsBackRow : OpenClaim := { program := "ytbgkkaecpmgnoaadoor", sum := "7059835769031af644f68d65e42a6665a1a2640355065a887b6d3b102597d561", func := "wireglass/wireglasslaw01.BitsBack", spec := "bitsBack", unfollowed := true, recurses := true, named := ["wireglass/bits.crcTable"], apart := false, laid := [("wireglass/bits.crcTable", laid_wireglass_bits_crcTable)] }
def BitsBackSaid : Prop := bitsBackRow.holds Tryd.pinned (OpenSpec.ofChange bitsBackSpec)

/-- ITS FALSE NEIGHBOUR: 'it returns false'. Refute it at one input. -/
def bitsBackWrong : ChangeSpec := { name := "bitsBack", fn := fun _ => fun
  | [d1, d2, d3] => { results := [.lit (.bool false)], args := [d1, d2, d3] }
  | _ => none }
def BitsBackWrongFalsely : Prop := bitsBackRow.holds Tryd.pinned (OpenSpec.ofChange bitsBackWrong)

/-- 'wireglasslaw01.BitsSigns': WHATEVER THE INPUT: true; the input reads as it did. -/
def bitsSignsSpec : ChangeSpec := { name := "bitsSigns", fn := fun _ => fun
  | [d1, d2] => { results := [.lit (.bool true)], args := [d1, d2] }
  | _ => none }
def bitsSignsRow : OpenClaim := { program := "ytbgkkaecpmgnoaadoor", sum := "7059835769031af644f68d65e42a6665a1a2640355065a887b6d3b102597d561", func := "wireglass/wireglasslaw01.BitsSigns", spec := "bitsSigns", unfollowed := true, recurses := true, named := ["wireglass/bits.crcTable"], apart := false, laid := [("wireglass/bits.crcTable", laid_wireglass_bits_crcTable)] }
def BitsSignsSaid : Prop := bitsSignsRow.holds Tryd.pinned (OpenSpec.ofChange bitsSignsSpec)

/-- ITS FALSE NEIGHBOUR: 'it returns false'. Refute it at one input. -/
def bitsSignsWrong : ChangeSpec := { name := "bitsSigns", fn := fun _ => fun
  | [d1, d2] => { results := [.lit (.bool false)], args := [d1, d2] }
  | _ => none }
def BitsSignsWrongFalsely : Prop := bitsSignsRow.holds Tryd.pinned (OpenSpec.ofChange bitsSignsWrong)

/-- 'wireglasslaw01.BitsBytes': WHATEVER THE INPUT: true; the input reads as it did. -/
def bitsBytesSpec : ChangeSpec := { name := "bitsBytes", fn := fun _ => fun
  | [d1, d2, d3] => { results := [.lit (.bool true)], args := [d1, d2, d3] }
  | _ => none }
def bitsBytesRow : OpenClaim := { program := "ytbgkkaecpmgnoaadoor", sum := "7059835769031af644f68d65e42a6665a1a2640355065a887b6d3b102597d561", func := "wireglass/wireglasslaw01.BitsBytes", spec := "bitsBytes", unfollowed := true, recurses := true, named := ["wireglass/bits.crcTable"], apart := false, laid := [("wireglass/bits.crcTable", laid_wireglass_bits_crcTable)] }
def BitsBytesSaid : Prop := bitsBytesRow.holds Tryd.pinned (OpenSpec.ofChange bitsBytesSpec)

/-- ITS FALSE NEIGHBOUR: 'it returns false'. Refute it at one input. -/
def bitsBytesWrong : ChangeSpec := { name := "bitsBytes", fn := fun _ => fun
  | [d1, d2, d3] => { results := [.lit (.bool false)], args := [d1, d2, d3] }
  | _ => none }
def BitsBytesWrongFalsely : Prop := bitsBytesRow.holds Tryd.pinned (OpenSpec.ofChange bitsBytesWrong)

/-- 'wireglasslaw01.BitsChecks': WHATEVER THE INPUT: true; the input reads as it did. -/
def bitsChecksSpec : ChangeSpec := { name := "bitsChecks", fn := fun _ => fun
  | [d] => { results := [.lit (.bool true)], args := [d] }
  | _ => none }
def bitsChecksRow : OpenClaim := { program := "ytbgkkaecpmgnoaadoor", sum := "7059835769031af644f68d65e42a6665a1a2640355065a887b6d3b102597d561", func := "wireglass/wireglasslaw01.BitsChecks", spec := "bitsChecks", unfollowed := true, recurses := true, named := ["wireglass/bits.crcTable"], apart := false, laid := [("wireglass/bits.crcTable", laid_wireglass_bits_crcTable)] }
def BitsChecksSaid : Prop := bitsChecksRow.holds Tryd.pinned (OpenSpec.ofChange bitsChecksSpec)

/-- ITS FALSE NEIGHBOUR: 'it returns false'. Refute it at one input. -/
def bitsChecksWrong : ChangeSpec := { name := "bitsChecks", fn := fun _ => fun
  | [d] => { results := [.lit (.bool false)], args := [d] }
  | _ => none }
def BitsChecksWrongFalsely : Prop := bitsChecksRow.holds Tryd.pinned (OpenSpec.ofChange bitsChecksWrong)

/-- 'wireglasslaw01.BitsMends': WHATEVER THE INPUT: true; the input reads as it did. -/
def bitsMendsSpec : ChangeSpec := { name := "bitsMends", fn := fun _ => fun
  | [d1, d2, d3] => { results := [.lit (.bool true)], args := [d1, d2, d3] }
  | _ => none }
def bitsMendsRow : OpenClaim := { program := "ytbgkkaecpmgnoaadoor", sum := "7059835769031af644f68d65e42a6665a1a2640355065a887b6d3b102597d561", func := "wireglass/wireglasslaw01.BitsMends", spec := "bitsMends", unfollowed := true, recurses := true, named := ["wireglass/bits.crcTable"], apart := false, laid := [("wireglass/bits.crcTable", laid_wireglass_bits_crcTable)] }
def BitsMendsSaid : Prop := bitsMendsRow.holds Tryd.pinned (OpenSpec.ofChange bitsMendsSpec)

/-- ITS FALSE NEIGHBOUR: 'it returns false'. Refute it at one input. -/
def bitsMendsWrong : ChangeSpec := { name := "bitsMends", fn := fun _ => fun
  | [d1, d2, d3] => { results := [.lit (.bool false)], args := [d1, d2, d3] }
  | _ => none }
def BitsMendsWrongFalsely : Prop := bitsMendsRow.holds Tryd.pinned (OpenSpec.ofChange bitsMendsWrong)

/-- 'wireglasslaw01.BitsMended': WHATEVER THE INPUT: true; the input reads as it did. -/
def bitsMendedSpec : ChangeSpec := { name := "bitsMended", fn := fun _ => fun
  | [d1, d2, d3] => { results := [.lit (.bool true)], args := [d1, d2, d3] }
  | _ => none }
def bitsMendedRow : OpenClaim := { program := "ytbgkkaecpmgnoaadoor", sum := "7059835769031af644f68d65e42a6665a1a2640355065a887b6d3b102597d561", func := "wireglass/wireglasslaw01.BitsMended", spec := "bitsMended", unfollowed := true, recurses := true, named := ["wireglass/bits.crcTable"], apart := false, laid := [("wireglass/bits.crcTable", laid_wireglass_bits_crcTable)] }
def BitsMendedSaid : Prop := bitsMendedRow.holds Tryd.pinned (OpenSpec.ofChange bitsMendedSpec)

/-- ITS FALSE NEIGHBOUR: 'it returns false'. Refute it at one input. -/
def bitsMendedWrong : ChangeSpec := { name := "bitsMended", fn := fun _ => fun
  | [d1, d2, d3] => { results := [.lit (.bool false)], args := [d1, d2, d3] }
  | _ => none }
def BitsMendedWrongFalsely : Prop := bitsMendedRow.holds Tryd.pinned (OpenSpec.ofChange bitsMendedWrong)

/-- 'wireglasslaw01.BitsSevens': WHATEVER THE INPUT: true; the input reads as it did. -/
def bitsSevensSpec : ChangeSpec := { name := "bitsSevens", fn := fun _ => fun
  | [d1, d2] => { results := [.lit (.bool true)], args := [d1, d2] }
  | _ => none }
def bitsSevensRow : OpenClaim := { program := "ytbgkkaecpmgnoaadoor", sum := "7059835769031af644f68d65e42a6665a1a2640355065a887b6d3b102597d561", func := "wireglass/wireglasslaw01.BitsSevens", spec := "bitsSevens", unfollowed := true, recurses := true, named := ["wireglass/bits.crcTable"], apart := false, laid := [("wireglass/bits.crcTable", laid_wireglass_bits_crcTable)] }
def BitsSevensSaid : Prop := bitsSevensRow.holds Tryd.pinned (OpenSpec.ofChange bitsSevensSpec)

/-- ITS FALSE NEIGHBOUR: 'it returns false'. Refute it at one input. -/
def bitsSevensWrong : ChangeSpec := { name := "bitsSevens", fn := fun _ => fun
  | [d1, d2] => { results := [.lit (.bool false)], args := [d1, d2] }
  | _ => none }
def BitsSevensWrongFalsely : Prop := bitsSevensRow.holds Tryd.pinned (OpenSpec.ofChange bitsSevensWrong)

/- THE SECOND FORM. 'bulk': how many values and letters a reading holds, each counted each time it is reached (what is shared counts as often as it is met; a slice's spare places count too). A statement '..UptoSaid' is the law's where the arguments, and the package variables that the reading takes, are together of bulk at most 1048576: NARROWER than '..Said'. Prove '..Said' where nothing that the law and all that it calls make is longer than what came in: it says more and counts as full. Else prove '..UptoSaid'. A law counts once. -/
mutual
def uptoBulk {H : Type} : DataW H → Nat
  | .lit (.string bytes) => bytes.length + 1
  | .lit _ => 1
  | .nil => 1
  | .ptr d => uptoBulk d + 1
  | .slice elems spare => uptoBulkAll elems + uptoBulkAll spare + 1
  | .agg parts => uptoBulkAll parts + 1
  | .iface _ d => uptoBulk d + 1
  | .map entries => uptoBulkEntries entries + 1
  | .held _ => 1
def uptoBulkAll {H : Type} : List (DataW H) → Nat
  | [] => 0
  | d :: r => uptoBulk d + uptoBulkAll r
def uptoBulkEntries {H : Type} : List (Lit × DataW H) → Nat
  | [] => 0
  | x :: r => uptoBulkEntry x + uptoBulkEntries r
def uptoBulkEntry {H : Type} : Lit × DataW H → Nat
  | (.string bytes, d) => bytes.length + uptoBulk d + 1
  | (_, d) => uptoBulk d + 1
 end
def uptoSmall : (H : Type) → List (DataW H) → Bool := fun _ ds => decide (uptoBulkAll ds ≤ 1048576)
def OpenSpec.upto (s : _root_.Go.ChangeSpec) : _root_.Go.OpenSpec := { _root_.Go.OpenSpec.ofChange s with cond := some uptoSmall }

/-- 'wireglasslaw01.BitsGets', WHERE WHAT IT READS IS OF BULK AT MOST 1048576: true; the input reads as it did. -/
def bitsGetsUptoRow : OpenClaim := { program := "ytbgkkaecpmgnoaadoor", sum := "7059835769031af644f68d65e42a6665a1a2640355065a887b6d3b102597d561", func := "wireglass/wireglasslaw01.BitsGets", spec := "bitsGets", unfollowed := true, recurses := true, named := ["wireglass/bits.crcTable"], apart := false, laid := [("wireglass/bits.crcTable", laid_wireglass_bits_crcTable)], narrowed := true }
def BitsGetsUptoSaid : Prop := bitsGetsUptoRow.holds Tryd.pinned (OpenSpec.upto bitsGetsSpec)

/-- 'wireglasslaw01.BitsPuts', WHERE WHAT IT READS IS OF BULK AT MOST 1048576: true; the input reads as it did. -/
def bitsPutsUptoRow : OpenClaim := { program := "ytbgkkaecpmgnoaadoor", sum := "7059835769031af644f68d65e42a6665a1a2640355065a887b6d3b102597d561", func := "wireglass/wireglasslaw01.BitsPuts", spec := "bitsPuts", unfollowed := true, recurses := true, named := ["wireglass/bits.crcTable"], apart := false, laid := [("wireglass/bits.crcTable", laid_wireglass_bits_crcTable)], narrowed := true }
def BitsPutsUptoSaid : Prop := bitsPutsUptoRow.holds Tryd.pinned (OpenSpec.upto bitsPutsSpec)

/-- 'wireglasslaw01.BitsBack', WHERE WHAT IT READS IS OF BULK AT MOST 1048576: true; the input reads as it did. -/
def bitsBackUptoRow : OpenClaim := { program := "ytbgkkaecpmgnoaadoor", sum := "7059835769031af644f68d65e42a6665a1a2640355065a887b6d3b102597d561", func := "wireglass/wireglasslaw01.BitsBack", spec := "bitsBack", unfollowed := true, recurses := true, named := ["wireglass/bits.crcTable"], apart := false, laid := [("wireglass/bits.crcTable", laid_wireglass_bits_crcTable)], narrowed := true }
def BitsBackUptoSaid : Prop := bitsBackUptoRow.holds Tryd.pinned (OpenSpec.upto bitsBackSpec)

/-- 'wireglasslaw01.BitsSigns', WHERE WHAT IT READS IS OF BULK AT MOST 1048576: true; the input reads as it did. -/
def bitsSignsUptoRow : OpenClaim := { program := "ytbgkkaecpmgnoaadoor", sum := "7059835769031af644f68d65e42a6665a1a2640355065a887b6d3b102597d561", func := "wireglass/wireglasslaw01.BitsSigns", spec := "bitsSigns", unfollowed := true, recurses := true, named := ["wireglass/bits.crcTable"], apart := false, laid := [("wireglass/bits.crcTable", laid_wireglass_bits_crcTable)], narrowed := true }
def BitsSignsUptoSaid : Prop := bitsSignsUptoRow.holds Tryd.pinned (OpenSpec.upto bitsSignsSpec)

/-- 'wireglasslaw01.BitsBytes', WHERE WHAT IT READS IS OF BULK AT MOST 1048576: true; the input reads as it did. -/
def bitsBytesUptoRow : OpenClaim := { program := "ytbgkkaecpmgnoaadoor", sum := "7059835769031af644f68d65e42a6665a1a2640355065a887b6d3b102597d561", func := "wireglass/wireglasslaw01.BitsBytes", spec := "bitsBytes", unfollowed := true, recurses := true, named := ["wireglass/bits.crcTable"], apart := false, laid := [("wireglass/bits.crcTable", laid_wireglass_bits_crcTable)], narrowed := true }
def BitsBytesUptoSaid : Prop := bitsBytesUptoRow.holds Tryd.pinned (OpenSpec.upto bitsBytesSpec)

/-- 'wireglasslaw01.BitsChecks', WHERE WHAT IT READS IS OF BULK AT MOST 1048576: true; the input reads as it did. -/
def bitsChecksUptoRow : OpenClaim := { program := "ytbgkkaecpmgnoaadoor", sum := "7059835769031af644f68d65e42a6665a1a2640355065a887b6d3b102597d561", func := "wireglass/wireglasslaw01.BitsChecks", spec := "bitsChecks", unfollowed := true, recurses := true, named := ["wireglass/bits.crcTable"], apart := false, laid := [("wireglass/bits.crcTable", laid_wireglass_bits_crcTable)], narrowed := true }
def BitsChecksUptoSaid : Prop := bitsChecksUptoRow.holds Tryd.pinned (OpenSpec.upto bitsChecksSpec)

/-- 'wireglasslaw01.BitsMends', WHERE WHAT IT READS IS OF BULK AT MOST 1048576: true; the input reads as it did. -/
def bitsMendsUptoRow : OpenClaim := { program := "ytbgkkaecpmgnoaadoor", sum := "7059835769031af644f68d65e42a6665a1a2640355065a887b6d3b102597d561", func := "wireglass/wireglasslaw01.BitsMends", spec := "bitsMends", unfollowed := true, recurses := true, named := ["wireglass/bits.crcTable"], apart := false, laid := [("wireglass/bits.crcTable", laid_wireglass_bits_crcTable)], narrowed := true }
def BitsMendsUptoSaid : Prop := bitsMendsUptoRow.holds Tryd.pinned (OpenSpec.upto bitsMendsSpec)

/-- 'wireglasslaw01.BitsMended', WHERE WHAT IT READS IS OF BULK AT MOST 1048576: true; the input reads as it did. -/
def bitsMendedUptoRow : OpenClaim := { program := "ytbgkkaecpmgnoaadoor", sum := "7059835769031af644f68d65e42a6665a1a2640355065a887b6d3b102597d561", func := "wireglass/wireglasslaw01.BitsMended", spec := "bitsMended", unfollowed := true, recurses := true, named := ["wireglass/bits.crcTable"], apart := false, laid := [("wireglass/bits.crcTable", laid_wireglass_bits_crcTable)], narrowed := true }
def BitsMendedUptoSaid : Prop := bitsMendedUptoRow.holds Tryd.pinned (OpenSpec.upto bitsMendedSpec)

/-- 'wireglasslaw01.BitsSevens', WHERE WHAT IT READS IS OF BULK AT MOST 1048576: true; the input reads as it did. -/
def bitsSevensUptoRow : OpenClaim := { program := "ytbgkkaecpmgnoaadoor", sum := "7059835769031af644f68d65e42a6665a1a2640355065a887b6d3b102597d561", func := "wireglass/wireglasslaw01.BitsSevens", spec := "bitsSevens", unfollowed := true, recurses := true, named := ["wireglass/bits.crcTable"], apart := false, laid := [("wireglass/bits.crcTable", laid_wireglass_bits_crcTable)], narrowed := true }
def BitsSevensUptoSaid : Prop := bitsSevensUptoRow.holds Tryd.pinned (OpenSpec.upto bitsSevensSpec)

end Rows
end Go.Proofs.YtbgkkaecpmgnoaaDoor
