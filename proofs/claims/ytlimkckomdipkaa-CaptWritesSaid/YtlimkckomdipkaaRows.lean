/-
  No cell of these rows narrows 'for every input' (looked for: loops, veiled, ifaces, maps, wideKeys, modest, calm, conditions, laid).
  DERIVED. THE GIVEN ROWS OF THIS SEAT. 5 by the template 'for every input the law returns true; each argument reads behind the call as it read before'; 0 by the template 'total and deterministic' (their statements: YtlimkckomdipkaaTotals.lean).
  GIVEN WITH THE SEED: the statements are not yours to turn. If you find one false, say at which input.
  Laid BY PROGRAM, IN A SANDBOX (cutbox-rows.mjs): the forced cells as the released guide's own fill.sh prints them over the translation d68a5aba28cdfd5a… (all of the seat's roots in one cut). By AI agents, Wed Nov 11 2026. No macro, syntax, notation, axiom, sorry.
-/
import Derived.Test.YtlimkckomdipkaaChecked
import GoSem.Claim
import GoSem.ClaimJoined
import GoSem.ClaimMapViews
import Derived.JoinedTies
import Derived.KernelRfl
namespace Go.Proofs.Ytlimkckomdipkaa
/- THE CELL 'sum', in the pinned program and in every row, IS THE sha256 OF THE DUMP (.gsa) THAT YtlimkckomdipkaaProg.lean LOADS. Nothing in Lean hashes anything: it is a label: what it is worth is what the hold of that sum in a sandbox is worth. -/
noncomputable def Try.pinned : Pinned := { name := "ytlimkckomdipkaa", sum := "d68a5aba28cdfd5a90cb1581bff8fd879223f795c0553b277bf6e5384f38388b", checked := Try.checked }
namespace Rows
def none {H : Type} : Left H := { results := [], args := [] }

/-- 'wireglasslaw02.CaptWrites': WHATEVER THE INPUT: true; the input reads as it did. -/
def captWritesSpec : ChangeSpec := { name := "captWrites", fn := fun _ => fun
  | [d1, d2, d3] => { results := [.lit (.bool true)], args := [d1, d2, d3] }
  | _ => none }
def captWritesRow : OpenClaim := { program := "ytlimkckomdipkaa", sum := "d68a5aba28cdfd5a90cb1581bff8fd879223f795c0553b277bf6e5384f38388b", func := "wireglass/wireglasslaw02.CaptWrites", spec := "captWrites", inPlace := ["internal/bytealg.Count", "internal/bytealg.IndexByte", "internal/bytealg.Index"], unfollowed := true, recurses := true, named := ["internal/bytealg.MaxLen"], apart := false }
def CaptWritesSaid : Prop := captWritesRow.holds Try.pinned (OpenSpec.ofChange captWritesSpec)

/-- ITS FALSE NEIGHBOUR: 'it returns false'. Refute it at one input. -/
def captWritesWrong : ChangeSpec := { name := "captWrites", fn := fun _ => fun
  | [d1, d2, d3] => { results := [.lit (.bool false)], args := [d1, d2, d3] }
  | _ => none }
def CaptWritesWrongFalsely : Prop := captWritesRow.holds Try.pinned (OpenSpec.ofChange captWritesWrong)

/-- 'wireglasslaw02.CaptPlain': WHATEVER THE INPUT: true; the input reads as it did. -/
def captPlainSpec : ChangeSpec := { name := "captPlain", fn := fun _ => fun
  | [d] => { results := [.lit (.bool true)], args := [d] }
  | _ => none }
def captPlainRow : OpenClaim := { program := "ytlimkckomdipkaa", sum := "d68a5aba28cdfd5a90cb1581bff8fd879223f795c0553b277bf6e5384f38388b", func := "wireglass/wireglasslaw02.CaptPlain", spec := "captPlain", unfollowed := true, recurses := true, apart := false }
def CaptPlainSaid : Prop := captPlainRow.holds Try.pinned (OpenSpec.ofChange captPlainSpec)

/-- ITS FALSE NEIGHBOUR: 'it returns false'. Refute it at one input. -/
def captPlainWrong : ChangeSpec := { name := "captPlain", fn := fun _ => fun
  | [d] => { results := [.lit (.bool false)], args := [d] }
  | _ => none }
def CaptPlainWrongFalsely : Prop := captPlainRow.holds Try.pinned (OpenSpec.ofChange captPlainWrong)

/-- 'wireglasslaw02.CaptCuts': WHATEVER THE INPUT: true; the input reads as it did. -/
def captCutsSpec : ChangeSpec := { name := "captCuts", fn := fun _ => fun
  | [d1, d2] => { results := [.lit (.bool true)], args := [d1, d2] }
  | _ => none }
def captCutsRow : OpenClaim := { program := "ytlimkckomdipkaa", sum := "d68a5aba28cdfd5a90cb1581bff8fd879223f795c0553b277bf6e5384f38388b", func := "wireglass/wireglasslaw02.CaptCuts", spec := "captCuts", unfollowed := true, recurses := true, apart := false }
def CaptCutsSaid : Prop := captCutsRow.holds Try.pinned (OpenSpec.ofChange captCutsSpec)

/-- ITS FALSE NEIGHBOUR: 'it returns false'. Refute it at one input. -/
def captCutsWrong : ChangeSpec := { name := "captCuts", fn := fun _ => fun
  | [d1, d2] => { results := [.lit (.bool false)], args := [d1, d2] }
  | _ => none }
def CaptCutsWrongFalsely : Prop := captCutsRow.holds Try.pinned (OpenSpec.ofChange captCutsWrong)

/-- 'wireglasslaw02.CaptSames': WHATEVER THE INPUT: true; the input reads as it did. -/
def captSamesSpec : ChangeSpec := { name := "captSames", fn := fun _ => fun
  | [d1, d2] => { results := [.lit (.bool true)], args := [d1, d2] }
  | _ => none }
def captSamesRow : OpenClaim := { program := "ytlimkckomdipkaa", sum := "d68a5aba28cdfd5a90cb1581bff8fd879223f795c0553b277bf6e5384f38388b", func := "wireglass/wireglasslaw02.CaptSames", spec := "captSames", unfollowed := true, recurses := true, apart := false }
def CaptSamesSaid : Prop := captSamesRow.holds Try.pinned (OpenSpec.ofChange captSamesSpec)

/-- ITS FALSE NEIGHBOUR: 'it returns false'. Refute it at one input. -/
def captSamesWrong : ChangeSpec := { name := "captSames", fn := fun _ => fun
  | [d1, d2] => { results := [.lit (.bool false)], args := [d1, d2] }
  | _ => none }
def CaptSamesWrongFalsely : Prop := captSamesRow.holds Try.pinned (OpenSpec.ofChange captSamesWrong)

/-- 'wireglasslaw02.CaptTorn': WHATEVER THE INPUT: true; the input reads as it did. -/
def captTornSpec : ChangeSpec := { name := "captTorn", fn := fun _ => fun
  | [d1, d2, d3] => { results := [.lit (.bool true)], args := [d1, d2, d3] }
  | _ => none }
def captTornRow : OpenClaim := { program := "ytlimkckomdipkaa", sum := "d68a5aba28cdfd5a90cb1581bff8fd879223f795c0553b277bf6e5384f38388b", func := "wireglass/wireglasslaw02.CaptTorn", spec := "captTorn", inPlace := ["internal/bytealg.Count", "internal/bytealg.IndexByte", "internal/bytealg.Index"], unfollowed := true, recurses := true, named := ["internal/bytealg.MaxLen"], apart := false }
def CaptTornSaid : Prop := captTornRow.holds Try.pinned (OpenSpec.ofChange captTornSpec)

/-- ITS FALSE NEIGHBOUR: 'it returns false'. Refute it at one input. -/
def captTornWrong : ChangeSpec := { name := "captTorn", fn := fun _ => fun
  | [d1, d2, d3] => { results := [.lit (.bool false)], args := [d1, d2, d3] }
  | _ => none }
def CaptTornWrongFalsely : Prop := captTornRow.holds Try.pinned (OpenSpec.ofChange captTornWrong)

/- THE SECOND FORM. 'bulk': how many values and letters a reading holds, each counted each time it is reached (what is shared counts as often as it is met; a slice's spare places count too). A statement '..UptoSaid' is the law's where the arguments, and the package variables that the reading takes, are together of bulk at most 1048576: NARROWER than '..Said'. Prove '..Said' where nothing that the law and all that it calls make is longer than what came in: it says more and counts as full. Else prove '..UptoSaid'. A law counts once. -/
mutual
def uptoBulk {H : Type} : DataW H → Nat
  | .lit (.string bytes) => bytes.length + 1
  | .lit _ => 1
  | .nil => 1
  | .ptr d => uptoBulk d + 1
  | .slice elems spare => uptoBulkAll elems + uptoBulkAll spare + 1
  | .agg parts => uptoBulkAll parts + 1
  | .iface _ d => uptoBulk d + 1
  | .map entries => uptoBulkEntries entries + 1
  | .held _ => 1
def uptoBulkAll {H : Type} : List (DataW H) → Nat
  | [] => 0
  | d :: r => uptoBulk d + uptoBulkAll r
def uptoBulkEntries {H : Type} : List (Lit × DataW H) → Nat
  | [] => 0
  | x :: r => uptoBulkEntry x + uptoBulkEntries r
def uptoBulkEntry {H : Type} : Lit × DataW H → Nat
  | (.string bytes, d) => bytes.length + uptoBulk d + 1
  | (_, d) => uptoBulk d + 1
 end
def uptoSmall : (H : Type) → List (DataW H) → Bool := fun _ ds => decide (uptoBulkAll ds ≤ 1048576)
def OpenSpec.upto (s : _root_.Go.ChangeSpec) : _root_.Go.OpenSpec := { _root_.Go.OpenSpec.ofChange s with cond := some uptoSmall }

/-- 'wireglasslaw02.CaptWrites', WHERE WHAT IT READS IS OF BULK AT MOST 1048576: true; the input reads as it did. -/
def captWritesUptoRow : OpenClaim := { program := "ytlimkckomdipkaa", sum := "d68a5aba28cdfd5a90cb1581bff8fd879223f795c0553b277bf6e5384f38388b", func := "wireglass/wireglasslaw02.CaptWrites", spec := "captWrites", inPlace := ["internal/bytealg.Count", "internal/bytealg.IndexByte", "internal/bytealg.Index"], unfollowed := true, recurses := true, named := ["internal/bytealg.MaxLen"], apart := false, narrowed := true }
def CaptWritesUptoSaid : Prop := captWritesUptoRow.holds Try.pinned (OpenSpec.upto captWritesSpec)

/-- 'wireglasslaw02.CaptPlain', WHERE WHAT IT READS IS OF BULK AT MOST 1048576: true; the input reads as it did. -/
def captPlainUptoRow : OpenClaim := { program := "ytlimkckomdipkaa", sum := "d68a5aba28cdfd5a90cb1581bff8fd879223f795c0553b277bf6e5384f38388b", func := "wireglass/wireglasslaw02.CaptPlain", spec := "captPlain", unfollowed := true, recurses := true, apart := false, narrowed := true }
def CaptPlainUptoSaid : Prop := captPlainUptoRow.holds Try.pinned (OpenSpec.upto captPlainSpec)

/-- 'wireglasslaw02.CaptCuts', WHERE WHAT IT READS IS OF BULK AT MOST 1048576: true; the input reads as it did. -/
def captCutsUptoRow : OpenClaim := { program := "ytlimkckomdipkaa", sum := "d68a5aba28cdfd5a90cb1581bff8fd879223f795c0553b277bf6e5384f38388b", func := "wireglass/wireglasslaw02.CaptCuts", spec := "captCuts", unfollowed := true, recurses := true, apart := false, narrowed := true }
def CaptCutsUptoSaid : Prop := captCutsUptoRow.holds Try.pinned (OpenSpec.upto captCutsSpec)

/-- 'wireglasslaw02.CaptSames', WHERE WHAT IT READS IS OF BULK AT MOST 1048576: true; the input reads as it did. -/
def captSamesUptoRow : OpenClaim := { program := "ytlimkckomdipkaa", sum := "d68a5aba28cdfd5a90cb1581bff8fd879223f795c0553b277bf6e5384f38388b", func := "wireglass/wireglasslaw02.CaptSames", spec := "captSames", unfollowed := true, recurses := true, apart := false, narrowed := true }
def CaptSamesUptoSaid : Prop := captSamesUptoRow.holds Try.pinned (OpenSpec.upto captSamesSpec)

/-- 'wireglasslaw02.CaptTorn', WHERE WHAT IT READS IS OF BULK AT MOST 1048576: true; the input reads as it did. -/
def captTornUptoRow : OpenClaim := { program := "ytlimkckomdipkaa", sum := "d68a5aba28cdfd5a90cb1581bff8fd879223f795c0553b277bf6e5384f38388b", func := "wireglass/wireglasslaw02.CaptTorn", spec := "captTorn", inPlace := ["internal/bytealg.Count", "internal/bytealg.IndexByte", "internal/bytealg.Index"], unfollowed := true, recurses := true, named := ["internal/bytealg.MaxLen"], apart := false, narrowed := true }
def CaptTornUptoSaid : Prop := captTornUptoRow.holds Try.pinned (OpenSpec.upto captTornSpec)

end Rows
end Go.Proofs.Ytlimkckomdipkaa
