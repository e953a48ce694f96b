/-
  No cell of these rows narrows 'for every input' (looked for: loops, veiled, ifaces, maps, wideKeys, modest, calm, conditions, laid).
  DERIVED. THE GIVEN ROWS OF THIS SEAT. 12 by the template 'for every input the law returns true; each argument reads behind the call as it read before'; 0 by the template 'total and deterministic' (their statements: YtacnclofbnafiaaTotals.lean).
  GIVEN WITH THE SEED: the statements are not yours to turn. If you find one false, say at which input.
  Laid BY PROGRAM, IN A SANDBOX (cutbox-rows.mjs): the forced cells as the released guide's own fill.sh prints them over the translation eb4f7cb83b476ef8… (all of the seat's roots in one cut). By AI agents, Wed Nov 11 2026. No macro, syntax, notation, axiom, sorry.
-/
import Derived.Test.YtacnclofbnafiaaChecked
import GoSem.Claim
import GoSem.ClaimJoined
import GoSem.ClaimMapViews
import Derived.JoinedTies
import Derived.KernelRfl
namespace Go.Proofs.Ytacnclofbnafiaa
/- THE CELL 'sum', in the pinned program and in every row, IS THE sha256 OF THE DUMP (.gsa) THAT YtacnclofbnafiaaProg.lean LOADS. Nothing in Lean hashes anything: it is a label: what it is worth is what the hold of that sum in a sandbox is worth. -/
noncomputable def Try.pinned : Pinned := { name := "ytacnclofbnafiaa", sum := "eb4f7cb83b476ef89e57a96e1409b1f0a008c53ef47842d2509e04f6e354eeb8", checked := Try.checked }
namespace Rows
def none {H : Type} : Left H := { results := [], args := [] }

/-- 'intervalslaw.Rounds': WHATEVER THE INPUT: true; the input reads as it did. -/
def roundsSpec : ChangeSpec := { name := "rounds", fn := fun _ => fun
  | [d1, d2] => { results := [.lit (.bool true)], args := [d1, d2] }
  | _ => none }
def roundsRow : OpenClaim := { program := "ytacnclofbnafiaa", sum := "eb4f7cb83b476ef89e57a96e1409b1f0a008c53ef47842d2509e04f6e354eeb8", func := "intervals/intervalslaw.Rounds", spec := "rounds", inPlace := ["math.Float64frombits", "math.Float64bits", "math.FMA", "math.sqrt"], apart := false }
def RoundsSaid : Prop := roundsRow.holds Try.pinned (OpenSpec.ofChange roundsSpec)

/-- ITS FALSE NEIGHBOUR: 'it returns false'. Refute it at one input. -/
def roundsWrong : ChangeSpec := { name := "rounds", fn := fun _ => fun
  | [d1, d2] => { results := [.lit (.bool false)], args := [d1, d2] }
  | _ => none }
def RoundsWrongFalsely : Prop := roundsRow.holds Try.pinned (OpenSpec.ofChange roundsWrong)

/-- 'intervalslaw.Near': WHATEVER THE INPUT: true; the input reads as it did. -/
def nearSpec : ChangeSpec := { name := "near", fn := fun _ => fun
  | [d1, d2] => { results := [.lit (.bool true)], args := [d1, d2] }
  | _ => none }
def nearRow : OpenClaim := { program := "ytacnclofbnafiaa", sum := "eb4f7cb83b476ef89e57a96e1409b1f0a008c53ef47842d2509e04f6e354eeb8", func := "intervals/intervalslaw.Near", spec := "near", inPlace := ["math.Float64frombits", "math.Float64bits", "math.FMA", "math.sqrt"], apart := false }
def NearSaid : Prop := nearRow.holds Try.pinned (OpenSpec.ofChange nearSpec)

/-- ITS FALSE NEIGHBOUR: 'it returns false'. Refute it at one input. -/
def nearWrong : ChangeSpec := { name := "near", fn := fun _ => fun
  | [d1, d2] => { results := [.lit (.bool false)], args := [d1, d2] }
  | _ => none }
def NearWrongFalsely : Prop := nearRow.holds Try.pinned (OpenSpec.ofChange nearWrong)

/-- 'intervalslaw.Sums': WHATEVER THE INPUT: true; the input reads as it did. -/
def sumsSpec : ChangeSpec := { name := "sums", fn := fun _ => fun
  | [d1, d2, d3, d4] => { results := [.lit (.bool true)], args := [d1, d2, d3, d4] }
  | _ => none }
def sumsRow : OpenClaim := { program := "ytacnclofbnafiaa", sum := "eb4f7cb83b476ef89e57a96e1409b1f0a008c53ef47842d2509e04f6e354eeb8", func := "intervals/intervalslaw.Sums", spec := "sums", inPlace := ["math.Float64bits", "math.Float64frombits"], apart := false }
def SumsSaid : Prop := sumsRow.holds Try.pinned (OpenSpec.ofChange sumsSpec)

/-- ITS FALSE NEIGHBOUR: 'it returns false'. Refute it at one input. -/
def sumsWrong : ChangeSpec := { name := "sums", fn := fun _ => fun
  | [d1, d2, d3, d4] => { results := [.lit (.bool false)], args := [d1, d2, d3, d4] }
  | _ => none }
def SumsWrongFalsely : Prop := sumsRow.holds Try.pinned (OpenSpec.ofChange sumsWrong)

/-- 'intervalslaw.Products': WHATEVER THE INPUT: true; the input reads as it did. -/
def productsSpec : ChangeSpec := { name := "products", fn := fun _ => fun
  | [d1, d2, d3, d4] => { results := [.lit (.bool true)], args := [d1, d2, d3, d4] }
  | _ => none }
def productsRow : OpenClaim := { program := "ytacnclofbnafiaa", sum := "eb4f7cb83b476ef89e57a96e1409b1f0a008c53ef47842d2509e04f6e354eeb8", func := "intervals/intervalslaw.Products", spec := "products", inPlace := ["math.Float64bits", "math.Float64frombits", "math.FMA"], apart := false }
def ProductsSaid : Prop := productsRow.holds Try.pinned (OpenSpec.ofChange productsSpec)

/-- ITS FALSE NEIGHBOUR: 'it returns false'. Refute it at one input. -/
def productsWrong : ChangeSpec := { name := "products", fn := fun _ => fun
  | [d1, d2, d3, d4] => { results := [.lit (.bool false)], args := [d1, d2, d3, d4] }
  | _ => none }
def ProductsWrongFalsely : Prop := productsRow.holds Try.pinned (OpenSpec.ofChange productsWrong)

/-- 'intervalslaw.Roots': WHATEVER THE INPUT: true; the input reads as it did. -/
def rootsSpec : ChangeSpec := { name := "roots", fn := fun _ => fun
  | [d1, d2] => { results := [.lit (.bool true)], args := [d1, d2] }
  | _ => none }
def rootsRow : OpenClaim := { program := "ytacnclofbnafiaa", sum := "eb4f7cb83b476ef89e57a96e1409b1f0a008c53ef47842d2509e04f6e354eeb8", func := "intervals/intervalslaw.Roots", spec := "roots", inPlace := ["math.Float64bits", "math.Float64frombits", "math.FMA", "math.sqrt"], apart := false }
def RootsSaid : Prop := rootsRow.holds Try.pinned (OpenSpec.ofChange rootsSpec)

/-- ITS FALSE NEIGHBOUR: 'it returns false'. Refute it at one input. -/
def rootsWrong : ChangeSpec := { name := "roots", fn := fun _ => fun
  | [d1, d2] => { results := [.lit (.bool false)], args := [d1, d2] }
  | _ => none }
def RootsWrongFalsely : Prop := rootsRow.holds Try.pinned (OpenSpec.ofChange rootsWrong)

/-- 'intervalslaw.Lattice': WHATEVER THE INPUT: true; the input reads as it did. -/
def latticeSpec : ChangeSpec := { name := "lattice", fn := fun _ => fun
  | [d1, d2, d3, d4] => { results := [.lit (.bool true)], args := [d1, d2, d3, d4] }
  | _ => none }
def latticeRow : OpenClaim := { program := "ytacnclofbnafiaa", sum := "eb4f7cb83b476ef89e57a96e1409b1f0a008c53ef47842d2509e04f6e354eeb8", func := "intervals/intervalslaw.Lattice", spec := "lattice", inPlace := ["math.Float64bits", "math.Float64frombits"], apart := false }
def LatticeSaid : Prop := latticeRow.holds Try.pinned (OpenSpec.ofChange latticeSpec)

/-- ITS FALSE NEIGHBOUR: 'it returns false'. Refute it at one input. -/
def latticeWrong : ChangeSpec := { name := "lattice", fn := fun _ => fun
  | [d1, d2, d3, d4] => { results := [.lit (.bool false)], args := [d1, d2, d3, d4] }
  | _ => none }
def LatticeWrongFalsely : Prop := latticeRow.holds Try.pinned (OpenSpec.ofChange latticeWrong)

/-- 'intervalslaw.Encloses': WHATEVER THE INPUT: true; the input reads as it did. -/
def enclosesSpec : ChangeSpec := { name := "encloses", fn := fun _ => fun
  | [d1, d2, d3, d4, d5, d6] => { results := [.lit (.bool true)], args := [d1, d2, d3, d4, d5, d6] }
  | _ => none }
def enclosesRow : OpenClaim := { program := "ytacnclofbnafiaa", sum := "eb4f7cb83b476ef89e57a96e1409b1f0a008c53ef47842d2509e04f6e354eeb8", func := "intervals/intervalslaw.Encloses", spec := "encloses", inPlace := ["math.Float64bits", "math.Float64frombits", "math.FMA", "math.sqrt"], apart := false }
def EnclosesSaid : Prop := enclosesRow.holds Try.pinned (OpenSpec.ofChange enclosesSpec)

/-- ITS FALSE NEIGHBOUR: 'it returns false'. Refute it at one input. -/
def enclosesWrong : ChangeSpec := { name := "encloses", fn := fun _ => fun
  | [d1, d2, d3, d4, d5, d6] => { results := [.lit (.bool false)], args := [d1, d2, d3, d4, d5, d6] }
  | _ => none }
def EnclosesWrongFalsely : Prop := enclosesRow.holds Try.pinned (OpenSpec.ofChange enclosesWrong)

/-- 'intervalslaw.Grows': WHATEVER THE INPUT: true; the input reads as it did. -/
def growsSpec : ChangeSpec := { name := "grows", fn := fun _ => fun
  | [d1, d2, d3, d4, d5, d6] => { results := [.lit (.bool true)], args := [d1, d2, d3, d4, d5, d6] }
  | _ => none }
def growsRow : OpenClaim := { program := "ytacnclofbnafiaa", sum := "eb4f7cb83b476ef89e57a96e1409b1f0a008c53ef47842d2509e04f6e354eeb8", func := "intervals/intervalslaw.Grows", spec := "grows", inPlace := ["math.Float64bits", "math.Float64frombits", "math.FMA", "math.sqrt"], apart := false }
def GrowsSaid : Prop := growsRow.holds Try.pinned (OpenSpec.ofChange growsSpec)

/-- ITS FALSE NEIGHBOUR: 'it returns false'. Refute it at one input. -/
def growsWrong : ChangeSpec := { name := "grows", fn := fun _ => fun
  | [d1, d2, d3, d4, d5, d6] => { results := [.lit (.bool false)], args := [d1, d2, d3, d4, d5, d6] }
  | _ => none }
def GrowsWrongFalsely : Prop := growsRow.holds Try.pinned (OpenSpec.ofChange growsWrong)

/-- 'intervalslaw.Boxed': WHATEVER THE INPUT: true; the input reads as it did. -/
def boxedSpec : ChangeSpec := { name := "boxed", fn := fun _ => fun
  | [d] => { results := [.lit (.bool true)], args := [d] }
  | _ => none }
def boxedRow : OpenClaim := { program := "ytacnclofbnafiaa", sum := "eb4f7cb83b476ef89e57a96e1409b1f0a008c53ef47842d2509e04f6e354eeb8", func := "intervals/intervalslaw.Boxed", spec := "boxed", inPlace := ["math.Float64bits", "math.Float64frombits", "math.FMA"], apart := false }
def BoxedSaid : Prop := boxedRow.holds Try.pinned (OpenSpec.ofChange boxedSpec)

/-- ITS FALSE NEIGHBOUR: 'it returns false'. Refute it at one input. -/
def boxedWrong : ChangeSpec := { name := "boxed", fn := fun _ => fun
  | [d] => { results := [.lit (.bool false)], args := [d] }
  | _ => none }
def BoxedWrongFalsely : Prop := boxedRow.holds Try.pinned (OpenSpec.ofChange boxedWrong)

/-- 'intervalslaw.DiscsHold': WHATEVER THE INPUT: true; the input reads as it did. -/
def discsHoldSpec : ChangeSpec := { name := "discsHold", fn := fun _ => fun
  | [d1, d2, d3, d4, d5] => { results := [.lit (.bool true)], args := [d1, d2, d3, d4, d5] }
  | _ => none }
def discsHoldRow : OpenClaim := { program := "ytacnclofbnafiaa", sum := "eb4f7cb83b476ef89e57a96e1409b1f0a008c53ef47842d2509e04f6e354eeb8", func := "intervals/intervalslaw.DiscsHold", spec := "discsHold", inPlace := ["math.Float64bits", "math.Float64frombits", "math.FMA", "math.sqrt"], unfollowed := true, recurses := true, apart := false }
def DiscsHoldSaid : Prop := discsHoldRow.holds Try.pinned (OpenSpec.ofChange discsHoldSpec)

/-- ITS FALSE NEIGHBOUR: 'it returns false'. Refute it at one input. -/
def discsHoldWrong : ChangeSpec := { name := "discsHold", fn := fun _ => fun
  | [d1, d2, d3, d4, d5] => { results := [.lit (.bool false)], args := [d1, d2, d3, d4, d5] }
  | _ => none }
def DiscsHoldWrongFalsely : Prop := discsHoldRow.holds Try.pinned (OpenSpec.ofChange discsHoldWrong)

/-- 'intervalslaw.Tight': WHATEVER THE INPUT: true; the input reads as it did. -/
def tightSpec : ChangeSpec := { name := "tight", fn := fun _ => fun
  | [d] => { results := [.lit (.bool true)], args := [d] }
  | _ => none }
def tightRow : OpenClaim := { program := "ytacnclofbnafiaa", sum := "eb4f7cb83b476ef89e57a96e1409b1f0a008c53ef47842d2509e04f6e354eeb8", func := "intervals/intervalslaw.Tight", spec := "tight", inPlace := ["math.Float64bits", "math.Float64frombits", "math.FMA", "math.sqrt", "math.archHypot"], unfollowed := true, recurses := true, apart := false }
def TightSaid : Prop := tightRow.holds Try.pinned (OpenSpec.ofChange tightSpec)

/-- ITS FALSE NEIGHBOUR: 'it returns false'. Refute it at one input. -/
def tightWrong : ChangeSpec := { name := "tight", fn := fun _ => fun
  | [d] => { results := [.lit (.bool false)], args := [d] }
  | _ => none }
def TightWrongFalsely : Prop := tightRow.holds Try.pinned (OpenSpec.ofChange tightWrong)

/-- 'intervalslaw.Turned': WHATEVER THE INPUT: true; the input reads as it did. -/
def turnedSpec : ChangeSpec := { name := "turned", fn := fun _ => fun
  | [d1, d2, d3] => { results := [.lit (.bool true)], args := [d1, d2, d3] }
  | _ => none }
def turnedRow : OpenClaim := { program := "ytacnclofbnafiaa", sum := "eb4f7cb83b476ef89e57a96e1409b1f0a008c53ef47842d2509e04f6e354eeb8", func := "intervals/intervalslaw.Turned", spec := "turned", inPlace := ["math.Float64bits", "math.Float64frombits", "math.FMA", "math.sqrt", "math.archMax", "math.archHypot"], apart := false }
def TurnedSaid : Prop := turnedRow.holds Try.pinned (OpenSpec.ofChange turnedSpec)

/-- ITS FALSE NEIGHBOUR: 'it returns false'. Refute it at one input. -/
def turnedWrong : ChangeSpec := { name := "turned", fn := fun _ => fun
  | [d1, d2, d3] => { results := [.lit (.bool false)], args := [d1, d2, d3] }
  | _ => none }
def TurnedWrongFalsely : Prop := turnedRow.holds Try.pinned (OpenSpec.ofChange turnedWrong)

/- THE SECOND FORM. 'bulk': how many values and letters a reading holds, each counted each time it is reached (what is shared counts as often as it is met; a slice's spare places count too). A statement '..UptoSaid' is the law's where the arguments, and the package variables that the reading takes, are together of bulk at most 1048576: NARROWER than '..Said'. Prove '..Said' where nothing that the law and all that it calls make is longer than what came in: it says more and counts as full. Else prove '..UptoSaid'. A law counts once. -/
mutual
def uptoBulk {H : Type} : DataW H → Nat
  | .lit (.string bytes) => bytes.length + 1
  | .lit _ => 1
  | .nil => 1
  | .ptr d => uptoBulk d + 1
  | .slice elems spare => uptoBulkAll elems + uptoBulkAll spare + 1
  | .agg parts => uptoBulkAll parts + 1
  | .iface _ d => uptoBulk d + 1
  | .map entries => uptoBulkEntries entries + 1
  | .held _ => 1
def uptoBulkAll {H : Type} : List (DataW H) → Nat
  | [] => 0
  | d :: r => uptoBulk d + uptoBulkAll r
def uptoBulkEntries {H : Type} : List (Lit × DataW H) → Nat
  | [] => 0
  | x :: r => uptoBulkEntry x + uptoBulkEntries r
def uptoBulkEntry {H : Type} : Lit × DataW H → Nat
  | (.string bytes, d) => bytes.length + uptoBulk d + 1
  | (_, d) => uptoBulk d + 1
 end
def uptoSmall : (H : Type) → List (DataW H) → Bool := fun _ ds => decide (uptoBulkAll ds ≤ 1048576)
def OpenSpec.upto (s : _root_.Go.ChangeSpec) : _root_.Go.OpenSpec := { _root_.Go.OpenSpec.ofChange s with cond := some uptoSmall }

/-- 'intervalslaw.Rounds', WHERE WHAT IT READS IS OF BULK AT MOST 1048576: true; the input reads as it did. -/
def roundsUptoRow : OpenClaim := { program := "ytacnclofbnafiaa", sum := "eb4f7cb83b476ef89e57a96e1409b1f0a008c53ef47842d2509e04f6e354eeb8", func := "intervals/intervalslaw.Rounds", spec := "rounds", inPlace := ["math.Float64frombits", "math.Float64bits", "math.FMA", "math.sqrt"], apart := false, narrowed := true }
def RoundsUptoSaid : Prop := roundsUptoRow.holds Try.pinned (OpenSpec.upto roundsSpec)

/-- 'intervalslaw.Near', WHERE WHAT IT READS IS OF BULK AT MOST 1048576: true; the input reads as it did. -/
def nearUptoRow : OpenClaim := { program := "ytacnclofbnafiaa", sum := "eb4f7cb83b476ef89e57a96e1409b1f0a008c53ef47842d2509e04f6e354eeb8", func := "intervals/intervalslaw.Near", spec := "near", inPlace := ["math.Float64frombits", "math.Float64bits", "math.FMA", "math.sqrt"], apart := false, narrowed := true }
def NearUptoSaid : Prop := nearUptoRow.holds Try.pinned (OpenSpec.upto nearSpec)

/-- 'intervalslaw.Sums', WHERE WHAT IT READS IS OF BULK AT MOST 1048576: true; the input reads as it did. -/
def sumsUptoRow : OpenClaim := { program := "ytacnclofbnafiaa", sum := "eb4f7cb83b476ef89e57a96e1409b1f0a008c53ef47842d2509e04f6e354eeb8", func := "intervals/intervalslaw.Sums", spec := "sums", inPlace := ["math.Float64bits", "math.Float64frombits"], apart := false, narrowed := true }
def SumsUptoSaid : Prop := sumsUptoRow.holds Try.pinned (OpenSpec.upto sumsSpec)

/-- 'intervalslaw.Products', WHERE WHAT IT READS IS OF BULK AT MOST 1048576: true; the input reads as it did. -/
def productsUptoRow : OpenClaim := { program := "ytacnclofbnafiaa", sum := "eb4f7cb83b476ef89e57a96e1409b1f0a008c53ef47842d2509e04f6e354eeb8", func := "intervals/intervalslaw.Products", spec := "products", inPlace := ["math.Float64bits", "math.Float64frombits", "math.FMA"], apart := false, narrowed := true }
def ProductsUptoSaid : Prop := productsUptoRow.holds Try.pinned (OpenSpec.upto productsSpec)

/-- 'intervalslaw.Roots', WHERE WHAT IT READS IS OF BULK AT MOST 1048576: true; the input reads as it did. -/
def rootsUptoRow : OpenClaim := { program := "ytacnclofbnafiaa", sum := "eb4f7cb83b476ef89e57a96e1409b1f0a008c53ef47842d2509e04f6e354eeb8", func := "intervals/intervalslaw.Roots", spec := "roots", inPlace := ["math.Float64bits", "math.Float64frombits", "math.FMA", "math.sqrt"], apart := false, narrowed := true }
def RootsUptoSaid : Prop := rootsUptoRow.holds Try.pinned (OpenSpec.upto rootsSpec)

/-- 'intervalslaw.Lattice', WHERE WHAT IT READS IS OF BULK AT MOST 1048576: true; the input reads as it did. -/
def latticeUptoRow : OpenClaim := { program := "ytacnclofbnafiaa", sum := "eb4f7cb83b476ef89e57a96e1409b1f0a008c53ef47842d2509e04f6e354eeb8", func := "intervals/intervalslaw.Lattice", spec := "lattice", inPlace := ["math.Float64bits", "math.Float64frombits"], apart := false, narrowed := true }
def LatticeUptoSaid : Prop := latticeUptoRow.holds Try.pinned (OpenSpec.upto latticeSpec)

/-- 'intervalslaw.Encloses', WHERE WHAT IT READS IS OF BULK AT MOST 1048576: true; the input reads as it did. -/
def enclosesUptoRow : OpenClaim := { program := "ytacnclofbnafiaa", sum := "eb4f7cb83b476ef89e57a96e1409b1f0a008c53ef47842d2509e04f6e354eeb8", func := "intervals/intervalslaw.Encloses", spec := "encloses", inPlace := ["math.Float64bits", "math.Float64frombits", "math.FMA", "math.sqrt"], apart := false, narrowed := true }
def EnclosesUptoSaid : Prop := enclosesUptoRow.holds Try.pinned (OpenSpec.upto enclosesSpec)

/-- 'intervalslaw.Grows', WHERE WHAT IT READS IS OF BULK AT MOST 1048576: true; the input reads as it did. -/
def growsUptoRow : OpenClaim := { program := "ytacnclofbnafiaa", sum := "eb4f7cb83b476ef89e57a96e1409b1f0a008c53ef47842d2509e04f6e354eeb8", func := "intervals/intervalslaw.Grows", spec := "grows", inPlace := ["math.Float64bits", "math.Float64frombits", "math.FMA", "math.sqrt"], apart := false, narrowed := true }
def GrowsUptoSaid : Prop := growsUptoRow.holds Try.pinned (OpenSpec.upto growsSpec)

/-- 'intervalslaw.Boxed', WHERE WHAT IT READS IS OF BULK AT MOST 1048576: true; the input reads as it did. -/
def boxedUptoRow : OpenClaim := { program := "ytacnclofbnafiaa", sum := "eb4f7cb83b476ef89e57a96e1409b1f0a008c53ef47842d2509e04f6e354eeb8", func := "intervals/intervalslaw.Boxed", spec := "boxed", inPlace := ["math.Float64bits", "math.Float64frombits", "math.FMA"], apart := false, narrowed := true }
def BoxedUptoSaid : Prop := boxedUptoRow.holds Try.pinned (OpenSpec.upto boxedSpec)

/-- 'intervalslaw.DiscsHold', WHERE WHAT IT READS IS OF BULK AT MOST 1048576: true; the input reads as it did. -/
def discsHoldUptoRow : OpenClaim := { program := "ytacnclofbnafiaa", sum := "eb4f7cb83b476ef89e57a96e1409b1f0a008c53ef47842d2509e04f6e354eeb8", func := "intervals/intervalslaw.DiscsHold", spec := "discsHold", inPlace := ["math.Float64bits", "math.Float64frombits", "math.FMA", "math.sqrt"], unfollowed := true, recurses := true, apart := false, narrowed := true }
def DiscsHoldUptoSaid : Prop := discsHoldUptoRow.holds Try.pinned (OpenSpec.upto discsHoldSpec)

/-- 'intervalslaw.Tight', WHERE WHAT IT READS IS OF BULK AT MOST 1048576: true; the input reads as it did. -/
def tightUptoRow : OpenClaim := { program := "ytacnclofbnafiaa", sum := "eb4f7cb83b476ef89e57a96e1409b1f0a008c53ef47842d2509e04f6e354eeb8", func := "intervals/intervalslaw.Tight", spec := "tight", inPlace := ["math.Float64bits", "math.Float64frombits", "math.FMA", "math.sqrt", "math.archHypot"], unfollowed := true, recurses := true, apart := false, narrowed := true }
def TightUptoSaid : Prop := tightUptoRow.holds Try.pinned (OpenSpec.upto tightSpec)

/-- 'intervalslaw.Turned', WHERE WHAT IT READS IS OF BULK AT MOST 1048576: true; the input reads as it did. -/
def turnedUptoRow : OpenClaim := { program := "ytacnclofbnafiaa", sum := "eb4f7cb83b476ef89e57a96e1409b1f0a008c53ef47842d2509e04f6e354eeb8", func := "intervals/intervalslaw.Turned", spec := "turned", inPlace := ["math.Float64bits", "math.Float64frombits", "math.FMA", "math.sqrt", "math.archMax", "math.archHypot"], apart := false, narrowed := true }
def TurnedUptoSaid : Prop := turnedUptoRow.holds Try.pinned (OpenSpec.upto turnedSpec)

end Rows
end Go.Proofs.Ytacnclofbnafiaa
