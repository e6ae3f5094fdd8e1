/-
  No cell of these rows narrows 'for every input' (looked for: loops, veiled, ifaces, maps, wideKeys, modest, calm, conditions, laid).
  DERIVED. THE GIVEN ROWS OF THIS SEAT. 7 by the template 'for every input the law returns true; each argument reads behind the call as it read before'; 0 by the template 'total and deterministic' (their statements: YtmkminaipeodnaaTotals.lean).
  GIVEN WITH THE SEED: the statements are not yours to turn. If you find one false, say at which input.
  Laid BY PROGRAM, IN A SANDBOX (cutbox-rows.mjs): the forced cells as the released guide's own fill.sh prints them over the translation 34cf2e2134eba5ef… (all of the seat's roots in one cut). By AI agents, Wed Nov 11 2026. No macro, syntax, notation, axiom, sorry.
-/
import Derived.Test.YtmkminaipeodnaaChecked
import GoSem.Claim
import GoSem.ClaimJoined
import GoSem.ClaimMapViews
import Derived.JoinedTies
import Derived.KernelRfl
namespace Go.Proofs.Ytmkminaipeodnaa
/- THE CELL 'sum', in the pinned program and in every row, IS THE sha256 OF THE DUMP (.gsa) THAT YtmkminaipeodnaaProg.lean LOADS. Nothing in Lean hashes anything: it is a label: what it is worth is what the hold of that sum in a sandbox is worth. -/
noncomputable def Try.pinned : Pinned := { name := "ytmkminaipeodnaa", sum := "34cf2e2134eba5ef49caf632c0306a0e6e0dcb82b015ca20137575d75cbeedfe", checked := Try.checked }
namespace Rows
def none {H : Type} : Left H := { results := [], args := [] }

/-- 'yearbooklaw08.PmcFits': WHATEVER THE INPUT: true; the input reads as it did. -/
def pmcFitsSpec : ChangeSpec := { name := "pmcFits", fn := fun _ => fun
  | [d] => { results := [.lit (.bool true)], args := [d] }
  | _ => none }
def pmcFitsRow : OpenClaim := { program := "ytmkminaipeodnaa", sum := "34cf2e2134eba5ef49caf632c0306a0e6e0dcb82b015ca20137575d75cbeedfe", func := "yearbook/yearbooklaw08.PmcFits", spec := "pmcFits", unfollowed := true, recurses := true, apart := false }
def PmcFitsSaid : Prop := pmcFitsRow.holds Try.pinned (OpenSpec.ofChange pmcFitsSpec)

/-- ITS FALSE NEIGHBOUR: 'it returns false'. Refute it at one input. -/
def pmcFitsWrong : ChangeSpec := { name := "pmcFits", fn := fun _ => fun
  | [d] => { results := [.lit (.bool false)], args := [d] }
  | _ => none }
def PmcFitsWrongFalsely : Prop := pmcFitsRow.holds Try.pinned (OpenSpec.ofChange pmcFitsWrong)

/-- 'yearbooklaw08.PmcCuts': WHATEVER THE INPUT: true; the input reads as it did. -/
def pmcCutsSpec : ChangeSpec := { name := "pmcCuts", fn := fun _ => fun
  | [d] => { results := [.lit (.bool true)], args := [d] }
  | _ => none }
def pmcCutsRow : OpenClaim := { program := "ytmkminaipeodnaa", sum := "34cf2e2134eba5ef49caf632c0306a0e6e0dcb82b015ca20137575d75cbeedfe", func := "yearbook/yearbooklaw08.PmcCuts", spec := "pmcCuts", unfollowed := true, recurses := true, apart := false }
def PmcCutsSaid : Prop := pmcCutsRow.holds Try.pinned (OpenSpec.ofChange pmcCutsSpec)

/-- ITS FALSE NEIGHBOUR: 'it returns false'. Refute it at one input. -/
def pmcCutsWrong : ChangeSpec := { name := "pmcCuts", fn := fun _ => fun
  | [d] => { results := [.lit (.bool false)], args := [d] }
  | _ => none }
def PmcCutsWrongFalsely : Prop := pmcCutsRow.holds Try.pinned (OpenSpec.ofChange pmcCutsWrong)

/-- 'yearbooklaw08.PmcLeast': WHATEVER THE INPUT: true; the input reads as it did. -/
def pmcLeastSpec : ChangeSpec := { name := "pmcLeast", fn := fun _ => fun
  | [d1, d2] => { results := [.lit (.bool true)], args := [d1, d2] }
  | _ => none }
def pmcLeastRow : OpenClaim := { program := "ytmkminaipeodnaa", sum := "34cf2e2134eba5ef49caf632c0306a0e6e0dcb82b015ca20137575d75cbeedfe", func := "yearbook/yearbooklaw08.PmcLeast", spec := "pmcLeast", unfollowed := true, recurses := true, apart := false }
def PmcLeastSaid : Prop := pmcLeastRow.holds Try.pinned (OpenSpec.ofChange pmcLeastSpec)

/-- ITS FALSE NEIGHBOUR: 'it returns false'. Refute it at one input. -/
def pmcLeastWrong : ChangeSpec := { name := "pmcLeast", fn := fun _ => fun
  | [d1, d2] => { results := [.lit (.bool false)], args := [d1, d2] }
  | _ => none }
def PmcLeastWrongFalsely : Prop := pmcLeastRow.holds Try.pinned (OpenSpec.ofChange pmcLeastWrong)

/-- 'yearbooklaw08.PmcParts': WHATEVER THE INPUT: true; the input reads as it did. -/
def pmcPartsSpec : ChangeSpec := { name := "pmcParts", fn := fun _ => fun
  | [d] => { results := [.lit (.bool true)], args := [d] }
  | _ => none }
def pmcPartsRow : OpenClaim := { program := "ytmkminaipeodnaa", sum := "34cf2e2134eba5ef49caf632c0306a0e6e0dcb82b015ca20137575d75cbeedfe", func := "yearbook/yearbooklaw08.PmcParts", spec := "pmcParts", unfollowed := true, recurses := true, apart := false }
def PmcPartsSaid : Prop := pmcPartsRow.holds Try.pinned (OpenSpec.ofChange pmcPartsSpec)

/-- ITS FALSE NEIGHBOUR: 'it returns false'. Refute it at one input. -/
def pmcPartsWrong : ChangeSpec := { name := "pmcParts", fn := fun _ => fun
  | [d] => { results := [.lit (.bool false)], args := [d] }
  | _ => none }
def PmcPartsWrongFalsely : Prop := pmcPartsRow.holds Try.pinned (OpenSpec.ofChange pmcPartsWrong)

/-- 'yearbooklaw08.PmcPairs': WHATEVER THE INPUT: true; the input reads as it did. -/
def pmcPairsSpec : ChangeSpec := { name := "pmcPairs", fn := fun _ => fun
  | [d] => { results := [.lit (.bool true)], args := [d] }
  | _ => none }
def pmcPairsRow : OpenClaim := { program := "ytmkminaipeodnaa", sum := "34cf2e2134eba5ef49caf632c0306a0e6e0dcb82b015ca20137575d75cbeedfe", func := "yearbook/yearbooklaw08.PmcPairs", spec := "pmcPairs", unfollowed := true, recurses := true, apart := false }
def PmcPairsSaid : Prop := pmcPairsRow.holds Try.pinned (OpenSpec.ofChange pmcPairsSpec)

/-- ITS FALSE NEIGHBOUR: 'it returns false'. Refute it at one input. -/
def pmcPairsWrong : ChangeSpec := { name := "pmcPairs", fn := fun _ => fun
  | [d] => { results := [.lit (.bool false)], args := [d] }
  | _ => none }
def PmcPairsWrongFalsely : Prop := pmcPairsRow.holds Try.pinned (OpenSpec.ofChange pmcPairsWrong)

/-- 'yearbooklaw08.PmcNarrows': WHATEVER THE INPUT: true; the input reads as it did. -/
def pmcNarrowsSpec : ChangeSpec := { name := "pmcNarrows", fn := fun _ => fun
  | [d1, d2] => { results := [.lit (.bool true)], args := [d1, d2] }
  | _ => none }
def pmcNarrowsRow : OpenClaim := { program := "ytmkminaipeodnaa", sum := "34cf2e2134eba5ef49caf632c0306a0e6e0dcb82b015ca20137575d75cbeedfe", func := "yearbook/yearbooklaw08.PmcNarrows", spec := "pmcNarrows", unfollowed := true, recurses := true, apart := false }
def PmcNarrowsSaid : Prop := pmcNarrowsRow.holds Try.pinned (OpenSpec.ofChange pmcNarrowsSpec)

/-- ITS FALSE NEIGHBOUR: 'it returns false'. Refute it at one input. -/
def pmcNarrowsWrong : ChangeSpec := { name := "pmcNarrows", fn := fun _ => fun
  | [d1, d2] => { results := [.lit (.bool false)], args := [d1, d2] }
  | _ => none }
def PmcNarrowsWrongFalsely : Prop := pmcNarrowsRow.holds Try.pinned (OpenSpec.ofChange pmcNarrowsWrong)

/-- 'yearbooklaw08.PmcJoins': WHATEVER THE INPUT: true; the input reads as it did. -/
def pmcJoinsSpec : ChangeSpec := { name := "pmcJoins", fn := fun _ => fun
  | [d1, d2] => { results := [.lit (.bool true)], args := [d1, d2] }
  | _ => none }
def pmcJoinsRow : OpenClaim := { program := "ytmkminaipeodnaa", sum := "34cf2e2134eba5ef49caf632c0306a0e6e0dcb82b015ca20137575d75cbeedfe", func := "yearbook/yearbooklaw08.PmcJoins", spec := "pmcJoins", unfollowed := true, recurses := true, apart := false }
def PmcJoinsSaid : Prop := pmcJoinsRow.holds Try.pinned (OpenSpec.ofChange pmcJoinsSpec)

/-- ITS FALSE NEIGHBOUR: 'it returns false'. Refute it at one input. -/
def pmcJoinsWrong : ChangeSpec := { name := "pmcJoins", fn := fun _ => fun
  | [d1, d2] => { results := [.lit (.bool false)], args := [d1, d2] }
  | _ => none }
def PmcJoinsWrongFalsely : Prop := pmcJoinsRow.holds Try.pinned (OpenSpec.ofChange pmcJoinsWrong)

/- THE SECOND FORM. 'bulk': how many values and letters a reading holds, each counted each time it is reached (what is shared counts as often as it is met; a slice's spare places count too). A statement '..UptoSaid' is the law's where the arguments, and the package variables that the reading takes, are together of bulk at most 1048576: NARROWER than '..Said'. Prove '..Said' where nothing that the law and all that it calls make is longer than what came in: it says more and counts as full. Else prove '..UptoSaid'. A law counts once. -/
mutual
def uptoBulk {H : Type} : DataW H → Nat
  | .lit (.string bytes) => bytes.length + 1
  | .lit _ => 1
  | .nil => 1
  | .ptr d => uptoBulk d + 1
  | .slice elems spare => uptoBulkAll elems + uptoBulkAll spare + 1
  | .agg parts => uptoBulkAll parts + 1
  | .iface _ d => uptoBulk d + 1
  | .map entries => uptoBulkEntries entries + 1
  | .held _ => 1
def uptoBulkAll {H : Type} : List (DataW H) → Nat
  | [] => 0
  | d :: r => uptoBulk d + uptoBulkAll r
def uptoBulkEntries {H : Type} : List (Lit × DataW H) → Nat
  | [] => 0
  | x :: r => uptoBulkEntry x + uptoBulkEntries r
def uptoBulkEntry {H : Type} : Lit × DataW H → Nat
  | (.string bytes, d) => bytes.length + uptoBulk d + 1
  | (_, d) => uptoBulk d + 1
 end
def uptoSmall : (H : Type) → List (DataW H) → Bool := fun _ ds => decide (uptoBulkAll ds ≤ 1048576)
def OpenSpec.upto (s : _root_.Go.ChangeSpec) : _root_.Go.OpenSpec := { _root_.Go.OpenSpec.ofChange s with cond := some uptoSmall }

/-- 'yearbooklaw08.PmcFits', WHERE WHAT IT READS IS OF BULK AT MOST 1048576: true; the input reads as it did. -/
def pmcFitsUptoRow : OpenClaim := { program := "ytmkminaipeodnaa", sum := "34cf2e2134eba5ef49caf632c0306a0e6e0dcb82b015ca20137575d75cbeedfe", func := "yearbook/yearbooklaw08.PmcFits", spec := "pmcFits", unfollowed := true, recurses := true, apart := false, narrowed := true }
def PmcFitsUptoSaid : Prop := pmcFitsUptoRow.holds Try.pinned (OpenSpec.upto pmcFitsSpec)

/-- 'yearbooklaw08.PmcCuts', WHERE WHAT IT READS IS OF BULK AT MOST 1048576: true; the input reads as it did. -/
def pmcCutsUptoRow : OpenClaim := { program := "ytmkminaipeodnaa", sum := "34cf2e2134eba5ef49caf632c0306a0e6e0dcb82b015ca20137575d75cbeedfe", func := "yearbook/yearbooklaw08.PmcCuts", spec := "pmcCuts", unfollowed := true, recurses := true, apart := false, narrowed := true }
def PmcCutsUptoSaid : Prop := pmcCutsUptoRow.holds Try.pinned (OpenSpec.upto pmcCutsSpec)

/-- 'yearbooklaw08.PmcLeast', WHERE WHAT IT READS IS OF BULK AT MOST 1048576: true; the input reads as it did. -/
def pmcLeastUptoRow : OpenClaim := { program := "ytmkminaipeodnaa", sum := "34cf2e2134eba5ef49caf632c0306a0e6e0dcb82b015ca20137575d75cbeedfe", func := "yearbook/yearbooklaw08.PmcLeast", spec := "pmcLeast", unfollowed := true, recurses := true, apart := false, narrowed := true }
def PmcLeastUptoSaid : Prop := pmcLeastUptoRow.holds Try.pinned (OpenSpec.upto pmcLeastSpec)

/-- 'yearbooklaw08.PmcParts', WHERE WHAT IT READS IS OF BULK AT MOST 1048576: true; the input reads as it did. -/
def pmcPartsUptoRow : OpenClaim := { program := "ytmkminaipeodnaa", sum := "34cf2e2134eba5ef49caf632c0306a0e6e0dcb82b015ca20137575d75cbeedfe", func := "yearbook/yearbooklaw08.PmcParts", spec := "pmcParts", unfollowed := true, recurses := true, apart := false, narrowed := true }
def PmcPartsUptoSaid : Prop := pmcPartsUptoRow.holds Try.pinned (OpenSpec.upto pmcPartsSpec)

/-- 'yearbooklaw08.PmcPairs', WHERE WHAT IT READS IS OF BULK AT MOST 1048576: true; the input reads as it did. -/
def pmcPairsUptoRow : OpenClaim := { program := "ytmkminaipeodnaa", sum := "34cf2e2134eba5ef49caf632c0306a0e6e0dcb82b015ca20137575d75cbeedfe", func := "yearbook/yearbooklaw08.PmcPairs", spec := "pmcPairs", unfollowed := true, recurses := true, apart := false, narrowed := true }
def PmcPairsUptoSaid : Prop := pmcPairsUptoRow.holds Try.pinned (OpenSpec.upto pmcPairsSpec)

/-- 'yearbooklaw08.PmcNarrows', WHERE WHAT IT READS IS OF BULK AT MOST 1048576: true; the input reads as it did. -/
def pmcNarrowsUptoRow : OpenClaim := { program := "ytmkminaipeodnaa", sum := "34cf2e2134eba5ef49caf632c0306a0e6e0dcb82b015ca20137575d75cbeedfe", func := "yearbook/yearbooklaw08.PmcNarrows", spec := "pmcNarrows", unfollowed := true, recurses := true, apart := false, narrowed := true }
def PmcNarrowsUptoSaid : Prop := pmcNarrowsUptoRow.holds Try.pinned (OpenSpec.upto pmcNarrowsSpec)

/-- 'yearbooklaw08.PmcJoins', WHERE WHAT IT READS IS OF BULK AT MOST 1048576: true; the input reads as it did. -/
def pmcJoinsUptoRow : OpenClaim := { program := "ytmkminaipeodnaa", sum := "34cf2e2134eba5ef49caf632c0306a0e6e0dcb82b015ca20137575d75cbeedfe", func := "yearbook/yearbooklaw08.PmcJoins", spec := "pmcJoins", unfollowed := true, recurses := true, apart := false, narrowed := true }
def PmcJoinsUptoSaid : Prop := pmcJoinsUptoRow.holds Try.pinned (OpenSpec.upto pmcJoinsSpec)

end Rows
end Go.Proofs.Ytmkminaipeodnaa
