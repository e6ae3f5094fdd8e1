/-
  No cell of these rows narrows 'for every input' (looked for: loops, veiled, ifaces, maps, wideKeys, modest, calm, conditions, laid).
  DERIVED. THE GIVEN ROWS OF THIS SEAT. 8 by the template 'for every input the law returns true; each argument reads behind the call as it read before'; 0 by the template 'total and deterministic' (their statements: YtldfkfienlcipaaTotals.lean).
  GIVEN WITH THE SEED: the statements are not yours to turn. If you find one false, say at which input.
  Laid BY PROGRAM, IN A SANDBOX (cutbox-rows.mjs): the forced cells as the released guide's own fill.sh prints them over the translation c89416341de45e5c… (all of the seat's roots in one cut). By AI agents, Wed Nov 11 2026. No macro, syntax, notation, axiom, sorry.
-/
import Derived.Test.YtldfkfienlcipaaChecked
import GoSem.Claim
import GoSem.ClaimJoined
import GoSem.ClaimMapViews
import Derived.JoinedTies
import Derived.KernelRfl
namespace Go.Proofs.Ytldfkfienlcipaa
/- THE CELL 'sum', in the pinned program and in every row, IS THE sha256 OF THE DUMP (.gsa) THAT YtldfkfienlcipaaProg.lean LOADS. Nothing in Lean hashes anything: it is a label: what it is worth is what the hold of that sum in a sandbox is worth. -/
noncomputable def Try.pinned : Pinned := { name := "ytldfkfienlcipaa", sum := "c89416341de45e5c82b9e11cb2da5b4efca6fd79f277dd8ef8301b933c870a12", checked := Try.checked }
namespace Rows
def none {H : Type} : Left H := { results := [], args := [] }

/-- 'yearbooklaw05.LineValues': WHATEVER THE INPUT: true; the input reads as it did. -/
def lineValuesSpec : ChangeSpec := { name := "lineValues", fn := fun _ => fun
  | [d1, d2, d3, d4, d5] => { results := [.lit (.bool true)], args := [d1, d2, d3, d4, d5] }
  | _ => none }
def lineValuesRow : OpenClaim := { program := "ytldfkfienlcipaa", sum := "c89416341de45e5c82b9e11cb2da5b4efca6fd79f277dd8ef8301b933c870a12", func := "yearbook/yearbooklaw05.LineValues", spec := "lineValues", inPlace := ["math/bits.Sub64", "math/bits.Add64"], unfollowed := true, recurses := true, named := ["math/bits.divideError", "math/bits.overflowError"], apart := false }
def LineValuesSaid : Prop := lineValuesRow.holds Try.pinned (OpenSpec.ofChange lineValuesSpec)

/-- ITS FALSE NEIGHBOUR: 'it returns false'. Refute it at one input. -/
def lineValuesWrong : ChangeSpec := { name := "lineValues", fn := fun _ => fun
  | [d1, d2, d3, d4, d5] => { results := [.lit (.bool false)], args := [d1, d2, d3, d4, d5] }
  | _ => none }
def LineValuesWrongFalsely : Prop := lineValuesRow.holds Try.pinned (OpenSpec.ofChange lineValuesWrong)

/-- 'yearbooklaw05.LineSlopes': WHATEVER THE INPUT: true; the input reads as it did. -/
def lineSlopesSpec : ChangeSpec := { name := "lineSlopes", fn := fun _ => fun
  | [d1, d2] => { results := [.lit (.bool true)], args := [d1, d2] }
  | _ => none }
def lineSlopesRow : OpenClaim := { program := "ytldfkfienlcipaa", sum := "c89416341de45e5c82b9e11cb2da5b4efca6fd79f277dd8ef8301b933c870a12", func := "yearbook/yearbooklaw05.LineSlopes", spec := "lineSlopes", inPlace := ["math/bits.Sub64", "math/bits.Add64"], unfollowed := true, recurses := true, named := ["math/bits.divideError", "math/bits.overflowError"], apart := false }
def LineSlopesSaid : Prop := lineSlopesRow.holds Try.pinned (OpenSpec.ofChange lineSlopesSpec)

/-- ITS FALSE NEIGHBOUR: 'it returns false'. Refute it at one input. -/
def lineSlopesWrong : ChangeSpec := { name := "lineSlopes", fn := fun _ => fun
  | [d1, d2] => { results := [.lit (.bool false)], args := [d1, d2] }
  | _ => none }
def LineSlopesWrongFalsely : Prop := lineSlopesRow.holds Try.pinned (OpenSpec.ofChange lineSlopesWrong)

/-- 'yearbooklaw05.LineMakes': WHATEVER THE INPUT: true; the input reads as it did. -/
def lineMakesSpec : ChangeSpec := { name := "lineMakes", fn := fun _ => fun
  | [d1, d2, d3] => { results := [.lit (.bool true)], args := [d1, d2, d3] }
  | _ => none }
def lineMakesRow : OpenClaim := { program := "ytldfkfienlcipaa", sum := "c89416341de45e5c82b9e11cb2da5b4efca6fd79f277dd8ef8301b933c870a12", func := "yearbook/yearbooklaw05.LineMakes", spec := "lineMakes", inPlace := ["math/bits.Sub64", "math/bits.Add64"], unfollowed := true, recurses := true, named := ["math/bits.divideError", "math/bits.overflowError"], apart := false }
def LineMakesSaid : Prop := lineMakesRow.holds Try.pinned (OpenSpec.ofChange lineMakesSpec)

/-- ITS FALSE NEIGHBOUR: 'it returns false'. Refute it at one input. -/
def lineMakesWrong : ChangeSpec := { name := "lineMakes", fn := fun _ => fun
  | [d1, d2, d3] => { results := [.lit (.bool false)], args := [d1, d2, d3] }
  | _ => none }
def LineMakesWrongFalsely : Prop := lineMakesRow.holds Try.pinned (OpenSpec.ofChange lineMakesWrong)

/-- 'yearbooklaw05.LineRises': WHATEVER THE INPUT: true; the input reads as it did. -/
def lineRisesSpec : ChangeSpec := { name := "lineRises", fn := fun _ => fun
  | [d1, d2, d3, d4] => { results := [.lit (.bool true)], args := [d1, d2, d3, d4] }
  | _ => none }
def lineRisesRow : OpenClaim := { program := "ytldfkfienlcipaa", sum := "c89416341de45e5c82b9e11cb2da5b4efca6fd79f277dd8ef8301b933c870a12", func := "yearbook/yearbooklaw05.LineRises", spec := "lineRises", inPlace := ["math/bits.Sub64", "math/bits.Add64"], unfollowed := true, recurses := true, named := ["math/bits.divideError", "math/bits.overflowError"], apart := false }
def LineRisesSaid : Prop := lineRisesRow.holds Try.pinned (OpenSpec.ofChange lineRisesSpec)

/-- ITS FALSE NEIGHBOUR: 'it returns false'. Refute it at one input. -/
def lineRisesWrong : ChangeSpec := { name := "lineRises", fn := fun _ => fun
  | [d1, d2, d3, d4] => { results := [.lit (.bool false)], args := [d1, d2, d3, d4] }
  | _ => none }
def LineRisesWrongFalsely : Prop := lineRisesRow.holds Try.pinned (OpenSpec.ofChange lineRisesWrong)

/-- 'yearbooklaw05.LineSteps': WHATEVER THE INPUT: true; the input reads as it did. -/
def lineStepsSpec : ChangeSpec := { name := "lineSteps", fn := fun _ => fun
  | [d1, d2] => { results := [.lit (.bool true)], args := [d1, d2] }
  | _ => none }
def lineStepsRow : OpenClaim := { program := "ytldfkfienlcipaa", sum := "c89416341de45e5c82b9e11cb2da5b4efca6fd79f277dd8ef8301b933c870a12", func := "yearbook/yearbooklaw05.LineSteps", spec := "lineSteps", inPlace := ["math/bits.Sub64", "math/bits.Add64"], unfollowed := true, recurses := true, named := ["math/bits.divideError", "math/bits.overflowError"], apart := false }
def LineStepsSaid : Prop := lineStepsRow.holds Try.pinned (OpenSpec.ofChange lineStepsSpec)

/-- ITS FALSE NEIGHBOUR: 'it returns false'. Refute it at one input. -/
def lineStepsWrong : ChangeSpec := { name := "lineSteps", fn := fun _ => fun
  | [d1, d2] => { results := [.lit (.bool false)], args := [d1, d2] }
  | _ => none }
def LineStepsWrongFalsely : Prop := lineStepsRow.holds Try.pinned (OpenSpec.ofChange lineStepsWrong)

/-- 'yearbooklaw05.LineRounds': WHATEVER THE INPUT: true; the input reads as it did. -/
def lineRoundsSpec : ChangeSpec := { name := "lineRounds", fn := fun _ => fun
  | [d1, d2, d3] => { results := [.lit (.bool true)], args := [d1, d2, d3] }
  | _ => none }
def lineRoundsRow : OpenClaim := { program := "ytldfkfienlcipaa", sum := "c89416341de45e5c82b9e11cb2da5b4efca6fd79f277dd8ef8301b933c870a12", func := "yearbook/yearbooklaw05.LineRounds", spec := "lineRounds", inPlace := ["math/bits.Sub64", "math/bits.Add64"], unfollowed := true, recurses := true, named := ["math/bits.divideError", "math/bits.overflowError"], apart := false }
def LineRoundsSaid : Prop := lineRoundsRow.holds Try.pinned (OpenSpec.ofChange lineRoundsSpec)

/-- ITS FALSE NEIGHBOUR: 'it returns false'. Refute it at one input. -/
def lineRoundsWrong : ChangeSpec := { name := "lineRounds", fn := fun _ => fun
  | [d1, d2, d3] => { results := [.lit (.bool false)], args := [d1, d2, d3] }
  | _ => none }
def LineRoundsWrongFalsely : Prop := lineRoundsRow.holds Try.pinned (OpenSpec.ofChange lineRoundsWrong)

/-- 'yearbooklaw05.LineMoves': WHATEVER THE INPUT: true; the input reads as it did. -/
def lineMovesSpec : ChangeSpec := { name := "lineMoves", fn := fun _ => fun
  | [d1, d2, d3] => { results := [.lit (.bool true)], args := [d1, d2, d3] }
  | _ => none }
def lineMovesRow : OpenClaim := { program := "ytldfkfienlcipaa", sum := "c89416341de45e5c82b9e11cb2da5b4efca6fd79f277dd8ef8301b933c870a12", func := "yearbook/yearbooklaw05.LineMoves", spec := "lineMoves", inPlace := ["math/bits.Sub64", "math/bits.Add64"], unfollowed := true, recurses := true, named := ["math/bits.divideError", "math/bits.overflowError"], apart := false }
def LineMovesSaid : Prop := lineMovesRow.holds Try.pinned (OpenSpec.ofChange lineMovesSpec)

/-- ITS FALSE NEIGHBOUR: 'it returns false'. Refute it at one input. -/
def lineMovesWrong : ChangeSpec := { name := "lineMoves", fn := fun _ => fun
  | [d1, d2, d3] => { results := [.lit (.bool false)], args := [d1, d2, d3] }
  | _ => none }
def LineMovesWrongFalsely : Prop := lineMovesRow.holds Try.pinned (OpenSpec.ofChange lineMovesWrong)

/-- 'yearbooklaw05.LineLowest': WHATEVER THE INPUT: true; the input reads as it did. -/
def lineLowestSpec : ChangeSpec := { name := "lineLowest", fn := fun _ => fun
  | [d1, d2, d3] => { results := [.lit (.bool true)], args := [d1, d2, d3] }
  | _ => none }
def lineLowestRow : OpenClaim := { program := "ytldfkfienlcipaa", sum := "c89416341de45e5c82b9e11cb2da5b4efca6fd79f277dd8ef8301b933c870a12", func := "yearbook/yearbooklaw05.LineLowest", spec := "lineLowest", inPlace := ["math/bits.Sub64", "math/bits.Add64"], unfollowed := true, recurses := true, named := ["math/bits.divideError", "math/bits.overflowError"], apart := false }
def LineLowestSaid : Prop := lineLowestRow.holds Try.pinned (OpenSpec.ofChange lineLowestSpec)

/-- ITS FALSE NEIGHBOUR: 'it returns false'. Refute it at one input. -/
def lineLowestWrong : ChangeSpec := { name := "lineLowest", fn := fun _ => fun
  | [d1, d2, d3] => { results := [.lit (.bool false)], args := [d1, d2, d3] }
  | _ => none }
def LineLowestWrongFalsely : Prop := lineLowestRow.holds Try.pinned (OpenSpec.ofChange lineLowestWrong)

/- THE SECOND FORM. 'bulk': how many values and letters a reading holds, each counted each time it is reached (what is shared counts as often as it is met; a slice's spare places count too). A statement '..UptoSaid' is the law's where the arguments, and the package variables that the reading takes, are together of bulk at most 1048576: NARROWER than '..Said'. Prove '..Said' where nothing that the law and all that it calls make is longer than what came in: it says more and counts as full. Else prove '..UptoSaid'. A law counts once. -/
mutual
def uptoBulk {H : Type} : DataW H → Nat
  | .lit (.string bytes) => bytes.length + 1
  | .lit _ => 1
  | .nil => 1
  | .ptr d => uptoBulk d + 1
  | .slice elems spare => uptoBulkAll elems + uptoBulkAll spare + 1
  | .agg parts => uptoBulkAll parts + 1
  | .iface _ d => uptoBulk d + 1
  | .map entries => uptoBulkEntries entries + 1
  | .held _ => 1
def uptoBulkAll {H : Type} : List (DataW H) → Nat
  | [] => 0
  | d :: r => uptoBulk d + uptoBulkAll r
def uptoBulkEntries {H : Type} : List (Lit × DataW H) → Nat
  | [] => 0
  | x :: r => uptoBulkEntry x + uptoBulkEntries r
def uptoBulkEntry {H : Type} : Lit × DataW H → Nat
  | (.string bytes, d) => bytes.length + uptoBulk d + 1
  | (_, d) => uptoBulk d + 1
 end
def uptoSmall : (H : Type) → List (DataW H) → Bool := fun _ ds => decide (uptoBulkAll ds ≤ 1048576)
def OpenSpec.upto (s : _root_.Go.ChangeSpec) : _root_.Go.OpenSpec := { _root_.Go.OpenSpec.ofChange s with cond := some uptoSmall }

/-- 'yearbooklaw05.LineValues', WHERE WHAT IT READS IS OF BULK AT MOST 1048576: true; the input reads as it did. -/
def lineValuesUptoRow : OpenClaim := { program := "ytldfkfienlcipaa", sum := "c89416341de45e5c82b9e11cb2da5b4efca6fd79f277dd8ef8301b933c870a12", func := "yearbook/yearbooklaw05.LineValues", spec := "lineValues", inPlace := ["math/bits.Sub64", "math/bits.Add64"], unfollowed := true, recurses := true, named := ["math/bits.divideError", "math/bits.overflowError"], apart := false, narrowed := true }
def LineValuesUptoSaid : Prop := lineValuesUptoRow.holds Try.pinned (OpenSpec.upto lineValuesSpec)

/-- 'yearbooklaw05.LineSlopes', WHERE WHAT IT READS IS OF BULK AT MOST 1048576: true; the input reads as it did. -/
def lineSlopesUptoRow : OpenClaim := { program := "ytldfkfienlcipaa", sum := "c89416341de45e5c82b9e11cb2da5b4efca6fd79f277dd8ef8301b933c870a12", func := "yearbook/yearbooklaw05.LineSlopes", spec := "lineSlopes", inPlace := ["math/bits.Sub64", "math/bits.Add64"], unfollowed := true, recurses := true, named := ["math/bits.divideError", "math/bits.overflowError"], apart := false, narrowed := true }
def LineSlopesUptoSaid : Prop := lineSlopesUptoRow.holds Try.pinned (OpenSpec.upto lineSlopesSpec)

/-- 'yearbooklaw05.LineMakes', WHERE WHAT IT READS IS OF BULK AT MOST 1048576: true; the input reads as it did. -/
def lineMakesUptoRow : OpenClaim := { program := "ytldfkfienlcipaa", sum := "c89416341de45e5c82b9e11cb2da5b4efca6fd79f277dd8ef8301b933c870a12", func := "yearbook/yearbooklaw05.LineMakes", spec := "lineMakes", inPlace := ["math/bits.Sub64", "math/bits.Add64"], unfollowed := true, recurses := true, named := ["math/bits.divideError", "math/bits.overflowError"], apart := false, narrowed := true }
def LineMakesUptoSaid : Prop := lineMakesUptoRow.holds Try.pinned (OpenSpec.upto lineMakesSpec)

/-- 'yearbooklaw05.LineRises', WHERE WHAT IT READS IS OF BULK AT MOST 1048576: true; the input reads as it did. -/
def lineRisesUptoRow : OpenClaim := { program := "ytldfkfienlcipaa", sum := "c89416341de45e5c82b9e11cb2da5b4efca6fd79f277dd8ef8301b933c870a12", func := "yearbook/yearbooklaw05.LineRises", spec := "lineRises", inPlace := ["math/bits.Sub64", "math/bits.Add64"], unfollowed := true, recurses := true, named := ["math/bits.divideError", "math/bits.overflowError"], apart := false, narrowed := true }
def LineRisesUptoSaid : Prop := lineRisesUptoRow.holds Try.pinned (OpenSpec.upto lineRisesSpec)

/-- 'yearbooklaw05.LineSteps', WHERE WHAT IT READS IS OF BULK AT MOST 1048576: true; the input reads as it did. -/
def lineStepsUptoRow : OpenClaim := { program := "ytldfkfienlcipaa", sum := "c89416341de45e5c82b9e11cb2da5b4efca6fd79f277dd8ef8301b933c870a12", func := "yearbook/yearbooklaw05.LineSteps", spec := "lineSteps", inPlace := ["math/bits.Sub64", "math/bits.Add64"], unfollowed := true, recurses := true, named := ["math/bits.divideError", "math/bits.overflowError"], apart := false, narrowed := true }
def LineStepsUptoSaid : Prop := lineStepsUptoRow.holds Try.pinned (OpenSpec.upto lineStepsSpec)

/-- 'yearbooklaw05.LineRounds', WHERE WHAT IT READS IS OF BULK AT MOST 1048576: true; the input reads as it did. -/
def lineRoundsUptoRow : OpenClaim := { program := "ytldfkfienlcipaa", sum := "c89416341de45e5c82b9e11cb2da5b4efca6fd79f277dd8ef8301b933c870a12", func := "yearbook/yearbooklaw05.LineRounds", spec := "lineRounds", inPlace := ["math/bits.Sub64", "math/bits.Add64"], unfollowed := true, recurses := true, named := ["math/bits.divideError", "math/bits.overflowError"], apart := false, narrowed := true }
def LineRoundsUptoSaid : Prop := lineRoundsUptoRow.holds Try.pinned (OpenSpec.upto lineRoundsSpec)

/-- 'yearbooklaw05.LineMoves', WHERE WHAT IT READS IS OF BULK AT MOST 1048576: true; the input reads as it did. -/
def lineMovesUptoRow : OpenClaim := { program := "ytldfkfienlcipaa", sum := "c89416341de45e5c82b9e11cb2da5b4efca6fd79f277dd8ef8301b933c870a12", func := "yearbook/yearbooklaw05.LineMoves", spec := "lineMoves", inPlace := ["math/bits.Sub64", "math/bits.Add64"], unfollowed := true, recurses := true, named := ["math/bits.divideError", "math/bits.overflowError"], apart := false, narrowed := true }
def LineMovesUptoSaid : Prop := lineMovesUptoRow.holds Try.pinned (OpenSpec.upto lineMovesSpec)

/-- 'yearbooklaw05.LineLowest', WHERE WHAT IT READS IS OF BULK AT MOST 1048576: true; the input reads as it did. -/
def lineLowestUptoRow : OpenClaim := { program := "ytldfkfienlcipaa", sum := "c89416341de45e5c82b9e11cb2da5b4efca6fd79f277dd8ef8301b933c870a12", func := "yearbook/yearbooklaw05.LineLowest", spec := "lineLowest", inPlace := ["math/bits.Sub64", "math/bits.Add64"], unfollowed := true, recurses := true, named := ["math/bits.divideError", "math/bits.overflowError"], apart := false, narrowed := true }
def LineLowestUptoSaid : Prop := lineLowestUptoRow.holds Try.pinned (OpenSpec.upto lineLowestSpec)

end Rows
end Go.Proofs.Ytldfkfienlcipaa
