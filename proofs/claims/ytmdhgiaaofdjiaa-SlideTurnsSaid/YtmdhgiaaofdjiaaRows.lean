/-
  No cell of these rows narrows 'for every input' (looked for: loops, veiled, ifaces, maps, wideKeys, modest, calm, conditions, laid).
  DERIVED. THE GIVEN ROWS OF THIS SEAT. 4 by the template 'for every input the law returns true; each argument reads behind the call as it read before'; 0 by the template 'total and deterministic' (their statements: YtmdhgiaaofdjiaaTotals.lean).
  GIVEN WITH THE SEED: the statements are not yours to turn. If you find one false, say at which input.
  Laid BY PROGRAM, IN A SANDBOX (cutbox-rows.mjs): the forced cells as the released guide's own fill.sh prints them over the translation 8240b9b892ec9b9f… (all of the seat's roots in one cut). By AI agents, Wed Nov 11 2026. No macro, syntax, notation, axiom, sorry.
-/
import Derived.Test.YtmdhgiaaofdjiaaChecked
import GoSem.Claim
import GoSem.ClaimJoined
import GoSem.ClaimMapViews
import Derived.JoinedTies
import Derived.KernelRfl
namespace Go.Proofs.Ytmdhgiaaofdjiaa
/- THE CELL 'sum', in the pinned program and in every row, IS THE sha256 OF THE DUMP (.gsa) THAT YtmdhgiaaofdjiaaProg.lean LOADS. Nothing in Lean hashes anything: it is a label: what it is worth is what the hold of that sum in a sandbox is worth. -/
noncomputable def Try.pinned : Pinned := { name := "ytmdhgiaaofdjiaa", sum := "8240b9b892ec9b9f8f7f8707dc7f0b26215138c12c3f196decb1b2480208094c", checked := Try.checked }
namespace Rows
def none {H : Type} : Left H := { results := [], args := [] }

/-- 'yearbooklaw10.SlideAny': WHATEVER THE INPUT: true; the input reads as it did. -/
def slideAnySpec : ChangeSpec := { name := "slideAny", fn := fun _ => fun
  | [d1, d2] => { results := [.lit (.bool true)], args := [d1, d2] }
  | _ => none }
def slideAnyRow : OpenClaim := { program := "ytmdhgiaaofdjiaa", sum := "8240b9b892ec9b9f8f7f8707dc7f0b26215138c12c3f196decb1b2480208094c", func := "yearbook/yearbooklaw10.SlideAny", spec := "slideAny", inPlace := ["math/bits.Sub64", "math/bits.Add64"], unfollowed := true, recurses := true, named := ["math/bits.divideError", "math/bits.overflowError"], apart := false }
def SlideAnySaid : Prop := slideAnyRow.holds Try.pinned (OpenSpec.ofChange slideAnySpec)

/-- ITS FALSE NEIGHBOUR: 'it returns false'. Refute it at one input. -/
def slideAnyWrong : ChangeSpec := { name := "slideAny", fn := fun _ => fun
  | [d1, d2] => { results := [.lit (.bool false)], args := [d1, d2] }
  | _ => none }
def SlideAnyWrongFalsely : Prop := slideAnyRow.holds Try.pinned (OpenSpec.ofChange slideAnyWrong)

/-- 'yearbooklaw10.SlideHolds': WHATEVER THE INPUT: true; the input reads as it did. -/
def slideHoldsSpec : ChangeSpec := { name := "slideHolds", fn := fun _ => fun
  | [d] => { results := [.lit (.bool true)], args := [d] }
  | _ => none }
def slideHoldsRow : OpenClaim := { program := "ytmdhgiaaofdjiaa", sum := "8240b9b892ec9b9f8f7f8707dc7f0b26215138c12c3f196decb1b2480208094c", func := "yearbook/yearbooklaw10.SlideHolds", spec := "slideHolds", inPlace := ["math/bits.Sub64", "math/bits.Add64"], unfollowed := true, recurses := true, named := ["math/bits.divideError", "math/bits.overflowError"], apart := false }
def SlideHoldsSaid : Prop := slideHoldsRow.holds Try.pinned (OpenSpec.ofChange slideHoldsSpec)

/-- ITS FALSE NEIGHBOUR: 'it returns false'. Refute it at one input. -/
def slideHoldsWrong : ChangeSpec := { name := "slideHolds", fn := fun _ => fun
  | [d] => { results := [.lit (.bool false)], args := [d] }
  | _ => none }
def SlideHoldsWrongFalsely : Prop := slideHoldsRow.holds Try.pinned (OpenSpec.ofChange slideHoldsWrong)

/-- 'yearbooklaw10.SlideLeast': WHATEVER THE INPUT: true; the input reads as it did. -/
def slideLeastSpec : ChangeSpec := { name := "slideLeast", fn := fun _ => fun
  | [d1, d2] => { results := [.lit (.bool true)], args := [d1, d2] }
  | _ => none }
def slideLeastRow : OpenClaim := { program := "ytmdhgiaaofdjiaa", sum := "8240b9b892ec9b9f8f7f8707dc7f0b26215138c12c3f196decb1b2480208094c", func := "yearbook/yearbooklaw10.SlideLeast", spec := "slideLeast", inPlace := ["math/bits.Sub64", "math/bits.Add64"], unfollowed := true, recurses := true, named := ["math/bits.divideError", "math/bits.overflowError"], apart := false }
def SlideLeastSaid : Prop := slideLeastRow.holds Try.pinned (OpenSpec.ofChange slideLeastSpec)

/-- ITS FALSE NEIGHBOUR: 'it returns false'. Refute it at one input. -/
def slideLeastWrong : ChangeSpec := { name := "slideLeast", fn := fun _ => fun
  | [d1, d2] => { results := [.lit (.bool false)], args := [d1, d2] }
  | _ => none }
def SlideLeastWrongFalsely : Prop := slideLeastRow.holds Try.pinned (OpenSpec.ofChange slideLeastWrong)

/-- 'yearbooklaw10.SlideTurns': WHATEVER THE INPUT: true; the input reads as it did. -/
def slideTurnsSpec : ChangeSpec := { name := "slideTurns", fn := fun _ => fun
  | [d1, d2] => { results := [.lit (.bool true)], args := [d1, d2] }
  | _ => none }
def slideTurnsRow : OpenClaim := { program := "ytmdhgiaaofdjiaa", sum := "8240b9b892ec9b9f8f7f8707dc7f0b26215138c12c3f196decb1b2480208094c", func := "yearbook/yearbooklaw10.SlideTurns", spec := "slideTurns", inPlace := ["math/bits.Sub64", "math/bits.Add64"], unfollowed := true, recurses := true, named := ["math/bits.divideError", "math/bits.overflowError"], apart := false }
def SlideTurnsSaid : Prop := slideTurnsRow.holds Try.pinned (OpenSpec.ofChange slideTurnsSpec)

/-- ITS FALSE NEIGHBOUR: 'it returns false'. Refute it at one input. -/
def slideTurnsWrong : ChangeSpec := { name := "slideTurns", fn := fun _ => fun
  | [d1, d2] => { results := [.lit (.bool false)], args := [d1, d2] }
  | _ => none }
def SlideTurnsWrongFalsely : Prop := slideTurnsRow.holds Try.pinned (OpenSpec.ofChange slideTurnsWrong)

/- THE SECOND FORM. 'bulk': how many values and letters a reading holds, each counted each time it is reached (what is shared counts as often as it is met; a slice's spare places count too). A statement '..UptoSaid' is the law's where the arguments, and the package variables that the reading takes, are together of bulk at most 1048576: NARROWER than '..Said'. Prove '..Said' where nothing that the law and all that it calls make is longer than what came in: it says more and counts as full. Else prove '..UptoSaid'. A law counts once. -/
mutual
def uptoBulk {H : Type} : DataW H → Nat
  | .lit (.string bytes) => bytes.length + 1
  | .lit _ => 1
  | .nil => 1
  | .ptr d => uptoBulk d + 1
  | .slice elems spare => uptoBulkAll elems + uptoBulkAll spare + 1
  | .agg parts => uptoBulkAll parts + 1
  | .iface _ d => uptoBulk d + 1
  | .map entries => uptoBulkEntries entries + 1
  | .held _ => 1
def uptoBulkAll {H : Type} : List (DataW H) → Nat
  | [] => 0
  | d :: r => uptoBulk d + uptoBulkAll r
def uptoBulkEntries {H : Type} : List (Lit × DataW H) → Nat
  | [] => 0
  | x :: r => uptoBulkEntry x + uptoBulkEntries r
def uptoBulkEntry {H : Type} : Lit × DataW H → Nat
  | (.string bytes, d) => bytes.length + uptoBulk d + 1
  | (_, d) => uptoBulk d + 1
 end
def uptoSmall : (H : Type) → List (DataW H) → Bool := fun _ ds => decide (uptoBulkAll ds ≤ 1048576)
def OpenSpec.upto (s : _root_.Go.ChangeSpec) : _root_.Go.OpenSpec := { _root_.Go.OpenSpec.ofChange s with cond := some uptoSmall }

/-- 'yearbooklaw10.SlideAny', WHERE WHAT IT READS IS OF BULK AT MOST 1048576: true; the input reads as it did. -/
def slideAnyUptoRow : OpenClaim := { program := "ytmdhgiaaofdjiaa", sum := "8240b9b892ec9b9f8f7f8707dc7f0b26215138c12c3f196decb1b2480208094c", func := "yearbook/yearbooklaw10.SlideAny", spec := "slideAny", inPlace := ["math/bits.Sub64", "math/bits.Add64"], unfollowed := true, recurses := true, named := ["math/bits.divideError", "math/bits.overflowError"], apart := false, narrowed := true }
def SlideAnyUptoSaid : Prop := slideAnyUptoRow.holds Try.pinned (OpenSpec.upto slideAnySpec)

/-- 'yearbooklaw10.SlideHolds', WHERE WHAT IT READS IS OF BULK AT MOST 1048576: true; the input reads as it did. -/
def slideHoldsUptoRow : OpenClaim := { program := "ytmdhgiaaofdjiaa", sum := "8240b9b892ec9b9f8f7f8707dc7f0b26215138c12c3f196decb1b2480208094c", func := "yearbook/yearbooklaw10.SlideHolds", spec := "slideHolds", inPlace := ["math/bits.Sub64", "math/bits.Add64"], unfollowed := true, recurses := true, named := ["math/bits.divideError", "math/bits.overflowError"], apart := false, narrowed := true }
def SlideHoldsUptoSaid : Prop := slideHoldsUptoRow.holds Try.pinned (OpenSpec.upto slideHoldsSpec)

/-- 'yearbooklaw10.SlideLeast', WHERE WHAT IT READS IS OF BULK AT MOST 1048576: true; the input reads as it did. -/
def slideLeastUptoRow : OpenClaim := { program := "ytmdhgiaaofdjiaa", sum := "8240b9b892ec9b9f8f7f8707dc7f0b26215138c12c3f196decb1b2480208094c", func := "yearbook/yearbooklaw10.SlideLeast", spec := "slideLeast", inPlace := ["math/bits.Sub64", "math/bits.Add64"], unfollowed := true, recurses := true, named := ["math/bits.divideError", "math/bits.overflowError"], apart := false, narrowed := true }
def SlideLeastUptoSaid : Prop := slideLeastUptoRow.holds Try.pinned (OpenSpec.upto slideLeastSpec)

/-- 'yearbooklaw10.SlideTurns', WHERE WHAT IT READS IS OF BULK AT MOST 1048576: true; the input reads as it did. -/
def slideTurnsUptoRow : OpenClaim := { program := "ytmdhgiaaofdjiaa", sum := "8240b9b892ec9b9f8f7f8707dc7f0b26215138c12c3f196decb1b2480208094c", func := "yearbook/yearbooklaw10.SlideTurns", spec := "slideTurns", inPlace := ["math/bits.Sub64", "math/bits.Add64"], unfollowed := true, recurses := true, named := ["math/bits.divideError", "math/bits.overflowError"], apart := false, narrowed := true }
def SlideTurnsUptoSaid : Prop := slideTurnsUptoRow.holds Try.pinned (OpenSpec.upto slideTurnsSpec)

end Rows
end Go.Proofs.Ytmdhgiaaofdjiaa
