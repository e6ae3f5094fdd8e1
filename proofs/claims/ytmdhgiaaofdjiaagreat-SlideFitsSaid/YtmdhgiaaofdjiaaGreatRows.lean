/-
  No cell of these rows narrows 'for every input' (looked for: loops, veiled, ifaces, maps, wideKeys, modest, calm, conditions, laid).
  DERIVED. THE GIVEN ROWS OF THIS SEAT. 6 by the template 'for every input the law returns true; each argument reads behind the call as it read before'; 0 by the template 'total and deterministic' (their statements: YtmdhgiaaofdjiaaGreatTotals.lean).
  GIVEN WITH THE SEED: the statements are not yours to turn. If you find one false, say at which input.
  Laid BY PROGRAM, IN A SANDBOX (cutbox-rows.mjs): the forced cells as the released guide's own fill.sh prints them over the translation 031fd87d3f28f502… (all of the seat's roots in one cut). By AI agents, Wed Nov 11 2026. No macro, syntax, notation, axiom, sorry.
-/
import Derived.Test.YtmdhgiaaofdjiaaGreatChecked
import GoSem.Claim
import GoSem.ClaimJoined
import GoSem.ClaimMapViews
import Derived.JoinedTies
import Derived.KernelRfl
namespace Go.Proofs.YtmdhgiaaofdjiaaGreat
/- THE CELL 'sum', in the pinned program and in every row, IS THE sha256 OF THE DUMP (.gsa) THAT YtmdhgiaaofdjiaaGreatProg.lean LOADS. Nothing in Lean hashes anything: it is a label: what it is worth is what the hold of that sum in a sandbox is worth. -/
noncomputable def Tryz.pinned : Pinned := { name := "ytmdhgiaaofdjiaagreat", sum := "031fd87d3f28f502afaf602c11df8761ab44ab8e467f3eba5f047b99f50483ce", checked := Tryz.checked }
namespace Rows
def none {H : Type} : Left H := { results := [], args := [] }

/-- 'yearbooklaw09.SwingLines': WHATEVER THE INPUT: true; the input reads as it did. -/
def swingLinesSpec : ChangeSpec := { name := "swingLines", fn := fun _ => fun
  | [d1, d2] => { results := [.lit (.bool true)], args := [d1, d2] }
  | _ => none }
def swingLinesRow : OpenClaim := { program := "ytmdhgiaaofdjiaagreat", sum := "031fd87d3f28f502afaf602c11df8761ab44ab8e467f3eba5f047b99f50483ce", func := "yearbook/yearbooklaw09.SwingLines", spec := "swingLines", inPlace := ["math/bits.Sub64", "math/bits.Add64"], unfollowed := true, recurses := true, apart := false }
def SwingLinesSaid : Prop := swingLinesRow.holds Tryz.pinned (OpenSpec.ofChange swingLinesSpec)

/-- ITS FALSE NEIGHBOUR: 'it returns false'. Refute it at one input. -/
def swingLinesWrong : ChangeSpec := { name := "swingLines", fn := fun _ => fun
  | [d1, d2] => { results := [.lit (.bool false)], args := [d1, d2] }
  | _ => none }
def SwingLinesWrongFalsely : Prop := swingLinesRow.holds Tryz.pinned (OpenSpec.ofChange swingLinesWrong)

/-- 'yearbooklaw09.SwingParts': WHATEVER THE INPUT: true; the input reads as it did. -/
def swingPartsSpec : ChangeSpec := { name := "swingParts", fn := fun _ => fun
  | [d] => { results := [.lit (.bool true)], args := [d] }
  | _ => none }
def swingPartsRow : OpenClaim := { program := "ytmdhgiaaofdjiaagreat", sum := "031fd87d3f28f502afaf602c11df8761ab44ab8e467f3eba5f047b99f50483ce", func := "yearbook/yearbooklaw09.SwingParts", spec := "swingParts", inPlace := ["math/bits.Sub64", "math/bits.Add64"], unfollowed := true, recurses := true, apart := false }
def SwingPartsSaid : Prop := swingPartsRow.holds Tryz.pinned (OpenSpec.ofChange swingPartsSpec)

/-- ITS FALSE NEIGHBOUR: 'it returns false'. Refute it at one input. -/
def swingPartsWrong : ChangeSpec := { name := "swingParts", fn := fun _ => fun
  | [d] => { results := [.lit (.bool false)], args := [d] }
  | _ => none }
def SwingPartsWrongFalsely : Prop := swingPartsRow.holds Tryz.pinned (OpenSpec.ofChange swingPartsWrong)

/-- 'yearbooklaw10.SlideFits': WHATEVER THE INPUT: true; the input reads as it did. -/
def slideFitsSpec : ChangeSpec := { name := "slideFits", fn := fun _ => fun
  | [d] => { results := [.lit (.bool true)], args := [d] }
  | _ => none }
def slideFitsRow : OpenClaim := { program := "ytmdhgiaaofdjiaagreat", sum := "031fd87d3f28f502afaf602c11df8761ab44ab8e467f3eba5f047b99f50483ce", func := "yearbook/yearbooklaw10.SlideFits", spec := "slideFits", inPlace := ["math/bits.Sub64", "math/bits.Add64"], unfollowed := true, recurses := true, named := ["math/bits.divideError", "math/bits.overflowError"], apart := false }
def SlideFitsSaid : Prop := slideFitsRow.holds Tryz.pinned (OpenSpec.ofChange slideFitsSpec)

/-- ITS FALSE NEIGHBOUR: 'it returns false'. Refute it at one input. -/
def slideFitsWrong : ChangeSpec := { name := "slideFits", fn := fun _ => fun
  | [d] => { results := [.lit (.bool false)], args := [d] }
  | _ => none }
def SlideFitsWrongFalsely : Prop := slideFitsRow.holds Tryz.pinned (OpenSpec.ofChange slideFitsWrong)

/-- 'yearbooklaw10.SlideThrough': WHATEVER THE INPUT: true; the input reads as it did. -/
def slideThroughSpec : ChangeSpec := { name := "slideThrough", fn := fun _ => fun
  | [d1, d2] => { results := [.lit (.bool true)], args := [d1, d2] }
  | _ => none }
def slideThroughRow : OpenClaim := { program := "ytmdhgiaaofdjiaagreat", sum := "031fd87d3f28f502afaf602c11df8761ab44ab8e467f3eba5f047b99f50483ce", func := "yearbook/yearbooklaw10.SlideThrough", spec := "slideThrough", inPlace := ["math/bits.Sub64", "math/bits.Add64"], unfollowed := true, recurses := true, named := ["math/bits.divideError", "math/bits.overflowError"], apart := false }
def SlideThroughSaid : Prop := slideThroughRow.holds Tryz.pinned (OpenSpec.ofChange slideThroughSpec)

/-- ITS FALSE NEIGHBOUR: 'it returns false'. Refute it at one input. -/
def slideThroughWrong : ChangeSpec := { name := "slideThrough", fn := fun _ => fun
  | [d1, d2] => { results := [.lit (.bool false)], args := [d1, d2] }
  | _ => none }
def SlideThroughWrongFalsely : Prop := slideThroughRow.holds Tryz.pinned (OpenSpec.ofChange slideThroughWrong)

/-- 'yearbooklaw10.SlideCuts': WHATEVER THE INPUT: true; the input reads as it did. -/
def slideCutsSpec : ChangeSpec := { name := "slideCuts", fn := fun _ => fun
  | [d] => { results := [.lit (.bool true)], args := [d] }
  | _ => none }
def slideCutsRow : OpenClaim := { program := "ytmdhgiaaofdjiaagreat", sum := "031fd87d3f28f502afaf602c11df8761ab44ab8e467f3eba5f047b99f50483ce", func := "yearbook/yearbooklaw10.SlideCuts", spec := "slideCuts", inPlace := ["math/bits.Sub64", "math/bits.Add64"], unfollowed := true, recurses := true, named := ["math/bits.divideError", "math/bits.overflowError"], apart := false }
def SlideCutsSaid : Prop := slideCutsRow.holds Tryz.pinned (OpenSpec.ofChange slideCutsSpec)

/-- ITS FALSE NEIGHBOUR: 'it returns false'. Refute it at one input. -/
def slideCutsWrong : ChangeSpec := { name := "slideCuts", fn := fun _ => fun
  | [d] => { results := [.lit (.bool false)], args := [d] }
  | _ => none }
def SlideCutsWrongFalsely : Prop := slideCutsRow.holds Tryz.pinned (OpenSpec.ofChange slideCutsWrong)

/-- 'yearbooklaw10.SlideFewer': WHATEVER THE INPUT: true; the input reads as it did. -/
def slideFewerSpec : ChangeSpec := { name := "slideFewer", fn := fun _ => fun
  | [d1, d2] => { results := [.lit (.bool true)], args := [d1, d2] }
  | _ => none }
def slideFewerRow : OpenClaim := { program := "ytmdhgiaaofdjiaagreat", sum := "031fd87d3f28f502afaf602c11df8761ab44ab8e467f3eba5f047b99f50483ce", func := "yearbook/yearbooklaw10.SlideFewer", spec := "slideFewer", inPlace := ["math/bits.Sub64", "math/bits.Add64"], unfollowed := true, recurses := true, named := ["math/bits.divideError", "math/bits.overflowError"], apart := false }
def SlideFewerSaid : Prop := slideFewerRow.holds Tryz.pinned (OpenSpec.ofChange slideFewerSpec)

/-- ITS FALSE NEIGHBOUR: 'it returns false'. Refute it at one input. -/
def slideFewerWrong : ChangeSpec := { name := "slideFewer", fn := fun _ => fun
  | [d1, d2] => { results := [.lit (.bool false)], args := [d1, d2] }
  | _ => none }
def SlideFewerWrongFalsely : Prop := slideFewerRow.holds Tryz.pinned (OpenSpec.ofChange slideFewerWrong)

/- THE SECOND FORM. 'bulk': how many values and letters a reading holds, each counted each time it is reached (what is shared counts as often as it is met; a slice's spare places count too). A statement '..UptoSaid' is the law's where the arguments, and the package variables that the reading takes, are together of bulk at most 1048576: NARROWER than '..Said'. Prove '..Said' where nothing that the law and all that it calls make is longer than what came in: it says more and counts as full. Else prove '..UptoSaid'. A law counts once. -/
mutual
def uptoBulk {H : Type} : DataW H → Nat
  | .lit (.string bytes) => bytes.length + 1
  | .lit _ => 1
  | .nil => 1
  | .ptr d => uptoBulk d + 1
  | .slice elems spare => uptoBulkAll elems + uptoBulkAll spare + 1
  | .agg parts => uptoBulkAll parts + 1
  | .iface _ d => uptoBulk d + 1
  | .map entries => uptoBulkEntries entries + 1
  | .held _ => 1
def uptoBulkAll {H : Type} : List (DataW H) → Nat
  | [] => 0
  | d :: r => uptoBulk d + uptoBulkAll r
def uptoBulkEntries {H : Type} : List (Lit × DataW H) → Nat
  | [] => 0
  | x :: r => uptoBulkEntry x + uptoBulkEntries r
def uptoBulkEntry {H : Type} : Lit × DataW H → Nat
  | (.string bytes, d) => bytes.length + uptoBulk d + 1
  | (_, d) => uptoBulk d + 1
 end
def uptoSmall : (H : Type) → List (DataW H) → Bool := fun _ ds => decide (uptoBulkAll ds ≤ 1048576)
def OpenSpec.upto (s : _root_.Go.ChangeSpec) : _root_.Go.OpenSpec := { _root_.Go.OpenSpec.ofChange s with cond := some uptoSmall }

/-- 'yearbooklaw09.SwingLines', WHERE WHAT IT READS IS OF BULK AT MOST 1048576: true; the input reads as it did. -/
def swingLinesUptoRow : OpenClaim := { program := "ytmdhgiaaofdjiaagreat", sum := "031fd87d3f28f502afaf602c11df8761ab44ab8e467f3eba5f047b99f50483ce", func := "yearbook/yearbooklaw09.SwingLines", spec := "swingLines", inPlace := ["math/bits.Sub64", "math/bits.Add64"], unfollowed := true, recurses := true, apart := false, narrowed := true }
def SwingLinesUptoSaid : Prop := swingLinesUptoRow.holds Tryz.pinned (OpenSpec.upto swingLinesSpec)

/-- 'yearbooklaw09.SwingParts', WHERE WHAT IT READS IS OF BULK AT MOST 1048576: true; the input reads as it did. -/
def swingPartsUptoRow : OpenClaim := { program := "ytmdhgiaaofdjiaagreat", sum := "031fd87d3f28f502afaf602c11df8761ab44ab8e467f3eba5f047b99f50483ce", func := "yearbook/yearbooklaw09.SwingParts", spec := "swingParts", inPlace := ["math/bits.Sub64", "math/bits.Add64"], unfollowed := true, recurses := true, apart := false, narrowed := true }
def SwingPartsUptoSaid : Prop := swingPartsUptoRow.holds Tryz.pinned (OpenSpec.upto swingPartsSpec)

/-- 'yearbooklaw10.SlideFits', WHERE WHAT IT READS IS OF BULK AT MOST 1048576: true; the input reads as it did. -/
def slideFitsUptoRow : OpenClaim := { program := "ytmdhgiaaofdjiaagreat", sum := "031fd87d3f28f502afaf602c11df8761ab44ab8e467f3eba5f047b99f50483ce", func := "yearbook/yearbooklaw10.SlideFits", spec := "slideFits", inPlace := ["math/bits.Sub64", "math/bits.Add64"], unfollowed := true, recurses := true, named := ["math/bits.divideError", "math/bits.overflowError"], apart := false, narrowed := true }
def SlideFitsUptoSaid : Prop := slideFitsUptoRow.holds Tryz.pinned (OpenSpec.upto slideFitsSpec)

/-- 'yearbooklaw10.SlideThrough', WHERE WHAT IT READS IS OF BULK AT MOST 1048576: true; the input reads as it did. -/
def slideThroughUptoRow : OpenClaim := { program := "ytmdhgiaaofdjiaagreat", sum := "031fd87d3f28f502afaf602c11df8761ab44ab8e467f3eba5f047b99f50483ce", func := "yearbook/yearbooklaw10.SlideThrough", spec := "slideThrough", inPlace := ["math/bits.Sub64", "math/bits.Add64"], unfollowed := true, recurses := true, named := ["math/bits.divideError", "math/bits.overflowError"], apart := false, narrowed := true }
def SlideThroughUptoSaid : Prop := slideThroughUptoRow.holds Tryz.pinned (OpenSpec.upto slideThroughSpec)

/-- 'yearbooklaw10.SlideCuts', WHERE WHAT IT READS IS OF BULK AT MOST 1048576: true; the input reads as it did. -/
def slideCutsUptoRow : OpenClaim := { program := "ytmdhgiaaofdjiaagreat", sum := "031fd87d3f28f502afaf602c11df8761ab44ab8e467f3eba5f047b99f50483ce", func := "yearbook/yearbooklaw10.SlideCuts", spec := "slideCuts", inPlace := ["math/bits.Sub64", "math/bits.Add64"], unfollowed := true, recurses := true, named := ["math/bits.divideError", "math/bits.overflowError"], apart := false, narrowed := true }
def SlideCutsUptoSaid : Prop := slideCutsUptoRow.holds Tryz.pinned (OpenSpec.upto slideCutsSpec)

/-- 'yearbooklaw10.SlideFewer', WHERE WHAT IT READS IS OF BULK AT MOST 1048576: true; the input reads as it did. -/
def slideFewerUptoRow : OpenClaim := { program := "ytmdhgiaaofdjiaagreat", sum := "031fd87d3f28f502afaf602c11df8761ab44ab8e467f3eba5f047b99f50483ce", func := "yearbook/yearbooklaw10.SlideFewer", spec := "slideFewer", inPlace := ["math/bits.Sub64", "math/bits.Add64"], unfollowed := true, recurses := true, named := ["math/bits.divideError", "math/bits.overflowError"], apart := false, narrowed := true }
def SlideFewerUptoSaid : Prop := slideFewerUptoRow.holds Tryz.pinned (OpenSpec.upto slideFewerSpec)

end Rows
end Go.Proofs.YtmdhgiaaofdjiaaGreat
