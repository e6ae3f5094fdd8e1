/-
  No cell of these rows narrows 'for every input' (looked for: loops, veiled, ifaces, maps, wideKeys, modest, calm, conditions, laid).
  DERIVED. THE GIVEN ROWS OF THIS SEAT. 8 by the template 'for every input the law returns true; each argument reads behind the call as it read before'; 0 by the template 'total and deterministic' (their statements: YtlfjmdfplmdmgaaTotals.lean).
  GIVEN WITH THE SEED: the statements are not yours to turn. If you find one false, say at which input.
  Laid BY PROGRAM, IN A SANDBOX (cutbox-rows.mjs): the forced cells as the released guide's own fill.sh prints them over the translation ddeb0eedfbeaa534… (all of the seat's roots in one cut). By AI agents, Wed Nov 11 2026. No macro, syntax, notation, axiom, sorry.
-/
import Derived.Test.YtlfjmdfplmdmgaaChecked
import GoSem.Claim
import GoSem.ClaimJoined
import GoSem.ClaimMapViews
import Derived.JoinedTies
import Derived.KernelRfl
namespace Go.Proofs.Ytlfjmdfplmdmgaa
/- THE CELL 'sum', in the pinned program and in every row, IS THE sha256 OF THE DUMP (.gsa) THAT YtlfjmdfplmdmgaaProg.lean LOADS. Nothing in Lean hashes anything: it is a label: what it is worth is what the hold of that sum in a sandbox is worth. -/
noncomputable def Try.pinned : Pinned := { name := "ytlfjmdfplmdmgaa", sum := "ddeb0eedfbeaa534db44a4522aa6b27b3bc20991a234c45f14d360d2130db45f", checked := Try.checked }
namespace Rows
def none {H : Type} : Left H := { results := [], args := [] }

/-- 'yearbooklaw07.RunsChecks': WHATEVER THE INPUT: true; the input reads as it did. -/
def runsChecksSpec : ChangeSpec := { name := "runsChecks", fn := fun _ => fun
  | [d] => { results := [.lit (.bool true)], args := [d] }
  | _ => none }
def runsChecksRow : OpenClaim := { program := "ytlfjmdfplmdmgaa", sum := "ddeb0eedfbeaa534db44a4522aa6b27b3bc20991a234c45f14d360d2130db45f", func := "yearbook/yearbooklaw07.RunsChecks", spec := "runsChecks", unfollowed := true, recurses := true, apart := false }
def RunsChecksSaid : Prop := runsChecksRow.holds Try.pinned (OpenSpec.ofChange runsChecksSpec)

/-- ITS FALSE NEIGHBOUR: 'it returns false'. Refute it at one input. -/
def runsChecksWrong : ChangeSpec := { name := "runsChecks", fn := fun _ => fun
  | [d] => { results := [.lit (.bool false)], args := [d] }
  | _ => none }
def RunsChecksWrongFalsely : Prop := runsChecksRow.holds Try.pinned (OpenSpec.ofChange runsChecksWrong)

/-- 'yearbooklaw07.RunsMakes': WHATEVER THE INPUT: true; the input reads as it did. -/
def runsMakesSpec : ChangeSpec := { name := "runsMakes", fn := fun _ => fun
  | [d] => { results := [.lit (.bool true)], args := [d] }
  | _ => none }
def runsMakesRow : OpenClaim := { program := "ytlfjmdfplmdmgaa", sum := "ddeb0eedfbeaa534db44a4522aa6b27b3bc20991a234c45f14d360d2130db45f", func := "yearbook/yearbooklaw07.RunsMakes", spec := "runsMakes", unfollowed := true, recurses := true, apart := false }
def RunsMakesSaid : Prop := runsMakesRow.holds Try.pinned (OpenSpec.ofChange runsMakesSpec)

/-- ITS FALSE NEIGHBOUR: 'it returns false'. Refute it at one input. -/
def runsMakesWrong : ChangeSpec := { name := "runsMakes", fn := fun _ => fun
  | [d] => { results := [.lit (.bool false)], args := [d] }
  | _ => none }
def RunsMakesWrongFalsely : Prop := runsMakesRow.holds Try.pinned (OpenSpec.ofChange runsMakesWrong)

/-- 'yearbooklaw07.RunsFinds': WHATEVER THE INPUT: true; the input reads as it did. -/
def runsFindsSpec : ChangeSpec := { name := "runsFinds", fn := fun _ => fun
  | [d1, d2, d3, d4] => { results := [.lit (.bool true)], args := [d1, d2, d3, d4] }
  | _ => none }
def runsFindsRow : OpenClaim := { program := "ytlfjmdfplmdmgaa", sum := "ddeb0eedfbeaa534db44a4522aa6b27b3bc20991a234c45f14d360d2130db45f", func := "yearbook/yearbooklaw07.RunsFinds", spec := "runsFinds", unfollowed := true, recurses := true, apart := false }
def RunsFindsSaid : Prop := runsFindsRow.holds Try.pinned (OpenSpec.ofChange runsFindsSpec)

/-- ITS FALSE NEIGHBOUR: 'it returns false'. Refute it at one input. -/
def runsFindsWrong : ChangeSpec := { name := "runsFinds", fn := fun _ => fun
  | [d1, d2, d3, d4] => { results := [.lit (.bool false)], args := [d1, d2, d3, d4] }
  | _ => none }
def RunsFindsWrongFalsely : Prop := runsFindsRow.holds Try.pinned (OpenSpec.ofChange runsFindsWrong)

/-- 'yearbooklaw07.RunsCuts': WHATEVER THE INPUT: true; the input reads as it did. -/
def runsCutsSpec : ChangeSpec := { name := "runsCuts", fn := fun _ => fun
  | [d1, d2, d3, d4] => { results := [.lit (.bool true)], args := [d1, d2, d3, d4] }
  | _ => none }
def runsCutsRow : OpenClaim := { program := "ytlfjmdfplmdmgaa", sum := "ddeb0eedfbeaa534db44a4522aa6b27b3bc20991a234c45f14d360d2130db45f", func := "yearbook/yearbooklaw07.RunsCuts", spec := "runsCuts", unfollowed := true, recurses := true, apart := false }
def RunsCutsSaid : Prop := runsCutsRow.holds Try.pinned (OpenSpec.ofChange runsCutsSpec)

/-- ITS FALSE NEIGHBOUR: 'it returns false'. Refute it at one input. -/
def runsCutsWrong : ChangeSpec := { name := "runsCuts", fn := fun _ => fun
  | [d1, d2, d3, d4] => { results := [.lit (.bool false)], args := [d1, d2, d3, d4] }
  | _ => none }
def RunsCutsWrongFalsely : Prop := runsCutsRow.holds Try.pinned (OpenSpec.ofChange runsCutsWrong)

/-- 'yearbooklaw07.RunsBack': WHATEVER THE INPUT: true; the input reads as it did. -/
def runsBackSpec : ChangeSpec := { name := "runsBack", fn := fun _ => fun
  | [d] => { results := [.lit (.bool true)], args := [d] }
  | _ => none }
def runsBackRow : OpenClaim := { program := "ytlfjmdfplmdmgaa", sum := "ddeb0eedfbeaa534db44a4522aa6b27b3bc20991a234c45f14d360d2130db45f", func := "yearbook/yearbooklaw07.RunsBack", spec := "runsBack", unfollowed := true, recurses := true, apart := false }
def RunsBackSaid : Prop := runsBackRow.holds Try.pinned (OpenSpec.ofChange runsBackSpec)

/-- ITS FALSE NEIGHBOUR: 'it returns false'. Refute it at one input. -/
def runsBackWrong : ChangeSpec := { name := "runsBack", fn := fun _ => fun
  | [d] => { results := [.lit (.bool false)], args := [d] }
  | _ => none }
def RunsBackWrongFalsely : Prop := runsBackRow.holds Try.pinned (OpenSpec.ofChange runsBackWrong)

/-- 'yearbooklaw07.RunsJoined': WHATEVER THE INPUT: true; the input reads as it did. -/
def runsJoinedSpec : ChangeSpec := { name := "runsJoined", fn := fun _ => fun
  | [d1, d2] => { results := [.lit (.bool true)], args := [d1, d2] }
  | _ => none }
def runsJoinedRow : OpenClaim := { program := "ytlfjmdfplmdmgaa", sum := "ddeb0eedfbeaa534db44a4522aa6b27b3bc20991a234c45f14d360d2130db45f", func := "yearbook/yearbooklaw07.RunsJoined", spec := "runsJoined", unfollowed := true, recurses := true, apart := false }
def RunsJoinedSaid : Prop := runsJoinedRow.holds Try.pinned (OpenSpec.ofChange runsJoinedSpec)

/-- ITS FALSE NEIGHBOUR: 'it returns false'. Refute it at one input. -/
def runsJoinedWrong : ChangeSpec := { name := "runsJoined", fn := fun _ => fun
  | [d1, d2] => { results := [.lit (.bool false)], args := [d1, d2] }
  | _ => none }
def RunsJoinedWrongFalsely : Prop := runsJoinedRow.holds Try.pinned (OpenSpec.ofChange runsJoinedWrong)

/-- 'yearbooklaw07.RunsClipped': WHATEVER THE INPUT: true; the input reads as it did. -/
def runsClippedSpec : ChangeSpec := { name := "runsClipped", fn := fun _ => fun
  | [d1, d2, d3] => { results := [.lit (.bool true)], args := [d1, d2, d3] }
  | _ => none }
def runsClippedRow : OpenClaim := { program := "ytlfjmdfplmdmgaa", sum := "ddeb0eedfbeaa534db44a4522aa6b27b3bc20991a234c45f14d360d2130db45f", func := "yearbook/yearbooklaw07.RunsClipped", spec := "runsClipped", unfollowed := true, recurses := true, apart := false }
def RunsClippedSaid : Prop := runsClippedRow.holds Try.pinned (OpenSpec.ofChange runsClippedSpec)

/-- ITS FALSE NEIGHBOUR: 'it returns false'. Refute it at one input. -/
def runsClippedWrong : ChangeSpec := { name := "runsClipped", fn := fun _ => fun
  | [d1, d2, d3] => { results := [.lit (.bool false)], args := [d1, d2, d3] }
  | _ => none }
def RunsClippedWrongFalsely : Prop := runsClippedRow.holds Try.pinned (OpenSpec.ofChange runsClippedWrong)

/-- 'yearbooklaw07.RunsFew': WHATEVER THE INPUT: true; the input reads as it did. -/
def runsFewSpec : ChangeSpec := { name := "runsFew", fn := fun _ => fun
  | [d1, d2, d3, d4] => { results := [.lit (.bool true)], args := [d1, d2, d3, d4] }
  | _ => none }
def runsFewRow : OpenClaim := { program := "ytlfjmdfplmdmgaa", sum := "ddeb0eedfbeaa534db44a4522aa6b27b3bc20991a234c45f14d360d2130db45f", func := "yearbook/yearbooklaw07.RunsFew", spec := "runsFew", unfollowed := true, recurses := true, apart := false }
def RunsFewSaid : Prop := runsFewRow.holds Try.pinned (OpenSpec.ofChange runsFewSpec)

/-- ITS FALSE NEIGHBOUR: 'it returns false'. Refute it at one input. -/
def runsFewWrong : ChangeSpec := { name := "runsFew", fn := fun _ => fun
  | [d1, d2, d3, d4] => { results := [.lit (.bool false)], args := [d1, d2, d3, d4] }
  | _ => none }
def RunsFewWrongFalsely : Prop := runsFewRow.holds Try.pinned (OpenSpec.ofChange runsFewWrong)

/- THE SECOND FORM. 'bulk': how many values and letters a reading holds, each counted each time it is reached (what is shared counts as often as it is met; a slice's spare places count too). A statement '..UptoSaid' is the law's where the arguments, and the package variables that the reading takes, are together of bulk at most 1048576: NARROWER than '..Said'. Prove '..Said' where nothing that the law and all that it calls make is longer than what came in: it says more and counts as full. Else prove '..UptoSaid'. A law counts once. -/
mutual
def uptoBulk {H : Type} : DataW H → Nat
  | .lit (.string bytes) => bytes.length + 1
  | .lit _ => 1
  | .nil => 1
  | .ptr d => uptoBulk d + 1
  | .slice elems spare => uptoBulkAll elems + uptoBulkAll spare + 1
  | .agg parts => uptoBulkAll parts + 1
  | .iface _ d => uptoBulk d + 1
  | .map entries => uptoBulkEntries entries + 1
  | .held _ => 1
def uptoBulkAll {H : Type} : List (DataW H) → Nat
  | [] => 0
  | d :: r => uptoBulk d + uptoBulkAll r
def uptoBulkEntries {H : Type} : List (Lit × DataW H) → Nat
  | [] => 0
  | x :: r => uptoBulkEntry x + uptoBulkEntries r
def uptoBulkEntry {H : Type} : Lit × DataW H → Nat
  | (.string bytes, d) => bytes.length + uptoBulk d + 1
  | (_, d) => uptoBulk d + 1
 end
def uptoSmall : (H : Type) → List (DataW H) → Bool := fun _ ds => decide (uptoBulkAll ds ≤ 1048576)
def OpenSpec.upto (s : _root_.Go.ChangeSpec) : _root_.Go.OpenSpec := { _root_.Go.OpenSpec.ofChange s with cond := some uptoSmall }

/-- 'yearbooklaw07.RunsChecks', WHERE WHAT IT READS IS OF BULK AT MOST 1048576: true; the input reads as it did. -/
def runsChecksUptoRow : OpenClaim := { program := "ytlfjmdfplmdmgaa", sum := "ddeb0eedfbeaa534db44a4522aa6b27b3bc20991a234c45f14d360d2130db45f", func := "yearbook/yearbooklaw07.RunsChecks", spec := "runsChecks", unfollowed := true, recurses := true, apart := false, narrowed := true }
def RunsChecksUptoSaid : Prop := runsChecksUptoRow.holds Try.pinned (OpenSpec.upto runsChecksSpec)

/-- 'yearbooklaw07.RunsMakes', WHERE WHAT IT READS IS OF BULK AT MOST 1048576: true; the input reads as it did. -/
def runsMakesUptoRow : OpenClaim := { program := "ytlfjmdfplmdmgaa", sum := "ddeb0eedfbeaa534db44a4522aa6b27b3bc20991a234c45f14d360d2130db45f", func := "yearbook/yearbooklaw07.RunsMakes", spec := "runsMakes", unfollowed := true, recurses := true, apart := false, narrowed := true }
def RunsMakesUptoSaid : Prop := runsMakesUptoRow.holds Try.pinned (OpenSpec.upto runsMakesSpec)

/-- 'yearbooklaw07.RunsFinds', WHERE WHAT IT READS IS OF BULK AT MOST 1048576: true; the input reads as it did. -/
def runsFindsUptoRow : OpenClaim := { program := "ytlfjmdfplmdmgaa", sum := "ddeb0eedfbeaa534db44a4522aa6b27b3bc20991a234c45f14d360d2130db45f", func := "yearbook/yearbooklaw07.RunsFinds", spec := "runsFinds", unfollowed := true, recurses := true, apart := false, narrowed := true }
def RunsFindsUptoSaid : Prop := runsFindsUptoRow.holds Try.pinned (OpenSpec.upto runsFindsSpec)

/-- 'yearbooklaw07.RunsCuts', WHERE WHAT IT READS IS OF BULK AT MOST 1048576: true; the input reads as it did. -/
def runsCutsUptoRow : OpenClaim := { program := "ytlfjmdfplmdmgaa", sum := "ddeb0eedfbeaa534db44a4522aa6b27b3bc20991a234c45f14d360d2130db45f", func := "yearbook/yearbooklaw07.RunsCuts", spec := "runsCuts", unfollowed := true, recurses := true, apart := false, narrowed := true }
def RunsCutsUptoSaid : Prop := runsCutsUptoRow.holds Try.pinned (OpenSpec.upto runsCutsSpec)

/-- 'yearbooklaw07.RunsBack', WHERE WHAT IT READS IS OF BULK AT MOST 1048576: true; the input reads as it did. -/
def runsBackUptoRow : OpenClaim := { program := "ytlfjmdfplmdmgaa", sum := "ddeb0eedfbeaa534db44a4522aa6b27b3bc20991a234c45f14d360d2130db45f", func := "yearbook/yearbooklaw07.RunsBack", spec := "runsBack", unfollowed := true, recurses := true, apart := false, narrowed := true }
def RunsBackUptoSaid : Prop := runsBackUptoRow.holds Try.pinned (OpenSpec.upto runsBackSpec)

/-- 'yearbooklaw07.RunsJoined', WHERE WHAT IT READS IS OF BULK AT MOST 1048576: true; the input reads as it did. -/
def runsJoinedUptoRow : OpenClaim := { program := "ytlfjmdfplmdmgaa", sum := "ddeb0eedfbeaa534db44a4522aa6b27b3bc20991a234c45f14d360d2130db45f", func := "yearbook/yearbooklaw07.RunsJoined", spec := "runsJoined", unfollowed := true, recurses := true, apart := false, narrowed := true }
def RunsJoinedUptoSaid : Prop := runsJoinedUptoRow.holds Try.pinned (OpenSpec.upto runsJoinedSpec)

/-- 'yearbooklaw07.RunsClipped', WHERE WHAT IT READS IS OF BULK AT MOST 1048576: true; the input reads as it did. -/
def runsClippedUptoRow : OpenClaim := { program := "ytlfjmdfplmdmgaa", sum := "ddeb0eedfbeaa534db44a4522aa6b27b3bc20991a234c45f14d360d2130db45f", func := "yearbook/yearbooklaw07.RunsClipped", spec := "runsClipped", unfollowed := true, recurses := true, apart := false, narrowed := true }
def RunsClippedUptoSaid : Prop := runsClippedUptoRow.holds Try.pinned (OpenSpec.upto runsClippedSpec)

/-- 'yearbooklaw07.RunsFew', WHERE WHAT IT READS IS OF BULK AT MOST 1048576: true; the input reads as it did. -/
def runsFewUptoRow : OpenClaim := { program := "ytlfjmdfplmdmgaa", sum := "ddeb0eedfbeaa534db44a4522aa6b27b3bc20991a234c45f14d360d2130db45f", func := "yearbook/yearbooklaw07.RunsFew", spec := "runsFew", unfollowed := true, recurses := true, apart := false, narrowed := true }
def RunsFewUptoSaid : Prop := runsFewUptoRow.holds Try.pinned (OpenSpec.upto runsFewSpec)

end Rows
end Go.Proofs.Ytlfjmdfplmdmgaa
