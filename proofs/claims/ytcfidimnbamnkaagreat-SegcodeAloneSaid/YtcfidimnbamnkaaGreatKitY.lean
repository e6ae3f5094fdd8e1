/-
 More tools for the walks of this seat: cells that are kept while more is allotted. Conditions: none beyond those written at each fact.
-/
import Derived.Test.YtcfidimnbamnkaaGreatKit
namespace Go.Proofs.YtcfidimnbamnkaaGreat
open Go.RowKit

theorem Keeps.allocAs {w W : World} {L M : List (Nat × Nat × Value)} {o : Obj} (h : Keeps w M W) (_ : Keeps w L (W.alloc o)) : Keeps w M (W.alloc o) := h.alloc o
theorem Keeps.allocAsD {w W : World} {L M : List (Nat × Nat × Value)} {o : Obj} (h : Keeps w M W) (_ : Keeps w L (W.alloc o).drew) : Keeps w M (W.alloc o).drew := (h.alloc o).drew
theorem Cells.undrewR : ∀ {L : List (Nat × Nat × Value)} {W : World}, Cells L W.drew → Cells L W
 | [], _, _ => trivial
 | _ :: _, _, h => ⟨⟨h.1.1, h.1.2.1, h.1.2.2⟩, Cells.undrewR h.2⟩
theorem Keeps.undrewR {w W : World} {L : List (Nat × Nat × Value)} (h : Keeps w L W.drew) : Keeps w L W := ⟨⟨h.1.os, h.1.tape, h.1.output, h.1.size, h.1.block⟩, h.2.undrewR⟩
end Go.Proofs.YtcfidimnbamnkaaGreat
