/-
  What the rows of this seat share: lines, slopes and numbers of two words that are handed in. Conditions: those written at each fact.
-/
import Derived.Test.YtjioljgojfcckaaGreatRowB
import Derived.Test.YtjioljgojfcckaaGreatNum
import Derived.Lib.SmallJoins
namespace Go.Proofs.YtjioljgojfcckaaGreat
open Go.ChangeShapes Go.WideShapes Go.ChangeAt Go.RowKit Go.Joins

theorem cellsLine : Tryz.prog.cellsOf 23 = 4 := by kernel_rfl
section
variable {H : Type} {enc : TypeId × Value → H} {w : World}
set_option maxRecDepth 100000 in
theorem open_line {base : Nat} {spare : Nat → Bool} {held : Bool} {r : Reach} {b0 : Nat} {v : Value} {d : DataW H} {p : List MemPlace}
    (hv : Value.okWide Tryz.prog w r b0 23 v) (h : DataW.Trod enc Tryz.prog w base spare held 23 v d p) :
    ∃ a r n d, v = .agg #[.int .i64 a, .int .i64 r, .int .i64 n, .int .i64 d] ∧ p = [] ∧ I64 a ∧ I64 r ∧ I64 n ∧ I64 d := by
  obtain ⟨c0, c1, c2, c3, y0, y1, y2, y3, m, rfl, rfl, rfl, hy0, hy1, hy2, hy3⟩ := open_agg4 Tryz.underlying23 (by kernel_rfl) cellsLine hv h
  obtain ⟨a, e0, rfl, wa⟩ := DataW.trod_int Tryz.underlying2 hy0
  obtain ⟨b, e1, rfl, wb⟩ := DataW.trod_int Tryz.underlying2 hy1
  obtain ⟨c, e2, rfl, wc⟩ := DataW.trod_int Tryz.underlying2 hy2
  obtain ⟨e, e3, rfl, wd⟩ := DataW.trod_int Tryz.underlying2 hy3
  simp at e0 e1 e2 e3
  subst e0 e1 e2 e3
  exact ⟨a, b, c, e, rfl, rfl, i64_wf.1 wa, i64_wf.1 wb, i64_wf.1 wc, i64_wf.1 wd⟩
end
end Go.Proofs.YtjioljgojfcckaaGreat
