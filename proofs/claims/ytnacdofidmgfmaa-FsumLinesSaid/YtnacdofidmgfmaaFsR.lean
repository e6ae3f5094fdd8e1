/-
  What the rows of this seat share: rows of steps, and walks along a line, that are handed in. Conditions: those written at each fact.
-/
import Derived.Test.YtnacdofidmgfmaaLnR
namespace Go.Proofs.Ytnacdofidmgfmaa
open Go.ChangeShapes Go.WideShapes Go.ChangeAt Go.RowKit Go.Joins

theorem cellsRow6 : Try.prog.cellsOf 26 = 6 := by kernel_rfl
theorem cellsWalk6 : Try.prog.cellsOf 40 = 3 := by kernel_rfl
theorem array6 {α : Type} {cs : Array α} (h : cs.size = 6) : ∃ c0 c1 c2 c3 c4 c5, cs = #[c0, c1, c2, c3, c4, c5] := by
  obtain ⟨l⟩ := cs
  match l, h with
  | [c0, c1, c2, c3, c4, c5], _ => exact ⟨c0, c1, c2, c3, c4, c5, rfl⟩
section
variable {H : Type} {enc : TypeId × Value → H} {w : World}
set_option maxRecDepth 100000 in
theorem row6_cells {base n : Nat} {spare : Nat → Bool} {held : Bool} {c0 c1 c2 c3 c4 c5 : Value} {x : DataW H × List MemPlace} (h : DataW.trod enc Try.prog w base spare held n 26 [c0, c1, c2, c3, c4, c5] = some x) :
    ∃ k ah al bh bl m : Int, c0 = .int .i64 k ∧ c1 = .int .i64 ah ∧ c2 = .int .u64 al ∧ c3 = .int .i64 bh ∧ c4 = .int .u64 bl ∧ c5 = .int .i64 m ∧ x.2 = [] ∧
      (Lit.int .i64 k).wf = true ∧ (Lit.int .i64 ah).wf = true ∧ (Lit.int .u64 al).wf = true ∧ (Lit.int .i64 bh).wf = true ∧ (Lit.int .u64 bl).wf = true ∧ (Lit.int .i64 m).wf = true := by
  obtain ⟨ys, f, _, hx, _, hlen, hg⟩ := DataW.trod_struct Try.underlying26 h
  match ys, hlen with
  | [y0, y1, y2, y3], _ =>
    have k0 : DataW.trod enc Try.prog w base spare held f 3 [c0] = some y0 := hg 0 _ rfl
    have k1 : DataW.trod enc Try.prog w base spare held f 24 [c1, c2] = some y1 := hg 1 _ rfl
    have k2 : DataW.trod enc Try.prog w base spare held f 24 [c3, c4] = some y2 := hg 2 _ rfl
    have k3 : DataW.trod enc Try.prog w base spare held f 2 [c5] = some y3 := hg 3 _ rfl
    obtain ⟨k, e0, p0, w0⟩ := DataW.trod_int Try.underlying3 k0
    obtain ⟨m, e5, p3, w5⟩ := DataW.trod_int Try.underlying2 k3
    obtain ⟨zs, f2, _, hx1, _, hlen2, hg2⟩ := DataW.trod_struct Try.underlying24 k1
    obtain ⟨us, f3, _, hx2, _, hlen3, hg3⟩ := DataW.trod_struct Try.underlying24 k2
    match zs, hlen2, us, hlen3 with
    | [z0, z1], _, [u0, u1], _ =>
      have j0 : DataW.trod enc Try.prog w base spare held f2 2 [c1] = some z0 := hg2 0 _ rfl
      have j1 : DataW.trod enc Try.prog w base spare held f2 22 [c2] = some z1 := hg2 1 _ rfl
      have j2 : DataW.trod enc Try.prog w base spare held f3 2 [c3] = some u0 := hg3 0 _ rfl
      have j3 : DataW.trod enc Try.prog w base spare held f3 22 [c4] = some u1 := hg3 1 _ rfl
      obtain ⟨ah, e1, q1, w1⟩ := DataW.trod_int Try.underlying2 j0
      obtain ⟨al, e2, q2, w2⟩ := DataW.trod_int Try.underlying22 j1
      obtain ⟨bh, e3, q3, w3⟩ := DataW.trod_int Try.underlying2 j2
      obtain ⟨bl, e4, q4, w4⟩ := DataW.trod_int Try.underlying22 j3
      simp at e0 e1 e2 e3 e4 e5
      subst p0 p3 q1 q2 q3 q4
      simp at hx1 hx2
      subst hx1 hx2
      simp at hx
      subst hx
      exact ⟨k, ah, al, bh, bl, m, e0, e1, e2, e3, e4, e5, rfl, w0, w1, w2, w3, w4, w5⟩
set_option maxRecDepth 100000 in
theorem open_row6 {base : Nat} {spare : Nat → Bool} {held : Bool} {r : Reach} {b0 : Nat} {v : Value} {d : DataW H} {p : List MemPlace}
    (hv : Value.okWide Try.prog w r b0 26 v) (h : DataW.Trod enc Try.prog w base spare held 26 v d p) :
    ∃ k ah al bh bl m : Int, v = .agg #[.int .i64 k, .int .i64 ah, .int .u64 al, .int .i64 bh, .int .u64 bl, .int .i64 m] ∧ p = [] ∧ I64 k ∧ I64 ah ∧ U64 al ∧ I64 bh ∧ U64 bl ∧ I64 m := by
  obtain ⟨cs, rfl, hsz⟩ := okWide_struct Try.underlying26 hv
  obtain ⟨c0, c1, c2, c3, c4, c5, rfl⟩ := array6 (hsz.trans cellsRow6)
  obtain ⟨fuel, hf⟩ := h
  have hf' : DataW.trod enc Try.prog w base spare held fuel 26 [c0, c1, c2, c3, c4, c5] = some (d, p) := by simpa [Value.cells] using hf
  obtain ⟨k, ah, al, bh, bl, m, rfl, rfl, rfl, rfl, rfl, rfl, hp, w0, w1, w2, w3, w4, w5⟩ := row6_cells hf'
  exact ⟨k, ah, al, bh, bl, m, rfl, hp, i64_wf.1 w0, i64_wf.1 w1, u64_wf.1 w2, i64_wf.1 w3, u64_wf.1 w4, i64_wf.1 w5⟩
set_option maxRecDepth 100000 in
theorem open_walk {base : Nat} {spare : Nat → Bool} {held : Bool} {r : Reach} {b0 : Nat} {v : Value} {d : DataW H} {p : List MemPlace}
    (hv : Value.okWide Try.prog w r b0 40 v) (h : DataW.Trod enc Try.prog w base spare held 40 v d p) :
    ∃ f s k, v = .agg #[.int .i64 f, .int .i64 s, .int .i64 k] ∧ p = [] ∧ I64 f ∧ I64 s ∧ I64 k := by
  obtain ⟨c0, c1, c2, y0, y1, y2, m, rfl, rfl, rfl, hy0, hy1, hy2⟩ := open_agg3 Try.underlying40 (by kernel_rfl) cellsWalk6 hv h
  obtain ⟨a, e0, rfl, wa⟩ := DataW.trod_int Try.underlying2 hy0
  obtain ⟨b, e1, rfl, wb⟩ := DataW.trod_int Try.underlying2 hy1
  obtain ⟨c, e2, rfl, wc⟩ := DataW.trod_int Try.underlying3 hy2
  simp at e0 e1 e2
  subst e0 e1 e2
  exact ⟨a, b, c, rfl, rfl, i64_wf.1 wa, i64_wf.1 wb, i64_wf.1 wc⟩
end
end Go.Proofs.Ytnacdofidmgfmaa
