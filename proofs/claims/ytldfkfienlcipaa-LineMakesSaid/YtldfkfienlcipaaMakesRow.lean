/-
  The law LineMakes: its row. Conditions: the row's own list.
-/
import Derived.Test.YtldfkfienlcipaaRowB
import Derived.Test.YtldfkfienlcipaaNum
import Derived.Lib.SmallJoins
import Derived.Test.YtldfkfienlcipaaMakes
/-
  What the rows of this seat share: lines, slopes and numbers of two words that are handed in. Conditions: those written at each fact.
-/
namespace Go.Proofs.Ytldfkfienlcipaa
open Go.ChangeShapes Go.WideShapes Go.ChangeAt Go.RowKit Go.Joins

theorem cellsLine : Try.prog.cellsOf 23 = 4 := by kernel_rfl
theorem cellsSlope : Try.prog.cellsOf 40 = 2 := by kernel_rfl
theorem cellsWide : Try.prog.cellsOf 52 = 2 := by kernel_rfl
section
variable {H : Type} {enc : TypeId × Value → H} {w : World}
set_option maxRecDepth 100000 in
theorem open_line {base : Nat} {spare : Nat → Bool} {held : Bool} {r : Reach} {b0 : Nat} {v : Value} {d : DataW H} {p : List MemPlace}
    (hv : Value.okWide Try.prog w r b0 23 v) (h : DataW.Trod enc Try.prog w base spare held 23 v d p) :
    ∃ a r n d, v = .agg #[.int .i64 a, .int .i64 r, .int .i64 n, .int .i64 d] ∧ p = [] ∧ I64 a ∧ I64 r ∧ I64 n ∧ I64 d := by
  obtain ⟨c0, c1, c2, c3, y0, y1, y2, y3, m, rfl, rfl, rfl, hy0, hy1, hy2, hy3⟩ := open_agg4 Try.underlying23 (by kernel_rfl) cellsLine hv h
  obtain ⟨a, e0, rfl, wa⟩ := DataW.trod_int Try.underlying2 hy0
  obtain ⟨b, e1, rfl, wb⟩ := DataW.trod_int Try.underlying2 hy1
  obtain ⟨c, e2, rfl, wc⟩ := DataW.trod_int Try.underlying2 hy2
  obtain ⟨e, e3, rfl, wd⟩ := DataW.trod_int Try.underlying2 hy3
  simp at e0 e1 e2 e3
  subst e0 e1 e2 e3
  exact ⟨a, b, c, e, rfl, rfl, i64_wf.1 wa, i64_wf.1 wb, i64_wf.1 wc, i64_wf.1 wd⟩
set_option maxRecDepth 100000 in
theorem open_slope {base : Nat} {spare : Nat → Bool} {held : Bool} {r : Reach} {b0 : Nat} {v : Value} {d : DataW H} {p : List MemPlace}
    (hv : Value.okWide Try.prog w r b0 40 v) (h : DataW.Trod enc Try.prog w base spare held 40 v d p) :
    ∃ n d, v = .agg #[.int .i64 n, .int .i64 d] ∧ p = [] ∧ I64 n ∧ I64 d := by
  obtain ⟨c0, c1, y0, y1, m, rfl, rfl, rfl, hy0, hy1⟩ := open_agg2 Try.underlying40 (by kernel_rfl) cellsSlope hv h
  obtain ⟨a, e0, rfl, wa⟩ := DataW.trod_int Try.underlying2 hy0
  obtain ⟨b, e1, rfl, wb⟩ := DataW.trod_int Try.underlying2 hy1
  simp at e0 e1
  subst e0 e1
  exact ⟨a, b, rfl, rfl, i64_wf.1 wa, i64_wf.1 wb⟩
set_option maxRecDepth 100000 in
theorem open_wide {base : Nat} {spare : Nat → Bool} {held : Bool} {r : Reach} {b0 : Nat} {v : Value} {d : DataW H} {p : List MemPlace}
    (hv : Value.okWide Try.prog w r b0 52 v) (h : DataW.Trod enc Try.prog w base spare held 52 v d p) :
    ∃ hi lo, v = wideV hi lo ∧ p = [] ∧ I64 hi ∧ U64 lo := by
  obtain ⟨c0, c1, y0, y1, m, rfl, rfl, rfl, hy0, hy1⟩ := open_agg2 Try.underlying52 (by kernel_rfl) cellsWide hv h
  obtain ⟨a, e0, rfl, wa⟩ := DataW.trod_int Try.underlying2 hy0
  obtain ⟨b, e1, rfl, wb⟩ := DataW.trod_int Try.underlying50 hy1
  simp at e0 e1
  subst e0 e1
  exact ⟨a, b, rfl, rfl, i64_wf.1 wa, u64_wf.1 wb⟩
end
end Go.Proofs.Ytldfkfienlcipaa

/-
  The law LineMakes, for any number and slope. Conditions: the numbers are of 64 bits.
-/
namespace Go.Proofs.Ytldfkfienlcipaa
open Go.RowKit

theorem makes_any (a hi lo n d : Int) (h1 : I64 hi) (k1 : U64 lo) (w : World) : Calls Try.prog 5 #[.int .i64 a, wideV hi lo, slV n d] w (Ret w (.bool true)) := by
  have fz := fits_val h1 k1
  have e1 := rhi_val h1 k1
  have e2 := rlo_val h1 k1
  have RO := fun W => refOf_any hi lo h1.1 h1.2 k1.1 k1.2 W
  have ez : hi * 18446744073709551616 + lo = val hi lo := by unfold val; rfl
  rw [ez] at RO
  obtain ⟨z, hz⟩ : ∃ z, z = val hi lo := ⟨_, rfl⟩
  rw [← hz] at fz e1 e2 RO
  clear ez hz
  have main : ∀ p0 p1 p2 p3 E1 r0 r1 r2 r3 E2, (slopeB n d = false ∧ p0 = 0 ∧ p1 = 0 ∧ p2 = 0 ∧ p3 = 0 ∧ E1 = 151 ∨ slopeB n d = true ∧ OfI a n d p0 p1 p2 p3 E1) →
      (slopeB n d = false ∧ r0 = 0 ∧ r1 = 0 ∧ r2 = 0 ∧ r3 = 0 ∧ E2 = 151 ∨ slopeB n d = true ∧ RaI z n d r0 r1 r2 r3 E2) →
      Calls Try.prog 5 #[.int .i64 a, wideV hi lo, slV n d] w (Ret w (.bool true)) := by
    intro p0 p1 p2 p3 E1 r0 r1 r2 r3 E2 HO HR
    refine makes_walk a hi lo n d z (lowN n d) (lowD n d) p0 p1 p2 p3 E1 r0 r1 r2 r3 E2 (slopeB n d) (backB a) (backB (z / d)) w (fun W => lof_any a n d p0 p1 p2 p3 E1 HO W) ?_ (fun W => refSlope_any n d W) (fun h W => refLowest_any n d h W) (fun W => refBack_any a W) RO ?_ ?_
    · intro W
      have := raised_any z n d r0 r1 r2 r3 E2 fz HR W
      rwa [e1, e2] at this
    · intro h hl b A m c W hN
      have s := (slopeB_iff _ _).1 h
      refine refRaised_any z n d r0 r1 r2 r3 (backB (z / d)) fz s.2.2.1 s.2.2.2 ?_ b A m c W hN
      rcases HR with ⟨g, _⟩ | ⟨_, ⟨g, _⟩ | ⟨_, ⟨g, g0, g1, g2, g3, _⟩ | ⟨g, g0, g1, g2, g3, _⟩⟩⟩
      · rw [h] at g; cases g
      · exact absurd hl g
      · exact Or.inl ⟨g, g0, g1, g2, g3, g⟩
      · exact Or.inr ⟨g, g0, g1, g2, g3, g⟩
    · by_cases h : slopeB n d = true
      · refine Or.inr ⟨h, ?_, ?_⟩
        · rcases HO with ⟨g, _⟩ | ⟨_, g⟩
          · rw [h] at g; cases g
          · exact g
        · rcases HR with ⟨g, _⟩ | ⟨_, ⟨g, g0, g1, g2, g3, g4⟩ | ⟨gl, ⟨g, g0, g1, g2, g3, g4⟩ | ⟨g, g0, g1, g2, g3, g4⟩⟩⟩
          · rw [h] at g; cases g
          · by_cases gn : lowN n d = n
            · exact Or.inr (Or.inl ⟨gn, fun gd => g ⟨gn, gd⟩, g0, g1, g2, g3, g4⟩)
            · exact Or.inl ⟨gn, g0, g1, g2, g3, g4⟩
          · exact Or.inr (Or.inr ⟨gl.1, gl.2, Or.inl ⟨g, g4⟩⟩)
          · exact Or.inr (Or.inr ⟨gl.1, gl.2, Or.inr ⟨g, g4⟩⟩)
      · have h0 : slopeB n d = false := by simpa using h
        rcases HO with ⟨_, q0, q1, q2, q3, q4⟩ | ⟨g, _⟩
        · rcases HR with ⟨_, s0, s1, s2, s3, s4⟩ | ⟨g, _⟩
          · exact Or.inl ⟨h0, q0, q1, q2, q3, q4, s0, s1, s2, s3, s4⟩
          · exact absurd g h
        · exact absurd g h
  by_cases h : slopeB n d = true
  · have HO : ∃ p0 p1 p2 p3 E1, OfI a n d p0 p1 p2 p3 E1 := by
      cases g : backB a
      · exact ⟨0, 0, 0, 0, 2, Or.inl ⟨g, rfl, rfl, rfl, rfl, rfl⟩⟩
      · exact ⟨_, _, _, _, _, Or.inr ⟨g, rfl, rfl, rfl, rfl, rfl⟩⟩
    have HR : ∃ r0 r1 r2 r3 E2, RaI z n d r0 r1 r2 r3 E2 := by
      by_cases gl : lowN n d = n ∧ lowD n d = d
      · cases g : backB (z / d)
        · exact ⟨0, 0, 0, 0, 5, Or.inr ⟨gl, Or.inl ⟨g, rfl, rfl, rfl, rfl, rfl⟩⟩⟩
        · exact ⟨_, _, _, _, _, Or.inr ⟨gl, Or.inr ⟨g, rfl, rfl, rfl, rfl, rfl⟩⟩⟩
      · exact ⟨0, 0, 0, 0, 2, Or.inl ⟨gl, rfl, rfl, rfl, rfl, rfl⟩⟩
    obtain ⟨p0, p1, p2, p3, E1, HO⟩ := HO
    obtain ⟨r0, r1, r2, r3, E2, HR⟩ := HR
    exact main p0 p1 p2 p3 E1 r0 r1 r2 r3 E2 (Or.inr ⟨h, HO⟩) (Or.inr ⟨h, HR⟩)
  · have h0 : slopeB n d = false := by simpa using h
    exact main 0 0 0 0 151 0 0 0 0 151 (Or.inl ⟨h0, rfl, rfl, rfl, rfl, rfl⟩) (Or.inl ⟨h0, rfl, rfl, rfl, rfl, rfl⟩)
end Go.Proofs.Ytldfkfienlcipaa

namespace Go.Proofs.Ytldfkfienlcipaa.lineMakes
open Go.ChangeShapes Go.WideShapes Go.ChangeAt Go.RowKit Go.Joins

set_option maxRecDepth 100000 in
theorem contract (H : Type) (enc : TypeId × Value → H) (W : World) (base : Nat) (args : Array Value) (ds gs : List (DataW H)) (before : List MemPlace)
    (hval : ∀ (j : Nat) t v, Try.f5.params[j]? = some t → args[j]? = some v → Value.okWide Try.prog W .any base t v)
    (hW : DataW.Whole enc Try.prog Try.f5.params.toList Rows.lineMakesSpec.vars false W args.toList ds gs before) :
    Calls Try.prog 5 args W fun e W' => ∃ v, e = .returned v ∧ Rows.lineMakesSpec.post enc Try.prog Try.f5 false true false false W args v W' := by
  have hW' := hW
  obtain ⟨p, q, hA0, hV, rfl, hfz, hnd⟩ := hW
  have hA : DataW.TrodAll enc Try.prog W 0 (fun _ => true) true Try.f5.params.toList args.toList ds p := hA0
  rw [Try.params5] at hA hval
  have hA2 := hA
  obtain ⟨v0, vs0, d0, ds0, p0, q0, hargs, rfl, rfl, t0, r0⟩ := trodAll_cons hA
  obtain ⟨v1, vs1, d1, ds1, p1, q1, rfl, rfl, rfl, t1, r1⟩ := trodAll_cons r0
  obtain ⟨v2, vs2, d2, ds2, p2, q2, rfl, rfl, rfl, t2, r2⟩ := trodAll_cons r1
  obtain ⟨rfl, rfl, rfl⟩ := trodAll_nil r2
  obtain rfl : args = #[v0, v1, v2] := by cases args; simp_all
  obtain ⟨rfl, rfl⟩ := trodVars_none hV
  have hlt : ∀ x ∈ p0 ++ (p1 ++ (p2 ++ [])), x.block < W.heap.size := fun x hx => by simpa using hW'.lt x (by simpa using hx)
  obtain ⟨a0, rfl, rfl, rfl, wf0⟩ := open_int Try.underlying2 (hval 0 2 v0 rfl rfl) t0
  have h0 := i64_wf.1 wf0
  obtain ⟨hi1, lo1, rfl, rfl, ih1, il1⟩ := open_wide (hval 1 52 v1 rfl rfl) t1
  obtain ⟨sn2, sd2, rfl, rfl, in2, id2⟩ := open_slope (hval 2 40 v2 rfl rfl) t2
  clear hA0 hA
  simp only [List.append_nil] at hW'
  refine ((makes_any a0 hi1 lo1 sn2 sd2 ih1 il1 W)).mono fun e W' ⟨he, hb⟩ => ?_
  subst he
  exact ⟨_, rfl, post_of_below (pv := []) hW' (fun _ _ _ => trodAll_cons_mk (shut_bool Try.underlying4 _) trodAll_mk0)
    (fun sp hsp => trodAll_stays hb (by intro t ht; simp at ht; rcases ht with rfl | rfl | rfl <;> exact ⟨by kernel_rfl, of_decide_eq_true (by kernel_rfl)⟩) hA2 hlt sp (fun x hx => hsp x (by first | (simp at hx; done) | simpa using hx))) (fun _ _ => rfl) (by simp) hb (ok_one (by kernel_rfl) rfl (okWide_bool_mk Try.underlying4 _))⟩

def atArgs : Array Value := #[.int .i64 0, .agg #[.int .i64 0, .int .u64 0], .agg #[.int .i64 0, .int .i64 0]]
theorem reads (os : Os) {H : Type} (enc : TypeId × Value → H) : ∃ places, DataW.whole enc Try.prog ((laidWorld os).forCall (fun _ _ => 0) ⟨#[], atArgs, []⟩).memory Try.f5.params.toList Rows.lineMakesSpec.vars false atArgs.toList 8 =
    some ([.lit (.int .i64 0), .agg [.lit (.int .i64 0), .lit (.int .u64 0)], .agg [.lit (.int .i64 0), .lit (.int .i64 0)]], [], places) :=
  ⟨[], by kernel_rfl⟩

set_option maxRecDepth 100000 in
theorem lifted (os : Os) (started : os.Started) (H : Type) (enc : TypeId × Value → H) (F : Stop.Interp) :
    ReturnsInHanded {} Try.checked os 5 .any ((OpenSpec.ofChange Rows.lineMakesSpec).preRow enc Try.prog Try.f5 Rows.lineMakesRow.domain false Rows.lineMakesRow.laid) (((OpenSpec.ofChange Rows.lineMakesSpec).at F).post enc Try.prog Try.f5 false true false false) := by
  obtain ⟨places, hx⟩ := reads os enc
  refine returnsInHanded_of_row (C := Try.checked) (s := OpenSpec.ofChange Rows.lineMakesSpec) own started (by kernel_rfl) Try.func5
    (witness_row_at (enc := enc) (C := Try.checked) false (laidWorld os) atArgs (World.laidAll_os _ _ _) (by kernel_rfl) (by kernel_rfl) (by kernel_rfl)
      (OpenSpec.preRow_of_cond 8 hx (by kernel_rfl) (fun k hk => by cases hk) (by kernel_rfl) (laid_met os _))) ?_
  intro W base args ds gs before hval hW _ _ _ _ _ _
  exact contract H enc W base args ds gs before hval hW

theorem said : Rows.LineMakesSaid :=
  OpenClaim.holds_of_cond 5 Try.f5 rfl rfl rfl rfl rfl rfl rfl ⟨rfl, rfl, rfl, rfl, rfl⟩ rfl rfl rfl rfl rfl (by kernel_rfl) Try.func5 (by kernel_rfl)
    (of_decide_eq_true (by kernel_rfl)) (by unfold Func.isWrapper; first | (rw [if_pos (by decide +kernel)]; kernel_rfl) | (rw [if_neg (by decide +kernel)]; exact ⟨rfl, rfl⟩))
    (fun os started H enc _ F => by rw [OpenClaim.pre_eq_preRow]; exact lifted os started H enc F)
end Go.Proofs.Ytldfkfienlcipaa.lineMakes
