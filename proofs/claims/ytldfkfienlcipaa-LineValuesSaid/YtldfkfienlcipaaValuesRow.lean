/-
  The law LineValues: its row. Conditions: the row's own list.
-/
import Derived.Test.YtldfkfienlcipaaRowB
import Derived.Test.YtldfkfienlcipaaNum
import Derived.Lib.SmallJoins
import Derived.Test.YtldfkfienlcipaaValues
/-
  What the rows of this seat share: lines, slopes and numbers of two words that are handed in. Conditions: those written at each fact.
-/
namespace Go.Proofs.Ytldfkfienlcipaa
open Go.ChangeShapes Go.WideShapes Go.ChangeAt Go.RowKit Go.Joins

theorem cellsLine : Try.prog.cellsOf 23 = 4 := by kernel_rfl
theorem cellsSlope : Try.prog.cellsOf 40 = 2 := by kernel_rfl
theorem cellsWide : Try.prog.cellsOf 52 = 2 := by kernel_rfl
section
variable {H : Type} {enc : TypeId × Value → H} {w : World}
set_option maxRecDepth 100000 in
theorem open_line {base : Nat} {spare : Nat → Bool} {held : Bool} {r : Reach} {b0 : Nat} {v : Value} {d : DataW H} {p : List MemPlace}
    (hv : Value.okWide Try.prog w r b0 23 v) (h : DataW.Trod enc Try.prog w base spare held 23 v d p) :
    ∃ a r n d, v = .agg #[.int .i64 a, .int .i64 r, .int .i64 n, .int .i64 d] ∧ p = [] ∧ I64 a ∧ I64 r ∧ I64 n ∧ I64 d := by
  obtain ⟨c0, c1, c2, c3, y0, y1, y2, y3, m, rfl, rfl, rfl, hy0, hy1, hy2, hy3⟩ := open_agg4 Try.underlying23 (by kernel_rfl) cellsLine hv h
  obtain ⟨a, e0, rfl, wa⟩ := DataW.trod_int Try.underlying2 hy0
  obtain ⟨b, e1, rfl, wb⟩ := DataW.trod_int Try.underlying2 hy1
  obtain ⟨c, e2, rfl, wc⟩ := DataW.trod_int Try.underlying2 hy2
  obtain ⟨e, e3, rfl, wd⟩ := DataW.trod_int Try.underlying2 hy3
  simp at e0 e1 e2 e3
  subst e0 e1 e2 e3
  exact ⟨a, b, c, e, rfl, rfl, i64_wf.1 wa, i64_wf.1 wb, i64_wf.1 wc, i64_wf.1 wd⟩
set_option maxRecDepth 100000 in
theorem open_slope {base : Nat} {spare : Nat → Bool} {held : Bool} {r : Reach} {b0 : Nat} {v : Value} {d : DataW H} {p : List MemPlace}
    (hv : Value.okWide Try.prog w r b0 40 v) (h : DataW.Trod enc Try.prog w base spare held 40 v d p) :
    ∃ n d, v = .agg #[.int .i64 n, .int .i64 d] ∧ p = [] ∧ I64 n ∧ I64 d := by
  obtain ⟨c0, c1, y0, y1, m, rfl, rfl, rfl, hy0, hy1⟩ := open_agg2 Try.underlying40 (by kernel_rfl) cellsSlope hv h
  obtain ⟨a, e0, rfl, wa⟩ := DataW.trod_int Try.underlying2 hy0
  obtain ⟨b, e1, rfl, wb⟩ := DataW.trod_int Try.underlying2 hy1
  simp at e0 e1
  subst e0 e1
  exact ⟨a, b, rfl, rfl, i64_wf.1 wa, i64_wf.1 wb⟩
set_option maxRecDepth 100000 in
theorem open_wide {base : Nat} {spare : Nat → Bool} {held : Bool} {r : Reach} {b0 : Nat} {v : Value} {d : DataW H} {p : List MemPlace}
    (hv : Value.okWide Try.prog w r b0 52 v) (h : DataW.Trod enc Try.prog w base spare held 52 v d p) :
    ∃ hi lo, v = wideV hi lo ∧ p = [] ∧ I64 hi ∧ U64 lo := by
  obtain ⟨c0, c1, y0, y1, m, rfl, rfl, rfl, hy0, hy1⟩ := open_agg2 Try.underlying52 (by kernel_rfl) cellsWide hv h
  obtain ⟨a, e0, rfl, wa⟩ := DataW.trod_int Try.underlying2 hy0
  obtain ⟨b, e1, rfl, wb⟩ := DataW.trod_int Try.underlying50 hy1
  simp at e0 e1
  subst e0 e1
  exact ⟨a, b, rfl, rfl, i64_wf.1 wa, u64_wf.1 wb⟩
end
end Go.Proofs.Ytldfkfienlcipaa

/-
  The law LineValues, for any line. Conditions: the numbers are of 64 bits.
-/
namespace Go.Proofs.Ytldfkfienlcipaa
open Go.RowKit

theorem values_any (a r n d t y lo hi : Int) (i1 : I64 lo) (i2 : I64 hi) (w : World) : Calls Try.prog 3 #[lnV a r n d, .int .i64 t, .int .i64 y, .int .i64 lo, .int .i64 hi] w (Ret w (.bool true)) := by
  have tl : lineB a r n d = true → ∀ t, tlQ a r n d t = atQ a r n d t ∧ tlE a r n d t = atE a r n d t := by
    intro h t
    unfold tlQ tlE
    rw [if_pos h, if_pos h]
    exact ⟨rfl, rfl⟩
  have tv : ∀ t, timeB t = true → atQ a r n d t = ovQ (exV a r n d t) d ∧ (backB (exV a r n d t / d) = true → atE a r n d t = 0) ∧ (backB (exV a r n d t / d) = false → atE a r n d t = 5) := by
    intro t ht
    unfold atQ atE ovE
    rw [if_pos ht, if_pos ht]
    exact ⟨rfl, fun h => by rw [if_pos h], fun h => by rw [h]; simp⟩
  have tn : ∀ t, timeB t = false → atQ a r n d t = 0 ∧ atE a r n d t = 2 := by
    intro t ht
    unfold atQ atE
    rw [ht]
    exact ⟨by simp, by simp⟩
  have main : ∀ l0 h0 F, (lineB a r n d = false ∧ l0 = 0 ∧ h0 = 0 ∧ F = 150 ∨ lineB a r n d = true ∧ EndsI t y (atQ a r n d t) (atE a r n d t) (atQ a r n d y) (atE a r n d y) l0 h0 F) →
      Calls Try.prog 3 #[lnV a r n d, .int .i64 t, .int .i64 y, .int .i64 lo, .int .i64 hi] w (Ret w (.bool true)) := by
    intro l0 h0 F HE
    refine values_walk a r n d t y lo hi (tlQ a r n d t) (tlE a r n d t) l0 h0 F (ovQ (exV a r n d y) d) (if lineB a r n d then 0 else 150) (lineB a r n d) (timeB t) (timeB y) (backB (exV a r n d t / d)) (backB (exV a r n d y / d)) (wnB a r n d t lo hi) w
      (fun W => refRight_any a r n d W) (fun W => lcheck_any a r n d W) (fun W => at_any a r n d t W) (fun W => ends_any a r n d t y l0 h0 F HE W) (fun W => within_any a r n d t lo hi i1 i2 W) (fun W => refTime_any t W) (fun W => refTime_any y W) ?_ ?_ ?_ ?_
    · intro h ht W
      rw [(tl h t).1, (tv t ht).1]
      exact refAt_any a r n d t h ht W
    · intro h ht W
      have := refWithin_any a r n d t lo hi h ht i1 i2 W
      rw [show wnB a r n d t lo hi = (decide (lo * d ≤ exV a r n d t) && decide (exV a r n d t ≤ hi * d)) by unfold wnB; rw [h, ht]; simp]
      exact this
    · intro h ht W
      exact refAt_any a r n d y h ht W
    · by_cases h : lineB a r n d = true
      · refine Or.inr ⟨h, by rw [if_pos h], ?_⟩
        have HF : EndsI t y (atQ a r n d t) (atE a r n d t) (atQ a r n d y) (atE a r n d y) l0 h0 F := by
          rcases HE with ⟨g, _⟩ | ⟨_, g⟩
          · rw [h] at g; cases g
          · exact g
        rw [(tl h t).1, (tl h t).2]
        by_cases t1 : timeB t = true
        · refine Or.inr ⟨t1, ?_⟩
          obtain ⟨q1, q2, q3⟩ := tv t t1
          -- what the ends are, if one of both times may not be, or they are turned
          have bad : timeB y = false ∨ y < t → l0 = 0 ∧ h0 = 0 ∧ F = 2 := by
            intro hb
            rcases HF with ⟨_, g⟩ | ⟨_, g1, g2, _⟩
            · exact g
            · rcases hb with g | g
              · rw [g1] at g; cases g
              · omega
          have good : timeB y = true → ¬ y < t → atE a r n d t ≠ 0 ∧ l0 = 0 ∧ h0 = 0 ∧ F = atE a r n d t ∨ atE a r n d t = 0 ∧ atE a r n d y ≠ 0 ∧ l0 = 0 ∧ h0 = 0 ∧ F = atE a r n d y ∨ atE a r n d t = 0 ∧ atE a r n d y = 0 ∧ l0 = min (atQ a r n d t) (atQ a r n d y) ∧ h0 = max (atQ a r n d t) (atQ a r n d y) ∧ F = 0 := by
            intro g1 g2
            rcases HF with ⟨g, _⟩ | ⟨_, _, _, g⟩
            · rcases g with g | g | g
              · rw [t1] at g; cases g
              · rw [g1] at g; cases g
              · exact absurd g g2
            · exact g
          cases fb : backB (exV a r n d t / d)
          · have e5 := q3 fb
            refine Or.inr ⟨rfl, e5, ?_⟩
            cases t2 : timeB y
            · exact Or.inl ⟨rfl, bad (Or.inl t2)⟩
            · refine Or.inr ⟨rfl, ?_⟩
              by_cases g : y < t
              · exact Or.inl ⟨g, bad (Or.inr g)⟩
              · refine Or.inr ⟨g, ?_⟩
                rcases good t2 g with ⟨_, k1, k2, k3⟩ | ⟨k, _⟩ | ⟨k, _⟩
                · exact ⟨k1, k2, by omega⟩
                · omega
                · omega
          · have e0 := q2 fb
            refine Or.inl ⟨rfl, e0, ?_⟩
            cases t2 : timeB y
            · exact Or.inl ⟨rfl, bad (Or.inl t2)⟩
            · refine Or.inr ⟨rfl, ?_⟩
              by_cases g : y < t
              · exact Or.inl ⟨g, bad (Or.inr g)⟩
              · refine Or.inr ⟨g, ?_⟩
                obtain ⟨p1, p2, p3⟩ := tv y t2
                cases gb : backB (exV a r n d y / d)
                · have := p3 gb
                  rcases good t2 g with ⟨k, _⟩ | ⟨_, _, k1, k2, k3⟩ | ⟨_, k, _⟩
                  · omega
                  · exact Or.inl ⟨rfl, k1, k2, by omega⟩
                  · omega
                · have := p2 gb
                  rcases good t2 g with ⟨k, _⟩ | ⟨_, k, _⟩ | ⟨_, _, k1, k2, k3⟩
                  · omega
                  · omega
                  · rw [← p1]
                    exact Or.inr ⟨rfl, k1, k2, k3⟩
        · have t0 : timeB t = false := by simpa using t1
          refine Or.inl ⟨t0, (tn t t0).1, (tn t t0).2, ?_⟩
          have wn : wnB a r n d t lo hi = false := by unfold wnB; rw [t0]; simp
          rcases HF with ⟨_, g1, g2, g3⟩ | ⟨g, _⟩
          · exact ⟨g1, g2, g3, wn⟩
          · rw [t0] at g; cases g
      · have h0' : lineB a r n d = false := by simpa using h
        have wn : wnB a r n d t lo hi = false := by unfold wnB; rw [h0']; simp
        rcases HE with ⟨_, g1, g2, g3⟩ | ⟨g, _⟩
        · refine Or.inl ⟨h0', by rw [if_neg h], ?_, ?_, g1, g2, g3, wn⟩
          · unfold tlQ; rw [if_neg h]
          · unfold tlE; rw [if_neg h]
        · exact absurd g h
  by_cases h : lineB a r n d = true
  · by_cases tt : timeB t = true ∧ timeB y = true ∧ t ≤ y
    · by_cases e1 : atE a r n d t = 0
      · by_cases e2 : atE a r n d y = 0
        · exact main _ _ _ (Or.inr ⟨h, Or.inr ⟨tt.1, tt.2.1, tt.2.2, Or.inr (Or.inr ⟨e1, e2, rfl, rfl, rfl⟩)⟩⟩)
        · exact main _ _ _ (Or.inr ⟨h, Or.inr ⟨tt.1, tt.2.1, tt.2.2, Or.inr (Or.inl ⟨e1, e2, rfl, rfl, rfl⟩)⟩⟩)
      · exact main _ _ _ (Or.inr ⟨h, Or.inr ⟨tt.1, tt.2.1, tt.2.2, Or.inl ⟨e1, rfl, rfl, rfl⟩⟩⟩)
    · refine main 0 0 2 (Or.inr ⟨h, Or.inl ⟨?_, rfl, rfl, rfl⟩⟩)
      by_cases t1 : timeB t = true
      · by_cases t2 : timeB y = true
        · exact Or.inr (Or.inr (by by_cases g : y < t; exact g; exact absurd ⟨t1, t2, by omega⟩ tt))
        · exact Or.inr (Or.inl (by simpa using t2))
      · exact Or.inl (by simpa using t1)
  · exact main 0 0 150 (Or.inl ⟨by simpa using h, rfl, rfl, rfl⟩)
end Go.Proofs.Ytldfkfienlcipaa

namespace Go.Proofs.Ytldfkfienlcipaa.lineValues
open Go.ChangeShapes Go.WideShapes Go.ChangeAt Go.RowKit Go.Joins

set_option maxRecDepth 100000 in
theorem contract (H : Type) (enc : TypeId × Value → H) (W : World) (base : Nat) (args : Array Value) (ds gs : List (DataW H)) (before : List MemPlace)
    (hval : ∀ (j : Nat) t v, Try.f3.params[j]? = some t → args[j]? = some v → Value.okWide Try.prog W .any base t v)
    (hW : DataW.Whole enc Try.prog Try.f3.params.toList Rows.lineValuesSpec.vars false W args.toList ds gs before) :
    Calls Try.prog 3 args W fun e W' => ∃ v, e = .returned v ∧ Rows.lineValuesSpec.post enc Try.prog Try.f3 false true false false W args v W' := by
  have hW' := hW
  obtain ⟨p, q, hA0, hV, rfl, hfz, hnd⟩ := hW
  have hA : DataW.TrodAll enc Try.prog W 0 (fun _ => true) true Try.f3.params.toList args.toList ds p := hA0
  rw [Try.params3] at hA hval
  have hA2 := hA
  obtain ⟨v0, vs0, d0, ds0, p0, q0, hargs, rfl, rfl, t0, r0⟩ := trodAll_cons hA
  obtain ⟨v1, vs1, d1, ds1, p1, q1, rfl, rfl, rfl, t1, r1⟩ := trodAll_cons r0
  obtain ⟨v2, vs2, d2, ds2, p2, q2, rfl, rfl, rfl, t2, r2⟩ := trodAll_cons r1
  obtain ⟨v3, vs3, d3, ds3, p3, q3, rfl, rfl, rfl, t3, r3⟩ := trodAll_cons r2
  obtain ⟨v4, vs4, d4, ds4, p4, q4, rfl, rfl, rfl, t4, r4⟩ := trodAll_cons r3
  obtain ⟨rfl, rfl, rfl⟩ := trodAll_nil r4
  obtain rfl : args = #[v0, v1, v2, v3, v4] := by cases args; simp_all
  obtain ⟨rfl, rfl⟩ := trodVars_none hV
  have hlt : ∀ x ∈ p0 ++ (p1 ++ (p2 ++ (p3 ++ (p4 ++ [])))), x.block < W.heap.size := fun x hx => by simpa using hW'.lt x (by simpa using hx)
  obtain ⟨la0, lr0, ln0, ld0, rfl, rfl, ia0, ir0, in0, id0⟩ := open_line (hval 0 23 v0 rfl rfl) t0
  obtain ⟨a1, rfl, rfl, rfl, wf1⟩ := open_int Try.underlying2 (hval 1 2 v1 rfl rfl) t1
  have h1 := i64_wf.1 wf1
  obtain ⟨a2, rfl, rfl, rfl, wf2⟩ := open_int Try.underlying2 (hval 2 2 v2 rfl rfl) t2
  have h2 := i64_wf.1 wf2
  obtain ⟨a3, rfl, rfl, rfl, wf3⟩ := open_int Try.underlying2 (hval 3 2 v3 rfl rfl) t3
  have h3 := i64_wf.1 wf3
  obtain ⟨a4, rfl, rfl, rfl, wf4⟩ := open_int Try.underlying2 (hval 4 2 v4 rfl rfl) t4
  have h4 := i64_wf.1 wf4
  clear hA0 hA
  simp only [List.append_nil] at hW'
  refine ((values_any la0 lr0 ln0 ld0 a1 a2 a3 a4 h3 h4 W)).mono fun e W' ⟨he, hb⟩ => ?_
  subst he
  exact ⟨_, rfl, post_of_below (pv := []) hW' (fun _ _ _ => trodAll_cons_mk (shut_bool Try.underlying4 _) trodAll_mk0)
    (fun sp hsp => trodAll_stays hb (by intro t ht; simp at ht; rcases ht with rfl | rfl | rfl | rfl | rfl <;> exact ⟨by kernel_rfl, of_decide_eq_true (by kernel_rfl)⟩) hA2 hlt sp (fun x hx => hsp x (by first | (simp at hx; done) | simpa using hx))) (fun _ _ => rfl) (by simp) hb (ok_one (by kernel_rfl) rfl (okWide_bool_mk Try.underlying4 _))⟩

def atArgs : Array Value := #[.agg #[.int .i64 0, .int .i64 0, .int .i64 0, .int .i64 0], .int .i64 0, .int .i64 0, .int .i64 0, .int .i64 0]
theorem reads (os : Os) {H : Type} (enc : TypeId × Value → H) : ∃ places, DataW.whole enc Try.prog ((laidWorld os).forCall (fun _ _ => 0) ⟨#[], atArgs, []⟩).memory Try.f3.params.toList Rows.lineValuesSpec.vars false atArgs.toList 8 =
    some ([.agg [.lit (.int .i64 0), .lit (.int .i64 0), .lit (.int .i64 0), .lit (.int .i64 0)], .lit (.int .i64 0), .lit (.int .i64 0), .lit (.int .i64 0), .lit (.int .i64 0)], [], places) :=
  ⟨[], by kernel_rfl⟩

set_option maxRecDepth 100000 in
theorem lifted (os : Os) (started : os.Started) (H : Type) (enc : TypeId × Value → H) (F : Stop.Interp) :
    ReturnsInHanded {} Try.checked os 3 .any ((OpenSpec.ofChange Rows.lineValuesSpec).preRow enc Try.prog Try.f3 Rows.lineValuesRow.domain false Rows.lineValuesRow.laid) (((OpenSpec.ofChange Rows.lineValuesSpec).at F).post enc Try.prog Try.f3 false true false false) := by
  obtain ⟨places, hx⟩ := reads os enc
  refine returnsInHanded_of_row (C := Try.checked) (s := OpenSpec.ofChange Rows.lineValuesSpec) own started (by kernel_rfl) Try.func3
    (witness_row_at (enc := enc) (C := Try.checked) false (laidWorld os) atArgs (World.laidAll_os _ _ _) (by kernel_rfl) (by kernel_rfl) (by kernel_rfl)
      (OpenSpec.preRow_of_cond 8 hx (by kernel_rfl) (fun k hk => by cases hk) (by kernel_rfl) (laid_met os _))) ?_
  intro W base args ds gs before hval hW _ _ _ _ _ _
  exact contract H enc W base args ds gs before hval hW

theorem said : Rows.LineValuesSaid :=
  OpenClaim.holds_of_cond 3 Try.f3 rfl rfl rfl rfl rfl rfl rfl ⟨rfl, rfl, rfl, rfl, rfl⟩ rfl rfl rfl rfl rfl (by kernel_rfl) Try.func3 (by kernel_rfl)
    (of_decide_eq_true (by kernel_rfl)) (by unfold Func.isWrapper; first | (rw [if_pos (by decide +kernel)]; kernel_rfl) | (rw [if_neg (by decide +kernel)]; exact ⟨rfl, rfl⟩))
    (fun os started H enc _ F => by rw [OpenClaim.pre_eq_preRow]; exact lifted os started H enc F)
end Go.Proofs.Ytldfkfienlcipaa.lineValues
