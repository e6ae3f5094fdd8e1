/-
  Layer 8: pmc: Cut. Conditions: those written at each fact.
-/
import Derived.Test.YtmkminaipeodnaaBdJ
namespace Go.Proofs.Ytmkminaipeodnaa.P8
open Go.RowKit Go.Shelf

/-- The parts that Cut tells, and its code. -/
def cutR (l : List Bd) : List Int := if okD l then cutD l else []
def codeK (l : List Bd) : Int := if okD l then 0 else 180
theorem CutEnd.less {w W w' : World} {l : List Int} {code : Int} {e : Ending} (h : CutEnd W l code e w') (hb : Below w.heap.size w W) : CutEnd w l code e w' := by
  obtain ⟨h1, A, n, c, h2, h3⟩ := h
  exact ⟨under hb h1, A, n, c, h2, owns_less h3 hb.size⟩
set_option maxHeartbeats 1000000 in
theorem ofL_any (l : List Bd) (hl : l.length ≤ 9223372036854775807) (K : Nat) (caps : Array Value) (eK : ∀ args w, (callFunc K args).run Try.prog w = .ok (.enter K args) w) (v : Value) (w : World) (h : ReadsD w v l)
    (hF : okD l = true → ∀ W, Below w.heap.size w W → Calls Try.prog K caps W (CutEnd W (cutR l) 0)) :
    Calls Try.prog 36 #[v, .func (.func K) #[] caps] w (CutEnd w (cutR l) (codeK l)) := by
  have hr := h
  obtain ⟨A, c, rfl, _, _⟩ := h
  have BC := Lib.hid (bcheck_any l hl _ w hr)
  clear hr
  cases gk : okD l
  · rw [gk] at BC
    have E : Hid (cutR l = [] ∧ codeK l = 180) := Lib.hid ⟨by simp [cutR, gk], by simp [codeK, gk]⟩
    clear hF gk
    simp only [Bool.false_eq_true, if_false] at BC
    go_enter Try.func36, Try.ntmps36
    go_wp2_with fail
    refine BC.out.mono ?_
    rintro en w1 ⟨rfl, hb1⟩
    go_wp2_with fail
    go_returns
    exact ⟨hb1, _, _, _, by rw [E.out.2]; rfl, by rw [E.out.1]; exact World.ownsRow_nil _ _ _ _⟩
  · have HF := Lib.hid (hF gk)
    rw [gk] at BC
    have E : Hid (codeK l = 0) := Lib.hid (by simp [codeK, gk])
    simp only [if_true] at BC
    clear hF gk
    go_enter Try.func36, Try.ntmps36
    go_wp2_with fail
    refine BC.out.mono ?_
    rintro en w1 ⟨rfl, hb1⟩
    have HF1 := Lib.hid (HF.out w1 hb1)
    go_wp2_with fail
    refine HF1.out.mono ?_
    rintro en w2 ⟨hb2, A1, n1, c1, rfl, hrow⟩
    have H2 := Lib.hid hrow
    clear hrow
    go_wp2_with fail
    go_returns
    exact ⟨under hb1 hb2, _, _, _, by rw [E.out]; rfl, owns_less H2.out hb1.size⟩
set_option maxHeartbeats 1000000 in
theorem cut_any (l : List Bd) (hl : l.length ≤ 9223372036854775807) (v : Value) (w : World) (h : ReadsD w v l) :
    Calls Try.prog 20 #[v] w (CutEnd w (cutR l) (codeK l)) := by
  have hr := h
  obtain ⟨A, c, rfl, _, _⟩ := h
  have hmf := makes_func
  have HF := Lib.hid (fun W (hb : Below w.heap.size w W) (hbx : Boxed W w.heap.size 22 (.slice A l.length c)) => ofL_any l hl 37 #[.pointer (some ⟨w.heap.size, 0, none⟩)] (enters_of Try.func37 (by kernel_rfl) rfl) (.slice A l.length c) W (hr.below hb)
    (fun gk W' hb' => by
      rw [show cutR l = cutD l by simp [cutR, gk]]
      exact cut1_any l gk w.heap.size W' (.slice A l.length c) ((hr.below hb).below hb') ((hb'.block _ hbx.lt).trans hbx)))
  clear hr
  generalize cutR l = x at *
  generalize codeK l = e at *
  go_enter Try.func20, Try.ntmps20
  go_wp2_with fail
  have hb := below_alloc w (.cells #[.slice A l.length c] 22)
  refine (HF.out _ hb (Boxed.new w _ _)).mono ?_
  rintro en w2 ⟨hb2, A1, n1, c1, rfl, hrow⟩
  have H2 := Lib.hid hrow
  clear hrow HF
  go_wp2_with fail
  go_returns
  exact ⟨under hb hb2, _, _, _, rfl, owns_less H2.out hb.size⟩
end Go.Proofs.Ytmkminaipeodnaa.P8
