/-
  Layer 10: slide: Cut. Conditions: those written at each fact.
-/
import Derived.Test.YtoephkglpbophaaGreatSlJ
namespace Go.Proofs.YtoephkglpbophaaGreat.P10
open Go.RowKit Go.Shelf Go.Proofs.YtoephkglpbophaaGreat.P8

def cntV (l : List Nat) : List Value := l.map fun n : Nat => Value.int .i64 n
/-- A row of numbers of the call's own; what Cut leaves behind. -/
def RowC (B : Nat) (l : List Nat) (v : Value) (W : World) : Prop := W.ownsRow B 3 1 v l.length (cntV l)
def EndC (w : World) (l : List Nat) (code : Int) (e : Ending) (w' : World) : Prop := Below w.heap.size w w' ∧ ∃ A n c, e = .returned (.tuple #[.slice A n c, .int .i64 code]) ∧ RowC w.heap.size l (.slice A n c) w'
theorem EndC.less {w W w' : World} {l : List Nat} {code : Int} {e : Ending} (h : EndC W l code e w') (hb : Below w.heap.size w W) : EndC w l code e w' := by
  obtain ⟨h1, A, n, c, h2, h3⟩ := h
  exact ⟨under hb h1, A, n, c, h2, owns_less h3 hb.size⟩
def lenV : Value → Nat
  | .slice _ n _ => n
  | _ => 0
theorem new_cells1 {W : World} {a : Value} {t : TypeId} {n : Nat} (hn : n = W.heap.size) : ∀ (j : Nat) (u : Value), [a][j]? = some u → (W.alloc (.cells #[a] t)).cell? ((⟨n, 0, none⟩ : Addr).add j) = some u := by
  subst hn
  intro j u h
  match j, h with
  | 0, h => cases h; simp [Addr.add, go_sem]
  | j + 1, h => simp at h
set_option maxRecDepth 100000 in
set_option maxHeartbeats 4000000 in
theorem cut1_any (m : List Bd) (gk : okD m = true) (w : World) (v : Value) (h : ReadsD w v m) : Calls Tryz.prog 19 #[v] w (EndC w (cutN m) 0) := by
  have hl := (okD_facts gk).2.1
  have HR := Lib.hid (row_ok gk)
  have hr := h
  obtain ⟨A, c, rfl, hc, _⟩ := h
  have HD0 := Lib.hid hr
  obtain ⟨i0, hi, hz0, hz1, hz2⟩ := info_parts8 infoInt
  obtain ⟨R, hRr⟩ : ∃ R, R = cutN m := ⟨_, rfl⟩
  rw [← hRr]
  have AS : Hid ([] ++ cutN (m.drop 0) = R) := Lib.hid (by simpa using hRr.symm)
  have hf := field_part
  clear hr hRr gk
  go_enter Tryz.func19, Tryz.ntmps19
  go_wp2_with fail
  go_loopw [4, 5] (fun s o wr => ∃ (k n : Nat) (A' : Option Addr) (c' : Nat) (done : List Nat), o = .slice A' n c' ∧ Hid (k ≤ m.length) ∧ Hid (n = m.length - k) ∧ n ≤ 256 ∧ n ≤ c' ∧ Hid (done ++ cutN (m.drop k) = R) ∧ Hid (done.length ≤ k) ∧ Hid (RowC w.heap.size done s wr) ∧ Hid (ReadsD w (.slice A' n c') (m.drop k)) ∧ Below w.heap.size w wr) (fun _ o _ => lenV o)
  case atStart => exact ⟨0, m.length, A, c, [], rfl, Lib.hid (by omega), Lib.hid (by omega), hl, hc, AS, Lib.hid (by simp), Lib.hid (World.ownsRow_nil _ _ _ _), Lib.hid (by simpa using HD0.out), Below.refl _ _⟩
  case round =>
    obtain ⟨k, n, A', c', done, rfl, hk, hn, hn2, hnc, hD, hL, hO, hRd, hB⟩ := hrel
    clear HD0 AS
    by_cases g0 : n = 0
    · have E : Hid (done = R) := Lib.hid (by
        have h1 : m.drop k = [] := List.drop_eq_nil_of_le (by have := hn.out; have := hk.out; omega)
        have := hD.out
        rwa [h1, cutN_nil, List.append_nil] at this)
      have HO := Lib.hid hO.out
      subst g0
      clear hRd hD hk hn
      have hsl : ∃ A n c, u4 = .slice A n c := by
        rcases HO.out.2 with ⟨e, _⟩ | ⟨g', cap, cur, e, _⟩
        · exact ⟨_, _, _, e⟩
        · exact ⟨_, _, _, e⟩
      obtain ⟨A4, n4, c4, rfl⟩ := hsl
      go_wp2_with fail
      go_returns
      exact ⟨hB, _, _, _, rfl, by rw [← E.out]; exact HO.out⟩
    have g1 : (0 : Int) < (n : Int) := by omega
    have hrl : (m.drop k).length = n := by rw [List.length_drop]; exact hn.out.symm
    have hne : m.drop k ≠ [] := by
      intro e
      rw [e] at hrl
      simp at hrl
      omega
    obtain ⟨N1, N2⟩ := firN_le hne
    have hD1 := hD.out
    rw [cutN_next hne, List.drop_drop] at hD1
    rw [hrl] at N2
    obtain ⟨N, hN⟩ : ∃ N, N = firN (m.drop k) := ⟨_, rfl⟩
    rw [← hN] at N1 N2 hD1
    obtain ⟨bb, off, rfl, hr1, hr0⟩ := hRd.out.rest (X := N) hn.out N2 N1
    have FA := Lib.hid (first_any (m.drop k) hne (by omega) (HR.out.drop k) bb off c' wr (by rw [hrl]; exact hRd.out.below hB))
    rw [hrl, ← hN] at FA
    generalize firS (m.drop k) = x at *
    obtain ⟨p1, p2⟩ := places hn.out (X := N) N2 hk.out
    have HN := Lib.hid (And.intro p1 p2)
    have HD2 := Lib.hid hD1
    have HR1 := Lib.hid hr1
    have HR0 := Lib.hid hr0
    have HM : Hid (lenV (.slice (some ⟨bb, off, none⟩) (n - N) 0) < lenV (.slice (some ⟨bb, off, none⟩) n c')) := Lib.hid (by simp only [lenV]; omega)
    have HO : Hid (wr.ownsRow w.heap.size 3 1 u4 done.length (cntV done)) := Lib.hid hO.out
    have hdl : done.length ≤ 256 := by have := hL.out; have := hk.out; omega
    have n1 : (N : Int) ≤ (n : Int) := by omega
    have n2 : (N : Int) ≤ (c' : Int) := by omega
    have n3 : (0 : Int) ≤ (N : Int) := by omega
    have HLL : Hid ((done ++ [N]).length ≤ k + N) := Lib.hid (by rw [List.length_append]; have := hL.out; simp; omega)
    clear hD1 hr1 hr0 p1 p2 hne hrl hD hO hRd hN
    go_wp2_with fail
    refine FA.out.mono ?_
    rintro e w6 ⟨rfl, hb6⟩
    have HB6 := Lib.hid (under hB hb6)
    have HO6 := Lib.hid (owns_below HO.out hb6)
    clear hb6 HO
    go_wp2_with (at_builtin; refine wpList_append_own _ rfl _ _ 27 rfl w.heap.size 3 i0 (.int .i64 0) 1 8 Tryz.underlying27 hi hz0 hz1 hz2 rfl (by decide) _ _ _ rfl (owns_below HO6.out (below_alloc w6 _)) ⟨w6.heap.size, 0, none⟩ 1 1 [.int .i64 (N : Int)] rfl rfl (new_cells1 rfl) (by intro u hu; simp at hu; subst hu; rfl) (by unfold maxLen; omega) (by omega) (by have := HB6.out.size; simp; omega) ?_; intro v8 w8 hown8 hgrow8 _; obtain ⟨g8, cap8, rfl⟩ := ownsRow_succ hown8)
    have HB8 := Lib.hid (Below.grown (HB6.out.alloc HB6.out.size _) hgrow8 (by have := HB6.out.size; simp; omega) (fun j hj => (HO6.out.lt j hj).1))
    have HO8 : Hid (RowC w.heap.size (done ++ [N]) (.slice (some ⟨g8, 0, none⟩) (done.length + 1) cap8) w8) := Lib.hid (by unfold RowC; rw [List.length_append, cntV, List.map_append]; exact hown8)
    clear hown8 hgrow8 HB6 HO6
    by_cases hcx : c' = N
    · have HRZ := Lib.hid (HR0.out hcx)
      clear HR0 HR1
      subst hcx
      have e0 : n - c' = 0 := by omega
      rw [e0] at HRZ HN HM
      replace e0 := Lib.hid e0
      go_wp2_with fail
      go_roundw
      case rel => exact ⟨k + c', 0, _, 0, ⟨rfl, rfl, rfl⟩, Lib.hid HN.out.2, Lib.hid HN.out.1, by omega, by omega, done ++ [c'], Lib.hid (by rw [List.append_assoc]; exact HD2.out), HLL, HO8, HRZ, HB8.out⟩
      case measure => exact HM.out
    · have hcy : ¬ N = c' := fun e => hcx e.symm
      go_wp2_with fail
      go_roundw
      case rel => exact ⟨k + N, n - N, _, c' - N, ⟨rfl, rfl, rfl⟩, Lib.hid HN.out.2, Lib.hid HN.out.1, by omega, by omega, done ++ [N], Lib.hid (by rw [List.append_assoc]; exact HD2.out), HLL, HO8, Lib.hid HR1.out, HB8.out⟩
      case measure => exact HM.out
def rowS (l : List Bd) : List Nat := if okD l then cutN l else []
set_option maxHeartbeats 1000000 in
theorem ofC_any (l : List Bd) (hl : l.length ≤ 9223372036854775807) (v : Value) (w : World) (h : ReadsD w v l) :
    Calls Tryz.prog 18 #[v, .func (.func 19) #[] #[]] w (EndC w (rowS l) (codeS l)) := by
  have hr := h
  obtain ⟨A, c, rfl, _, _⟩ := h
  have BC := Lib.hid (bcheck_any l hl _ w hr)
  cases gk : okD l
  · rw [gk] at BC
    have E : Hid (rowS l = [] ∧ codeS l = 180) := Lib.hid ⟨by simp [rowS, gk], by simp [codeS, gk]⟩
    clear gk hr
    simp only [Bool.false_eq_true, if_false] at BC
    go_enter Tryz.func18, Tryz.ntmps18
    go_wp2_with fail
    refine BC.out.mono ?_
    rintro en w1 ⟨rfl, hb1⟩
    go_wp2_with fail
    go_returns
    exact ⟨hb1, _, _, _, by rw [E.out.2]; rfl, by rw [E.out.1]; exact World.ownsRow_nil _ _ _ _⟩
  · have HF := Lib.hid (fun W (hb : Below w.heap.size w W) => cut1_any l gk W _ (hr.below hb))
    rw [gk] at BC
    have E : Hid (codeS l = 0 ∧ rowS l = cutN l) := Lib.hid ⟨by simp [codeS, gk], by simp [rowS, gk]⟩
    simp only [if_true] at BC
    clear gk hr
    go_enter Tryz.func18, Tryz.ntmps18
    go_wp2_with fail
    refine BC.out.mono ?_
    rintro en w1 ⟨rfl, hb1⟩
    have HF1 := Lib.hid (HF.out w1 hb1)
    go_wp2_with fail
    refine HF1.out.mono ?_
    rintro en w2 ⟨hb2, A1, n1, c1, rfl, hrow⟩
    have H2 := Lib.hid hrow
    clear hrow
    go_wp2_with fail
    go_returns
    exact ⟨under hb1 hb2, _, _, _, by rw [E.out.1]; rfl, by rw [E.out.2]; exact owns_less H2.out hb1.size⟩
set_option maxHeartbeats 1000000 in
theorem cut_any (l : List Bd) (hl : l.length ≤ 9223372036854775807) (v : Value) (w : World) (h : ReadsD w v l) :
    Calls Tryz.prog 7 #[v] w (EndC w (rowS l) (codeS l)) := by
  have OF := Lib.hid (ofC_any l hl v w h)
  obtain ⟨A, c, rfl, _, _⟩ := h
  go_enter Tryz.func7, Tryz.ntmps7
  go_wp2_with fail
  refine OF.out.mono ?_
  rintro en w1 ⟨hb1, A1, n1, c1, rfl, hrow⟩
  have H1 := Lib.hid (And.intro hb1 hrow)
  clear hrow hb1 OF
  go_wp2_with fail
  go_returns
  exact ⟨H1.out.1, _, _, _, rfl, H1.out.2⟩
end Go.Proofs.YtoephkglpbophaaGreat.P10
