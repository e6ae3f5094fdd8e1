/-
  Layer 9: swing: Cut. Conditions: those written at each fact.
-/
import Derived.Test.YtoephkglpbophaaGreatSwK
namespace Go.Proofs.YtoephkglpbophaaGreat.P9
open Go.RowKit Go.Shelf Go.Proofs.YtoephkglpbophaaGreat.P8

/-- A row of what is told of parts, of the call's own; what is left behind. -/
def RowI (B : Nat) (l : List (List Bd × Dr)) (v : Value) (W : World) : Prop := W.ownsRow B 3 1 v l.length (flatI l)
def EndI (w : World) (l : List (List Bd × Dr)) (code : Int) (e : Ending) (w' : World) : Prop := Below w.heap.size w w' ∧ ∃ A n c, e = .returned (.tuple #[.slice A n c, .int .i64 code]) ∧ RowI w.heap.size l (.slice A n c) w'
theorem EndI.less {w W w' : World} {l : List (List Bd × Dr)} {code : Int} {e : Ending} (h : EndI W l code e w') (hb : Below w.heap.size w W) : EndI w l code e w' := by
  obtain ⟨h1, A, n, c, h2, h3⟩ := h
  exact ⟨under hb h1, A, n, c, h2, owns_less h3 hb.size⟩
set_option maxRecDepth 100000 in
set_option maxHeartbeats 4000000 in
theorem partsI_any (m : List Bd) (gk : okD m = true) (Bl Bt : Nat) (w : World) (v : Value) (h : ReadsD w v m) (hbl : Boxed w Bl 22 v) (hbt : Boxed w Bt 64 (.func (.func 25) #[] #[])) :
    Calls Tryz.prog 46 #[.pointer (some ⟨Bl, 0, none⟩), .pointer (some ⟨Bt, 0, none⟩)] w (EndI w (partsS m) 0) := by
  obtain ⟨_, hl, hR⟩ := okD_facts gk
  have hcl := hbl.cell
  have hbll := hbl.lt
  have hct := hbt.cell
  have hbtl := hbt.lt
  have hr := h
  obtain ⟨A, c, rfl, hc, _⟩ := h
  have HD0 := Lib.hid hr
  have HR := Lib.hid hR
  obtain ⟨i0, hi, hz0, hz1, hz2⟩ := info_parts8 infoInt
  obtain ⟨R, hRr⟩ : ∃ R, R = partsS m := ⟨_, rfl⟩
  rw [← hRr]
  have AS : Hid ([] ++ partsS (m.drop 0) = R) := Lib.hid (by simpa using hRr.symm)
  clear hr hR hRr hbl hbt gk
  go_enter Tryz.func46, Tryz.ntmps46
  go_wp2_with fail
  go_loopw [4, 5] (fun s o wr => ∃ (k n : Nat) (A' : Option Addr) (c' : Nat) (done : List (List Bd × Dr)), o = .slice A' n c' ∧ Hid (k ≤ m.length) ∧ Hid (n = m.length - k) ∧ n ≤ 256 ∧ n ≤ c' ∧ Hid (done ++ partsS (m.drop k) = R) ∧ Hid (done.length ≤ k) ∧ Hid (RowI w.heap.size done s wr) ∧ Hid (ReadsD w (.slice A' n c') (m.drop k)) ∧ Below w.heap.size w wr) (fun _ o _ => lenV o)
  case atStart => exact ⟨0, m.length, A, c, [], rfl, Lib.hid (by omega), Lib.hid (by omega), hl, hc, AS, Lib.hid (by simp), Lib.hid (World.ownsRow_nil _ _ _ _), Lib.hid (by simpa using HD0.out), Below.refl _ _⟩
  case round =>
    obtain ⟨k, n, A', c', done, rfl, hk, hn, hn2, hnc, hD, hL, hO, hRd, hB⟩ := hrel
    clear HD0 AS
    by_cases g0 : n = 0
    · have E : Hid (done = R) := Lib.hid (by
        have h1 : m.drop k = [] := List.drop_eq_nil_of_le (by have := hn.out; have := hk.out; omega)
        have := hD.out
        rwa [h1, partsS_nil, List.append_nil] at this)
      have HO := Lib.hid hO.out
      obtain ⟨g8, h8⟩ : ∃ g8, Hid (u4 = g8) := ⟨u4, Lib.hid rfl⟩
      subst g0
      clear hRd hD hk hn
      have hsl : ∃ A n c, u4 = .slice A n c := by
        rcases HO.out.2 with ⟨e, _⟩ | ⟨g', cap, cur, e, _⟩
        · exact ⟨_, _, _, e⟩
        · exact ⟨_, _, _, e⟩
      obtain ⟨A4, n4, c4, rfl⟩ := hsl
      go_wp2_with fail
      go_returns
      exact ⟨hB, _, _, _, rfl, by rw [← E.out]; exact HO.out⟩
    have g1 : (0 : Int) < (n : Int) := by omega
    have hrl : (m.drop k).length = n := by rw [List.length_drop]; exact hn.out.symm
    have hne : m.drop k ≠ [] := by
      intro e
      rw [e] at hrl
      simp at hrl
      omega
    have hRk : ∀ b ∈ m.drop k, BdOk b := fun b hb => HR.out b (List.mem_of_mem_drop hb)
    obtain ⟨N1, N2⟩ := firN_le hne
    have hD1 := hD.out
    rw [partsS_next hne, List.drop_drop] at hD1
    have hpl := List.length_take (i := firN (m.drop k)) (l := m.drop k)
    rw [Nat.min_eq_left N2] at hpl
    rw [hrl] at N2
    obtain ⟨N, hN⟩ : ∃ N, N = firN (m.drop k) := ⟨_, rfl⟩
    rw [← hN] at N1 N2 hD1 hpl
    obtain ⟨bb, off, rfl, hr1, hr0⟩ := hRd.out.rest (X := N) hn.out N2 N1
    have FA := Lib.hid (first_any (m.drop k) hne (by omega) hRk bb off c' wr (by rw [hrl]; exact hRd.out.below hB))
    rw [hrl, ← hN] at FA
    have TL := Lib.hid (fun W => tellI_any (some ⟨bb, off, none⟩) N N (firX (m.drop k)) W)
    generalize hpt : (m.drop k).take N = part at hD1 hpl
    obtain ⟨x, hx⟩ : ∃ x, x = firX (m.drop k) := ⟨_, rfl⟩
    rw [← hx] at FA TL hD1
    obtain ⟨p1, p2⟩ := places hn.out (X := N) N2 hk.out
    have HN := Lib.hid (And.intro p1 p2)
    have HPL := Lib.hid hpl
    have HD2 := Lib.hid hD1
    have HR1 := Lib.hid hr1
    have HR0 := Lib.hid hr0
    have HM : Hid (lenV (.slice (some ⟨bb, off, none⟩) (n - N) 0) < lenV (.slice (some ⟨bb, off, none⟩) n c')) := Lib.hid (by simp only [lenV]; omega)
    have HO : Hid (wr.ownsRow w.heap.size 3 1 u4 done.length (flatI done)) := Lib.hid hO.out
    have hdl : done.length ≤ 256 := by have := hL.out; have := hk.out; omega
    have n1 : (N : Int) ≤ (n : Int) := by omega
    have n2 : (N : Int) ≤ (c' : Int) := by omega
    have n3 : (0 : Int) ≤ (N : Int) := by omega
    have hcl5 := (hB.cell (p := ⟨Bl, 0, none⟩) hbll).trans hcl
    have hct5 := (hB.cell (p := ⟨Bt, 0, none⟩) hbtl).trans hct
    have hbt5 := Nat.lt_of_lt_of_le hbtl hB.size
    clear hD1 hr1 hr0 p1 p2 hne hrl hD hO hRd hRk hN hx hpt hpl
    go_wp2_with fail
    refine FA.out.mono ?_
    rintro e w5 ⟨rfl, hb5⟩
    have hct6 := (hb5.cell (p := ⟨Bt, 0, none⟩) hbt5).trans hct5
    have hbt6 := Nat.lt_of_lt_of_le hbt5 hb5.size
    go_wp2_with fail
    refine (TL.out _).mono ?_
    rintro e w6 ⟨rfl, hb6⟩
    have hb56 := under (hb5.alloc (by have := hb5.size; omega) (.cells #[.int .i64 x.t, .int .i64 x.v, .int .i64 x.a, .int .i64 x.b, .int .i64 x.c, .int .i64 x.d] 63)) hb6
    have HB6 := Lib.hid (under hB hb56)
    have HO6 := Lib.hid (owns_below HO.out hb56)
    clear hb5 hb6 hb56 HO hct5 hct6 hbt5 hbt6 hcl5
    go_wp2_with (at_builtin; refine wpList_append_own _ rfl _ _ 27 rfl w.heap.size 3 i0 (.int .i64 0) 1 8 Tryz.underlying27 hi hz0 hz1 hz2 rfl (by decide) _ _ _ rfl (owns_below HO6.out (below_alloc w6 _)) ⟨w6.heap.size, 0, none⟩ 1 1 [.int .i64 (N : Int)] rfl rfl (new_cells1 rfl) (by intro u hu; simp at hu; subst hu; rfl) (by unfold maxLen; omega) (by omega) (by have := HB6.out.size; simp; omega) ?_; intro v8 w8 hown8 hgrow8 _; obtain ⟨g8, cap8, rfl⟩ := ownsRow_succ hown8)
    have HB8 := Lib.hid (Below.grown (HB6.out.alloc HB6.out.size _) hgrow8 (by have := HB6.out.size; simp; omega) (fun j hj => (HO6.out.lt j hj).1))
    have HO8 := Lib.hid hown8
    clear hown8 hgrow8 HB6 HO6
    by_cases hcx : c' = N
    · have HRZ := Lib.hid (HR0.out hcx)
      have hpl2 := HPL.out
      clear HR0 HR1
      subst hcx
      have e0 : n - c' = 0 := by omega
      rw [e0] at HRZ HN HM
      replace e0 := Lib.hid e0
      go_wp2_with fail
      go_roundw
      case rel => exact ⟨k + c', 0, _, 0, ⟨rfl, rfl, rfl⟩, Lib.hid HN.out.2, Lib.hid HN.out.1, by omega, by omega, done ++ [(part, x)], Lib.hid (by rw [List.append_assoc]; exact HD2.out), Lib.hid (by rw [List.length_append]; have := hL.out; simp; omega), Lib.hid (by unfold RowI; rw [List.length_append]; exact by rw [flatI_app]; simp only [flatI]; rw [hpl2]; exact HO8.out), HRZ, HB8.out⟩
      case measure => exact HM.out
    · have hpl2 := HPL.out
      have hcy : ¬ N = c' := fun e => hcx e.symm
      go_wp2_with fail
      go_roundw
      case rel => exact ⟨k + N, n - N, _, c' - N, ⟨rfl, rfl, rfl⟩, Lib.hid HN.out.2, Lib.hid HN.out.1, by omega, by omega, done ++ [(part, x)], Lib.hid (by rw [List.append_assoc]; exact HD2.out), Lib.hid (by rw [List.length_append]; have := hL.out; simp; omega), Lib.hid (by unfold RowI; rw [List.length_append]; exact by rw [flatI_app]; simp only [flatI]; rw [hpl2]; exact HO8.out), Lib.hid HR1.out, HB8.out⟩
      case measure => exact HM.out
set_option maxHeartbeats 1000000 in
theorem ofLI_any (l : List Bd) (hl : l.length ≤ 9223372036854775807) (K : Nat) (caps : Array Value) (eK : ∀ args w, (callFunc K args).run Tryz.prog w = .ok (.enter K args) w) (v : Value) (w : World) (h : ReadsD w v l)
    (hF : okD l = true → ∀ W, Below w.heap.size w W → Calls Tryz.prog K caps W (EndI W (partsS l) 0)) :
    Calls Tryz.prog 45 #[v, .func (.func K) #[] caps] w (EndI w (rowS l) (codeS l)) := by
  have hr := h
  obtain ⟨A, c, rfl, _, _⟩ := h
  have BC := Lib.hid (bcheck_any l hl _ w hr)
  clear hr
  cases gk : okD l
  · rw [gk] at BC
    have E : Hid (rowS l = [] ∧ codeS l = 180) := Lib.hid ⟨by simp [rowS, gk], by simp [codeS, gk]⟩
    clear hF gk
    simp only [Bool.false_eq_true, if_false] at BC
    go_enter Tryz.func45, Tryz.ntmps45
    go_wp2_with fail
    refine BC.out.mono ?_
    rintro en w1 ⟨rfl, hb1⟩
    go_wp2_with fail
    go_returns
    exact ⟨hb1, _, _, _, by rw [E.out.2]; rfl, by rw [E.out.1]; exact World.ownsRow_nil _ _ _ _⟩
  · have HF := Lib.hid (hF gk)
    rw [gk] at BC
    have E : Hid (codeS l = 0 ∧ rowS l = partsS l) := Lib.hid ⟨by simp [codeS, gk], by simp [rowS, gk]⟩
    simp only [if_true] at BC
    clear hF gk
    go_enter Tryz.func45, Tryz.ntmps45
    go_wp2_with fail
    refine BC.out.mono ?_
    rintro en w1 ⟨rfl, hb1⟩
    have HF1 := Lib.hid (HF.out w1 hb1)
    go_wp2_with fail
    refine HF1.out.mono ?_
    rintro en w2 ⟨hb2, A1, n1, c1, rfl, hrow⟩
    have H2 := Lib.hid hrow
    clear hrow
    go_wp2_with fail
    go_returns
    exact ⟨under hb1 hb2, _, _, _, by rw [E.out.1]; rfl, by rw [E.out.2]; exact owns_less H2.out hb1.size⟩
set_option maxHeartbeats 1000000 in
theorem ofI_any (l : List Bd) (hl : l.length ≤ 9223372036854775807) (v : Value) (w : World) (h : ReadsD w v l) :
    Calls Tryz.prog 24 #[v, .func (.func 25) #[] #[]] w (EndI w (rowS l) (codeS l)) := by
  have hr := h
  obtain ⟨A, c, rfl, _, _⟩ := h
  have hmf := makes_func
  have HF := Lib.hid (fun W (hb : Below w.heap.size w W) (hbx : Boxed W w.heap.size 22 (.slice A l.length c)) (hbt : Boxed W (w.heap.size + 1) 64 (.func (.func 25) #[] #[])) => ofLI_any l hl 46 #[.pointer (some ⟨w.heap.size, 0, none⟩), .pointer (some ⟨w.heap.size + 1, 0, none⟩)] (enters_of Tryz.func46 (by kernel_rfl) rfl) (.slice A l.length c) W (hr.below hb)
    (fun gk W' hb' => partsI_any l gk w.heap.size (w.heap.size + 1) W' (.slice A l.length c) ((hr.below hb).below hb') ((hb'.block _ hbx.lt).trans hbx) ((hb'.block _ hbt.lt).trans hbt)))
  clear hr
  go_enter Tryz.func24, Tryz.ntmps24
  go_wp2_with fail
  have hb : Below w.heap.size w ((w.alloc (.cells #[.slice A l.length c] 22)).alloc (.cells #[.func (.func 25) #[] #[]] 64)) := ((Below.refl _ w).alloc (Nat.le_refl _) _).alloc (by simp) _
  have hbt := Boxed.new (w.alloc (.cells #[.slice A l.length c] 22)) 64 (.func (.func 25) #[] #[])
  rw [World.size_alloc] at hbt
  refine (HF.out _ hb ((Boxed.new w _ _).alloc _) hbt).mono ?_
  rintro en w1 hE
  obtain ⟨hb1, A1, n1, c1, rfl, hrow⟩ := hE.less hb
  have H1 := Lib.hid (And.intro hb1 hrow)
  clear hrow hE hb1 hbt hb HF
  go_wp2_with fail
  go_returns
  exact ⟨H1.out.1, _, _, _, rfl, H1.out.2⟩
set_option maxHeartbeats 1000000 in
theorem pubI_any (l : List Bd) (hl : l.length ≤ 9223372036854775807) (v : Value) (w : World) (h : ReadsD w v l) :
    Calls Tryz.prog 9 #[v] w (EndI w (rowS l) (codeS l)) := by
  have OF := Lib.hid (ofI_any l hl v w h)
  obtain ⟨A, c, rfl, _, _⟩ := h
  go_enter Tryz.func9, Tryz.ntmps9
  go_wp2_with fail
  refine OF.out.mono ?_
  rintro en w1 ⟨hb1, A1, n1, c1, rfl, hrow⟩
  have H1 := Lib.hid (And.intro hb1 hrow)
  clear hrow hb1 OF
  go_wp2_with fail
  go_returns
  exact ⟨H1.out.1, _, _, _, rfl, H1.out.2⟩
end Go.Proofs.YtoephkglpbophaaGreat.P9
