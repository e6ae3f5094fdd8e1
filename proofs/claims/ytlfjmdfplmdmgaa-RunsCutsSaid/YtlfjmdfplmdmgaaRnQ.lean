/-
  Layer 7: runs: At, Pieces and Cut, with the error by which each is left. Conditions: those written at each fact.
-/
import Derived.Test.YtlfjmdfplmdmgaaRnP
import Derived.Test.YtlfjmdfplmdmgaaRnL
import Derived.Test.YtlfjmdfplmdmgaaRmB
namespace Go.Proofs.Ytlfjmdfplmdmgaa
open Go.RowKit Go.Shelf

def codeA (l : List Rn) (i : Int) : Int := if okB l then (if 0 ≤ i ∧ i < totalR l then 0 else 4) else 170
def codeP (l : List Rn) (i j : Int) : Int := if okB l then (if 0 ≤ i ∧ i < j ∧ j ≤ totalR l then 0 else 2) else 170
def valA (l : List Rn) (i : Int) : Int := if codeA l i = 0 then timeAt l i else 0
set_option maxHeartbeats 1000000 in
theorem at1_any (l : List Rn) (hl : l.length ≤ 1000000) (i : Int) (v : Value) (W : World) (B Bi : Nat) (hb : Boxed W B 22 v) (hbi : Boxed W Bi 3 (.int .i64 i)) (h : ReadsR W v l) :
    Calls Try.prog 50 #[.pointer (some ⟨B, 0, none⟩), .pointer (some ⟨Bi, 0, none⟩)] W (Throws W (fun x _ => codeA l i = 0 ∧ x = .int .i64 (timeAt l i)) (fun code => codeA l i = code ∧ ¬ code = 0)) := by
  have CA := Lib.hid (count_any l (by omega) v W h)
  have hr := h
  obtain ⟨A, c, rfl, hc, hk⟩ := h
  have hcl := hb.cell
  have hci := hbi.cell
  have hbl := hb.lt
  have hbil := hbi.lt
  clear hb hbi
  cases gk : okB l
  · have HK := Lib.hid gk
    have HC : Hid (codeA l i = 170) := Lib.hid (by simp [codeA, gk])
    clear gk
    go_enter Try.func50, Try.ntmps50
    go_wp2_with (go_at_call 38; refine CA.out.mono ?_; rintro e w1 ⟨he, hb⟩; rw [HK.out] at he; replace he : e = thrown 170 := he; subst he)
    exact ⟨rfl, hb, .inr ⟨170, rfl, HC.out, by decide⟩⟩
  obtain ⟨hne, hR, hT, hl2⟩ := okB_facts gk
  have CB : Hid (Calls Try.prog 38 #[.slice A l.length c] W (Ret W (.int .i64 (totalR l)))) := Lib.hid (CA.out.mono fun e w' he => ⟨by rw [he.1, gk]; rfl, he.2⟩)
  have HN := Lib.hid (show (if 0 ≤ i ∧ i < totalR l then (0 : Int) else 4) = codeA l i by simp [codeA, gk])
  clear gk CA
  obtain ⟨n, hn⟩ : ∃ n, n = totalR l := ⟨_, rfl⟩
  rw [← hn] at CB hT HN
  by_cases g0 : 0 ≤ i
  · have d0 : decide (0 ≤ i) = true := by simpa using g0
    by_cases g1 : i < n
    · have HC : Hid (codeA l i = 0) := Lib.hid (by rw [← HN.out, if_pos ⟨g0, g1⟩])
      have hc1 : ∀ r ∈ l, 1 ≤ r.c := fun r hr => (hR r hr).1
      have WA := Lib.hid (fun W' (hb' : Below W.heap.size W W') => where_any l hl hR i g0 (by omega) (by omega) _ W' (hr.below hb'))
      obtain ⟨⟨f, s, d⟩, a1, a2, a3⟩ := whereR_lt (l := l) hc1 g0 (by omega)
      have HT : Hid (timeAt l i = f + (whereR l i).2 * s) := Lib.hid (by unfold timeAt; rw [a1])
      generalize whereR l i = x at *
      obtain ⟨k, q⟩ := x
      simp only at a1 a2 a3 WA HT
      obtain ⟨o1, o2, o3, o4, o5, o6, o7⟩ : RunOk ⟨f, s, d⟩ := hR _ (List.mem_of_getElem? a1)
      simp only at o1 o2 o3 o4 o5 o6 o7
      have NT := Lib.hid (nth_at f s d q a2 (by omega) (by omega) o5 o3 o7)
      have MT := Lib.hid (must_true 4)
      obtain ⟨bb, off, rfl, hbw, e3, e4, e5⟩ := hk k _ a1
      simp only at e3 e4 e5
      have hkl : k < l.length := (List.getElem?_eq_some_iff.1 a1).1
      have i1 : (k : Int) < (l.length : Int) := by omega
      have i2 : (0 : Int) ≤ (k : Int) := by omega
      clear hk hR hc1 a1 hn HN hne
      go_enter Try.func50, Try.ntmps50
      go_wp2_with fail
      refine CB.out.mono ?_
      rintro e w1 ⟨rfl, hb1⟩
      have q1 := (hb1.cell (p := ⟨Bi, 0, none⟩) hbil).trans hci
      go_wp2_with fail
      refine (MT.out _).mono ?_
      rintro e w2 ⟨rfl, hb2⟩
      have hb12 := under hb1 hb2
      have q2 := (hb12.cell (p := ⟨Bi, 0, none⟩) hbil).trans hci
      have q3 := (hb12.cell (p := ⟨B, 0, none⟩) hbl).trans hcl
      go_wp2_with fail
      refine (WA.out _ hb12).mono ?_
      rintro e w3 ⟨rfl, hb3⟩
      have hb13 := under hb12 hb3
      have q4 := (hb13.cell (p := ⟨B, 0, none⟩) hbl).trans hcl
      have q5 := (hb13.cell (p := ⟨bb, off + k * 3, none⟩) hbw).trans e3
      have q6 := (hb13.cell (p := ⟨bb, off + k * 3 + 1, none⟩) hbw).trans e4
      have q7 := (hb13.cell (p := ⟨bb, off + k * 3 + 2, none⟩) hbw).trans e5
      go_wp2_with fail
      refine (NT.out _).mono ?_
      rintro e w4 ⟨rfl, hb4⟩
      go_wp2_with fail
      go_ret
      exact ⟨under hb13 hb4, .inl ⟨_, rfl, HC.out, by rw [HT.out]; rfl⟩⟩
    · have HC : Hid (codeA l i = 4) := Lib.hid (by rw [← HN.out, if_neg (fun h => g1 h.2)])
      have HD := Lib.hid (decide_eq_false g1)
      have MF := Lib.hid (must_false 4)
      clear g1 hn HN
      go_enter Try.func50, Try.ntmps50
      go_wp2_with fail
      refine CB.out.mono ?_
      rintro e w1 ⟨rfl, hb1⟩
      have q1 := (hb1.cell (p := ⟨Bi, 0, none⟩) hbil).trans hci
      go_wp2_with fail
      rw [HD.out]
      refine (MF.out _).mono ?_
      rintro e w2 ⟨rfl, hb2⟩
      go_wp2_with fail
      exact ⟨rfl, under hb1 hb2, .inr ⟨4, rfl, HC.out, by decide⟩⟩
  · have HC : Hid (codeA l i = 4) := Lib.hid (by rw [← HN.out, if_neg (fun h => g0 h.1)])
    have MF := Lib.hid (must_false 4)
    clear hn HN
    go_enter Try.func50, Try.ntmps50
    go_wp2_with fail
    refine CB.out.mono ?_
    rintro e w1 ⟨rfl, hb1⟩
    have q1 := (hb1.cell (p := ⟨Bi, 0, none⟩) hbil).trans hci
    go_wp2_with fail
    refine (MF.out _).mono ?_
    rintro e w2 ⟨rfl, hb2⟩
    go_wp2_with fail
    exact ⟨rfl, under hb1 hb2, .inr ⟨4, rfl, HC.out, by decide⟩⟩
theorem boxes2 (w : World) (t1 t2 : TypeId) (v1 v2 : Value) : Boxed ((w.alloc (.cells #[v1] t1)).alloc (.cells #[v2] t2)) w.heap.size t1 v1 ∧ Boxed ((w.alloc (.cells #[v1] t1)).alloc (.cells #[v2] t2)) (w.heap.size + 1) t2 v2 ∧ Below w.heap.size w ((w.alloc (.cells #[v1] t1)).alloc (.cells #[v2] t2)) :=
  ⟨(Boxed.new w _ _).alloc _, by have := Boxed.new (w.alloc (.cells #[v1] t1)) t2 v2; rwa [World.size_alloc] at this, ((Below.refl _ w).alloc (Nat.le_refl _) _).alloc (by simp) _⟩
theorem boxes3 (w : World) (t1 t2 t3 : TypeId) (v1 v2 v3 : Value) : Boxed (((w.alloc (.cells #[v1] t1)).alloc (.cells #[v2] t2)).alloc (.cells #[v3] t3)) w.heap.size t1 v1 ∧ Boxed (((w.alloc (.cells #[v1] t1)).alloc (.cells #[v2] t2)).alloc (.cells #[v3] t3)) (w.heap.size + 1) t2 v2 ∧
    Boxed (((w.alloc (.cells #[v1] t1)).alloc (.cells #[v2] t2)).alloc (.cells #[v3] t3)) (w.heap.size + 2) t3 v3 ∧ Below w.heap.size w (((w.alloc (.cells #[v1] t1)).alloc (.cells #[v2] t2)).alloc (.cells #[v3] t3)) := by
  obtain ⟨h1, h2, h3⟩ := boxes2 w t1 t2 v1 v2
  exact ⟨h1.alloc _, h2.alloc _, by have := Boxed.new ((w.alloc (.cells #[v1] t1)).alloc (.cells #[v2] t2)) t3 v3; rwa [World.size_alloc, World.size_alloc] at this, h3.alloc (by simp; omega) _⟩
set_option maxHeartbeats 1000000 in
theorem atA_any (l : List Rn) (hl : l.length ≤ 1000000) (i : Int) (v : Value) (w : World) (h : ReadsR w v l) : Calls Try.prog 23 #[v, .int .i64 i] w (Ret w (.tuple #[.int .i64 (valA l i), .int .i64 (codeA l i)])) := by
  have hr := h
  obtain ⟨A, c, rfl, _, _⟩ := h
  have hmf := makes_func
  obtain ⟨b1, b2, b3⟩ := boxes2 w 22 3 (.slice A l.length c) (.int .i64 i)
  obtain ⟨W, hW⟩ : ∃ W, (w.alloc (.cells #[.slice A l.length c] 22)).alloc (.cells #[.int .i64 i] 3) = W := ⟨_, rfl⟩
  rw [hW] at b1 b2 b3
  have C1 := at1_any l hl i (.slice A l.length c) (eCell W) w.heap.size (w.heap.size + 1) (b1.alloc _) (b2.alloc _) ((hr.below b3).below (eCell_below _))
  have TD := Lib.hid (told_T 50 #[.pointer (some ⟨w.heap.size, 0, none⟩), .pointer (some ⟨w.heap.size + 1, 0, none⟩)] (enters_of Try.func50 (by kernel_rfl) rfl) _ _ _ (fun _ _ _ hg => hg) C1)
  have HV := Lib.hid (show valA l i = if codeA l i = 0 then timeAt l i else 0 from rfl)
  have HB3 := Lib.hid b3
  generalize valA l i = y at *
  generalize codeA l i = x at *
  clear C1 hr b1 b2 b3
  go_enter Try.func23, Try.ntmps23
  go_wp2_with (go_at_call 49; refine TD.out.mono ?_; rintro e w1 ⟨hb, (⟨u, rfl, hok, rfl⟩ | ⟨code, rfl, hok, hc0⟩)⟩)
  · go_wp2_with fail
    go_returns
    exact ⟨by rw [HV.out, if_pos hok, hok]; rfl, under HB3.out hb⟩
  · go_wp2_with fail
    go_returns
    exact ⟨by rw [HV.out, hok, if_neg hc0]; rfl, under HB3.out hb⟩

/-- What Pieces and Cut leave, within. -/
abbrev RowOr (W : World) (code : Int) (L : List Rn) (e : Ending) (w' : World) : Prop := Throws W (fun x w' => code = 0 ∧ w'.ownsRow W.heap.size 36 3 x L.length (flatR L)) (fun c => code = c ∧ ¬ c = 0) e w'
theorem pieces_or (l : List Rn) (i j : Int) {W : World} {e : Ending} {w' : World} (h : PiecesEnd W l i j e w') : RowOr W (codeP l i j) (piecesR l i j) e w' := by
  obtain ⟨hb, h⟩ := h
  unfold codeP
  split at h
  · next gk =>
    rw [if_pos gk]
    split at h
    · next g =>
      obtain ⟨x, rfl, hx⟩ := h
      rw [if_pos g]
      exact ⟨hb, .inl ⟨x, rfl, rfl, hx⟩⟩
    · next g =>
      rw [if_neg g]
      exact ⟨hb, .inr ⟨2, h, rfl, by decide⟩⟩
  · next gk =>
    rw [if_neg gk]
    exact ⟨hb, .inr ⟨170, h, rfl, by decide⟩⟩
theorem slice_or {W : World} {code : Int} {L : List Rn} {e : Ending} {w' : World} (h : RowOr W code L e w') : Below W.heap.size W w' ∧ ((∃ A n c, e = .returned (.slice A n c) ∧ code = 0 ∧ w'.ownsRow W.heap.size 36 3 (.slice A n c) L.length (flatR L)) ∨ (∃ c, e = thrown c ∧ code = c ∧ ¬ c = 0)) := by
  obtain ⟨hb, (⟨x, rfl, hc, hx⟩ | h)⟩ := h
  · obtain ⟨A1, c1, e, _⟩ := readsR_own hx
    subst e
    exact ⟨hb, .inl ⟨_, _, _, rfl, hc, hx⟩⟩
  · exact ⟨hb, .inr h⟩
set_option maxHeartbeats 1000000 in
theorem pieces1_any (l : List Rn) (hl : l.length ≤ 1000000) (i j : Int) (v : Value) (W : World) (B Bi Bj : Nat) (hb : Boxed W B 22 v) (hbi : Boxed W Bi 3 (.int .i64 i)) (hbj : Boxed W Bj 3 (.int .i64 j)) (h : ReadsR W v l) :
    Calls Try.prog 59 #[.pointer (some ⟨B, 0, none⟩), .pointer (some ⟨Bi, 0, none⟩), .pointer (some ⟨Bj, 0, none⟩)] W (RowOr W (codeP l i j) (piecesR l i j)) := by
  have PA := Lib.hid ((pieces_any l hl i j v W h).mono fun e w' hh => pieces_or l i j hh)
  obtain ⟨A, c, rfl, _, _⟩ := h
  have hcl := hb.cell
  have hci := hbi.cell
  have hcj := hbj.cell
  clear hb hbi hbj
  generalize codeP l i j = code at *
  generalize piecesR l i j = L at *
  go_enter Try.func59, Try.ntmps59
  go_wp2_with (go_at_call 57; refine PA.out.mono ?_; rintro e w1 ⟨hb, (⟨x, rfl, hok, hx⟩ | ⟨c2, rfl, hok, hc0⟩)⟩)
  · have HX := Lib.hid hx
    clear hx
    go_wp2_with fail
    go_ret
    exact ⟨hb, .inl ⟨_, rfl, hok, HX.out⟩⟩
  · exact ⟨rfl, hb, .inr ⟨_, rfl, by first | exact hok | rfl, hc0⟩⟩
set_option maxHeartbeats 1000000 in
theorem cut1_any (l : List Rn) (hl : l.length ≤ 1000000) (i j : Int) (v : Value) (W : World) (B Bi Bj : Nat) (hb : Boxed W B 22 v) (hbi : Boxed W Bi 3 (.int .i64 i)) (hbj : Boxed W Bj 3 (.int .i64 j)) (h : ReadsR W v l) :
    Calls Try.prog 55 #[.pointer (some ⟨B, 0, none⟩), .pointer (some ⟨Bi, 0, none⟩), .pointer (some ⟨Bj, 0, none⟩)] W (RowOr W (codeP l i j) (laidR (timesR (piecesR l i j)))) := by
  have PA := Lib.hid ((pieces_any l hl i j v W h).mono fun e w' hh => slice_or (pieces_or l i j hh))
  obtain ⟨A, c, rfl, _, _⟩ := h
  have hcl := hb.cell
  have hci := hbi.cell
  have hcj := hbj.cell
  clear hb hbi hbj
  have hgood : Hid (codeP l i j = 0 → (timesR (piecesR l i j)).length ≤ 900 ∧ (∀ r ∈ piecesR l i j, RunOk r) ∧ (piecesR l i j).length ≤ 1000000 ∧ ∀ t ∈ timesR (piecesR l i j), 0 ≤ t ∧ t ≤ 281474976710656) := Lib.hid (fun hz => by
    unfold codeP at hz
    split at hz
    · next gk =>
      split at hz
      · next g =>
        obtain ⟨hne, hR, hT, hl2⟩ := okB_facts gk
        obtain ⟨p1, p2, p3⟩ := pieces_facts hR g.1 g.2.1 g.2.2
        have hTL := timesR_length (l := l) (fun r hr => by have := (hR r hr).1; omega)
        exact ⟨by rw [p1, List.length_take, List.length_drop]; omega, p2, by omega, times_all p2⟩
      · cases hz
    · cases hz)
  generalize codeP l i j = code at *
  generalize piecesR l i j = L at *
  go_enter Try.func55, Try.ntmps55
  go_wp2_with (go_at_call 57; refine PA.out.mono ?_; rintro e w1 ⟨hb, (⟨A1, n1, c1, rfl, hok, hx⟩ | ⟨c2, rfl, hok, hc0⟩)⟩)
  · obtain ⟨g1, g2, g3, g4⟩ := hgood.out hok
    have hrx := readsR_own hx
    have eT : timesP [(.slice A1 n1 c1, L)] = timesR L := by simp [timesP]
    have LA := Lib.hid (lay2_any [(.slice A1 n1 c1, L)] (w1.alloc (.cells #[.slice A1 n1 c1] 22)) (fun p hp => by
        rcases List.mem_singleton.1 hp with rfl
        exact ⟨hrx.below (below_alloc w1 _), g3, g2⟩) (by simp) (by rw [eT]; exact g1) (by rw [eT]; exact g4) (.slice (some ⟨w1.heap.size, 0, none⟩) 1 1)
      ⟨_, 1, rfl, by simp, fun i u hi => by
        cases i with
        | zero => simp at hi; subst hi; exact ⟨w1.heap.size, 0, rfl, by simp, by simp [go_sem]⟩
        | succ i => simp at hi⟩)
    rw [eT] at LA
    clear hx hrx g1 g2 g3 g4 eT
    refine LA.out.mono ?_
    rintro e w2 ⟨y, rfl, hb2, ho2⟩
    have HO := Lib.hid ho2
    clear ho2
    go_wp2_with fail
    go_ret
    exact ⟨under hb (past1 hb2), .inl ⟨_, rfl, hok, owns_less HO.out (by have := hb.size; simp; omega)⟩⟩
  · exact ⟨rfl, hb, .inr ⟨_, rfl, by first | exact hok | rfl, hc0⟩⟩
set_option maxHeartbeats 1000000 in
theorem piecesA_any (l : List Rn) (hl : l.length ≤ 1000000) (i j : Int) (v : Value) (w : World) (h : ReadsR w v l) : Calls Try.prog 29 #[v, .int .i64 i, .int .i64 j] w (Res w (codeP l i j) (piecesR l i j)) := by
  have hr := h
  obtain ⟨A, c, rfl, _, _⟩ := h
  have hmf := makes_func
  obtain ⟨b1, b2, b3, b4⟩ := boxes3 w 22 3 3 (.slice A l.length c) (.int .i64 i) (.int .i64 j)
  obtain ⟨W, hW⟩ : ∃ W, ((w.alloc (.cells #[.slice A l.length c] 22)).alloc (.cells #[.int .i64 i] 3)).alloc (.cells #[.int .i64 j] 3) = W := ⟨_, rfl⟩
  rw [hW] at b1 b2 b3 b4
  have C1 := pieces1_any l hl i j (.slice A l.length c) (eCell W) w.heap.size (w.heap.size + 1) (w.heap.size + 2) (b1.alloc _) (b2.alloc _) (b3.alloc _) ((hr.below b4).below (eCell_below _))
  have TD := Lib.hid (told_R 59 #[.pointer (some ⟨w.heap.size, 0, none⟩), .pointer (some ⟨w.heap.size + 1, 0, none⟩), .pointer (some ⟨w.heap.size + 2, 0, none⟩)] (enters_of Try.func59 (by kernel_rfl) rfl) _ _ _ (fun _ _ _ hg => ⟨hg.1, owns_low hg.2 eCell_low _⟩) C1)
  have HB3 := Lib.hid b4
  generalize codeP l i j = x at *
  generalize piecesR l i j = L at *
  clear C1 hr b1 b2 b3 b4
  go_enter Try.func29, Try.ntmps29
  go_wp2_with (go_at_call 43; refine TD.out.mono ?_; rintro e w1 ⟨hb, (⟨u, rfl, hok, hx⟩ | ⟨code, rfl, hok, hc0⟩)⟩)
  · have HX := Lib.hid hx
    clear hx
    go_wp2_with fail
    go_returns
    unfold Res
    rw [if_pos hok]
    exact ⟨_, rfl, under HB3.out hb, owns_less HX.out (by have := HB3.out.size; simp; omega)⟩
  · go_wp2_with fail
    go_returns
    unfold Res
    rw [hok, if_neg hc0]
    exact ⟨rfl, under HB3.out hb⟩
set_option maxHeartbeats 1000000 in
theorem cutA_any (l : List Rn) (hl : l.length ≤ 1000000) (i j : Int) (v : Value) (w : World) (h : ReadsR w v l) : Calls Try.prog 28 #[v, .int .i64 i, .int .i64 j] w (Res w (codeP l i j) (laidR (timesR (piecesR l i j)))) := by
  have hr := h
  obtain ⟨A, c, rfl, _, _⟩ := h
  have hmf := makes_func
  obtain ⟨b1, b2, b3, b4⟩ := boxes3 w 22 3 3 (.slice A l.length c) (.int .i64 i) (.int .i64 j)
  obtain ⟨W, hW⟩ : ∃ W, ((w.alloc (.cells #[.slice A l.length c] 22)).alloc (.cells #[.int .i64 i] 3)).alloc (.cells #[.int .i64 j] 3) = W := ⟨_, rfl⟩
  rw [hW] at b1 b2 b3 b4
  have C1 := cut1_any l hl i j (.slice A l.length c) (eCell W) w.heap.size (w.heap.size + 1) (w.heap.size + 2) (b1.alloc _) (b2.alloc _) (b3.alloc _) ((hr.below b4).below (eCell_below _))
  have TD := Lib.hid (told_R 55 #[.pointer (some ⟨w.heap.size, 0, none⟩), .pointer (some ⟨w.heap.size + 1, 0, none⟩), .pointer (some ⟨w.heap.size + 2, 0, none⟩)] (enters_of Try.func55 (by kernel_rfl) rfl) _ _ _ (fun _ _ _ hg => ⟨hg.1, owns_low hg.2 eCell_low _⟩) C1)
  have HB3 := Lib.hid b4
  generalize codeP l i j = x at *
  generalize laidR (timesR (piecesR l i j)) = L at *
  clear C1 hr b1 b2 b3 b4
  go_enter Try.func28, Try.ntmps28
  go_wp2_with (go_at_call 43; refine TD.out.mono ?_; rintro e w1 ⟨hb, (⟨u, rfl, hok, hx⟩ | ⟨code, rfl, hok, hc0⟩)⟩)
  · have HX := Lib.hid hx
    clear hx
    go_wp2_with fail
    go_returns
    unfold Res
    rw [if_pos hok]
    exact ⟨_, rfl, under HB3.out hb, owns_less HX.out (by have := HB3.out.size; simp; omega)⟩
  · go_wp2_with fail
    go_returns
    unfold Res
    rw [hok, if_neg hc0]
    exact ⟨rfl, under HB3.out hb⟩
end Go.Proofs.Ytlfjmdfplmdmgaa
