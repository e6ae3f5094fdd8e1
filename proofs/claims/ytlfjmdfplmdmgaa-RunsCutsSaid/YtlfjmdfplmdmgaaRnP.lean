/-
  Layer 7: runs: Check, Count, Times and Of, with the error by which each is left. Conditions: those written at each fact.
-/
import Derived.Test.YtlfjmdfplmdmgaaRnO
namespace Go.Proofs.Ytlfjmdfplmdmgaa
open Go.RowKit Go.Shelf

theorem makes_func (fn : Fn) (first cap : Array Value) (w : World) : (Instr.makeFunc fn first cap).run Try.prog w = .ok (.func fn first cap) w := rfl
/-- A row that lies above is not turned by a store below. -/
theorem owns_low {W : World} {B g i : Nat} {e : TypeId} {size n : Nat} {v : Value} {xs : List Value} (h : W.ownsRow B e size v n xs) (hg : g < B) (u : Value) : (W.setCell ⟨g, i, none⟩ u).ownsRow B e size v n xs := by
  refine ⟨h.1, ?_⟩
  rcases h.2 with h2 | ⟨g', cap, cur, e1, e2, e3, e4⟩
  · exact .inl h2
  · exact .inr ⟨g', cap, cur, e1, e2, (Below.heap_setCell W ⟨g, i, none⟩ u g' (fun e => by have : g' = g := e; omega)).trans e3, e4⟩
/-- A row of runs and no error. -/
def GotR (w : World) (l : List Rn) (e : Ending) (w' : World) : Prop := ∃ v, e = .returned (.tuple #[v, .int .i64 0]) ∧ Below w.heap.size w w' ∧ w'.ownsRow w.heap.size 36 3 v l.length (flatR l)
/-- A row of numbers and no error. -/
def GotI (w : World) (l : List Int) (e : Ending) (w' : World) : Prop := ∃ v, e = .returned (.tuple #[v, .int .i64 0]) ∧ Below w.heap.size w w' ∧ RowI w.heap.size l v w'
/-- No row and an error. -/
def ErrR (w : World) (code : Int) (e : Ending) (w' : World) : Prop := e = .returned (.tuple #[.slice none 0 0, .int .i64 code]) ∧ Below w.heap.size w w'
/-- A row of runs, if the code is 0; else the error. -/
def Res (w : World) (c : Int) (l : List Rn) (e : Ending) (w' : World) : Prop := if c = 0 then GotR w l e w' else ErrR w c e w'
def TimesRes (w : World) (l : List Rn) (e : Ending) (w' : World) : Prop := if okB l then GotI w (timesR l) e w' else ErrR w 170 e w'
abbrev eCell (w : World) : World := w.alloc (.cells #[.int .i64 0] 27)
theorem eCell_low {w : World} : w.heap.size < (eCell w).heap.size := by simp
theorem eCell_below (w : World) : Below w.heap.size w (eCell w) := below_alloc w _

set_option maxHeartbeats 1000000 in
theorem check1_any (l : List Rn) (hl : l.length ≤ 1000000) (v : Value) (W : World) (B : Nat) (hb : Boxed W B 22 v) (h : ReadsR W v l) :
    Calls Try.prog 41 #[.pointer (some ⟨B, 0, none⟩)] W (Throws W (fun x _ => okB l = true ∧ x = .int .i64 (totalR l)) (fun code => okB l = false ∧ code = 170)) := by
  have CA := Lib.hid (count_any l (by omega) v W h)
  obtain ⟨A, c, rfl, _, _⟩ := h
  have hc := hb.cell
  clear hb
  cases gk : okB l
  · have HK := Lib.hid gk
    clear gk
    go_enter Try.func41, Try.ntmps41
    go_wp2_with (go_at_call 38; refine CA.out.mono ?_; rintro e w1 ⟨he, hb⟩; rw [HK.out] at he; replace he : e = thrown 170 := he; subst he)
    exact ⟨rfl, hb, .inr ⟨170, rfl, by simp⟩⟩
  · have HK := Lib.hid gk
    clear gk
    go_enter Try.func41, Try.ntmps41
    go_wp2_with (go_at_call 38; refine CA.out.mono ?_; rintro e w1 ⟨he, hb⟩; rw [HK.out] at he; replace he : e = .returned (.int .i64 (totalR l)) := he; subst he)
    go_ret
    exact ⟨hb, .inl ⟨_, rfl, by simp⟩⟩
set_option maxHeartbeats 1000000 in
theorem checkA_any (l : List Rn) (hl : l.length ≤ 1000000) (v : Value) (w : World) (h : ReadsR w v l) : Calls Try.prog 15 #[v] w (Ret w (.int .i64 (if okB l then 0 else 170))) := by
  have hr := h
  obtain ⟨R, hR⟩ : ∃ R : Int, R = (if okB l then 0 else 170) := ⟨_, rfl⟩
  rw [← hR]
  replace hR := Lib.hid hR
  obtain ⟨A, c, rfl, _, _⟩ := h
  have hmf := makes_func
  have hW : Below w.heap.size w (w.alloc (.cells #[.slice A l.length c] 22)) := below_alloc w _
  have C1 := check1_any l hl (.slice A l.length c) (eCell (w.alloc (.cells #[.slice A l.length c] 22))) w.heap.size ((Boxed.new w _ _).alloc _) ((hr.below hW).below (eCell_below _))
  have TD := Lib.hid (told_I 41 #[.pointer (some ⟨w.heap.size, 0, none⟩)] (enters_of Try.func41 (by kernel_rfl) rfl) _ _ _ (fun _ _ _ hg => hg) C1)
  clear C1 hr hW
  go_enter Try.func15, Try.ntmps15
  go_wp2_with (go_at_call 40; refine TD.out.mono ?_; rintro e w1 ⟨hb, (⟨x, rfl, hok, rfl⟩ | ⟨code, rfl, hok, rfl⟩)⟩)
  · go_wp2_with fail
    go_ret
    exact ⟨by rw [hR.out, hok]; rfl, past1 hb⟩
  · go_wp2_with fail
    go_ret
    exact ⟨by rw [hR.out, hok]; rfl, past1 hb⟩

set_option maxHeartbeats 1000000 in
theorem cnt1_any (l : List Rn) (hl : l.length ≤ 1000000) (v : Value) (W : World) (B : Nat) (hb : Boxed W B 22 v) (h : ReadsR W v l) :
    Calls Try.prog 42 #[.pointer (some ⟨B, 0, none⟩)] W (Throws W (fun x _ => okB l = true ∧ x = .int .i64 (totalR l)) (fun code => okB l = false ∧ code = 170)) := by
  have CA := Lib.hid (count_any l (by omega) v W h)
  obtain ⟨A, c, rfl, _, _⟩ := h
  have hc := hb.cell
  clear hb
  cases gk : okB l
  · have HK := Lib.hid gk
    clear gk
    go_enter Try.func42, Try.ntmps42
    go_wp2_with (go_at_call 38; refine CA.out.mono ?_; rintro e w1 ⟨he, hb⟩; rw [HK.out] at he; replace he : e = thrown 170 := he; subst he)
    exact ⟨rfl, hb, .inr ⟨170, rfl, by simp⟩⟩
  · have HK := Lib.hid gk
    clear gk
    go_enter Try.func42, Try.ntmps42
    go_wp2_with (go_at_call 38; refine CA.out.mono ?_; rintro e w1 ⟨he, hb⟩; rw [HK.out] at he; replace he : e = .returned (.int .i64 (totalR l)) := he; subst he)
    go_ret
    exact ⟨hb, .inl ⟨_, rfl, by simp⟩⟩
set_option maxHeartbeats 1000000 in
theorem cntA_any (l : List Rn) (hl : l.length ≤ 1000000) (v : Value) (w : World) (h : ReadsR w v l) : Calls Try.prog 16 #[v] w (Ret w (.int .i64 (if okB l then totalR l else 0))) := by
  have hr := h
  obtain ⟨R, hR⟩ : ∃ R : Int, R = (if okB l then totalR l else 0) := ⟨_, rfl⟩
  rw [← hR]
  replace hR := Lib.hid hR
  obtain ⟨A, c, rfl, _, _⟩ := h
  have hmf := makes_func
  have hW : Below w.heap.size w (w.alloc (.cells #[.slice A l.length c] 22)) := below_alloc w _
  have C1 := cnt1_any l hl (.slice A l.length c) (eCell (w.alloc (.cells #[.slice A l.length c] 22))) w.heap.size ((Boxed.new w _ _).alloc _) ((hr.below hW).below (eCell_below _))
  have TD := Lib.hid (told_I 42 #[.pointer (some ⟨w.heap.size, 0, none⟩)] (enters_of Try.func42 (by kernel_rfl) rfl) _ _ _ (fun _ _ _ hg => hg) C1)
  clear C1 hr hW
  go_enter Try.func16, Try.ntmps16
  go_wp2_with (go_at_call 40; refine TD.out.mono ?_; rintro e w1 ⟨hb, (⟨x, rfl, hok, rfl⟩ | ⟨code, rfl, hok, rfl⟩)⟩)
  · go_wp2_with fail
    go_ret
    exact ⟨by rw [hR.out, hok]; rfl, past1 hb⟩
  · go_wp2_with fail
    go_ret
    exact ⟨by rw [hR.out, hok]; rfl, past1 hb⟩

set_option maxHeartbeats 1000000 in
theorem timesA_any (l : List Rn) (hl : l.length ≤ 1000000) (v : Value) (w : World) (h : ReadsR w v l) : Calls Try.prog 14 #[v] w (TimesRes w l) := by
  have hr := h
  obtain ⟨A, c, rfl, _, _⟩ := h
  have hmf := makes_func
  have hW : Below w.heap.size w (w.alloc (.cells #[.slice A l.length c] 22)) := below_alloc w _
  have C0 := times1_any l hl w.heap.size (eCell (w.alloc (.cells #[.slice A l.length c] 22))) (.slice A l.length c) ((hr.below hW).below (eCell_below _)) ((Boxed.new w _ _).alloc _)
  have C1 : Calls Try.prog 37 #[.pointer (some ⟨w.heap.size, 0, none⟩)] (eCell (w.alloc (.cells #[.slice A l.length c] 22))) (Throws (eCell (w.alloc (.cells #[.slice A l.length c] 22)))
      (fun x w' => okB l = true ∧ RowI (eCell (w.alloc (.cells #[.slice A l.length c] 22))).heap.size (timesR l) x w') (fun code => okB l = false ∧ code = 170)) := C0.mono fun e w' ⟨h1, h2⟩ => by
    cases gk : okB l
    · rw [gk] at h2
      exact ⟨h1, .inr ⟨170, h2, rfl, rfl⟩⟩
    · rw [gk] at h2
      obtain ⟨x, h3, h4⟩ := h2
      exact ⟨h1, .inl ⟨x, h3, rfl, h4⟩⟩
  have TD := Lib.hid (told_L 37 #[.pointer (some ⟨w.heap.size, 0, none⟩)] (enters_of Try.func37 (by kernel_rfl) rfl) _ _ _ (fun _ _ _ hg => ⟨hg.1, owns_low hg.2 eCell_low _⟩) C1)
  clear C0 C1 hr hW
  go_enter Try.func14, Try.ntmps14
  go_wp2_with (go_at_call 36; refine TD.out.mono ?_; rintro e w1 ⟨hb, (⟨x, rfl, hok, hx⟩ | ⟨code, rfl, hok, rfl⟩)⟩)
  · have HX := Lib.hid hx
    clear hx
    go_wp2_with fail
    go_returns
    unfold TimesRes
    rw [hok]
    exact ⟨_, rfl, past1 hb, owns_less HX.out (by simp; omega)⟩
  · go_wp2_with fail
    go_returns
    unfold TimesRes
    rw [hok]
    exact ⟨rfl, past1 hb⟩

set_option maxHeartbeats 1000000 in
theorem of1_any (l : List Int) (hl : l.length ≤ 1000000) (v : Value) (W : World) (B : Nat) (hb : Boxed W B 26 v) (h : Reads .i64 W v l) :
    Calls Try.prog 44 #[.pointer (some ⟨B, 0, none⟩)] W (Throws W (fun x w' => areB l = true ∧ w'.ownsRow W.heap.size 36 3 x (laidR l).length (flatR (laidR l))) (fun code => areB l = false ∧ code = 2)) := by
  have AT := Lib.hid (areTimes_any l hl v W h)
  have hr := h
  obtain ⟨A, c, rfl, _, _⟩ := h
  have hc := hb.cell
  cases gk : areB l
  · rw [gk] at AT
    have MF := Lib.hid (must_false 2)
    clear gk hb hr
    go_enter Try.func44, Try.ntmps44
    go_wp2_with fail
    refine AT.out.mono ?_
    rintro e w1 ⟨rfl, hb1⟩
    go_wp2_with fail
    refine (MF.out _).mono ?_
    rintro e w2 ⟨rfl, hb2⟩
    go_wp2_with fail
    exact ⟨rfl, under hb1 hb2, .inr ⟨2, rfl, by simp⟩⟩
  · rw [gk] at AT
    have MT := Lib.hid (must_true 2)
    obtain ⟨_, g2, g3⟩ := (areB_iff l).1 gk
    have LA := Lib.hid (fun W' (hb' : Below W.heap.size W W') => lay1_any l g3 g2 _ W' (hr.below hb'))
    have hbl := hb.lt
    clear gk hb hr
    go_enter Try.func44, Try.ntmps44
    go_wp2_with fail
    refine AT.out.mono ?_
    rintro e w1 ⟨rfl, hb1⟩
    go_wp2_with fail
    refine (MT.out _).mono ?_
    rintro e w2 ⟨rfl, hb2⟩
    have hb12 := under hb1 hb2
    have hc2 := (hb12.cell (p := ⟨B, 0, none⟩) hbl).trans hc
    go_wp2_with fail
    refine (LA.out _ hb12).mono ?_
    rintro e w3 ⟨x, rfl, hb3, ho⟩
    have HO := Lib.hid ho
    clear ho
    go_wp2_with fail
    go_ret
    exact ⟨under hb12 hb3, .inl ⟨_, rfl, by simp, owns_less HO.out hb12.size⟩⟩
set_option maxHeartbeats 1000000 in
theorem ofA_any (l : List Int) (hl : l.length ≤ 1000000) (v : Value) (w : World) (h : Reads .i64 w v l) : Calls Try.prog 20 #[v] w (Res w (if areB l then 0 else 2) (laidR l)) := by
  have hr := h
  obtain ⟨R, hR⟩ : ∃ R : Int, R = (if areB l then 0 else 2) := ⟨_, rfl⟩
  rw [← hR]
  replace hR := Lib.hid hR
  obtain ⟨A, c, rfl, _, _⟩ := h
  have hmf := makes_func
  have hW : Below w.heap.size w (w.alloc (.cells #[.slice A l.length c] 26)) := below_alloc w _
  have C1 := of1_any l hl (.slice A l.length c) (eCell (w.alloc (.cells #[.slice A l.length c] 26))) w.heap.size ((Boxed.new w _ _).alloc _) ((hr.below hW).below (eCell_below _))
  have TD := Lib.hid (told_R 44 #[.pointer (some ⟨w.heap.size, 0, none⟩)] (enters_of Try.func44 (by kernel_rfl) rfl) _ _ _ (fun _ _ _ hg => ⟨hg.1, owns_low hg.2 eCell_low _⟩) C1)
  clear C1 hr hW
  go_enter Try.func20, Try.ntmps20
  go_wp2_with (go_at_call 43; refine TD.out.mono ?_; rintro e w1 ⟨hb, (⟨x, rfl, hok, hx⟩ | ⟨code, rfl, hok, rfl⟩)⟩)
  · have HX := Lib.hid hx
    clear hx
    go_wp2_with fail
    go_returns
    rw [hR.out, hok]
    exact ⟨_, rfl, past1 hb, owns_less HX.out (by simp; omega)⟩
  · go_wp2_with fail
    go_returns
    rw [hR.out, hok]
    exact ⟨rfl, past1 hb⟩
end Go.Proofs.Ytlfjmdfplmdmgaa
