/-
  Layer 7: runs: Find and Clip. Conditions: those written at each fact.
-/
import Derived.Test.YtlfjmdfplmdmgaaRnS
namespace Go.Proofs.Ytlfjmdfplmdmgaa
open Go.RowKit Go.Shelf
attribute [local go_sem] Oper.semAt_some

def foundN (l : List Rn) (t : Int) : Int := if okB l then (match findF 0 (timesR l) t with | some n => (n : Int) | none => 0) else 0
def foundB (l : List Rn) (t : Int) : Bool := okB l && (findF 0 (timesR l) t).isSome
def FindOr (l : List Rn) (t : Int) (W : World) : Ending → World → Prop := Throws W (fun x _ => foundB l t = true ∧ x = .int .i64 (foundN l t)) (fun c => foundB l t = false ∧ ¬ c = 0 ∧ foundN l t = 0)
set_option maxHeartbeats 1000000 in
theorem find1_any (l : List Rn) (hl : l.length ≤ 1000000) (t : Int) (v : Value) (W : World) (B C : Nat) (hb : Boxed W B 22 v) (hbt : Boxed W C 2 (.int .i64 t)) (h : ReadsR W v l) :
    Calls Try.prog 53 #[.pointer (some ⟨B, 0, none⟩), .pointer (some ⟨C, 0, none⟩)] W (FindOr l t W) := by
  have CH := Lib.hid (checkA_any l hl v W h)
  have hr := h
  obtain ⟨A, c, rfl, _, _⟩ := h
  have hbl := hb.lt
  have hbc := hb.cell
  have hcl := hbt.lt
  have hcc := hbt.cell
  clear hb hbt
  cases gk : okB l
  · have e1 : foundB l t = false := by simp [foundB, gk]
    have e2 : foundN l t = 0 := by simp [foundN, gk]
    rw [gk] at CH
    replace CH : Hid (Calls Try.prog 15 #[.slice A l.length c] W (Ret W (.int .i64 170))) := CH
    have MF := Lib.hid (must_false 170)
    have HE := Lib.hid (And.intro e1 e2)
    clear gk e1 e2 hr
    go_enter Try.func53, Try.ntmps53
    go_wp2_with fail
    refine CH.out.mono ?_
    rintro e w1 ⟨rfl, hb1⟩
    go_wp2_with fail
    refine (MF.out _).mono ?_
    rintro e w2 ⟨rfl, hb2⟩
    go_wp2_with fail
    exact ⟨rfl, under hb1 hb2, .inr ⟨170, rfl, HE.out.1, by decide, HE.out.2⟩⟩
  · have FI := Lib.hid (fun W' (hb' : Below W.heap.size W W') => find_any l gk t _ W' (hr.below hb'))
    rw [gk] at CH
    replace CH : Hid (Calls Try.prog 15 #[.slice A l.length c] W (Ret W (.int .i64 0))) := CH
    have e1 : ∀ n, findF 0 (timesR l) t = some n → foundB l t = true ∧ foundN l t = (n : Int) := fun n hn => ⟨by simp [foundB, gk, hn], by simp [foundN, gk, hn]⟩
    have e2 : findF 0 (timesR l) t = none → foundB l t = false ∧ foundN l t = 0 := fun hn => ⟨by simp [foundB, gk, hn], by simp [foundN, gk, hn]⟩
    have MT := Lib.hid (must_true 170)
    have E1 := Lib.hid e1
    have E2 := Lib.hid e2
    clear gk e1 e2 hr
    generalize findF 0 (timesR l) t = F at *
    go_enter Try.func53, Try.ntmps53
    go_wp2_with fail
    refine CH.out.mono ?_
    rintro e w1 ⟨rfl, hb1⟩
    go_wp2_with fail
    refine (MT.out _).mono ?_
    rintro e w2 ⟨rfl, hb2⟩
    have hb12 := under hb1 hb2
    have q1 := (hb12.cell (p := ⟨B, 0, none⟩) hbl).trans hbc
    have q2 := (hb12.cell (p := ⟨C, 0, none⟩) hcl).trans hcc
    go_wp2_with fail
    refine (FI.out _ hb12).mono ?_
    rintro e w3 ⟨hb3, (⟨x, rfl, n, hn, rfl⟩ | ⟨code, rfl, hn, rfl⟩)⟩
    · obtain ⟨f1, f2⟩ := E1.out n hn
      have HF := Lib.hid (And.intro f1 f2)
      clear f1 f2 hn
      go_wp2_with fail
      go_ret
      exact ⟨under hb12 hb3, .inl ⟨_, rfl, HF.out.1, by rw [HF.out.2]; rfl⟩⟩
    · obtain ⟨f1, f2⟩ := E2.out hn
      have HF := Lib.hid (And.intro f1 f2)
      clear f1 f2 hn
      go_wp2_with fail
      exact ⟨rfl, under hb12 hb3, .inr ⟨4, rfl, HF.out.1, by decide, HF.out.2⟩⟩
set_option maxHeartbeats 1000000 in
theorem findA_any (l : List Rn) (hl : l.length ≤ 1000000) (t : Int) (v : Value) (w : World) (h : ReadsR w v l) : Calls Try.prog 24 #[v, .int .i64 t] w (Ret w (.tuple #[.int .i64 (foundN l t), .bool (foundB l t)])) := by
  have hr := h
  obtain ⟨A, c, rfl, _, _⟩ := h
  have hmf := makes_func
  obtain ⟨b1, b2, b3⟩ := boxes2 w 22 2 (.slice A l.length c) (.int .i64 t)
  obtain ⟨W, hW⟩ : ∃ W, (w.alloc (.cells #[.slice A l.length c] 22)).alloc (.cells #[.int .i64 t] 2) = W := ⟨_, rfl⟩
  rw [hW] at b1 b2 b3
  have C1 := find1_any l hl t (.slice A l.length c) (eCell W) w.heap.size (w.heap.size + 1) (b1.alloc _) (b2.alloc _) ((hr.below b3).below (eCell_below _))
  have TD := Lib.hid (told_I 53 #[.pointer (some ⟨w.heap.size, 0, none⟩), .pointer (some ⟨w.heap.size + 1, 0, none⟩)] (enters_of Try.func53 (by kernel_rfl) rfl) _ _ _ (fun _ _ _ hg => hg) C1)
  have HB3 := Lib.hid b3
  generalize foundN l t = n at *
  generalize foundB l t = b at *
  clear C1 hr b1 b2 b3
  go_enter Try.func24, Try.ntmps24
  go_wp2_with (go_at_call 40; refine TD.out.mono ?_; rintro e w1 ⟨hb, (⟨u, rfl, hok, rfl⟩ | ⟨code, rfl, hok, hc0, hn0⟩)⟩)
  · go_wp2_with fail
    go_returns
    exact ⟨by rw [hok]; rfl, under HB3.out hb⟩
  · have e0 : (code == 0) = false := beq_eq_false_iff_ne.2 hc0
    have HK := Lib.hid (And.intro hok hn0)
    clear hok hn0
    go_wp2_with fail
    go_returns
    exact ⟨by rw [HK.out.1, HK.out.2, ← e0]; rfl, under HB3.out hb⟩

/-- How many times are below a, and how many at most a. -/
def belowN (l : List Int) (a : Int) : Nat := (l.filter fun t => decide (t < a)).length
def uptoN (l : List Int) (a : Int) : Nat := (l.filter fun t => decide (t ≤ a)).length
def clipL (l : List Rn) (a : Int) : Int := if okB l then (belowN (timesR l) a : Int) else 0
def clipH (l : List Rn) (a b : Int) : Int := if okB l then max (belowN (timesR l) a : Int) (uptoN (timesR l) b : Int) else 0
theorem belowN_snoc (l : List Int) (x a : Int) : belowN (l ++ [x]) a = belowN l a + (if x < a then 1 else 0) := by
  unfold belowN
  rw [List.filter_append, List.length_append]
  by_cases h : x < a <;> simp [h]
theorem uptoN_snoc (l : List Int) (x a : Int) : uptoN (l ++ [x]) a = uptoN l a + (if x ≤ a then 1 else 0) := by
  unfold uptoN
  rw [List.filter_append, List.length_append]
  by_cases h : x ≤ a <;> simp [h]
theorem belowN_le (l : List Int) (a : Int) : belowN l a ≤ l.length := List.length_filter_le _ _
theorem uptoN_le (l : List Int) (a : Int) : uptoN l a ≤ l.length := List.length_filter_le _ _
def X2 (g g' : Nat) : World → Nat → Prop := fun _ k => k = g ∨ k = g'
theorem X2_hangs (g g' b : Nat) : Hangs (X2 g g') b := fun _ _ _ _ h => h
theorem keepsC_set {g g' : Nat} {W : World} {p : Addr} (hp : p.block = g ∨ p.block = g') (u : Value) : KeepsC (X2 g g') W (W.setCell p u) :=
  ⟨by simp [World.setCell], fun _ h => .inl h, fun k o ho _ hx => (Below.heap_setCell W p u k (fun e => hx (e ▸ hp))).trans ho⟩
end Go.Proofs.Ytlfjmdfplmdmgaa
