/-
 Layer 7: runs: the pieces of runs. Conditions: those written at each fact.
-/
import Derived.Test.YtcfidimnbamnkaaGreatNA
import Derived.Tactics2
import Derived.Defers
import Derived.Recover
import Derived.Laws.Pointers
import Derived.Maps.OwnIn
namespace Go.Proofs.YtcfidimnbamnkaaGreat.P7
open Go.RowKit Go.Shelf

theorem okB_facts {l : List Rn} (h : okB l = true) : l ≠ [] ∧ (∀ r ∈ l, RunOk r) ∧ totalR l ≤ 256 ∧ l.length ≤ 256 := by
 have key : ∀ (l : List Rn) (p : Option Rn) (n : Int), 0 ≤ n → n ≤ 256 → restB p n l = true → (∀ r ∈ l, RunOk r) ∧ n + totalR l ≤ 256 ∧ n + l.length ≤ 256 := by
  intro l
  induction l with
  | nil => intro p n h0 h1 _; simp [totalR]; omega
  | cons r l ih =>
   intro p n h0 h1 hb
   simp only [restB, Bool.and_eq_true] at hb
   obtain ⟨hb1, _, hb2⟩ := hb
   have hr := runB_ok (by omega) hb1
   have hc : r.c ≤ 256 - n := by unfold runB at hb1; simp only [Bool.and_eq_true, decide_eq_true_eq] at hb1; exact hb1.2.1
   obtain ⟨i1, i2, i3⟩ := ih (some r) (n + r.c) (by have := hr.1; omega) (by omega) hb2
   refine ⟨fun x hx => ?_, by simp only [totalR]; omega, by have := hr.1; simp only [List.length_cons]; omega⟩
   rcases List.mem_cons.1 hx with rfl | hx
   ·exact hr
   ·exact i1 x hx
 unfold okB at h
 simp only [Bool.and_eq_true, decide_eq_true_eq] at h
 obtain ⟨h1, h2⟩ := h
 obtain ⟨a, b, c⟩ := key l none 0 (by omega) (by omega) h2
 exact ⟨h1, a, by omega, by omega⟩
end Go.Proofs.YtcfidimnbamnkaaGreat.P7

/-
 Layer 7: runs: the iterator over the times of runs. Conditions: those written at each fact.
-/
namespace Go.Proofs.YtcfidimnbamnkaaGreat.P7
open Go.RowKit Go.Shelf
attribute [local go_sem] Oper.semAt_some

def BoxR (W : World) (B : Nat) (r : Rn) : Prop := W.heap[B]? = some (.cells #[.int .i64 r.f, .int .i64 r.s, .int .i64 r.c] 44 (0, 0))
theorem BoxR.cells {W : World} {B : Nat} {r : Rn} (h : BoxR W B r) : W.cell? ⟨B, 0, none⟩ = some (.int .i64 r.f) ∧ W.cell? ⟨B, 1, none⟩ = some (.int .i64 r.s) ∧ W.cell? ⟨B, 2, none⟩ = some (.int .i64 r.c) := by
 have e : W.heap[B]? = _ := h
 simp [World.cell?, e]
theorem BoxR.next {X : World → Nat → Prop} {W W' : World} {B : Nat} {r : Rn} (h : BoxR W B r) (hx : ¬ X W B) (k : KeepsC X W W') : BoxR W' B r ∧ ¬ X W' B :=
 ⟨k.2.2 B _ h rfl hx, fun hx2 => by
  rcases k.2.1 B hx2 with h1 | h1
  ·exact hx h1
  ·have := (Array.getElem?_eq_some_iff.1 h).1; omega⟩

end Go.Proofs.YtcfidimnbamnkaaGreat.P7

/-
 Layer 7: runs: the times of runs come to a row that grows, one by one. Conditions: those written at each fact.
-/
namespace Go.Proofs.YtcfidimnbamnkaaGreat.P7
open Go.RowKit Go.Shelf
attribute [local go_sem] Oper.semAt_some

end Go.Proofs.YtcfidimnbamnkaaGreat.P7

/-
 Layer 7: runs: what is made, or the error by which the making was left. Conditions: those written at each fact.
-/
namespace Go.Proofs.YtcfidimnbamnkaaGreat.P7
open Go.RowKit
set_option linter.unusedSimpArgs false
def Throws (w : World) (G : Value → World → Prop) (B : Int → Prop) (e : Ending) (w' : World) : Prop :=
 Below w.heap.size w w' ∧ ((∃ v, e = .returned v ∧ G v w') ∨ (∃ code, e = thrown code ∧ B code))
def Told (w : World) (Z : Value) (G : Value → World → Prop) (B : Int → Prop) (e : Ending) (w' : World) : Prop :=
 Below w.heap.size w w' ∧ ((∃ v, e = .returned (.tuple #[v, .int .i64 0]) ∧ G v w') ∨ (∃ code, e = .returned (.tuple #[Z, .int .i64 code]) ∧ B code))
theorem assert_errno (v : Value) (W : World) : (Instr.typeAssert (.iface 31 v) 20 31 false).run Tryz.prog W = .ok v W := by kernel_rfl
theorem below_set_new {w w1 w' : World} {v : Value} (h : Below w.heap.size w w1) (hb : Below w1.heap.size w1 w') : Below w.heap.size w (w'.setCell ⟨w.heap.size, 0, none⟩ v) :=
 (under h hb).setCell (p := ⟨w.heap.size, 0, none⟩) (Nat.le_refl _) v

theorem catch_I_panicking (p : Addr) (x code : Int) (older : List PanicEntry) (w : World) (hc : w.cell? p = some (.int .i64 x)) (hz : w.frozen? p = false) :
  CallsD Tryz.prog 162 #[.pointer (some p)] (.panicking ({ v := .iface 31 (.int .i64 code), recovered := false } :: older)) w fun e u' w' =>
   e = .returned (.tuple #[]) ∧ u' = .panicking ({ v := .iface 31 (.int .i64 code), recovered := true } :: older) ∧ w' = w.setCell p (.int .i64 code) := by
 refine callsD_of_wpS Tryz.func162 rfl fun c₀ cs hu => ?_
 apply wpS_seq
 apply wpS_region
 simp [wpOpsS, go_sem, recoverD, hu, Tryz.ntmps162, Exit.thenS]
 apply wpS_seq
 apply wpS_region
 simp [wpOpsS, go_sem, Exit.thenS]
 refine wpS_cond (t := true) (by simp [Act.eval, Array.replicate]) ?_
 simp only [if_true]
 apply wpS_region
 simp [wpOpsS, go_sem, assert_errno, hc, hz, bodyPostS, results, Tryz.results162]
theorem catch_I_idle (p : Addr) (w : World) :
  CallsD Tryz.prog 162 #[.pointer (some p)] .returning w fun e u' w' => e = .returned (.tuple #[]) ∧ u' = .returning ∧ w' = w := by
 refine callsD_of_wpS Tryz.func162 rfl fun c₀ cs hu => ?_
 apply wpS_seq
 apply wpS_region
 simp [wpOpsS, go_sem, recoverD, hu, Tryz.ntmps162, Exit.thenS]
 apply wpS_seq
 apply wpS_region
 simp [wpOpsS, go_sem, Exit.thenS]
 refine wpS_cond (t := false) (by simp [Act.eval, Array.replicate]) ?_
 simp only [Bool.false_eq_true, if_false]
 refine wpS_of_wp (wp_skip ?_)
 cases c₀
 simp_all [bodyPostS, results, Tryz.results162]
set_option maxHeartbeats 1000000 in
theorem told_I (K : Nat) (caps : Array Value) (eK : ∀ args w, (callFunc K args).run Tryz.prog w = .ok (.enter K args) w) (w : World) (G : Value → World → Prop) (B : Int → Prop)
  (hG : ∀ v w', Below (w.alloc (.cells #[.int .i64 0] 31)).heap.size (w.alloc (.cells #[.int .i64 0] 31)) w' → G v w' → G v (w'.setCell ⟨w.heap.size, 0, none⟩ (.int .i64 0)))
  (h : Calls Tryz.prog K caps (w.alloc (.cells #[.int .i64 0] 31)) (Throws (w.alloc (.cells #[.int .i64 0] 31)) G B)) :
  Calls Tryz.prog 115 #[.func (.func K) #[] caps] w (Told w (.int .i64 0) G B) := by
 have hmf : ∀ (fn : Fn) (first cap : Array Value) (w : World), (Instr.makeFunc fn first cap).run Tryz.prog w = .ok (.func fn first cap) w := fun _ _ _ _ => rfl
 go_enter_defers Tryz.func115, Tryz.ntmps115
 go_wp2_with fail
 refine h.mono ?_
 rintro en w1 ⟨hb, (⟨v, rfl, hg⟩ | ⟨code, rfl, hbad⟩)⟩
 ·have c0 := (hb.cell (p := ⟨w.heap.size, 0, none⟩) (by simp)).trans (show _ = some (Value.int .i64 0) by simp [go_sem])
  have z0 := (hb.frozen (p := ⟨w.heap.size, 0, none⟩) (by simp)).trans (show _ = false by simp [go_sem])
  go_wp2_with fail
  refine leaves_cons (f := 162) (args := #[.pointer (some ⟨w.heap.size, 0, none⟩)]) (by simp) (by simp [go_sem]) ?_
  refine (catch_I_idle ⟨w.heap.size, 0, none⟩ _).mono ?_
  rintro e u' w'' ⟨rfl, rfl, rfl⟩
  have c1 : (w1.setCell ⟨w.heap.size, 0, none⟩ (.int .i64 0)).cell? ⟨w.heap.size, 0, none⟩ = some (.int .i64 0) := World.cell?_setCell_same' _ _ _ (by rw [c0]; rfl)
  simp [Leaves, settle, results, Tryz.results115, go_sem, c1]
  exact ⟨below_set_new (below_alloc w _) hb, .inl ⟨v, rfl, hG v w1 hb hg⟩⟩
 ·have c0 := (hb.cell (p := ⟨w.heap.size, 0, none⟩) (by simp)).trans (show _ = some (Value.int .i64 0) by simp [go_sem])
  have z0 := (hb.frozen (p := ⟨w.heap.size, 0, none⟩) (by simp)).trans (show _ = false by simp [go_sem])
  go_wp2_with fail
  refine leaves_cons (f := 162) (args := #[.pointer (some ⟨w.heap.size, 0, none⟩)]) (by simp) (by simp [go_sem]) ?_
  refine (catch_I_panicking ⟨w.heap.size, 0, none⟩ 0 code [] _ c0 z0).mono ?_
  rintro e u' w'' ⟨rfl, rfl, rfl⟩
  have c1 : (w1.setCell ⟨w.heap.size, 0, none⟩ (.int .i64 code)).cell? ⟨w.heap.size, 0, none⟩ = some (.int .i64 code) := World.cell?_setCell_same' _ _ _ (by rw [c0]; rfl)
  simp [Leaves, settle, results, Tryz.results115, go_sem, c1]
  exact ⟨below_set_new (below_alloc w _) hb, .inr ⟨code, rfl, hbad⟩⟩

theorem catch_T_panicking (p : Addr) (x code : Int) (older : List PanicEntry) (w : World) (hc : w.cell? p = some (.int .i64 x)) (hz : w.frozen? p = false) :
  CallsD Tryz.prog 170 #[.pointer (some p)] (.panicking ({ v := .iface 31 (.int .i64 code), recovered := false } :: older)) w fun e u' w' =>
   e = .returned (.tuple #[]) ∧ u' = .panicking ({ v := .iface 31 (.int .i64 code), recovered := true } :: older) ∧ w' = w.setCell p (.int .i64 code) := by
 refine callsD_of_wpS Tryz.func170 rfl fun c₀ cs hu => ?_
 apply wpS_seq
 apply wpS_region
 simp [wpOpsS, go_sem, recoverD, hu, Tryz.ntmps170, Exit.thenS]
 apply wpS_seq
 apply wpS_region
 simp [wpOpsS, go_sem, Exit.thenS]
 refine wpS_cond (t := true) (by simp [Act.eval, Array.replicate]) ?_
 simp only [if_true]
 apply wpS_region
 simp [wpOpsS, go_sem, assert_errno, hc, hz, bodyPostS, results, Tryz.results170]
theorem catch_T_idle (p : Addr) (w : World) :
  CallsD Tryz.prog 170 #[.pointer (some p)] .returning w fun e u' w' => e = .returned (.tuple #[]) ∧ u' = .returning ∧ w' = w := by
 refine callsD_of_wpS Tryz.func170 rfl fun c₀ cs hu => ?_
 apply wpS_seq
 apply wpS_region
 simp [wpOpsS, go_sem, recoverD, hu, Tryz.ntmps170, Exit.thenS]
 apply wpS_seq
 apply wpS_region
 simp [wpOpsS, go_sem, Exit.thenS]
 refine wpS_cond (t := false) (by simp [Act.eval, Array.replicate]) ?_
 simp only [Bool.false_eq_true, if_false]
 refine wpS_of_wp (wp_skip ?_)
 cases c₀
 simp_all [bodyPostS, results, Tryz.results170]
set_option maxHeartbeats 1000000 in
theorem told_T (K : Nat) (caps : Array Value) (eK : ∀ args w, (callFunc K args).run Tryz.prog w = .ok (.enter K args) w) (w : World) (G : Value → World → Prop) (B : Int → Prop)
  (hG : ∀ v w', Below (w.alloc (.cells #[.int .i64 0] 31)).heap.size (w.alloc (.cells #[.int .i64 0] 31)) w' → G v w' → G v (w'.setCell ⟨w.heap.size, 0, none⟩ (.int .i64 0)))
  (h : Calls Tryz.prog K caps (w.alloc (.cells #[.int .i64 0] 31)) (Throws (w.alloc (.cells #[.int .i64 0] 31)) G B)) :
  Calls Tryz.prog 123 #[.func (.func K) #[] caps] w (Told w (.int .i64 0) G B) := by
 have hmf : ∀ (fn : Fn) (first cap : Array Value) (w : World), (Instr.makeFunc fn first cap).run Tryz.prog w = .ok (.func fn first cap) w := fun _ _ _ _ => rfl
 go_enter_defers Tryz.func123, Tryz.ntmps123
 go_wp2_with fail
 refine h.mono ?_
 rintro en w1 ⟨hb, (⟨v, rfl, hg⟩ | ⟨code, rfl, hbad⟩)⟩
 ·have c0 := (hb.cell (p := ⟨w.heap.size, 0, none⟩) (by simp)).trans (show _ = some (Value.int .i64 0) by simp [go_sem])
  have z0 := (hb.frozen (p := ⟨w.heap.size, 0, none⟩) (by simp)).trans (show _ = false by simp [go_sem])
  go_wp2_with fail
  refine leaves_cons (f := 170) (args := #[.pointer (some ⟨w.heap.size, 0, none⟩)]) (by simp) (by simp [go_sem]) ?_
  refine (catch_T_idle ⟨w.heap.size, 0, none⟩ _).mono ?_
  rintro e u' w'' ⟨rfl, rfl, rfl⟩
  have c1 : (w1.setCell ⟨w.heap.size, 0, none⟩ (.int .i64 0)).cell? ⟨w.heap.size, 0, none⟩ = some (.int .i64 0) := World.cell?_setCell_same' _ _ _ (by rw [c0]; rfl)
  simp [Leaves, settle, results, Tryz.results123, go_sem, c1]
  exact ⟨below_set_new (below_alloc w _) hb, .inl ⟨v, rfl, hG v w1 hb hg⟩⟩
 ·have c0 := (hb.cell (p := ⟨w.heap.size, 0, none⟩) (by simp)).trans (show _ = some (Value.int .i64 0) by simp [go_sem])
  have z0 := (hb.frozen (p := ⟨w.heap.size, 0, none⟩) (by simp)).trans (show _ = false by simp [go_sem])
  go_wp2_with fail
  refine leaves_cons (f := 170) (args := #[.pointer (some ⟨w.heap.size, 0, none⟩)]) (by simp) (by simp [go_sem]) ?_
  refine (catch_T_panicking ⟨w.heap.size, 0, none⟩ 0 code [] _ c0 z0).mono ?_
  rintro e u' w'' ⟨rfl, rfl, rfl⟩
  have c1 : (w1.setCell ⟨w.heap.size, 0, none⟩ (.int .i64 code)).cell? ⟨w.heap.size, 0, none⟩ = some (.int .i64 code) := World.cell?_setCell_same' _ _ _ (by rw [c0]; rfl)
  simp [Leaves, settle, results, Tryz.results123, go_sem, c1]
  exact ⟨below_set_new (below_alloc w _) hb, .inr ⟨code, rfl, hbad⟩⟩

end Go.Proofs.YtcfidimnbamnkaaGreat.P7

/-
 Layer 7: runs: all times of runs, in a row of their own. Conditions: those written at each fact.
-/
namespace Go.Proofs.YtcfidimnbamnkaaGreat.P7
open Go.RowKit Go.Shelf
attribute [local go_sem] Oper.semAt_some

end Go.Proofs.YtcfidimnbamnkaaGreat.P7

/-
 Layer 7: runs: Check, Count, Times and Of, with the error by which each is left. Conditions: those written at each fact.
-/
namespace Go.Proofs.YtcfidimnbamnkaaGreat.P7
open Go.RowKit Go.Shelf

theorem makes_func (fn : Fn) (first cap : Array Value) (w : World) : (Instr.makeFunc fn first cap).run Tryz.prog w = .ok (.func fn first cap) w := rfl
theorem owns_low {W : World} {B g i : Nat} {e : TypeId} {size n : Nat} {v : Value} {xs : List Value} (h : W.ownsRow B e size v n xs) (hg : g < B) (u : Value) : (W.setCell ⟨g, i, none⟩ u).ownsRow B e size v n xs := by
 refine ⟨h.1, ?_⟩
 rcases h.2 with h2 | ⟨g', cap, cur, e1, e2, e3, e4⟩
 ·exact .inl h2
 ·exact .inr ⟨g', cap, cur, e1, e2, (Below.heap_setCell W ⟨g, i, none⟩ u g' (fun e => by have : g' = g := e; omega)).trans e3, e4⟩
abbrev eCell (w : World) : World := w.alloc (.cells #[.int .i64 0] 31)
theorem eCell_below (w : World) : Below w.heap.size w (eCell w) := below_alloc w _

set_option maxHeartbeats 1000000 in
theorem check1_any (l : List Rn) (hl : l.length ≤ 1000000) (v : Value) (W : World) (B : Nat) (hb : Boxed W B 22 v) (h : ReadsR W v l) :
  Calls Tryz.prog 161 #[.pointer (some ⟨B, 0, none⟩)] W (Throws W (fun x _ => okB l = true ∧ x = .int .i64 (totalR l)) (fun code => okB l = false ∧ code = 170)) := by
 have CA := Lib.hid (count_any l (by omega) v W h)
 obtain ⟨A, c, rfl, _, _⟩ := h
 have hc := hb.cell
 clear hb
 cases gk : okB l
 ·have HK := Lib.hid gk
  clear gk
  go_enter Tryz.func161, Tryz.ntmps161
  go_wp2_with (go_at_call 117; refine CA.out.mono ?_; rintro e w1 ⟨he, hb⟩; rw [HK.out] at he; replace he : e = thrown 170 := he; subst he)
  exact ⟨rfl, hb, .inr ⟨170, rfl, by simp⟩⟩
 ·have HK := Lib.hid gk
  clear gk
  go_enter Tryz.func161, Tryz.ntmps161
  go_wp2_with (go_at_call 117; refine CA.out.mono ?_; rintro e w1 ⟨he, hb⟩; rw [HK.out] at he; replace he : e = .returned (.int .i64 (totalR l)) := he; subst he)
  go_ret
  exact ⟨hb, .inl ⟨_, rfl, by simp⟩⟩
set_option maxHeartbeats 1000000 in
theorem checkA_any (l : List Rn) (hl : l.length ≤ 1000000) (v : Value) (w : World) (h : ReadsR w v l) : Calls Tryz.prog 114 #[v] w (Ret w (.int .i64 (if okB l then 0 else 170))) := by
 have hr := h
 obtain ⟨R, hR⟩ : ∃ R : Int, R = (if okB l then 0 else 170) := ⟨_, rfl⟩
 rw [← hR]
 replace hR := Lib.hid hR
 obtain ⟨A, c, rfl, _, _⟩ := h
 have hmf := makes_func
 have hW : Below w.heap.size w (w.alloc (.cells #[.slice A l.length c] 22)) := below_alloc w _
 have C1 := check1_any l hl (.slice A l.length c) (eCell (w.alloc (.cells #[.slice A l.length c] 22))) w.heap.size ((Boxed.new w _ _).alloc _) ((hr.below hW).below (eCell_below _))
 have TD := Lib.hid (told_I 161 #[.pointer (some ⟨w.heap.size, 0, none⟩)] (enters_of Tryz.func161 (by kernel_rfl) rfl) _ _ _ (fun _ _ _ hg => hg) C1)
 clear C1 hr hW
 go_enter Tryz.func114, Tryz.ntmps114
 go_wp2_with (go_at_call 115; refine TD.out.mono ?_; rintro e w1 ⟨hb, (⟨x, rfl, hok, rfl⟩ | ⟨code, rfl, hok, rfl⟩)⟩)
 ·go_wp2_with fail
  go_ret
  exact ⟨by rw [hR.out, hok]; rfl, past1 hb⟩
 ·go_wp2_with fail
  go_ret
  exact ⟨by rw [hR.out, hok]; rfl, past1 hb⟩

set_option maxHeartbeats 1000000 in
theorem cnt1_any (l : List Rn) (hl : l.length ≤ 1000000) (v : Value) (W : World) (B : Nat) (hb : Boxed W B 22 v) (h : ReadsR W v l) :
  Calls Tryz.prog 116 #[.pointer (some ⟨B, 0, none⟩)] W (Throws W (fun x _ => okB l = true ∧ x = .int .i64 (totalR l)) (fun code => okB l = false ∧ code = 170)) := by
 have CA := Lib.hid (count_any l (by omega) v W h)
 obtain ⟨A, c, rfl, _, _⟩ := h
 have hc := hb.cell
 clear hb
 cases gk : okB l
 ·have HK := Lib.hid gk
  clear gk
  go_enter Tryz.func116, Tryz.ntmps116
  go_wp2_with (go_at_call 117; refine CA.out.mono ?_; rintro e w1 ⟨he, hb⟩; rw [HK.out] at he; replace he : e = thrown 170 := he; subst he)
  exact ⟨rfl, hb, .inr ⟨170, rfl, by simp⟩⟩
 ·have HK := Lib.hid gk
  clear gk
  go_enter Tryz.func116, Tryz.ntmps116
  go_wp2_with (go_at_call 117; refine CA.out.mono ?_; rintro e w1 ⟨he, hb⟩; rw [HK.out] at he; replace he : e = .returned (.int .i64 (totalR l)) := he; subst he)
  go_ret
  exact ⟨hb, .inl ⟨_, rfl, by simp⟩⟩
set_option maxHeartbeats 1000000 in
theorem cntA_any (l : List Rn) (hl : l.length ≤ 1000000) (v : Value) (w : World) (h : ReadsR w v l) : Calls Tryz.prog 60 #[v] w (Ret w (.int .i64 (if okB l then totalR l else 0))) := by
 have hr := h
 obtain ⟨R, hR⟩ : ∃ R : Int, R = (if okB l then totalR l else 0) := ⟨_, rfl⟩
 rw [← hR]
 replace hR := Lib.hid hR
 obtain ⟨A, c, rfl, _, _⟩ := h
 have hmf := makes_func
 have hW : Below w.heap.size w (w.alloc (.cells #[.slice A l.length c] 22)) := below_alloc w _
 have C1 := cnt1_any l hl (.slice A l.length c) (eCell (w.alloc (.cells #[.slice A l.length c] 22))) w.heap.size ((Boxed.new w _ _).alloc _) ((hr.below hW).below (eCell_below _))
 have TD := Lib.hid (told_I 116 #[.pointer (some ⟨w.heap.size, 0, none⟩)] (enters_of Tryz.func116 (by kernel_rfl) rfl) _ _ _ (fun _ _ _ hg => hg) C1)
 clear C1 hr hW
 go_enter Tryz.func60, Tryz.ntmps60
 go_wp2_with (go_at_call 115; refine TD.out.mono ?_; rintro e w1 ⟨hb, (⟨x, rfl, hok, rfl⟩ | ⟨code, rfl, hok, rfl⟩)⟩)
 ·go_wp2_with fail
  go_ret
  exact ⟨by rw [hR.out, hok]; rfl, past1 hb⟩
 ·go_wp2_with fail
  go_ret
  exact ⟨by rw [hR.out, hok]; rfl, past1 hb⟩

end Go.Proofs.YtcfidimnbamnkaaGreat.P7
