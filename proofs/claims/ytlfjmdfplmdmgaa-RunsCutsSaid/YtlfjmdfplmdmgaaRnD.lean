/-
  Layer 7: runs: what is made, or the error by which the making was left. Conditions: those written at each fact.
-/
import Derived.Test.YtlfjmdfplmdmgaaRnC
import Derived.Tactics2
import Derived.Defers
import Derived.Recover
import Derived.Laws.Pointers
namespace Go.Proofs.Ytlfjmdfplmdmgaa
open Go.RowKit
set_option linter.unusedSimpArgs false
/-- A made thing that satisfies G, or an error that satisfies B is thrown. -/
def Throws (w : World) (G : Value → World → Prop) (B : Int → Prop) (e : Ending) (w' : World) : Prop :=
  Below w.heap.size w w' ∧ ((∃ v, e = .returned v ∧ G v w') ∨ (∃ code, e = thrown code ∧ B code))
/-- A made thing and no error, or nothing and the error. -/
def Told (w : World) (Z : Value) (G : Value → World → Prop) (B : Int → Prop) (e : Ending) (w' : World) : Prop :=
  Below w.heap.size w w' ∧ ((∃ v, e = .returned (.tuple #[v, .int .i64 0]) ∧ G v w') ∨ (∃ code, e = .returned (.tuple #[Z, .int .i64 code]) ∧ B code))
theorem assert_errno (v : Value) (W : World) : (Instr.typeAssert (.iface 27 v) 20 27 false).run Try.prog W = .ok v W := by kernel_rfl
theorem below_set_new {w w1 w' : World} {v : Value} (h : Below w.heap.size w w1) (hb : Below w1.heap.size w1 w') : Below w.heap.size w (w'.setCell ⟨w.heap.size, 0, none⟩ v) :=
  (under h hb).setCell (p := ⟨w.heap.size, 0, none⟩) (Nat.le_refl _) v

theorem catch_I_panicking (p : Addr) (x code : Int) (older : List PanicEntry) (w : World) (hc : w.cell? p = some (.int .i64 x)) (hz : w.frozen? p = false) :
    CallsD Try.prog 67 #[.pointer (some p)] (.panicking ({ v := .iface 27 (.int .i64 code), recovered := false } :: older)) w fun e u' w' =>
      e = .returned (.tuple #[]) ∧ u' = .panicking ({ v := .iface 27 (.int .i64 code), recovered := true } :: older) ∧ w' = w.setCell p (.int .i64 code) := by
  refine callsD_of_wpS Try.func67 rfl fun c₀ cs hu => ?_
  apply wpS_seq
  apply wpS_region
  simp [wpOpsS, go_sem, recoverD, hu, Try.ntmps67, Exit.thenS]
  apply wpS_seq
  apply wpS_region
  simp [wpOpsS, go_sem, Exit.thenS]
  refine wpS_cond (t := true) (by simp [Act.eval, Array.replicate]) ?_
  simp only [if_true]
  apply wpS_region
  simp [wpOpsS, go_sem, assert_errno, hc, hz, bodyPostS, results, Try.results67]
theorem catch_I_idle (p : Addr) (w : World) :
    CallsD Try.prog 67 #[.pointer (some p)] .returning w fun e u' w' => e = .returned (.tuple #[]) ∧ u' = .returning ∧ w' = w := by
  refine callsD_of_wpS Try.func67 rfl fun c₀ cs hu => ?_
  apply wpS_seq
  apply wpS_region
  simp [wpOpsS, go_sem, recoverD, hu, Try.ntmps67, Exit.thenS]
  apply wpS_seq
  apply wpS_region
  simp [wpOpsS, go_sem, Exit.thenS]
  refine wpS_cond (t := false) (by simp [Act.eval, Array.replicate]) ?_
  simp only [Bool.false_eq_true, if_false]
  refine wpS_of_wp (wp_skip ?_)
  cases c₀
  simp_all [bodyPostS, results, Try.results67]
set_option maxHeartbeats 1000000 in
theorem told_I (K : Nat) (caps : Array Value) (eK : ∀ args w, (callFunc K args).run Try.prog w = .ok (.enter K args) w) (w : World) (G : Value → World → Prop) (B : Int → Prop)
    (hG : ∀ v w', Below (w.alloc (.cells #[.int .i64 0] 27)).heap.size (w.alloc (.cells #[.int .i64 0] 27)) w' → G v w' → G v (w'.setCell ⟨w.heap.size, 0, none⟩ (.int .i64 0)))
    (h : Calls Try.prog K caps (w.alloc (.cells #[.int .i64 0] 27)) (Throws (w.alloc (.cells #[.int .i64 0] 27)) G B)) :
    Calls Try.prog 40 #[.func (.func K) #[] caps] w (Told w (.int .i64 0) G B) := by
  have hmf : ∀ (fn : Fn) (first cap : Array Value) (w : World), (Instr.makeFunc fn first cap).run Try.prog w = .ok (.func fn first cap) w := fun _ _ _ _ => rfl
  go_enter_defers Try.func40, Try.ntmps40
  go_wp2_with fail
  refine h.mono ?_
  rintro en w1 ⟨hb, (⟨v, rfl, hg⟩ | ⟨code, rfl, hbad⟩)⟩
  · have c0 := (hb.cell (p := ⟨w.heap.size, 0, none⟩) (by simp)).trans (show _ = some (Value.int .i64 0) by simp [go_sem])
    have z0 := (hb.frozen (p := ⟨w.heap.size, 0, none⟩) (by simp)).trans (show _ = false by simp [go_sem])
    go_wp2_with fail
    refine leaves_cons (f := 67) (args := #[.pointer (some ⟨w.heap.size, 0, none⟩)]) (by simp) (by simp [go_sem]) ?_
    refine (catch_I_idle ⟨w.heap.size, 0, none⟩ _).mono ?_
    rintro e u' w'' ⟨rfl, rfl, rfl⟩
    have c1 : (w1.setCell ⟨w.heap.size, 0, none⟩ (.int .i64 0)).cell? ⟨w.heap.size, 0, none⟩ = some (.int .i64 0) := World.cell?_setCell_same' _ _ _ (by rw [c0]; rfl)
    simp [Leaves, settle, results, Try.results40, go_sem, c1]
    exact ⟨below_set_new (below_alloc w _) hb, .inl ⟨v, rfl, hG v w1 hb hg⟩⟩
  · have c0 := (hb.cell (p := ⟨w.heap.size, 0, none⟩) (by simp)).trans (show _ = some (Value.int .i64 0) by simp [go_sem])
    have z0 := (hb.frozen (p := ⟨w.heap.size, 0, none⟩) (by simp)).trans (show _ = false by simp [go_sem])
    go_wp2_with fail
    refine leaves_cons (f := 67) (args := #[.pointer (some ⟨w.heap.size, 0, none⟩)]) (by simp) (by simp [go_sem]) ?_
    refine (catch_I_panicking ⟨w.heap.size, 0, none⟩ 0 code [] _ c0 z0).mono ?_
    rintro e u' w'' ⟨rfl, rfl, rfl⟩
    have c1 : (w1.setCell ⟨w.heap.size, 0, none⟩ (.int .i64 code)).cell? ⟨w.heap.size, 0, none⟩ = some (.int .i64 code) := World.cell?_setCell_same' _ _ _ (by rw [c0]; rfl)
    simp [Leaves, settle, results, Try.results40, go_sem, c1]
    exact ⟨below_set_new (below_alloc w _) hb, .inr ⟨code, rfl, hbad⟩⟩

theorem catch_T_panicking (p : Addr) (x code : Int) (older : List PanicEntry) (w : World) (hc : w.cell? p = some (.int .i64 x)) (hz : w.frozen? p = false) :
    CallsD Try.prog 71 #[.pointer (some p)] (.panicking ({ v := .iface 27 (.int .i64 code), recovered := false } :: older)) w fun e u' w' =>
      e = .returned (.tuple #[]) ∧ u' = .panicking ({ v := .iface 27 (.int .i64 code), recovered := true } :: older) ∧ w' = w.setCell p (.int .i64 code) := by
  refine callsD_of_wpS Try.func71 rfl fun c₀ cs hu => ?_
  apply wpS_seq
  apply wpS_region
  simp [wpOpsS, go_sem, recoverD, hu, Try.ntmps71, Exit.thenS]
  apply wpS_seq
  apply wpS_region
  simp [wpOpsS, go_sem, Exit.thenS]
  refine wpS_cond (t := true) (by simp [Act.eval, Array.replicate]) ?_
  simp only [if_true]
  apply wpS_region
  simp [wpOpsS, go_sem, assert_errno, hc, hz, bodyPostS, results, Try.results71]
theorem catch_T_idle (p : Addr) (w : World) :
    CallsD Try.prog 71 #[.pointer (some p)] .returning w fun e u' w' => e = .returned (.tuple #[]) ∧ u' = .returning ∧ w' = w := by
  refine callsD_of_wpS Try.func71 rfl fun c₀ cs hu => ?_
  apply wpS_seq
  apply wpS_region
  simp [wpOpsS, go_sem, recoverD, hu, Try.ntmps71, Exit.thenS]
  apply wpS_seq
  apply wpS_region
  simp [wpOpsS, go_sem, Exit.thenS]
  refine wpS_cond (t := false) (by simp [Act.eval, Array.replicate]) ?_
  simp only [Bool.false_eq_true, if_false]
  refine wpS_of_wp (wp_skip ?_)
  cases c₀
  simp_all [bodyPostS, results, Try.results71]
set_option maxHeartbeats 1000000 in
theorem told_T (K : Nat) (caps : Array Value) (eK : ∀ args w, (callFunc K args).run Try.prog w = .ok (.enter K args) w) (w : World) (G : Value → World → Prop) (B : Int → Prop)
    (hG : ∀ v w', Below (w.alloc (.cells #[.int .i64 0] 27)).heap.size (w.alloc (.cells #[.int .i64 0] 27)) w' → G v w' → G v (w'.setCell ⟨w.heap.size, 0, none⟩ (.int .i64 0)))
    (h : Calls Try.prog K caps (w.alloc (.cells #[.int .i64 0] 27)) (Throws (w.alloc (.cells #[.int .i64 0] 27)) G B)) :
    Calls Try.prog 49 #[.func (.func K) #[] caps] w (Told w (.int .i64 0) G B) := by
  have hmf : ∀ (fn : Fn) (first cap : Array Value) (w : World), (Instr.makeFunc fn first cap).run Try.prog w = .ok (.func fn first cap) w := fun _ _ _ _ => rfl
  go_enter_defers Try.func49, Try.ntmps49
  go_wp2_with fail
  refine h.mono ?_
  rintro en w1 ⟨hb, (⟨v, rfl, hg⟩ | ⟨code, rfl, hbad⟩)⟩
  · have c0 := (hb.cell (p := ⟨w.heap.size, 0, none⟩) (by simp)).trans (show _ = some (Value.int .i64 0) by simp [go_sem])
    have z0 := (hb.frozen (p := ⟨w.heap.size, 0, none⟩) (by simp)).trans (show _ = false by simp [go_sem])
    go_wp2_with fail
    refine leaves_cons (f := 71) (args := #[.pointer (some ⟨w.heap.size, 0, none⟩)]) (by simp) (by simp [go_sem]) ?_
    refine (catch_T_idle ⟨w.heap.size, 0, none⟩ _).mono ?_
    rintro e u' w'' ⟨rfl, rfl, rfl⟩
    have c1 : (w1.setCell ⟨w.heap.size, 0, none⟩ (.int .i64 0)).cell? ⟨w.heap.size, 0, none⟩ = some (.int .i64 0) := World.cell?_setCell_same' _ _ _ (by rw [c0]; rfl)
    simp [Leaves, settle, results, Try.results49, go_sem, c1]
    exact ⟨below_set_new (below_alloc w _) hb, .inl ⟨v, rfl, hG v w1 hb hg⟩⟩
  · have c0 := (hb.cell (p := ⟨w.heap.size, 0, none⟩) (by simp)).trans (show _ = some (Value.int .i64 0) by simp [go_sem])
    have z0 := (hb.frozen (p := ⟨w.heap.size, 0, none⟩) (by simp)).trans (show _ = false by simp [go_sem])
    go_wp2_with fail
    refine leaves_cons (f := 71) (args := #[.pointer (some ⟨w.heap.size, 0, none⟩)]) (by simp) (by simp [go_sem]) ?_
    refine (catch_T_panicking ⟨w.heap.size, 0, none⟩ 0 code [] _ c0 z0).mono ?_
    rintro e u' w'' ⟨rfl, rfl, rfl⟩
    have c1 : (w1.setCell ⟨w.heap.size, 0, none⟩ (.int .i64 code)).cell? ⟨w.heap.size, 0, none⟩ = some (.int .i64 code) := World.cell?_setCell_same' _ _ _ (by rw [c0]; rfl)
    simp [Leaves, settle, results, Try.results49, go_sem, c1]
    exact ⟨below_set_new (below_alloc w _) hb, .inr ⟨code, rfl, hbad⟩⟩

theorem catch_L_panicking (p : Addr) (x code : Int) (older : List PanicEntry) (w : World) (hc : w.cell? p = some (.int .i64 x)) (hz : w.frozen? p = false) :
    CallsD Try.prog 63 #[.pointer (some p)] (.panicking ({ v := .iface 27 (.int .i64 code), recovered := false } :: older)) w fun e u' w' =>
      e = .returned (.tuple #[]) ∧ u' = .panicking ({ v := .iface 27 (.int .i64 code), recovered := true } :: older) ∧ w' = w.setCell p (.int .i64 code) := by
  refine callsD_of_wpS Try.func63 rfl fun c₀ cs hu => ?_
  apply wpS_seq
  apply wpS_region
  simp [wpOpsS, go_sem, recoverD, hu, Try.ntmps63, Exit.thenS]
  apply wpS_seq
  apply wpS_region
  simp [wpOpsS, go_sem, Exit.thenS]
  refine wpS_cond (t := true) (by simp [Act.eval, Array.replicate]) ?_
  simp only [if_true]
  apply wpS_region
  simp [wpOpsS, go_sem, assert_errno, hc, hz, bodyPostS, results, Try.results63]
theorem catch_L_idle (p : Addr) (w : World) :
    CallsD Try.prog 63 #[.pointer (some p)] .returning w fun e u' w' => e = .returned (.tuple #[]) ∧ u' = .returning ∧ w' = w := by
  refine callsD_of_wpS Try.func63 rfl fun c₀ cs hu => ?_
  apply wpS_seq
  apply wpS_region
  simp [wpOpsS, go_sem, recoverD, hu, Try.ntmps63, Exit.thenS]
  apply wpS_seq
  apply wpS_region
  simp [wpOpsS, go_sem, Exit.thenS]
  refine wpS_cond (t := false) (by simp [Act.eval, Array.replicate]) ?_
  simp only [Bool.false_eq_true, if_false]
  refine wpS_of_wp (wp_skip ?_)
  cases c₀
  simp_all [bodyPostS, results, Try.results63]
set_option maxHeartbeats 1000000 in
theorem told_L (K : Nat) (caps : Array Value) (eK : ∀ args w, (callFunc K args).run Try.prog w = .ok (.enter K args) w) (w : World) (G : Value → World → Prop) (B : Int → Prop)
    (hG : ∀ v w', Below (w.alloc (.cells #[.int .i64 0] 27)).heap.size (w.alloc (.cells #[.int .i64 0] 27)) w' → G v w' → G v (w'.setCell ⟨w.heap.size, 0, none⟩ (.int .i64 0)))
    (h : Calls Try.prog K caps (w.alloc (.cells #[.int .i64 0] 27)) (Throws (w.alloc (.cells #[.int .i64 0] 27)) G B)) :
    Calls Try.prog 36 #[.func (.func K) #[] caps] w (Told w (.slice none 0 0) G B) := by
  have hmf : ∀ (fn : Fn) (first cap : Array Value) (w : World), (Instr.makeFunc fn first cap).run Try.prog w = .ok (.func fn first cap) w := fun _ _ _ _ => rfl
  go_enter_defers Try.func36, Try.ntmps36
  go_wp2_with fail
  refine h.mono ?_
  rintro en w1 ⟨hb, (⟨v, rfl, hg⟩ | ⟨code, rfl, hbad⟩)⟩
  · have c0 := (hb.cell (p := ⟨w.heap.size, 0, none⟩) (by simp)).trans (show _ = some (Value.int .i64 0) by simp [go_sem])
    have z0 := (hb.frozen (p := ⟨w.heap.size, 0, none⟩) (by simp)).trans (show _ = false by simp [go_sem])
    go_wp2_with fail
    refine leaves_cons (f := 63) (args := #[.pointer (some ⟨w.heap.size, 0, none⟩)]) (by simp) (by simp [go_sem]) ?_
    refine (catch_L_idle ⟨w.heap.size, 0, none⟩ _).mono ?_
    rintro e u' w'' ⟨rfl, rfl, rfl⟩
    have c1 : (w1.setCell ⟨w.heap.size, 0, none⟩ (.int .i64 0)).cell? ⟨w.heap.size, 0, none⟩ = some (.int .i64 0) := World.cell?_setCell_same' _ _ _ (by rw [c0]; rfl)
    simp [Leaves, settle, results, Try.results36, go_sem, c1]
    exact ⟨below_set_new (below_alloc w _) hb, .inl ⟨v, rfl, hG v w1 hb hg⟩⟩
  · have c0 := (hb.cell (p := ⟨w.heap.size, 0, none⟩) (by simp)).trans (show _ = some (Value.int .i64 0) by simp [go_sem])
    have z0 := (hb.frozen (p := ⟨w.heap.size, 0, none⟩) (by simp)).trans (show _ = false by simp [go_sem])
    go_wp2_with fail
    refine leaves_cons (f := 63) (args := #[.pointer (some ⟨w.heap.size, 0, none⟩)]) (by simp) (by simp [go_sem]) ?_
    refine (catch_L_panicking ⟨w.heap.size, 0, none⟩ 0 code [] _ c0 z0).mono ?_
    rintro e u' w'' ⟨rfl, rfl, rfl⟩
    have c1 : (w1.setCell ⟨w.heap.size, 0, none⟩ (.int .i64 code)).cell? ⟨w.heap.size, 0, none⟩ = some (.int .i64 code) := World.cell?_setCell_same' _ _ _ (by rw [c0]; rfl)
    simp [Leaves, settle, results, Try.results36, go_sem, c1]
    exact ⟨below_set_new (below_alloc w _) hb, .inr ⟨code, rfl, hbad⟩⟩

theorem catch_R_panicking (p : Addr) (x code : Int) (older : List PanicEntry) (w : World) (hc : w.cell? p = some (.int .i64 x)) (hz : w.frozen? p = false) :
    CallsD Try.prog 68 #[.pointer (some p)] (.panicking ({ v := .iface 27 (.int .i64 code), recovered := false } :: older)) w fun e u' w' =>
      e = .returned (.tuple #[]) ∧ u' = .panicking ({ v := .iface 27 (.int .i64 code), recovered := true } :: older) ∧ w' = w.setCell p (.int .i64 code) := by
  refine callsD_of_wpS Try.func68 rfl fun c₀ cs hu => ?_
  apply wpS_seq
  apply wpS_region
  simp [wpOpsS, go_sem, recoverD, hu, Try.ntmps68, Exit.thenS]
  apply wpS_seq
  apply wpS_region
  simp [wpOpsS, go_sem, Exit.thenS]
  refine wpS_cond (t := true) (by simp [Act.eval, Array.replicate]) ?_
  simp only [if_true]
  apply wpS_region
  simp [wpOpsS, go_sem, assert_errno, hc, hz, bodyPostS, results, Try.results68]
theorem catch_R_idle (p : Addr) (w : World) :
    CallsD Try.prog 68 #[.pointer (some p)] .returning w fun e u' w' => e = .returned (.tuple #[]) ∧ u' = .returning ∧ w' = w := by
  refine callsD_of_wpS Try.func68 rfl fun c₀ cs hu => ?_
  apply wpS_seq
  apply wpS_region
  simp [wpOpsS, go_sem, recoverD, hu, Try.ntmps68, Exit.thenS]
  apply wpS_seq
  apply wpS_region
  simp [wpOpsS, go_sem, Exit.thenS]
  refine wpS_cond (t := false) (by simp [Act.eval, Array.replicate]) ?_
  simp only [Bool.false_eq_true, if_false]
  refine wpS_of_wp (wp_skip ?_)
  cases c₀
  simp_all [bodyPostS, results, Try.results68]
set_option maxHeartbeats 1000000 in
theorem told_R (K : Nat) (caps : Array Value) (eK : ∀ args w, (callFunc K args).run Try.prog w = .ok (.enter K args) w) (w : World) (G : Value → World → Prop) (B : Int → Prop)
    (hG : ∀ v w', Below (w.alloc (.cells #[.int .i64 0] 27)).heap.size (w.alloc (.cells #[.int .i64 0] 27)) w' → G v w' → G v (w'.setCell ⟨w.heap.size, 0, none⟩ (.int .i64 0)))
    (h : Calls Try.prog K caps (w.alloc (.cells #[.int .i64 0] 27)) (Throws (w.alloc (.cells #[.int .i64 0] 27)) G B)) :
    Calls Try.prog 43 #[.func (.func K) #[] caps] w (Told w (.slice none 0 0) G B) := by
  have hmf : ∀ (fn : Fn) (first cap : Array Value) (w : World), (Instr.makeFunc fn first cap).run Try.prog w = .ok (.func fn first cap) w := fun _ _ _ _ => rfl
  go_enter_defers Try.func43, Try.ntmps43
  go_wp2_with fail
  refine h.mono ?_
  rintro en w1 ⟨hb, (⟨v, rfl, hg⟩ | ⟨code, rfl, hbad⟩)⟩
  · have c0 := (hb.cell (p := ⟨w.heap.size, 0, none⟩) (by simp)).trans (show _ = some (Value.int .i64 0) by simp [go_sem])
    have z0 := (hb.frozen (p := ⟨w.heap.size, 0, none⟩) (by simp)).trans (show _ = false by simp [go_sem])
    go_wp2_with fail
    refine leaves_cons (f := 68) (args := #[.pointer (some ⟨w.heap.size, 0, none⟩)]) (by simp) (by simp [go_sem]) ?_
    refine (catch_R_idle ⟨w.heap.size, 0, none⟩ _).mono ?_
    rintro e u' w'' ⟨rfl, rfl, rfl⟩
    have c1 : (w1.setCell ⟨w.heap.size, 0, none⟩ (.int .i64 0)).cell? ⟨w.heap.size, 0, none⟩ = some (.int .i64 0) := World.cell?_setCell_same' _ _ _ (by rw [c0]; rfl)
    simp [Leaves, settle, results, Try.results43, go_sem, c1]
    exact ⟨below_set_new (below_alloc w _) hb, .inl ⟨v, rfl, hG v w1 hb hg⟩⟩
  · have c0 := (hb.cell (p := ⟨w.heap.size, 0, none⟩) (by simp)).trans (show _ = some (Value.int .i64 0) by simp [go_sem])
    have z0 := (hb.frozen (p := ⟨w.heap.size, 0, none⟩) (by simp)).trans (show _ = false by simp [go_sem])
    go_wp2_with fail
    refine leaves_cons (f := 68) (args := #[.pointer (some ⟨w.heap.size, 0, none⟩)]) (by simp) (by simp [go_sem]) ?_
    refine (catch_R_panicking ⟨w.heap.size, 0, none⟩ 0 code [] _ c0 z0).mono ?_
    rintro e u' w'' ⟨rfl, rfl, rfl⟩
    have c1 : (w1.setCell ⟨w.heap.size, 0, none⟩ (.int .i64 code)).cell? ⟨w.heap.size, 0, none⟩ = some (.int .i64 code) := World.cell?_setCell_same' _ _ _ (by rw [c0]; rfl)
    simp [Leaves, settle, results, Try.results43, go_sem, c1]
    exact ⟨below_set_new (below_alloc w _) hb, .inr ⟨code, rfl, hbad⟩⟩
end Go.Proofs.Ytlfjmdfplmdmgaa
