/-
  A range over a function that turns a block of its caller's between two rounds (a method value over a variable): what such an iterator tells, and how a walk goes through it. Conditions: those written at each fact.
-/
import Derived.Test.YtoephkglpbophaaGreatBA
namespace Go.Proofs.YtoephkglpbophaaGreat.P9
open Go.RowKit Go.Shelf Go.Proofs.YtoephkglpbophaaGreat.P8

/-- From A to A' nothing turns below B but block T, and of cells nothing at all but block T. -/
structure Mild (B T : Nat) (A A' : World) : Prop where
  os : A'.os = A.os
  tape : A'.tape = A.tape
  output : A'.output = A.output
  size : A.heap.size ≤ A'.heap.size
  low : ∀ k, k < B → k ≠ T → A'.heap[k]? = A.heap[k]?
  cells : ∀ (k : Nat) (o : Obj), A.heap[k]? = some o → o.isCells = true → k ≠ T → A'.heap[k]? = some o
theorem Mild.of_near {B T : Nat} {A A' : World} (h : Near T A A') (hB : B ≤ A.heap.size) : Mild B T A A' :=
  ⟨h.os, h.tape, h.output, h.size, fun k hk ht => h.block k (by omega) ht, fun k _ ho _ ht => (h.block k (Array.getElem?_eq_some_iff.1 ho).1 ht).trans ho⟩
theorem Mild.put {B T : Nat} {A : World} {l : Nat} {o : Obj} (o' : Obj) (hl : A.heap[l]? = some o) (hc : o.isCells = false) (hB : B ≤ l) : Mild B T A (A.putObj l o') := by
  refine ⟨rfl, rfl, rfl, by simp, fun k hk _ => World.putObj_heap_other (by omega), fun k o2 ho hc2 _ => (World.putObj_heap_other (fun e => ?_)).trans ho⟩
  subst e
  rw [hl] at ho
  cases ho
  rw [hc] at hc2
  cases hc2
theorem Mild.alloc {B T : Nat} (A : World) (o : Obj) (hB : B ≤ A.heap.size) : Mild B T A (A.alloc o) := by
  have h := below_alloc A o
  exact ⟨h.os, h.tape, h.output, h.size, fun k hk _ => h.block k (by omega), fun k _ ho _ _ => (h.block k (Array.getElem?_eq_some_iff.1 ho).1).trans ho⟩
theorem Mild.below {B T : Nat} {A A' : World} (h : Mild B T A A') {w : World} (hw : Below w.heap.size w A) (hB : w.heap.size ≤ B) (hT : w.heap.size ≤ T) : Below w.heap.size w A' :=
  ⟨h.os.trans hw.os, h.tape.trans hw.tape, h.output.trans hw.output, Nat.le_trans hw.size h.size, fun k hk => (h.low k (by omega) (by omega)).trans (hw.block k hk)⟩

/-- What an iterator tells that turns block T between two rounds: whatever the caller holds that abides that. -/
def SeqTurns {α : Type} (F : Fence) (n : Nat) (P : Program) (g : Nat) (lb : Array Value) (encs : α → Array Value) (T : Nat) (Kp : World → World → Prop) (S Sp : List α → Prop) (w : World) : Prop :=
  ∀ (l : Nat) (J Jx : List α → World → Prop) (W : World), Below w.heap.size w W → (∀ s A A', J s A → Near T A A' → J s A') →
    (∀ pre x W1, J pre W1 → Sp (pre ++ [x]) → YieldAt F (n - 1) P l (encs x) W1 fun e W' => (e = .returned (.bool true) ∧ J (pre ++ [x]) W' ∧ Kp W1 W') ∨ (e = .returned (.bool false) ∧ Jx (pre ++ [x]) W')) →
    J [] W → CallsIn F n P g (#[.func (.yield l) #[] #[]] ++ lb) W fun e W' => (∃ v, e = .returned v) ∧ ((∃ xs, S xs ∧ J xs W') ∨ (∃ pre, Sp pre ∧ Jx pre W'))

/-- How the body of a round may leave. -/
def Leaves {α : Type} (B : Nat) (Kp : World → World → Prop) (I : List α → World → Prop) (Ix : Code → List α → World → Prop) (xs : List α) (W : World) : Exit → Act → World → Prop
  | .normal, _, W' => KeepsFrom B W W' ∧ Kp W W' ∧ I xs W'
  | .ret, _, W' => KeepsFrom B W W' ∧ Ix .ret xs W'
  | .exit id, _, W' => KeepsFrom B W W' ∧ Ix (.exit id) xs W'
  | .goto t, _, W' => KeepsFrom B W W' ∧ Ix (.goto t) xs W'
  | .panic _, _, _ => False
  | .outgrown, _, _ => False

section
variable {P : Program}
/-- Where a loop's record lies, and the block for its rounds' deferred calls. -/
def Books (w : World) (r : Loop) (W : World) : Prop := W.heap[w.heap.size + 1]? = some (.loop r) ∧ W.heap[w.heap.size]? = some (.deferred (some []))
theorem Books.near {w W W' : World} {r : Loop} {T : Nat} (h : Books w r W) (hT : T < w.heap.size) (k : Near T W W') : Books w r W' :=
  ⟨(k.block _ (Array.getElem?_eq_some_iff.1 h.1).1 (by omega)).trans h.1, (k.block _ (Array.getElem?_eq_some_iff.1 h.2).1 (by omega)).trans h.2⟩
theorem Books.keeps {w W W' : World} {r : Loop} (h : Books w r W) (k : KeepsFrom w.heap.size W W') : Books w r W' :=
  ⟨k.same _ _ (by omega) h.1 rfl, k.same _ _ (Nat.le_refl _) h.2 rfl⟩
theorem Books.put {w W : World} {r r' : Loop} (h : Books w r W) : Books w r' (W.putObj (w.heap.size + 1) (.loop r')) :=
  ⟨World.putObj_heap_same (Array.getElem?_eq_some_iff.1 h.1).1, (World.putObj_heap_other (by omega)).trans h.2⟩
theorem Books.new (w : World) (r : Loop) : Books w r ((w.alloc (.deferred (some []))).alloc (.loop r)) := by
  refine ⟨?_, (Below.heap_alloc _ _ _ (by simp)).trans (World.alloc_heap_new w _)⟩
  have := World.alloc_heap_new (w.alloc (.deferred (some []))) (.loop r)
  rwa [World.size_alloc] at this

set_option maxHeartbeats 1000000 in
/-- The walk goes through a range over such an iterator; its loop variables may be laid anew each round. -/
theorem wp_rangeT {α : Type} {g : Operand} {ps : Array Tmp} {assign body : Code} {Q : Exit → Act → World → Prop} {a : Act} {w : World} {T : Nat} (hT : T < w.heap.size)
    {gf : Nat} {lb : Array Value} (hg : a.eval g = .func (.func gf) #[] lb) (eg : ∀ args w, (callFunc gf args).run P w = .ok (.enter gf args) w)
    {encs : α → Array Value} {Kp : World → World → Prop} {S Sp : List α → Prop} (hseq : SeqTurns Fence.wide 8 P gf lb encs T Kp S Sp w) (hps : ∀ x, (encs x).size = ps.size)
    (hKt : ∀ {A B C : World}, Kp A B → Kp B C → Kp A C) (hKp : ∀ (W : World) (r r' : Loop), W.heap[w.heap.size + 1]? = some (.loop r) → Kp W (W.putObj (w.heap.size + 1) (.loop r')))
    (I : List α → World → Prop) (Ix : Code → List α → World → Prop) (hI : ∀ s A A', I s A → Mild w.heap.size T A A' → I s A') (hIx : ∀ c s A A', Ix c s A → Mild w.heap.size T A A' → Ix c s A') (h0 : I [] w) (Ax : α → Act → World → Prop) (hAx : ∀ x a' A A', Ax x a' A → Mild w.heap.size T A A' → Ax x a' A')
    (hassign : ∀ (l : Nat) (pre : List α) (x : α) (W : World) (K : Act → World → Prop), I pre W → Sp (pre ++ [x]) → (∀ a' W', KeepsFrom w.heap.size W W' → Kp W W' → I pre W' → Ax x a' W' → K a' W') →
      assign.wpIn (Fence.wide.inRound l) (9 - 1 - 1) P (Exit.then K (fun _ _ _ => False)) { tmps := (ps.zip (encs x)).foldl (fun t (p, v) => t.setIfInBounds p v) a.tmps, defers := [] } W)
    (hbody : ∀ (l : Nat) (pre : List α) (x : α) (a' : Act) (W : World), I pre W → Ax x a' W → Sp (pre ++ [x]) → body.wpIn (Fence.wide.inRound l) (9 - 1 - 1) P (Leaves w.heap.size Kp I Ix (pre ++ [x]) W) a' W)
    (hdone : ∀ (xs : List α) (W : World), S xs → I xs W → W.heap[w.heap.size]? = some (.deferred (some [])) → Q .normal { a with defers := { target := .collected w.heap.size, args := #[] } :: a.defers } W)
    (hstop : ∀ (c : Code) (pre : List α) (W : World), Sp pre → Ix c pre W → W.heap[w.heap.size]? = some (.deferred (some [])) → c.wp P Q { a with defers := { target := .collected w.heap.size, args := #[] } :: a.defers } W) :
    (Code.rangeFunc g ps assign body).wp P Q a w := by
  refine (wpIn_wide (n := 9)).1 (wpIn_rangeFunc fun fn hfn => ?_)
  let rc : LoopState → Option Code → Loop := fun st pe => { state := st, pending := pe, fn, tmps := a.tmps, params := ps, assign, body, defers := w.heap.size }
  have hbk := Books.new w (rc .ready none)
  have hbl : Below w.heap.size w ((w.alloc (.deferred (some []))).alloc (.loop (rc .ready none))) := ((Below.refl _ w).alloc (Nat.le_refl _) _).alloc (by simp) _
  have hi1 : I [] ((w.alloc (.deferred (some []))).alloc (.loop (rc .ready none))) := hI _ _ _ (hI _ _ _ h0 (Mild.alloc w _ (Nat.le_refl _))) (Mild.alloc _ _ (by simp))
  obtain ⟨W1, hW1⟩ : ∃ W1, (w.alloc (.deferred (some []))).alloc (.loop (rc .ready none)) = W1 := ⟨_, rfl⟩
  rw [hW1] at hbk hbl hi1
  refine ⟨w.heap.size + 1, [{ target := .collected w.heap.size, args := #[] }], W1, { target := .fn (.func gf) lb, args := #[.func (.yield (w.heap.size + 1)) #[] #[]] }, W1, gf, #[.func (.yield (w.heap.size + 1)) #[] #[]] ++ lb, W1, ?_, ?_, ?_, ?_, fun _ => by omega, ?_⟩
  · rw [← hW1]; exact run_enterLoop_outer fn a.tmps ps assign body
  · simp only [resolve, hg]; simp [go_sem]
  · intro f' hf'; trivial
  · simp [invoke, go_sem, eg]
  have hjump : ∀ (c : Code) (pre : List α) (W : World), Ix c pre W → Books w (rc .busy none) W →
      ∃ v w', (Instr.endRound (w.heap.size + 1) (some c)).run P W = .ok v w' ∧ (v = .bool false ∧ ∃ c', Ix c' pre w' ∧ Books w (rc .done (some c')) w') := fun c pre W hi hb =>
    ⟨_, _, run_endRound (some c) hb.1, rfl, c, hIx _ _ _ _ hi (Mild.put _ hb.1 rfl (by omega)), hb.put⟩
  refine (hseq (w.heap.size + 1) (fun pre W => I pre W ∧ Books w (rc .ready none) W) (fun pre W => ∃ c, Ix c pre W ∧ Books w (rc .done (some c)) W) _ hbl
    (fun s A A' hs hn => ⟨hI _ _ _ hs.1 (Mild.of_near hn (by have := (Array.getElem?_eq_some_iff.1 hs.2.2).1; omega)), hs.2.near hT hn⟩) ?_ ⟨hi1, hbk⟩).mono ?_
  · rintro pre x W ⟨hi, hb⟩ hsp
    refine ⟨fn, _, assign, body, run_yield (args := encs x) hb.1 (hps x), roundIn_of_wpIn hfn (hassign _ pre x W _ hi hsp fun a' Wa hk hp hia hax => ?_)⟩
    have hb2 := hb.keeps hk
    refine ⟨_, run_beginRound hb2.1 rfl, ?_⟩
    have hm : Mild w.heap.size T Wa (Wa.putObj (w.heap.size + 1) (.loop (rc .busy none))) := Mild.put _ hb2.1 rfl (by omega)
    have hb3 : Books w (rc .busy none) (Wa.putObj (w.heap.size + 1) (.loop (rc .busy none))) := hb2.put
    have hk3 := hKt hp (hKp Wa _ (rc .busy none) hb2.1)
    refine wpIn_mono (hbody _ pre x a' _ (hI _ _ _ hia hm) (hAx _ _ _ _ hax hm) hsp) ?_
    rintro e a3 W3 hq
    cases e with
    | normal =>
      obtain ⟨h1, h2, h3⟩ := hq
      have hb4 := hb3.keeps h1
      exact ⟨_, _, run_endRound none hb4.1, .inl ⟨rfl, ⟨hI _ _ _ h3 (Mild.put _ hb4.1 rfl (by omega)), hb4.put⟩, hKt hk3 (hKt h2 (hKp _ _ _ hb4.1))⟩⟩
    | ret =>
      obtain ⟨v, w', h3, rfl, h4⟩ := hjump .ret _ _ hq.2 (hb3.keeps hq.1)
      exact ⟨_, w', h3, .inr ⟨rfl, h4⟩⟩
    | exit id =>
      obtain ⟨v, w', h3, rfl, h4⟩ := hjump (.exit id) _ _ hq.2 (hb3.keeps hq.1)
      exact ⟨_, w', h3, .inr ⟨rfl, h4⟩⟩
    | goto t =>
      obtain ⟨v, w', h3, rfl, h4⟩ := hjump (.goto t) _ _ hq.2 (hb3.keeps hq.1)
      exact ⟨_, w', h3, .inr ⟨rfl, h4⟩⟩
    | panic ch => exact hq.elim
    | outgrown => exact hq.elim
  · rintro e W2 ⟨⟨v, rfl⟩, (⟨xs, hS, hi, hb⟩ | ⟨pre, hSp, c, hi, hb⟩)⟩
    · exact ⟨none, _, run_endLoop hb.1 (by simp [rc]), hdone xs _ hS (hI _ _ _ hi (Mild.put _ hb.1 rfl (by omega))) (hb.put (r' := { rc .ready none with state := .exhausted })).2⟩
    · exact ⟨some c, _, run_endLoop hb.1 (by simp [rc]), wpIn_wide.2 (hstop c pre _ hSp (hIx _ _ _ _ hi (Mild.put _ hb.1 rfl (by omega))) (hb.put (r' := { rc .done (some c) with state := .exhausted })).2)⟩
end
end Go.Proofs.YtoephkglpbophaaGreat.P9
