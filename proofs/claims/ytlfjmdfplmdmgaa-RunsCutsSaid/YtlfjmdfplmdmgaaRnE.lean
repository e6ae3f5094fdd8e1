/-
  Layer 7: runs: the times of runs, one by one, with their places. Conditions: those written at each fact.
-/
import Derived.Test.YtlfjmdfplmdmgaaRnC
import Derived.Test.YtlfjmdfplmdmgaaIter
namespace Go.Proofs.Ytlfjmdfplmdmgaa
open Go.RowKit Go.Shelf
attribute [local go_sem] Oper.semAt_some

/-- Cells lie on, but in the blocks X; and X grows by new blocks alone. -/
def KeepsC (X : World → Nat → Prop) (W W' : World) : Prop :=
  W.heap.size ≤ W'.heap.size ∧ (∀ k, X W' k → X W k ∨ (W.heap.size ≤ k ∧ k < W'.heap.size)) ∧ ∀ (k : Nat) (o : Obj), W.heap[k]? = some o → o.isCells = true → ¬ X W k → W'.heap[k]? = some o
theorem KeepsC.trans {X : World → Nat → Prop} {A B C : World} (h : KeepsC X A B) (k : KeepsC X B C) : KeepsC X A C := by
  refine ⟨Nat.le_trans h.1 k.1, fun j hj => ?_, fun j o ho hc hx => ?_⟩
  · rcases k.2.1 j hj with h1 | h1
    · rcases h.2.1 j h1 with h2 | h2
      · exact .inl h2
      · exact .inr ⟨h2.1, Nat.lt_of_lt_of_le h2.2 k.1⟩
    · exact .inr ⟨Nat.le_trans h.1 h1.1, h1.2⟩
  · refine k.2.2 j o (h.2.2 j o ho hc hx) hc fun hx2 => ?_
    rcases h.2.1 j hx2 with h3 | h3
    · exact hx h3
    · have := (Array.getElem?_eq_some_iff.1 ho).1; omega
/-- X hangs on block b alone. -/
def Hangs (X : World → Nat → Prop) (b : Nat) : Prop := ∀ W W' k, W'.heap[b]? = W.heap[b]? → X W' k → X W k
theorem KeepsC.put {X : World → Nat → Prop} {b : Nat} (hX : Hangs X b) {w : World} (hb : b < w.heap.size) (W : World) (l : Nat) (o o' : Obj) (hl : w.heap.size ≤ l) (h : W.heap[l]? = some o) (hc : o.isCells = false) (_ : o.isWalk = false) : KeepsC X W (W.putObj l o') :=
  ⟨by simp, fun k hk => .inl (hX W _ k (World.putObj_heap_other (by omega)) hk), fun k o2 ho hc2 _ => (World.putObj_heap_other (fun e => by subst e; rw [h] at ho; cases ho; rw [hc] at hc2; cases hc2)).trans ho⟩
theorem KeepsC.of_below {X : World → Nat → Prop} {b : Nat} (hX : Hangs X b) {W W' : World} (hb : b < W.heap.size) (h : Below W.heap.size W W') : KeepsC X W W' :=
  ⟨h.size, fun k hk => .inl (hX W W' k (h.block b hb) hk), fun k _ ho _ _ => (h.block k (Array.getElem?_eq_some_iff.1 ho).1).trans ho⟩
/-- A range over a function whose body turns the blocks X. -/
theorem wp_rangeC {P : Program} {α : Type} {g : Operand} {ps : Array Tmp} {assign body : Code} {Q : Exit → Act → World → Prop} {a : Act} {w : World} {X : World → Nat → Prop} {b : Nat} (hX : Hangs X b) (hXb : b < w.heap.size)
    {gf : Nat} {lb : Array Value} (hg : a.eval g = .func (.func gf) #[] lb) (eg : ∀ args w, (callFunc gf args).run P w = .ok (.enter gf args) w)
    {encs : α → Array Value} {S Sp : List α → Prop} {N : Nat} (hseq : SeqStopsK Fence.wide 8 P gf lb encs (KeepsC X) S Sp N w) (hps : ∀ x, (encs x).size = ps.size)
    (I : List α → World → Prop) (Ix : Code → List α → World → Prop) (hI : OwnFrom w.heap.size I) (hIx : ∀ c, OwnFrom w.heap.size (Ix c)) (h0 : I [] w) (a₁ : α → Act)
    (hassign : ∀ (l : Nat) (x : α) (W : World) (K : Act → World → Prop), K (a₁ x) W →
      assign.wpIn (Fence.wide.inRound l) (9 - 1 - 1) P (Exit.then K (fun _ _ _ => False)) { tmps := (ps.zip (encs x)).foldl (fun t (p, v) => t.setIfInBounds p v) a.tmps, defers := [] } W)
    (hbody : ∀ (l : Nat) (pre : List α) (x : α) (W : World), I pre W → pre.length < N → body.wpIn (Fence.wide.inRound l) (9 - 1 - 1) P (ownPostG w.heap.size (KeepsC X) I Ix (pre ++ [x]) W) (a₁ x) W)
    (hdone : ∀ (D : Nat) (xs : List α) (W : World), w.heap.size ≤ D → S xs → I xs W → W.heap[D]? = some (.deferred (some [])) → Q .normal { a with defers := { target := .collected D, args := #[] } :: a.defers } W)
    (hstop : ∀ (D : Nat) (c : Code) (pre : List α) (W : World), w.heap.size ≤ D → Sp pre → Ix c pre W → W.heap[D]? = some (.deferred (some [])) → c.wp P Q { a with defers := { target := .collected D, args := #[] } :: a.defers } W) :
    (Code.rangeFunc g ps assign body).wp P Q a w :=
  wpIn_wide.1 (wpIn_rangeFunc_ownG (n := 9) rfl (by omega) hg trivial eg hseq KeepsC.trans (KeepsC.put hX hXb) (Below.refl _ _) hps I Ix hI hIx h0 a₁ hassign hbody hdone
    (fun D c pre W h1 h2 h3 h4 => wpIn_wide.2 (hstop D c pre W h1 h2 h3 h4)))

/-- n times from f on, s apart. -/
def stepsR (f s : Int) : Nat → List Int
  | 0 => []
  | n + 1 => f :: stepsR (f + s) s n
/-- The times of runs. -/
def timesR : List Rn → List Int
  | [] => []
  | r :: l => stepsR r.f r.s r.c.toNat ++ timesR l
/-- .. with their places. -/
def numR : Nat → List Int → List (Int × Int)
  | _, [] => []
  | k, t :: l => ((k : Int), t) :: numR (k + 1) l
theorem numR_length : ∀ (k : Nat) (l : List Int), (numR k l).length = l.length
  | _, [] => rfl
  | k, t :: l => by simp [numR, numR_length (k + 1) l]
theorem steps_length (f s : Int) (n : Nat) : (stepsR f s n).length = n := by
  induction n generalizing f with
  | zero => rfl
  | succ n ih => simp [stepsR, ih]
theorem timesR_length : ∀ {l : List Rn}, (∀ r ∈ l, 0 ≤ r.c) → ((timesR l).length : Int) = totalR l
  | [], _ => rfl
  | r :: l, h => by
    have h1 := h r (List.mem_cons_self ..)
    have h2 := timesR_length (l := l) fun x hx => h x (List.mem_cons_of_mem _ hx)
    simp only [timesR, totalR, List.length_append, steps_length]
    omega
theorem steps_next (f s c : Int) (i : Nat) (h : (i : Int) < c) : stepsR (f + i * s) s (c - i).toNat = (f + i * s) :: stepsR (f + ((i + 1 : Nat) : Int) * s) s (c - ((i + 1 : Nat) : Int)).toNat := by
  have e : (c - i).toNat = (c - ((i + 1 : Nat) : Int)).toNat + 1 := by omega
  rw [e, stepsR]
  have e2 : f + ((i + 1 : Nat) : Int) * s = f + i * s + s := by rw [Int.natCast_add, Int.add_mul]; omega
  rw [e2]
theorem steps_none (f s c : Int) (i : Nat) (h : ¬ (i : Int) < c) : stepsR (f + i * s) s (c - i).toNat = [] := by
  rw [show (c - i).toNat = 0 by omega]; rfl

/-- The world of a range over the times of runs: what it needs lies on. -/
structure Stand (X : World → Nat → Prop) (A : Option Addr) (c : Nat) (l : List Rn) (W : World) : Prop where
  reads : ReadsR W (.slice A l.length c) l
  lies : ∀ b off, l ≠ [] → A = some ⟨b, off, none⟩ → ¬ X W b
  small : ∀ k, X W k → k < W.heap.size
theorem ReadsR.kept {W W' : World} {X : World → Nat → Prop} {A : Option Addr} {c : Nat} {l : List Rn} (h : ReadsR W (.slice A l.length c) l) (hx : ∀ b off, l ≠ [] → A = some ⟨b, off, none⟩ → ¬ X W b) (k : KeepsC X W W') : ReadsR W' (.slice A l.length c) l := by
  obtain ⟨A', c', e, hc, hk⟩ := h
  cases e
  refine ⟨A, c, rfl, hc, fun i r hi => ?_⟩
  obtain ⟨b, off, e1, e2, e3, e4, e5⟩ := hk i r hi
  have hne : l ≠ [] := by rintro rfl; simp at hi
  obtain ⟨o, ho⟩ : ∃ o, W.heap[b]? = some o := ⟨_, Array.getElem?_eq_getElem e2⟩
  have hoc : o.isCells = true := by
    cases o with
    | cells _ _ _ => rfl
    | _ => simp [World.cell?, ho] at e3
  have hb := (k.2.2 b o ho hoc (hx b off hne e1)).trans ho.symm
  exact ⟨b, off, e1, Nat.lt_of_lt_of_le e2 k.1, (World.cell?_of_block (w := W) hb).trans e3, (World.cell?_of_block (w := W) hb).trans e4, (World.cell?_of_block (w := W) hb).trans e5⟩
theorem Stand.next {X : World → Nat → Prop} {A : Option Addr} {c : Nat} {l : List Rn} {W W' : World} (h : Stand X A c l W) (k : KeepsC X W W') : Stand X A c l W' :=
  ⟨h.reads.kept h.lies k, fun b off hne e hx => by
    rcases k.2.1 b hx with h1 | h1
    · exact h.lies b off hne e h1
    · obtain ⟨r, l', rfl⟩ := List.exists_cons_of_ne_nil hne
      obtain ⟨A', c', e', _, hk⟩ := h.reads
      cases e'
      obtain ⟨b', off', e1, e2, _⟩ := hk 0 r rfl
      rw [e] at e1
      cases e1
      omega, fun j hj => by
    rcases k.2.1 j hj with h1 | h1
    · exact Nat.lt_of_lt_of_le (h.small j h1) k.1
    · exact h1.2⟩
end Go.Proofs.Ytlfjmdfplmdmgaa
