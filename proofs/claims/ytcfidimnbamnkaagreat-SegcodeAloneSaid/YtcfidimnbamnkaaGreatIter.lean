/-
 Tools for the walks of this seat: ranges over functions. Conditions: none beyond those written at each fact.
-/
import Derived.Test.YtcfidimnbamnkaaGreatProg
import Derived.Test.YtcfidimnbamnkaaGreatKit
import Derived.RangeFuncNested
import Derived.RangeFuncBound
import Derived.RangeFuncCalls
import Derived.RangeFuncLeaves
import Derived.RangeFuncBox
import Derived.Maps.AppendAt
import Derived.Shelf.Abstract
import Derived.Shelf.RegionOpen
import Derived.WalkKit
import Derived.OwnWalkIn
import Derived.TacticsInMore
import Derived.LoopNIn
import Derived.LoopIn
namespace Go.Proofs.YtcfidimnbamnkaaGreat
open Go.RowKit Go.Shelf

section
variable {P : Program}
theorem calls_marks {f : FuncId} {fn : Func} {c : Code} {args : Array Value} {w : World} {R : Ending → World → Prop} (hf : P.funcs[f]? = some fn) (hb : fn.body = some c)
  (h : c.wp P (bodyPostM Fence.wide 9 P fn R) { tmps := args ++ Array.replicate (fn.ntmps - args.size) undef, defers := [] } w) : Calls P f args w R :=
 (callsIn_wide (n := 9)).1 (callsIn_of_wp_marks hf hb trivial (wpIn_wide.2 h) rfl)

theorem wp_range {α : Type} {g : Operand} {ps : Array Tmp} {assign body : Code} {Q : Exit → Act → World → Prop} {a : Act} {w : World} {n₀ : Nat}
  {gf : Nat} {lb : Array Value} (hg : a.eval g = .func (.func gf) #[] lb) (eg : ∀ args w, (callFunc gf args).run P w = .ok (.enter gf args) w)
  {encs : α → Array Value} {S Sp : List α → Prop} {N : Nat} (hseq : SeqStopsK Fence.wide 8 P gf lb encs (Below n₀) S Sp N w) (hn : n₀ ≤ w.heap.size) (hps : ∀ x, (encs x).size = ps.size)
  (I : List α → World → Prop) (Ix : Code → List α → World → Prop) (hI : OwnFrom w.heap.size I) (hIx : ∀ c, OwnFrom w.heap.size (Ix c)) (h0 : I [] w) (a₁ : α → Act)
  (hassign : ∀ (l : Nat) (x : α) (W : World) (K : Act → World → Prop), K (a₁ x) W →
   assign.wpIn (Fence.wide.inRound l) (9 - 1 - 1) P (Exit.then K (fun _ _ _ => False)) { tmps := (ps.zip (encs x)).foldl (fun t (p, v) => t.setIfInBounds p v) a.tmps, defers := [] } W)
  (hbody : ∀ (l : Nat) (pre : List α) (x : α) (W : World), I pre W → pre.length < N → body.wpIn (Fence.wide.inRound l) (9 - 1 - 1) P (ownPostG w.heap.size (Below n₀) I Ix (pre ++ [x]) W) (a₁ x) W)
  (hdone : ∀ (D : Nat) (xs : List α) (W : World), w.heap.size ≤ D → S xs → I xs W → W.heap[D]? = some (.deferred (some [])) → Q .normal { a with defers := { target := .collected D, args := #[] } :: a.defers } W)
  (hstop : ∀ (D : Nat) (c : Code) (pre : List α) (W : World), w.heap.size ≤ D → Sp pre → Ix c pre W → W.heap[D]? = some (.deferred (some [])) → c.wp P Q { a with defers := { target := .collected D, args := #[] } :: a.defers } W) :
  (Code.rangeFunc g ps assign body).wp P Q a w :=
 wpIn_wide.1 (wpIn_rangeFunc_ownG (n := 9) rfl (by omega) hg trivial eg hseq belowK_t (belowK_b hn) (Below.refl _ _) hps I Ix hI hIx h0 a₁ hassign hbody hdone
  (fun D c pre W h1 h2 h3 h4 => wpIn_wide.2 (hstop D c pre W h1 h2 h3 h4)))

def KeepsBut (n₀ : Nat) (X : Nat → Prop) (W W' : World) : Prop := ∀ k, k < n₀ → ¬ X k → W'.heap[k]? = W.heap[k]?
theorem KeepsBut.trans {n₀ : Nat} {X : Nat → Prop} {A B C : World} (h : KeepsBut n₀ X A B) (k : KeepsBut n₀ X B C) : KeepsBut n₀ X A C := fun i hi hx => (k i hi hx).trans (h i hi hx)
theorem KeepsBut.put {n₀ : Nat} {X : Nat → Prop} {w : World} (hn : n₀ ≤ w.heap.size) (W : World) (l : Nat) (o o' : Obj) (hl : w.heap.size ≤ l) (_ : W.heap[l]? = some o) (_ : o.isCells = false) (_ : o.isWalk = false) : KeepsBut n₀ X W (W.putObj l o') :=
 fun k hk _ => World.putObj_heap_other (by omega)
theorem wp_rangeK {α : Type} {g : Operand} {ps : Array Tmp} {assign body : Code} {Q : Exit → Act → World → Prop} {a : Act} {w : World} {n₀ : Nat} {X : Nat → Prop}
  {gf : Nat} {lb : Array Value} (hg : a.eval g = .func (.func gf) #[] lb) (eg : ∀ args w, (callFunc gf args).run P w = .ok (.enter gf args) w)
  {encs : α → Array Value} {S Sp : List α → Prop} {N : Nat} (hseq : SeqStopsK Fence.wide 8 P gf lb encs (KeepsBut n₀ X) S Sp N w) (hn : n₀ ≤ w.heap.size) (hps : ∀ x, (encs x).size = ps.size)
  (I : List α → World → Prop) (Ix : Code → List α → World → Prop) (hI : OwnFrom w.heap.size I) (hIx : ∀ c, OwnFrom w.heap.size (Ix c)) (h0 : I [] w) (a₁ : α → Act)
  (hassign : ∀ (l : Nat) (x : α) (W : World) (K : Act → World → Prop), K (a₁ x) W →
   assign.wpIn (Fence.wide.inRound l) (9 - 1 - 1) P (Exit.then K (fun _ _ _ => False)) { tmps := (ps.zip (encs x)).foldl (fun t (p, v) => t.setIfInBounds p v) a.tmps, defers := [] } W)
  (hbody : ∀ (l : Nat) (pre : List α) (x : α) (W : World), I pre W → pre.length < N → body.wpIn (Fence.wide.inRound l) (9 - 1 - 1) P (ownPostG w.heap.size (KeepsBut n₀ X) I Ix (pre ++ [x]) W) (a₁ x) W)
  (hdone : ∀ (D : Nat) (xs : List α) (W : World), w.heap.size ≤ D → S xs → I xs W → W.heap[D]? = some (.deferred (some [])) → Q .normal { a with defers := { target := .collected D, args := #[] } :: a.defers } W)
  (hstop : ∀ (D : Nat) (c : Code) (pre : List α) (W : World), w.heap.size ≤ D → Sp pre → Ix c pre W → W.heap[D]? = some (.deferred (some [])) → c.wp P Q { a with defers := { target := .collected D, args := #[] } :: a.defers } W) :
  (Code.rangeFunc g ps assign body).wp P Q a w :=
 wpIn_wide.1 (wpIn_rangeFunc_ownG (n := 9) rfl (by omega) hg trivial eg hseq KeepsBut.trans (KeepsBut.put hn) (Below.refl _ _) hps I Ix hI hIx h0 a₁ hassign hbody hdone
  (fun D c pre W h1 h2 h3 h4 => wpIn_wide.2 (hstop D c pre W h1 h2 h3 h4)))

def Marks (B : Nat) : List Deferred → World → Prop
 | [], _ => True
 | d :: ds, w => ∃ D, d = { target := .collected D, args := #[] } ∧ B ≤ D ∧ w.heap[D]? = some (.deferred (some [])) ∧ Marks B ds w ∧ ∀ d' ∈ ds, ∀ D', d' = { target := .collected D', args := #[] } → D' ≠ D
theorem Marks.lt {B : Nat} : ∀ {ds : List Deferred} {w : World}, Marks B ds w → ∀ d ∈ ds, ∀ D, d = { target := .collected D, args := #[] } → D < w.heap.size
 | d :: ds, w, ⟨D, e, _, h, hm, _⟩, d', hd, D', e' => by
  rcases List.mem_cons.1 hd with rfl | hd
  ·rw [e] at e'; cases e'; exact (Array.getElem?_eq_some_iff.1 h).1
  ·exact Marks.lt hm d' hd D' e'
theorem Marks.kept {B : Nat} : ∀ {ds : List Deferred} {w w' : World}, Marks B ds w → (∀ (D : Nat) (o : Obj), w.heap[D]? = some o → o.isCells = false → w'.heap[D]? = some o) → Marks B ds w'
 | [], _, _, _, _ => trivial
 | _ :: _, _, _, ⟨D, e, hB, h, hm, hn⟩, k => ⟨D, e, hB, k D _ h rfl, Marks.kept hm k, hn⟩
theorem Marks.cons {B : Nat} {ds : List Deferred} {w0 w : World} {D : Nat} (h : Marks B ds w) (h0 : Marks B ds w0) (hD : w0.heap.size ≤ D) (hB : B ≤ D) (hk : w.heap[D]? = some (.deferred (some []))) :
  Marks B ({ target := .collected D, args := #[] } :: ds) w :=
 ⟨D, rfl, hB, hk, h, fun d hd D' e => by have := h0.lt d hd D' e; omega⟩
theorem Marks.ge {B : Nat} : ∀ {ds : List Deferred} {w : World}, Marks B ds w → ∀ d ∈ ds, ∀ D, d = { target := .collected D, args := #[] } → B ≤ D ∧ w.heap[D]? = some (.deferred (some []))
 | d :: ds, w, ⟨D, e, hB, h, hm, _⟩, d', hd, D', e' => by
  rcases List.mem_cons.1 hd with rfl | hd
  ·rw [e] at e'; cases e'; exact ⟨hB, h⟩
  ·exact Marks.ge hm d' hd D' e'
theorem marks_own {β : Type} {B : Nat} {ds : List Deferred} {w : World} (h0 : Marks B ds w) {C : Nat} (hC : w.heap.size ≤ C) : OwnFrom C (fun (_ : β) W => Marks B ds W) := by
 intro _ W W' row hM hg hr
 have key : ∀ {ds : List Deferred}, Marks B ds w → Marks B ds W → Marks B ds W' := by
  intro ds
  induction ds with
  | nil => intro _ _; trivial
  | cons d ds ih =>
   rintro h0 ⟨D, e, hB, hk, hm, hn⟩
   have hlt := h0.lt d (List.mem_cons_self ..) D e
   refine ⟨D, e, hB, (hg.block D (Array.getElem?_eq_some_iff.1 hk).1 (fun er => ?_)).trans hk, ih ?_ hm, hn⟩
   ·have := (hr D er.symm).1; omega
   ·obtain ⟨D', _, _, _, h0', _⟩ := h0
    exact h0'
 exact key h0 hM
theorem Marks.leaves {fn : Func} {tmps : Array Value} {R : Ending → World → Prop} {B : Nat} : ∀ {ds : List Deferred} {w : World}, Marks B ds w → B ≤ w.heap.size →
  (∀ w', Below B w w' → (∀ (k : Nat) (o : Obj), w.heap[k]? = some o → o.isCells = true → w'.heap[k]? = some o) → LeavesIn Fence.wide 9 P fn tmps R [] .returning w') →
  LeavesInM Fence.wide 9 P fn tmps R ds .returning w
 | [], w, _, _, h => h w (Below.refl _ _) (fun _ _ e _ => e)
 | d :: ds, w, ⟨D, e, hB, hk, hm, hn⟩, hs, h => by
  subst e
  refine ⟨by simp, .inl ⟨D, _, rfl, run_takeDeferred hk, ?_⟩⟩
  refine Marks.leaves (B := B) (ds := ds) ?_ (by simpa using hs) ?_
  ·have key : ∀ {ds : List Deferred}, Marks B ds w → (∀ d' ∈ ds, ∀ D', d' = { target := .collected D', args := #[] } → D' ≠ D) → Marks B ds (w.putObj D (.deferred none)) := by
    intro ds
    induction ds with
    | nil => intro _ _; trivial
    | cons d ds ih =>
     rintro ⟨D', e, hB', hk', hm', hn'⟩ hne
     exact ⟨D', e, hB', (World.putObj_heap_other (hne d (List.mem_cons_self ..) D' e)).trans hk', ih hm' (fun d' hd => hne d' (List.mem_cons_of_mem _ hd)), hn'⟩
   exact key hm hn
  ·intro w' h1 h2
   have hb : Below B w (w.putObj D (.deferred none)) := (Below.refl B w).grown (grownBy_putObj' w D _) hs (fun k e => by cases e; exact hB)
   refine h w' (hb.trans h1) (fun k o ho hc => h2 k o ((World.putObj_heap_other (fun e => ?_)).trans ho) hc)
   subst e
   rw [hk] at ho
   cases ho
   cases hc
theorem ownsRow_cells {w w' : World} {B : Nat} {e : TypeId} {size : Nat} {v : Value} {k : Nat} {xs : List Value} (h : w.ownsRow B e size v k xs) (hk : ∀ (k : Nat) (o : Obj), w.heap[k]? = some o → o.isCells = true → w'.heap[k]? = some o) : w'.ownsRow B e size v k xs := by
 obtain ⟨h1, h2⟩ := h
 refine ⟨h1, ?_⟩
 rcases h2 with h2 | ⟨g, cap, cur, e1, e2, e3, e4⟩
 ·exact .inl h2
 ·exact .inr ⟨g, cap, cur, e1, e2, hk _ _ e3 rfl, e4⟩
end
end Go.Proofs.YtcfidimnbamnkaaGreat
