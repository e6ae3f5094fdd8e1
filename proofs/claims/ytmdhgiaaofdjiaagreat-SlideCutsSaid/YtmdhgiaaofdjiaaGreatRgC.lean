/-
  Tools for ranges over functions whose bodies turn blocks that lay there; rows that grow within them. Conditions: those written at each fact.
-/
import Derived.Test.YtmdhgiaaofdjiaaGreatIter
import Derived.Test.YtmdhgiaaofdjiaaGreatKitX
import Derived.Test.YtmdhgiaaofdjiaaGreatRead
import Derived.Maps.AppendAt
import Derived.Maps.OwnIn
import Derived.Laws.Rows
import Derived.RangeFuncNested
namespace Go.Proofs.YtmdhgiaaofdjiaaGreat.P8
open Go.RowKit Go.Shelf
attribute [local go_sem] Oper.semAt_some

attribute [local go_sem] Oper.semAt_some

/-- Cells lie on, but in the blocks X; and X grows by new blocks alone. -/
def KeepsC (X : World → Nat → Prop) (W W' : World) : Prop :=
  W.heap.size ≤ W'.heap.size ∧ (∀ k, X W' k → X W k ∨ (W.heap.size ≤ k ∧ k < W'.heap.size)) ∧ ∀ (k : Nat) (o : Obj), W.heap[k]? = some o → o.isCells = true → ¬ X W k → W'.heap[k]? = some o

theorem KeepsC.trans {X : World → Nat → Prop} {A B C : World} (h : KeepsC X A B) (k : KeepsC X B C) : KeepsC X A C := by
  refine ⟨Nat.le_trans h.1 k.1, fun j hj => ?_, fun j o ho hc hx => ?_⟩
  · rcases k.2.1 j hj with h1 | h1
    · rcases h.2.1 j h1 with h2 | h2
      · exact .inl h2
      · exact .inr ⟨h2.1, Nat.lt_of_lt_of_le h2.2 k.1⟩
    · exact .inr ⟨Nat.le_trans h.1 h1.1, h1.2⟩
  · refine k.2.2 j o (h.2.2 j o ho hc hx) hc fun hx2 => ?_
    rcases h.2.1 j hx2 with h3 | h3
    · exact hx h3
    · have := (Array.getElem?_eq_some_iff.1 ho).1; omega

/-- X hangs on block b alone. -/
def Hangs (X : World → Nat → Prop) (b : Nat) : Prop := ∀ W W' k, W'.heap[b]? = W.heap[b]? → X W' k → X W k

theorem KeepsC.put {X : World → Nat → Prop} {b : Nat} (hX : Hangs X b) {w : World} (hb : b < w.heap.size) (W : World) (l : Nat) (o o' : Obj) (hl : w.heap.size ≤ l) (h : W.heap[l]? = some o) (hc : o.isCells = false) (_ : o.isWalk = false) : KeepsC X W (W.putObj l o') :=
  ⟨by simp, fun k hk => .inl (hX W _ k (World.putObj_heap_other (by omega)) hk), fun k o2 ho hc2 _ => (World.putObj_heap_other (fun e => by subst e; rw [h] at ho; cases ho; rw [hc] at hc2; cases hc2)).trans ho⟩

theorem KeepsC.of_below {X : World → Nat → Prop} {b : Nat} (hX : Hangs X b) {W W' : World} (hb : b < W.heap.size) (h : Below W.heap.size W W') : KeepsC X W W' :=
  ⟨h.size, fun k hk => .inl (hX W W' k (h.block b hb) hk), fun k _ ho _ _ => (h.block k (Array.getElem?_eq_some_iff.1 ho).1).trans ho⟩

/-- A range over a function whose body turns the blocks X. -/
theorem wp_rangeC {P : Program} {α : Type} {g : Operand} {ps : Array Tmp} {assign body : Code} {Q : Exit → Act → World → Prop} {a : Act} {w : World} {X : World → Nat → Prop} {b : Nat} (hX : Hangs X b) (hXb : b < w.heap.size)
    {gf : Nat} {lb : Array Value} (hg : a.eval g = .func (.func gf) #[] lb) (eg : ∀ args w, (callFunc gf args).run P w = .ok (.enter gf args) w)
    {encs : α → Array Value} {S Sp : List α → Prop} {N : Nat} (hseq : SeqStopsK Fence.wide 8 P gf lb encs (KeepsC X) S Sp N w) (hps : ∀ x, (encs x).size = ps.size)
    (I : List α → World → Prop) (Ix : Code → List α → World → Prop) (hI : OwnFrom w.heap.size I) (hIx : ∀ c, OwnFrom w.heap.size (Ix c)) (h0 : I [] w) (a₁ : α → Act)
    (hassign : ∀ (l : Nat) (x : α) (W : World) (K : Act → World → Prop), K (a₁ x) W →
      assign.wpIn (Fence.wide.inRound l) (9 - 1 - 1) P (Exit.then K (fun _ _ _ => False)) { tmps := (ps.zip (encs x)).foldl (fun t (p, v) => t.setIfInBounds p v) a.tmps, defers := [] } W)
    (hbody : ∀ (l : Nat) (pre : List α) (x : α) (W : World), I pre W → pre.length < N → body.wpIn (Fence.wide.inRound l) (9 - 1 - 1) P (ownPostG w.heap.size (KeepsC X) I Ix (pre ++ [x]) W) (a₁ x) W)
    (hdone : ∀ (D : Nat) (xs : List α) (W : World), w.heap.size ≤ D → S xs → I xs W → W.heap[D]? = some (.deferred (some [])) → Q .normal { a with defers := { target := .collected D, args := #[] } :: a.defers } W)
    (hstop : ∀ (D : Nat) (c : Code) (pre : List α) (W : World), w.heap.size ≤ D → Sp pre → Ix c pre W → W.heap[D]? = some (.deferred (some [])) → c.wp P Q { a with defers := { target := .collected D, args := #[] } :: a.defers } W) :
    (Code.rangeFunc g ps assign body).wp P Q a w :=
  wpIn_wide.1 (wpIn_rangeFunc_ownG (n := 9) rfl (by omega) hg trivial eg hseq KeepsC.trans (KeepsC.put hX hXb) (Below.refl _ _) hps I Ix hI hIx h0 a₁ hassign hbody hdone
    (fun D c pre W h1 h2 h3 h4 => wpIn_wide.2 (hstop D c pre W h1 h2 h3 h4)))

theorem abides_below {β : Type} {B : Nat} {J : β → World → Prop} (hJ : AbidesFrom B J) {s : β} {W W' : World} (h : J s W) (hb : Below W.heap.size W W') : J s W' :=
  hJ s W W' none h ⟨hb.os, hb.tape, hb.output, hb.size, fun k hk _ => hb.block k hk⟩ (fun _ e => by cases e)

theorem cells_kept {W W' : World} {row : Option Nat} (hgr : W.grownBy W' row) (hr : ∀ r, row = some r → ∃ o : Obj, W.heap[r]? = some o ∧ o.isCells = false) {k : Nat} {o : Obj} (ho : W.heap[k]? = some o) (hc : o.isCells = true) : W'.heap[k]? = some o :=
  (hgr.block k (Array.getElem?_eq_some_iff.1 ho).1 (fun e => by
    obtain ⟨o2, h2, h3⟩ := hr k e.symm
    rw [ho] at h2; cases h2; rw [hc] at h3; cases h3)).trans ho

theorem own_block {v : Value} (k off : Nat) (s : Option _) (n c : Nat) (h : v = .slice (some ⟨k, off, s⟩) n c) : v.ownBlock = some k := by subst h; rfl

attribute [local go_sem] Oper.semAt_some

/-- The blocks that a row of a variable's own may turn. -/
def XT (g : Nat) (W : World) (k : Nat) : Prop := k = g ∨ ∃ off n c s, W.cell? ⟨g, 0, none⟩ = some (.slice (some ⟨k, off, s⟩) n c)

theorem XT_hangs (g : Nat) : Hangs (XT g) g := by
  intro W W' k h hx
  rcases hx with rfl | ⟨off, n, c, s, e⟩
  · exact .inl rfl
  · exact .inr ⟨off, n, c, s, by rw [← e]; exact (World.cell?_of_block (w := W) h).symm⟩

/-- A row grows, and its variable. -/
theorem row_step {B g : Nat} {W W5 W8 : World} {t e : TypeId} {size n m : Nat} {v v8 : Value} {xs ys : List Value} (hte : t ≠ e) (h : Boxed W g t v) (hB : B ≤ g) (hBW : B ≤ W.heap.size) (hb : Below W.heap.size W W5) (hown : W.ownsRow B e size v n xs)
    (hg : W5.grownBy W8 v.ownBlock) (h8 : v8.ownBlock = v.ownBlock ∨ v8.ownBlock = some W5.heap.size) (hown8 : W8.ownsRow B e size v8 m ys) :
    Below B W (W8.setCell ⟨g, 0, none⟩ v8) ∧ KeepsOthers W (W8.setCell ⟨g, 0, none⟩ v8) ∧ KeepsC (XT g) W (W8.setCell ⟨g, 0, none⟩ v8) ∧ Boxed (W8.setCell ⟨g, 0, none⟩ v8) g t v8 ∧ (W8.setCell ⟨g, 0, none⟩ v8).ownsRow B e size v8 m ys := by
  have hgl := h.lt
  have hg5 : Boxed W5 g t v := (hb.block g hgl).trans h
  have hne : v.ownBlock ≠ some g := fun e2 => (Boxed.not_row h hte hown) e2.symm
  have hg8 : Boxed W8 g t v := (hg.block g hg5.lt (fun e2 => hne e2.symm)).trans hg5
  have hs : (W8.setCell ⟨g, 0, none⟩ v8).heap.size = W8.heap.size := by simp [World.setCell]
  have hG : Boxed (W8.setCell ⟨g, 0, none⟩ v8) g t v8 := hg8.set v8
  have hlow : ∀ k, v.ownBlock = some k → B ≤ k ∧ k < W.heap.size := hown.lt
  have hform : ∀ k, v.ownBlock = some k → (∃ off n c s, v = .slice (some ⟨k, off, s⟩) n c) ∧ ∃ cur t f, W.heap[k]? = some (.cells cur t f) := by
    intro k hk
    rcases hown.2 with ⟨rfl, _⟩ | ⟨g', cap, cur, rfl, _, e3, _⟩
    · simp [Value.ownBlock] at hk
    · simp [Value.ownBlock] at hk
      subst hk
      exact ⟨⟨0, _, _, none, rfl⟩, _, _, _, e3⟩
  have hcell : ∀ k, v.ownBlock = some k → XT g W k := by
    intro k hk
    obtain ⟨⟨off, n, c, s, e1⟩, _⟩ := hform k hk
    exact .inr ⟨off, n, c, s, by rw [h.cell, e1]⟩
  have hkeep : ∀ (k : Nat) (o' : Obj), W.heap[k]? = some o' → k ≠ g → v.ownBlock ≠ some k → (W8.setCell ⟨g, 0, none⟩ v8).heap[k]? = some o' := by
    intro k o' ho h1 h2
    have hk := (Array.getElem?_eq_some_iff.1 ho).1
    exact (Below.heap_setCell W8 ⟨g, 0, none⟩ v8 k h1).trans ((hg.block k (Nat.lt_of_lt_of_le hk hb.size) (fun e => h2 e.symm)).trans ((hb.block k hk).trans ho))
  refine ⟨?_, ⟨by rw [hs]; exact Nat.le_trans hb.size hg.size, ?_⟩, ⟨by rw [hs]; exact Nat.le_trans hb.size hg.size, ?_, ?_⟩, hG, ?_⟩
  · refine Below.setCell (p := ⟨g, 0, none⟩) ?_ hB _
    exact ((hb.mono hBW)).grown hg (Nat.le_trans hBW hb.size) (fun k e => (hlow k e).1)
  · intro k o' ho hc
    refine hkeep k o' ho (fun e => ?_) (fun e => ?_)
    · subst e; rw [show W.heap[k]? = _ from h] at ho; cases ho; cases hc
    · obtain ⟨_, cur, t, f, e3⟩ := hform k e
      rw [e3] at ho; cases ho; cases hc
  · intro k hk
    rcases hk with rfl | ⟨off, n, c, s, e⟩
    · exact .inl (.inl rfl)
    · rw [hG.cell] at e
      have hk8 := own_block k off s n c (Option.some.inj e)
      rcases h8 with h8 | h8
      · rw [h8] at hk8
        exact .inl (hcell k hk8)
      · have hl := (hown8.lt k hk8).2
        rw [h8] at hk8
        cases hk8
        exact .inr ⟨hb.size, by rw [hs]; exact hl⟩
  · intro k o' ho _ hx
    exact hkeep k o' ho (fun e => hx (.inl e)) (fun e => hx (hcell k e))
  · refine ⟨hown8.1, ?_⟩
    rcases hown8.2 with h2 | ⟨g', cap, cur, e1, e2, e3, e4⟩
    · exact .inl h2
    · refine .inr ⟨g', cap, cur, e1, e2, (Below.heap_setCell W8 ⟨g, 0, none⟩ v8 g' (fun e => ?_)).trans e3, e4⟩
      replace e : g' = g := e
      subst e
      rw [show W8.heap[g']? = _ from hg8] at e3
      cases e3
      exact hte rfl

theorem owns_kept {W W' : World} {row : Option Nat} {B : Nat} {e : TypeId} {size n : Nat} {v : Value} {xs : List Value} (h : W.ownsRow B e size v n xs) (hgr : W.grownBy W' row) (hr : ∀ r, row = some r → ∃ o : Obj, W.heap[r]? = some o ∧ o.isCells = false) : W'.ownsRow B e size v n xs := by
  refine ⟨h.1, ?_⟩
  rcases h.2 with h3 | ⟨g', cap, cur, e1, e2, e3, e4⟩
  · exact .inl h3
  · exact .inr ⟨g', cap, cur, e1, e2, cells_kept hgr hr e3 rfl, e4⟩

theorem below_grown {W0 W W' : World} {row : Option Nat} {C : Nat} (hC : W0.heap.size ≤ C) (h : Below W0.heap.size W0 W) (hgr : W.grownBy W' row) (hr : ∀ r, row = some r → C ≤ r) : Below W0.heap.size W0 W' :=
  h.grown hgr h.size (fun r e => by have := hr r e; omega)

theorem new_cells1 {W : World} {a : Value} {t : TypeId} {n : Nat} (hn : n = W.heap.size) : ∀ (j : Nat) (u : Value), [a][j]? = some u → (W.alloc (.cells #[a] t)).cell? ((⟨n, 0, none⟩ : Addr).add j) = some u := by
  subst hn
  intro j u h
  match j, h with
  | 0, h => cases h; simp [Addr.add, go_sem]
  | j + 1, h => simp at h

theorem boxed_grown {W W' : World} {row : Option Nat} {B : Nat} {t : TypeId} {v : Value} (h : Boxed W B t v) (hgr : W.grownBy W' row) (hr : ∀ r, row = some r → ∃ o : Obj, W.heap[r]? = some o ∧ o.isCells = false) : Boxed W' B t v := cells_kept hgr hr h rfl

def XN : World → Nat → Prop := fun _ _ => False

/-- .. and whose loop variables are laid in blocks of their own, each round. -/
theorem wp_rangeH {P : Program} {α : Type} {g : Operand} {ps : Array Tmp} {assign body : Code} {Q : Exit → Act → World → Prop} {a : Act} {w : World} {X : World → Nat → Prop} {b : Nat} (hX : Hangs X b) (hXb : b < w.heap.size)
    {gf : Nat} {lb : Array Value} (hg : a.eval g = .func (.func gf) #[] lb) (eg : ∀ args w, (callFunc gf args).run P w = .ok (.enter gf args) w)
    {encs : α → Array Value} {S Sp : List α → Prop} {N : Nat} (hseq : SeqStopsK Fence.wide 8 P gf lb encs (KeepsC X) S Sp N w) (hps : ∀ x, (encs x).size = ps.size)
    (I : List α → World → Prop) (Ix : Code → List α → World → Prop) (hI : OwnFrom w.heap.size I) (hIx : ∀ c, OwnFrom w.heap.size (Ix c)) (h0 : I [] w) (Ax : α → Act → World → Prop) (hAx : ∀ x a', OwnFrom w.heap.size (fun (_ : Unit) W => Ax x a' W))
    (hassign : ∀ (l : Nat) (pre : List α) (x : α) (W : World) (K : Act → World → Prop), I pre W → (∀ a' W', KeepsFrom w.heap.size W W' → KeepsC X W W' → I pre W' → Ax x a' W' → K a' W') →
      assign.wpIn (Fence.wide.inRound l) (9 - 1 - 1) P (Exit.then K (fun _ _ _ => False)) { tmps := (ps.zip (encs x)).foldl (fun t (p, v) => t.setIfInBounds p v) a.tmps, defers := [] } W)
    (hbody : ∀ (l : Nat) (pre : List α) (x : α) (a' : Act) (W : World), I pre W → Ax x a' W → pre.length < N → body.wpIn (Fence.wide.inRound l) (9 - 1 - 1) P (ownPostG w.heap.size (KeepsC X) I Ix (pre ++ [x]) W) a' W)
    (hdone : ∀ (D : Nat) (xs : List α) (W : World), w.heap.size ≤ D → S xs → I xs W → W.heap[D]? = some (.deferred (some [])) → Q .normal { a with defers := { target := .collected D, args := #[] } :: a.defers } W)
    (hstop : ∀ (D : Nat) (c : Code) (pre : List α) (W : World), w.heap.size ≤ D → Sp pre → Ix c pre W → W.heap[D]? = some (.deferred (some [])) → c.wp P Q { a with defers := { target := .collected D, args := #[] } :: a.defers } W) :
    (Code.rangeFunc g ps assign body).wp P Q a w :=
  wpIn_wide.1 (wpIn_rangeFunc_ownH (n := 9) rfl (by omega) hg trivial eg hseq KeepsC.trans (KeepsC.put hX hXb) (Below.refl _ _) hps I Ix hI hIx h0 Ax hAx hassign (fun l pre x a' W _ _ h1 h2 h3 => hbody l pre x a' W h1 h2 h3) hdone
    (fun D c pre W h1 h2 h3 h4 => wpIn_wide.2 (hstop D c pre W h1 h2 h3 h4)))
end Go.Proofs.YtmdhgiaaofdjiaaGreat.P8
