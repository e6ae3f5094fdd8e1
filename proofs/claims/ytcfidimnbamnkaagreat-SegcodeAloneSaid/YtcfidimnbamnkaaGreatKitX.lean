/-
 More tools for the walks of this seat: calls that write into one block that was there. Conditions: none beyond those written at each fact.
-/
import Derived.Test.YtcfidimnbamnkaaGreatKit
namespace Go.Proofs.YtcfidimnbamnkaaGreat
open Go.RowKit

structure Near (s : Nat) (w w' : World) : Prop where
 os : w'.os = w.os
 tape : w'.tape = w.tape
 output : w'.output = w.output
 size : w.heap.size ≤ w'.heap.size
 block : ∀ k, k < w.heap.size → k ≠ s → w'.heap[k]? = w.heap[k]?
def KeepsX (w : World) (s : Nat) (L : List (Nat × Nat × Value)) (W : World) : Prop := Near s w W ∧ Cells L W

theorem Near.refl (s : Nat) (w : World) : Near s w w := ⟨rfl, rfl, rfl, Nat.le_refl _, fun _ _ _ => rfl⟩
theorem Near.of {s : Nat} {w w' : World} (h : Below w.heap.size w w') : Near s w w' := ⟨h.os, h.tape, h.output, h.size, fun k hk _ => h.block k hk⟩
theorem Near.next {s : Nat} {w W w' : World} (h : Near s w W) (hb : Below W.heap.size W w') : Near s w w' :=
 ⟨hb.os.trans h.os, hb.tape.trans h.tape, hb.output.trans h.output, Nat.le_trans h.size hb.size, fun k hk hs => (hb.block k (Nat.lt_of_lt_of_le hk h.size)).trans (h.block k hk hs)⟩
theorem Near.set {s : Nat} {w W : World} (h : Near s w W) {p : Addr} (hp : p.block = s ∨ w.heap.size ≤ p.block) (u : Value) : Near s w (W.setCell p u) :=
 ⟨h.os, h.tape, h.output, by simpa [World.setCell] using h.size, fun k hk hs => by rw [Below.heap_setCell _ _ _ _ (by omega)]; exact h.block k hk hs⟩
theorem KeepsX.next {w W w' : World} {s : Nat} {L : List (Nat × Nat × Value)} (h : KeepsX w s L W) (hb : Below W.heap.size W w') : KeepsX w s L w' := ⟨h.1.next hb, h.2.next hb⟩
theorem KeepsX.alloc {w W : World} {s : Nat} {L : List (Nat × Nat × Value)} (h : KeepsX w s L W) (o : Obj) : KeepsX w s L (W.alloc o) := h.next (below_alloc W o)
theorem KeepsX.drew {w W : World} {s : Nat} {L : List (Nat × Nat × Value)} (h : KeepsX w s L W) : KeepsX w s L W.drew := h.next (Below.refl _ _).drew
theorem Cells.setOff {L : List (Nat × Nat × Value)} {W : World} (h : Cells L W) {p : Addr} (hs : p.spot = none) (hne : ∀ q ∈ L, q.1 ≠ p.block ∨ q.2.1 ≠ p.off) (u : Value) : Cells L (W.setCell p u) := by
 induction L with
 | nil => trivial
 | cons q l ih =>
  obtain ⟨b, o, v⟩ := q
  obtain ⟨⟨h1, h2, h3⟩, h4⟩ := h
  obtain ⟨pb, po, ps⟩ := p
  have hn := hne _ (List.mem_cons_self ..)
  simp only at hs hn
  subst hs
  refine ⟨⟨by simpa [World.setCell] using h1, ?_, ?_⟩, ih h4 fun q hq => hne q (List.mem_cons_of_mem _ hq)⟩
  ·have e : (⟨pb, po, none⟩ : Addr) ≠ ⟨b, o, none⟩ := by
    intro e
    have e1 : pb = b := congrArg Addr.block e
    have e2 : po = o := congrArg Addr.off e
    rcases hn with hn | hn
    ·exact hn e1.symm
    ·exact hn e2.symm
   exact (World.cell?_setCell_other W _ _ u e).trans h2
  ·simp only [World.frozen?_setCell]; exact h3
theorem KeepsX.set {w W : World} {s : Nat} {L : List (Nat × Nat × Value)} (h : KeepsX w s L W) {p : Addr} (hp : p.block = s ∨ w.heap.size ≤ p.block) (hs : p.spot = none) (hne : ∀ q ∈ L, q.1 ≠ p.block ∨ q.2.1 ≠ p.off) (u : Value) : KeepsX w s L (W.setCell p u) :=
 ⟨h.1.set hp u, h.2.setOff hs hne u⟩
theorem Cells.near {L : List (Nat × Nat × Value)} {s : Nat} {W w' : World} (h : Cells L W) (hn : Near s W w') (hne : ∀ q ∈ L, q.1 ≠ s) : Cells L w' := by
 induction L with
 | nil => trivial
 | cons q l ih =>
  obtain ⟨b, o, v⟩ := q
  obtain ⟨⟨h1, h2, h3⟩, h4⟩ := h
  have e := hn.block b h1 (hne _ (List.mem_cons_self ..))
  exact ⟨⟨Nat.lt_of_lt_of_le h1 hn.size, (World.cell?_of_block (w := W) e).trans h2, (World.frozen?_of_block (w := W) e).trans h3⟩, ih h4 fun q hq => hne q (List.mem_cons_of_mem _ hq)⟩
theorem Keeps.nextX {w W w' : World} {s : Nat} {L M : List (Nat × Nat × Value)} (h : Keeps w L W) (hx : KeepsX W s M w') (hs : w.heap.size ≤ s) (hne : ∀ q ∈ L, q.1 ≠ s) : Keeps w (L ++ M) w' :=
 ⟨⟨hx.1.os.trans h.1.os, hx.1.tape.trans h.1.tape, hx.1.output.trans h.1.output, Nat.le_trans h.1.size hx.1.size, fun k hk => (hx.1.block k (Nat.lt_of_lt_of_le hk h.1.size) (by omega)).trans (h.1.block k hk)⟩, (h.2.near hx.1 hne).app hx.2⟩
theorem region_keepsX {P : Program} {ops : Array Oper} {Q : Exit → Act → World → Prop} {id : Nat} {a : Act} {w0 w : World} {s : Nat} {L : List (Nat × Nat × Value)} (hm : P.follows .mixedOrders = true)
  (hk : KeepsX w0 s L w) (h : KeepsX w0 s L w.drew → wpAnyH P .any ops Q (KeepsX w0 s L) ops.size (Array.replicate ops.size false) a w.drew) : (Code.region id ops true).wp P Q a w :=
 wp_region_held_drew (S := KeepsX w0 s L) hm hk.drew h
theorem region_keepsB {P : Program} {ops : Array Oper} {Q : Exit → Act → World → Prop} {id : Nat} {a : Act} {w0 w : World} {L M : List (Nat × Nat × Value)} (hm : P.follows .mixedOrders = true)
  (hk : Keeps w0 L w) (ht : Keeps w0 M w) (h : Keeps w0 L w.drew → Keeps w0 M w.drew → wpAnyH P .any ops Q (Keeps w0 L) ops.size (Array.replicate ops.size false) a w.drew) : (Code.region id ops true).wp P Q a w :=
 wp_region_held_drew (S := Keeps w0 L) hm hk.drew (fun hk' => h hk' ht.drew)
theorem region_keepsXB {P : Program} {ops : Array Oper} {Q : Exit → Act → World → Prop} {id : Nat} {a : Act} {w0 w : World} {s : Nat} {L M : List (Nat × Nat × Value)} (hm : P.follows .mixedOrders = true)
  (hk : KeepsX w0 s L w) (ht : KeepsX w0 s M w) (h : KeepsX w0 s L w.drew → KeepsX w0 s M w.drew → wpAnyH P .any ops Q (KeepsX w0 s L) ops.size (Array.replicate ops.size false) a w.drew) : (Code.region id ops true).wp P Q a w :=
 wp_region_held_drew (S := KeepsX w0 s L) hm hk.drew (fun hk' => h hk' ht.drew)
def Wrote (w : World) (s : Nat) (v : Value) (L : List (Nat × Nat × Value)) (e : Ending) (w' : World) : Prop := e = .returned v ∧ KeepsX w s L w'
theorem KeepsX.app {w W : World} {s : Nat} {l m : List (Nat × Nat × Value)} (h : KeepsX w s l W) (k : KeepsX w s m W) : KeepsX w s (l ++ m) W := ⟨h.1, h.2.app k.2⟩
theorem newX2 {w W : World} {s : Nat} {L : List (Nat × Nat × Value)} {a b : Value} {t : TypeId} (h : KeepsX w s L (W.alloc (.cells #[a, b] t))) : KeepsX w s [(W.heap.size, 0, a), (W.heap.size, 1, b)] (W.alloc (.cells #[a, b] t)) :=
 ⟨h.1, ⟨by simp, by simp [go_sem], by simp [go_sem]⟩, ⟨by simp, by simp [go_sem], by simp [go_sem]⟩, trivial⟩
end Go.Proofs.YtcfidimnbamnkaaGreat
