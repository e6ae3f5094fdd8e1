/-
 Layer 11: all points of a segment, in a row of their own (Points). Conditions: those written at each fact.
-/
import Derived.Test.YtcfidimnbamnkaaGreatSgV
import Derived.Test.YtcfidimnbamnkaaGreatSgO
import Derived.Test.YtcfidimnbamnkaaGreatNB
import Derived.RangeFuncNested
import Derived.Maps.AppendAt
import Derived.Maps.OwnIn
namespace Go.Proofs.YtcfidimnbamnkaaGreat.P11
open Go.RowKit Go.Shelf Go.Proofs.YtcfidimnbamnkaaGreat.P7
attribute [local go_sem] Oper.semAt_some

def flatP : List Pn → List Value
 | [] => []
 | p :: l => .int .i64 p.t :: .int .i64 p.v :: flatP l
theorem flatP_app : ∀ (l m : List Pn), flatP (l ++ m) = flatP l ++ flatP m
 | [], m => rfl
 | p :: l, m => by simp only [List.cons_append, flatP, flatP_app l m]
theorem flatP_length : ∀ (l : List Pn), (flatP l).length = l.length * 2
 | [] => rfl
 | p :: l => by simp only [flatP, List.length_cons, flatP_length l]; omega
theorem infoPoint : (Tryz.prog.info? 53).map (fun i => (i.zero, i.size, i.bytes)) = some (some (.agg #[.int .i64 0, .int .i64 0]), 2, 16) := by kernel_rfl
theorem wp_rangeH {P : Program} {α : Type} {g : Operand} {ps : Array Tmp} {assign body : Code} {Q : Exit → Act → World → Prop} {a : Act} {w : World} {X : World → Nat → Prop} {b : Nat} (hX : Hangs X b) (hXb : b < w.heap.size)
  {gf : Nat} {lb : Array Value} (hg : a.eval g = .func (.func gf) #[] lb) (eg : ∀ args w, (callFunc gf args).run P w = .ok (.enter gf args) w)
  {encs : α → Array Value} {S Sp : List α → Prop} {N : Nat} (hseq : SeqStopsK Fence.wide 8 P gf lb encs (KeepsC X) S Sp N w) (hps : ∀ x, (encs x).size = ps.size)
  (I : List α → World → Prop) (Ix : Code → List α → World → Prop) (hI : OwnFrom w.heap.size I) (hIx : ∀ c, OwnFrom w.heap.size (Ix c)) (h0 : I [] w) (Ax : α → Act → World → Prop) (hAx : ∀ x a', OwnFrom w.heap.size (fun (_ : Unit) W => Ax x a' W))
  (hassign : ∀ (l : Nat) (pre : List α) (x : α) (W : World) (K : Act → World → Prop), I pre W → (∀ a' W', KeepsFrom w.heap.size W W' → KeepsC X W W' → I pre W' → Ax x a' W' → K a' W') →
   assign.wpIn (Fence.wide.inRound l) (9 - 1 - 1) P (Exit.then K (fun _ _ _ => False)) { tmps := (ps.zip (encs x)).foldl (fun t (p, v) => t.setIfInBounds p v) a.tmps, defers := [] } W)
  (hbody : ∀ (l : Nat) (pre : List α) (x : α) (a' : Act) (W : World), I pre W → Ax x a' W → pre.length < N → body.wpIn (Fence.wide.inRound l) (9 - 1 - 1) P (ownPostG w.heap.size (KeepsC X) I Ix (pre ++ [x]) W) a' W)
  (hdone : ∀ (D : Nat) (xs : List α) (W : World), w.heap.size ≤ D → S xs → I xs W → W.heap[D]? = some (.deferred (some [])) → Q .normal { a with defers := { target := .collected D, args := #[] } :: a.defers } W)
  (hstop : ∀ (D : Nat) (c : Code) (pre : List α) (W : World), w.heap.size ≤ D → Sp pre → Ix c pre W → W.heap[D]? = some (.deferred (some [])) → c.wp P Q { a with defers := { target := .collected D, args := #[] } :: a.defers } W) :
  (Code.rangeFunc g ps assign body).wp P Q a w :=
 wpIn_wide.1 (wpIn_rangeFunc_ownH (n := 9) rfl (by omega) hg trivial eg hseq KeepsC.trans (KeepsC.put hX hXb) (Below.refl _ _) hps I Ix hI hIx h0 Ax hAx hassign (fun l pre x a' W _ _ h1 h2 h3 => hbody l pre x a' W h1 h2 h3) hdone
  (fun D c pre W h1 h2 h3 h4 => wpIn_wide.2 (hstop D c pre W h1 h2 h3 h4)))
def PointAt (W : World) (B : Nat) (t v : Int) : Prop := W.heap[B]? = some (.cells #[.int .i64 t, .int .i64 v] 53 (0, 0))
theorem PointAt.cells {W : World} {B : Nat} {t v : Int} (h : PointAt W B t v) : W.cell? ⟨B, 0, none⟩ = some (.int .i64 t) ∧ W.cell? ⟨B, 1, none⟩ = some (.int .i64 v) ∧ B < W.heap.size := by
 have e : W.heap[B]? = _ := h
 exact ⟨by simp [World.cell?, e], by simp [World.cell?, e], (Array.getElem?_eq_some_iff.1 e).1⟩
theorem point_grown {W W' : World} {row : Option Nat} {B : Nat} {t v : Int} (h : PointAt W B t v) (hgr : W.grownBy W' row) (hr : ∀ r, row = some r → ∃ o : Obj, W.heap[r]? = some o ∧ o.isCells = false) : PointAt W' B t v := cells_kept hgr hr h rfl
theorem new_cells2 {W : World} {a b : Value} {t : TypeId} {n : Nat} (hn : n = W.heap.size) : ∀ (j : Nat) (u : Value), [a, b][j]? = some u → (W.alloc (.cells #[a, b] t)).cell? ((⟨n, 0, none⟩ : Addr).add j) = some u := by
 subst hn
 intro j u h
 match j, h with
 | 0, h => cases h; simp [Addr.add, go_sem]
 | 1, h => cases h; simp [Addr.add, go_sem]
 | j + 2, h => simp at h
theorem pointsV_any (s : Sg) (v u : Value) (w : World) : Calls Tryz.prog 79 #[sgV s.k v s.a s.r s.n s.d u s.e] w fun e w' => e = .returned (.func (.func 131) #[] #[.pointer (some ⟨w.heap.size, 0, none⟩)]) ∧ w' = w.alloc (sgO 94 s.k v s.a s.r s.n s.d u s.e) := by
 have hmf := makes_func
 go_enter Tryz.func79, Tryz.ntmps79
 go_wp2_with fail
 go_ret
 exact ⟨rfl, rfl⟩
theorem own_slw {w : World} {B : Nat} {e : TypeId} {s n : Nat} {v : Value} {xs : List Value} (h : w.ownsRow B e s v n xs) : ∃ A m c, v = .slice A m c := by
 rcases h.2 with ⟨rfl, _⟩ | ⟨g, cap, cur, rfl, _⟩
 ·exact ⟨_, _, _, rfl⟩
 ·exact ⟨_, _, _, rfl⟩
end Go.Proofs.YtcfidimnbamnkaaGreat.P11
