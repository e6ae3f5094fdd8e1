/-
  Layer 6, the document's own answer to Sum: its first region, whose order is drawn (written by wip/tools/dp.py). Conditions: those written at each fact.
-/
import Derived.Test.YtnacdofidmgfmaaRxA
namespace Go.Proofs.Ytnacdofidmgfmaa
open Go.RowKit

/-- The operations of a function's region. -/
def findReg (n : Nat) : Code → Option (Array Oper)
  | .region i ops _ => if i == n then some ops else none
  | .seq a b => match findReg n a with | some o => some o | none => findReg n b
  | .cond _ a b => match findReg n a with | some o => some o | none => findReg n b
  | .block _ c => findReg n c
  | .loop c => findReg n c
  | _ => none
def regOps (f : Func) (n : Nat) : Array Oper := match f.body with | some c => (findReg n c).getD #[] | none => #[]
set_option maxRecDepth 100000 in
set_option maxHeartbeats 8000000 in
theorem dpSum {Q : Exit → Act → World → Prop} (hQp : ∀ (c : _) (a : Act) (d : Option Tmp) (v : Value) (w : World), Q (.panic c) (a.put d v) w → Q (.panic c) a w) (w0 : World) (pa pb r : Nat) (n a0 a1 b0 b1 m za zb : Int) (OB : Hid (∀ W, Calls Try.prog 34 #[wideV b0 b1] W (RetZ W zb))) (OA : Hid (∀ W, Calls Try.prog 34 #[wideV a0 a1] W (RetZ W za))) (OM : Hid (∀ W, Calls Try.prog 35 #[.int .i64 m] W (RetZ W m))) (W : World) (hS : Keeps w0 [(pa, 0, .int .i64 a0), (pa, 1, .int .u64 a1), (pb, 0, .int .i64 b0), (pb, 1, .int .u64 b1), (r, 0, .int .i64 0), (r, 1, .int .u64 0)] W)
    (hQ : ∀ (W' : World) (x1 : Bool) (A1 : Option Addr) (n1 : Nat) (c1 : Nat) (x3 : Bool) (A3 : Option Addr) (n3 : Nat) (c3 : Nat) (x5 : Bool) (A5 : Option Addr) (n5 : Nat) (c5 : Nat) (p6 : Nat) (p7 : Nat) (p8 : Nat), Keeps w0 [(pa, 0, .int .i64 a0), (pa, 1, .int .u64 a1), (pb, 0, .int .i64 b0), (pb, 1, .int .u64 b1), (r, 0, .int .i64 0), (r, 1, .int .u64 0)] W' → Keeps w0 [(p6, 0, .bool x1), (p6, 1, .slice A1 n1 c1)] W' → (∀ q ∈ ([(pa, 0, .int .i64 a0), (pa, 1, .int .u64 a1), (pb, 0, .int .i64 b0), (pb, 1, .int .u64 b1), (r, 0, .int .i64 0), (r, 1, .int .u64 0)] : List (Nat × Nat × Value)), q.1 ≠ p6) → w0.heap.size ≤ p6 → Keeps w0 [(p7, 0, .bool x3), (p7, 1, .slice A3 n3 c3)] W' → (∀ q ∈ ([(pa, 0, .int .i64 a0), (pa, 1, .int .u64 a1), (pb, 0, .int .i64 b0), (pb, 1, .int .u64 b1), (r, 0, .int .i64 0), (r, 1, .int .u64 0)] : List (Nat × Nat × Value)), q.1 ≠ p7) → w0.heap.size ≤ p7 → Keeps w0 [(p8, 0, .bool x5), (p8, 1, .slice A5 n5 c5)] W' → (∀ q ∈ ([(pa, 0, .int .i64 a0), (pa, 1, .int .u64 a1), (pb, 0, .int .i64 b0), (pb, 1, .int .u64 b1), (r, 0, .int .i64 0), (r, 1, .int .u64 0)] : List (Nat × Nat × Value)), q.1 ≠ p8) → w0.heap.size ≤ p8 → p6 ≠ p7 → p6 ≠ p8 → p7 ≠ p8 → NumZ W' (.agg #[.bool x1, .slice A1 n1 c1]) zb → NumZ W' (.agg #[.bool x3, .slice A3 n3 c3]) za → NumZ W' (.agg #[.bool x5, .slice A5 n5 c5]) m → Q .normal { tmps := #[.int .i64 n, wideV a0 a1, wideV b0 b1, .int .i64 m, undef, .pointer (some ⟨pa, 0, none⟩), .pointer (some ⟨pb, 0, none⟩), undef, .pointer (some ⟨r, 0, none⟩), .int .i64 0, .pointer (some ⟨p6, 0, none⟩), .pointer (some ⟨p7, 0, none⟩), .pointer (some ⟨p8, 0, none⟩), undef, undef, undef, undef, undef, undef, undef, undef, .agg #[.int .i64 b0, .int .u64 b1], .agg #[.bool x1, .slice A1 n1 c1], .agg #[.int .i64 a0, .int .u64 a1], .agg #[.bool x3, .slice A3 n3 c3], .int .i64 m, .agg #[.bool x5, .slice A5 n5 c5], undef, undef, undef, undef, undef, undef, undef, undef, undef, undef, undef, undef, undef, undef, undef, undef, undef, undef, undef, undef, undef, undef, undef, undef, undef, undef, undef, undef, undef, undef, undef], defers := [] } W') :
    (Code.region 1 (regOps Try.f15 1) true).wp Try.prog Q { tmps := #[.int .i64 n, wideV a0 a1, wideV b0 b1, .int .i64 m, undef, .pointer (some ⟨pa, 0, none⟩), .pointer (some ⟨pb, 0, none⟩), undef, .pointer (some ⟨r, 0, none⟩), .int .i64 0, undef, undef, undef, undef, undef, undef, undef, undef, undef, undef, undef, undef, undef, undef, undef, undef, undef, undef, undef, undef, undef, undef, undef, undef, undef, undef, undef, undef, undef, undef, undef, undef, undef, undef, undef, undef, undef, undef, undef, undef, undef, undef, undef, undef, undef, undef, undef, undef], defers := [] } W := by
  have G0 : ∀ (lst : Array Bool) (_ : lst = #[true, true, true, true, true, true, true, true, true, false, false, false]) (W : World) (x1 : Bool) (A1 : Option Addr) (n1 : Nat) (c1 : Nat) (x3 : Bool) (A3 : Option Addr) (n3 : Nat) (c3 : Nat) (x5 : Bool) (A5 : Option Addr) (n5 : Nat) (c5 : Nat) (p6 : Nat) (p7 : Nat) (p8 : Nat) (_ : Keeps w0 [(pa, 0, .int .i64 a0), (pa, 1, .int .u64 a1), (pb, 0, .int .i64 b0), (pb, 1, .int .u64 b1), (r, 0, .int .i64 0), (r, 1, .int .u64 0)] W) (_ : NumZ W (.agg #[.bool x1, .slice A1 n1 c1]) zb) (_ : NumZ W (.agg #[.bool x3, .slice A3 n3 c3]) za) (_ : NumZ W (.agg #[.bool x5, .slice A5 n5 c5]) m) (_ : Keeps w0 [(p6, 0, .bool false), (p6, 1, .slice none 0 0)] W) (_ : ∀ q ∈ ([(pa, 0, .int .i64 a0), (pa, 1, .int .u64 a1), (pb, 0, .int .i64 b0), (pb, 1, .int .u64 b1), (r, 0, .int .i64 0), (r, 1, .int .u64 0)] : List (Nat × Nat × Value)), q.1 ≠ p6) (_ : w0.heap.size ≤ p6) (_ : Keeps w0 [(p7, 0, .bool false), (p7, 1, .slice none 0 0)] W) (_ : ∀ q ∈ ([(pa, 0, .int .i64 a0), (pa, 1, .int .u64 a1), (pb, 0, .int .i64 b0), (pb, 1, .int .u64 b1), (r, 0, .int .i64 0), (r, 1, .int .u64 0)] : List (Nat × Nat × Value)), q.1 ≠ p7) (_ : w0.heap.size ≤ p7) (_ : Keeps w0 [(p8, 0, .bool false), (p8, 1, .slice none 0 0)] W) (_ : ∀ q ∈ ([(pa, 0, .int .i64 a0), (pa, 1, .int .u64 a1), (pb, 0, .int .i64 b0), (pb, 1, .int .u64 b1), (r, 0, .int .i64 0), (r, 1, .int .u64 0)] : List (Nat × Nat × Value)), q.1 ≠ p8) (_ : w0.heap.size ≤ p8) (_ : p6 ≠ p7) (_ : p6 ≠ p8) (_ : p7 ≠ p8), wpAnyH Try.prog .any (regOps Try.f15 1) Q (Keeps w0 [(pa, 0, .int .i64 a0), (pa, 1, .int .u64 a1), (pb, 0, .int .i64 b0), (pb, 1, .int .u64 b1), (r, 0, .int .i64 0), (r, 1, .int .u64 0)]) 3 lst { tmps := #[.int .i64 n, wideV a0 a1, wideV b0 b1, .int .i64 m, undef, .pointer (some ⟨pa, 0, none⟩), .pointer (some ⟨pb, 0, none⟩), undef, .pointer (some ⟨r, 0, none⟩), .int .i64 0, .pointer (some ⟨p6, 0, none⟩), .pointer (some ⟨p7, 0, none⟩), .pointer (some ⟨p8, 0, none⟩), undef, undef, undef, undef, undef, undef, undef, undef, .agg #[.int .i64 b0, .int .u64 b1], .agg #[.bool x1, .slice A1 n1 c1], .agg #[.int .i64 a0, .int .u64 a1], .agg #[.bool x3, .slice A3 n3 c3], .int .i64 m, .agg #[.bool x5, .slice A5 n5 c5], undef, undef, undef, undef, undef, undef, undef, undef, undef, undef, undef, undef, undef, undef, undef, undef, undef, undef, undef, undef, undef, undef, undef, undef, undef, undef, undef, undef, undef, undef, undef], defers := [] } W := by
    rintro lst rfl W x1 A1 n1 c1 x3 A3 n3 c3 x5 A5 n5 c5 p6 p7 p8 hS z1_0 z3_0 z5_0 k6 d6 l6 k7 d7 l7 k8 d8 l8 e6_7 e6_8 e7_8
    refine wpAnyH_ready (rs := [9]) (by kernel_rfl) (by simp) ?_
    refine AllReadyH.cons (o := ⟨none, _, _, _, _, _⟩) rfl (fun K hK => ?_) AllReadyH.nil
    obtain ⟨⟨tz0, tc0, tf0⟩, ⟨tz1, tc1, tf1⟩, _⟩ := k6.2
    go_simp
    refine hK.out _ _ ((hS.set (p := ⟨p6, 0, none⟩) l6 d6 _).set (p := ⟨p6, 1, none⟩) l6 d6 _) (fun hS2 => ?_)
    clear hK K
    replace z1_0 := z1_0.store2 hS2 tc0 tc1
    replace z3_0 := z3_0.store2 hS2 tc0 tc1
    replace z5_0 := z5_0.store2 hS2 tc0 tc1
    replace k7 := k7.mv2 hS2 l6 (by simp; first | exact e6_7 | exact Ne.symm e6_7)
    replace k8 := k8.mv2 hS2 l6 (by simp; first | exact e6_8 | exact Ne.symm e6_8)
    replace k6 := k6.put2 l6 (.bool x1) (.slice A1 n1 c1)
    replace hS := hS2
    clear hS2 tz0 tc0 tf0 tz1 tc1 tf1
    refine wpAnyH_ready (rs := [10]) (by kernel_rfl) (by simp) ?_
    refine AllReadyH.cons (o := ⟨none, _, _, _, _, _⟩) rfl (fun K hK => ?_) AllReadyH.nil
    obtain ⟨⟨tz0, tc0, tf0⟩, ⟨tz1, tc1, tf1⟩, _⟩ := k7.2
    go_simp
    refine hK.out _ _ ((hS.set (p := ⟨p7, 0, none⟩) l7 d7 _).set (p := ⟨p7, 1, none⟩) l7 d7 _) (fun hS2 => ?_)
    clear hK K
    replace z1_0 := z1_0.store2 hS2 tc0 tc1
    replace z3_0 := z3_0.store2 hS2 tc0 tc1
    replace z5_0 := z5_0.store2 hS2 tc0 tc1
    replace k6 := k6.mv2 hS2 l7 (by simp; first | exact e6_7 | exact Ne.symm e6_7)
    replace k8 := k8.mv2 hS2 l7 (by simp; first | exact e7_8 | exact Ne.symm e7_8)
    replace k7 := k7.put2 l7 (.bool x3) (.slice A3 n3 c3)
    replace hS := hS2
    clear hS2 tz0 tc0 tf0 tz1 tc1 tf1
    refine wpAnyH_ready (rs := [11]) (by kernel_rfl) (by simp) ?_
    refine AllReadyH.cons (o := ⟨none, _, _, _, _, _⟩) rfl (fun K hK => ?_) AllReadyH.nil
    obtain ⟨⟨tz0, tc0, tf0⟩, ⟨tz1, tc1, tf1⟩, _⟩ := k8.2
    go_simp
    refine hK.out _ _ ((hS.set (p := ⟨p8, 0, none⟩) l8 d8 _).set (p := ⟨p8, 1, none⟩) l8 d8 _) (fun hS2 => ?_)
    clear hK K
    replace z1_0 := z1_0.store2 hS2 tc0 tc1
    replace z3_0 := z3_0.store2 hS2 tc0 tc1
    replace z5_0 := z5_0.store2 hS2 tc0 tc1
    replace k6 := k6.mv2 hS2 l8 (by simp; first | exact e6_8 | exact Ne.symm e6_8)
    replace k7 := k7.mv2 hS2 l8 (by simp; first | exact e7_8 | exact Ne.symm e7_8)
    replace k8 := k8.put2 l8 (.bool x5) (.slice A5 n5 c5)
    replace hS := hS2
    clear hS2 tz0 tc0 tf0 tz1 tc1 tf1
    refine wpAnyH_done (by kernel_rfl) ?_ _
    exact hQ _ _ _ _ _ _ _ _ _ _ _ _ _ _ _ _ hS k6 d6 l6 k7 d7 l7 k8 d8 l8 e6_7 e6_8 e7_8 z1_0 z3_0 z5_0
  have G1 : ∀ (lst : Array Bool) (_ : lst = #[true, true, true, true, true, true, true, true, false, false, false, false]) (W : World) (x1 : Bool) (A1 : Option Addr) (n1 : Nat) (c1 : Nat) (x3 : Bool) (A3 : Option Addr) (n3 : Nat) (c3 : Nat) (x5 : Bool) (A5 : Option Addr) (n5 : Nat) (c5 : Nat) (p6 : Nat) (p7 : Nat) (_ : Keeps w0 [(pa, 0, .int .i64 a0), (pa, 1, .int .u64 a1), (pb, 0, .int .i64 b0), (pb, 1, .int .u64 b1), (r, 0, .int .i64 0), (r, 1, .int .u64 0)] W) (_ : NumZ W (.agg #[.bool x1, .slice A1 n1 c1]) zb) (_ : NumZ W (.agg #[.bool x3, .slice A3 n3 c3]) za) (_ : NumZ W (.agg #[.bool x5, .slice A5 n5 c5]) m) (_ : Keeps w0 [(p6, 0, .bool false), (p6, 1, .slice none 0 0)] W) (_ : ∀ q ∈ ([(pa, 0, .int .i64 a0), (pa, 1, .int .u64 a1), (pb, 0, .int .i64 b0), (pb, 1, .int .u64 b1), (r, 0, .int .i64 0), (r, 1, .int .u64 0)] : List (Nat × Nat × Value)), q.1 ≠ p6) (_ : w0.heap.size ≤ p6) (_ : Keeps w0 [(p7, 0, .bool false), (p7, 1, .slice none 0 0)] W) (_ : ∀ q ∈ ([(pa, 0, .int .i64 a0), (pa, 1, .int .u64 a1), (pb, 0, .int .i64 b0), (pb, 1, .int .u64 b1), (r, 0, .int .i64 0), (r, 1, .int .u64 0)] : List (Nat × Nat × Value)), q.1 ≠ p7) (_ : w0.heap.size ≤ p7) (_ : p6 ≠ p7), wpAnyH Try.prog .any (regOps Try.f15 1) Q (Keeps w0 [(pa, 0, .int .i64 a0), (pa, 1, .int .u64 a1), (pb, 0, .int .i64 b0), (pb, 1, .int .u64 b1), (r, 0, .int .i64 0), (r, 1, .int .u64 0)]) 4 lst { tmps := #[.int .i64 n, wideV a0 a1, wideV b0 b1, .int .i64 m, undef, .pointer (some ⟨pa, 0, none⟩), .pointer (some ⟨pb, 0, none⟩), undef, .pointer (some ⟨r, 0, none⟩), .int .i64 0, .pointer (some ⟨p6, 0, none⟩), .pointer (some ⟨p7, 0, none⟩), undef, undef, undef, undef, undef, undef, undef, undef, undef, .agg #[.int .i64 b0, .int .u64 b1], .agg #[.bool x1, .slice A1 n1 c1], .agg #[.int .i64 a0, .int .u64 a1], .agg #[.bool x3, .slice A3 n3 c3], .int .i64 m, .agg #[.bool x5, .slice A5 n5 c5], undef, undef, undef, undef, undef, undef, undef, undef, undef, undef, undef, undef, undef, undef, undef, undef, undef, undef, undef, undef, undef, undef, undef, undef, undef, undef, undef, undef, undef, undef, undef], defers := [] } W := by
    rintro lst rfl W x1 A1 n1 c1 x3 A3 n3 c3 x5 A5 n5 c5 p6 p7 hS z1_0 z3_0 z5_0 k6 d6 l6 k7 d7 l7 e6_7
    refine wpAnyH_ready (rs := [8]) (by kernel_rfl) (by simp) ?_
    refine AllReadyH.cons (o := ⟨some 12, _, _, _, _, _⟩) rfl (fun K hK => ?_) ?_
    · go_simp
      have kd := hS.2.ne
      have kl := hS.1.size
      refine hK.out _ _ (by first | exact hS.alloc _ | exact (hS.alloc _).drew) (fun hS2 => ?_)
      clear hK K
      try simp only [List.setIfInBounds_toArray, List.set_cons_zero, List.set_cons_succ]
      exact G0 _ (by kernel_rfl) _ _ _ _ _ _ _ _ _ _ _ _ _ _ _ _ hS2 (z1_0.below (below_alloc _ _)) (z3_0.below (below_alloc _ _)) (z5_0.below (below_alloc _ _)) (k6.alloc _) d6 l6 (k7.alloc _) d7 l7 (newK2 hS2) kd kl e6_7 (Nat.ne_of_lt k6.2.1.1) (Nat.ne_of_lt k7.2.1.1)
    exact AllReadyH.nil
  have G2 : ∀ (lst : Array Bool) (_ : lst = #[true, true, true, true, true, true, true, false, true, false, false, false]) (W : World) (x1 : Bool) (A1 : Option Addr) (n1 : Nat) (c1 : Nat) (x3 : Bool) (A3 : Option Addr) (n3 : Nat) (c3 : Nat) (x5 : Bool) (A5 : Option Addr) (n5 : Nat) (c5 : Nat) (p6 : Nat) (p8 : Nat) (_ : Keeps w0 [(pa, 0, .int .i64 a0), (pa, 1, .int .u64 a1), (pb, 0, .int .i64 b0), (pb, 1, .int .u64 b1), (r, 0, .int .i64 0), (r, 1, .int .u64 0)] W) (_ : NumZ W (.agg #[.bool x1, .slice A1 n1 c1]) zb) (_ : NumZ W (.agg #[.bool x3, .slice A3 n3 c3]) za) (_ : NumZ W (.agg #[.bool x5, .slice A5 n5 c5]) m) (_ : Keeps w0 [(p6, 0, .bool false), (p6, 1, .slice none 0 0)] W) (_ : ∀ q ∈ ([(pa, 0, .int .i64 a0), (pa, 1, .int .u64 a1), (pb, 0, .int .i64 b0), (pb, 1, .int .u64 b1), (r, 0, .int .i64 0), (r, 1, .int .u64 0)] : List (Nat × Nat × Value)), q.1 ≠ p6) (_ : w0.heap.size ≤ p6) (_ : Keeps w0 [(p8, 0, .bool false), (p8, 1, .slice none 0 0)] W) (_ : ∀ q ∈ ([(pa, 0, .int .i64 a0), (pa, 1, .int .u64 a1), (pb, 0, .int .i64 b0), (pb, 1, .int .u64 b1), (r, 0, .int .i64 0), (r, 1, .int .u64 0)] : List (Nat × Nat × Value)), q.1 ≠ p8) (_ : w0.heap.size ≤ p8) (_ : p6 ≠ p8), wpAnyH Try.prog .any (regOps Try.f15 1) Q (Keeps w0 [(pa, 0, .int .i64 a0), (pa, 1, .int .u64 a1), (pb, 0, .int .i64 b0), (pb, 1, .int .u64 b1), (r, 0, .int .i64 0), (r, 1, .int .u64 0)]) 4 lst { tmps := #[.int .i64 n, wideV a0 a1, wideV b0 b1, .int .i64 m, undef, .pointer (some ⟨pa, 0, none⟩), .pointer (some ⟨pb, 0, none⟩), undef, .pointer (some ⟨r, 0, none⟩), .int .i64 0, .pointer (some ⟨p6, 0, none⟩), undef, .pointer (some ⟨p8, 0, none⟩), undef, undef, undef, undef, undef, undef, undef, undef, .agg #[.int .i64 b0, .int .u64 b1], .agg #[.bool x1, .slice A1 n1 c1], .agg #[.int .i64 a0, .int .u64 a1], .agg #[.bool x3, .slice A3 n3 c3], .int .i64 m, .agg #[.bool x5, .slice A5 n5 c5], undef, undef, undef, undef, undef, undef, undef, undef, undef, undef, undef, undef, undef, undef, undef, undef, undef, undef, undef, undef, undef, undef, undef, undef, undef, undef, undef, undef, undef, undef, undef], defers := [] } W := by
    rintro lst rfl W x1 A1 n1 c1 x3 A3 n3 c3 x5 A5 n5 c5 p6 p8 hS z1_0 z3_0 z5_0 k6 d6 l6 k8 d8 l8 e6_8
    refine wpAnyH_ready (rs := [7]) (by kernel_rfl) (by simp) ?_
    refine AllReadyH.cons (o := ⟨some 11, _, _, _, _, _⟩) rfl (fun K hK => ?_) ?_
    · go_simp
      have kd := hS.2.ne
      have kl := hS.1.size
      refine hK.out _ _ (by first | exact hS.alloc _ | exact (hS.alloc _).drew) (fun hS2 => ?_)
      clear hK K
      try simp only [List.setIfInBounds_toArray, List.set_cons_zero, List.set_cons_succ]
      exact G0 _ (by kernel_rfl) _ _ _ _ _ _ _ _ _ _ _ _ _ _ _ _ hS2 (z1_0.below (below_alloc _ _)) (z3_0.below (below_alloc _ _)) (z5_0.below (below_alloc _ _)) (k6.alloc _) d6 l6 (newK2 hS2) kd kl (k8.alloc _) d8 l8 (Nat.ne_of_lt k6.2.1.1) e6_8 (Nat.ne_of_gt k8.2.1.1)
    exact AllReadyH.nil
  have G3 : ∀ (lst : Array Bool) (_ : lst = #[true, true, true, true, true, true, false, true, true, false, false, false]) (W : World) (x1 : Bool) (A1 : Option Addr) (n1 : Nat) (c1 : Nat) (x3 : Bool) (A3 : Option Addr) (n3 : Nat) (c3 : Nat) (x5 : Bool) (A5 : Option Addr) (n5 : Nat) (c5 : Nat) (p7 : Nat) (p8 : Nat) (_ : Keeps w0 [(pa, 0, .int .i64 a0), (pa, 1, .int .u64 a1), (pb, 0, .int .i64 b0), (pb, 1, .int .u64 b1), (r, 0, .int .i64 0), (r, 1, .int .u64 0)] W) (_ : NumZ W (.agg #[.bool x1, .slice A1 n1 c1]) zb) (_ : NumZ W (.agg #[.bool x3, .slice A3 n3 c3]) za) (_ : NumZ W (.agg #[.bool x5, .slice A5 n5 c5]) m) (_ : Keeps w0 [(p7, 0, .bool false), (p7, 1, .slice none 0 0)] W) (_ : ∀ q ∈ ([(pa, 0, .int .i64 a0), (pa, 1, .int .u64 a1), (pb, 0, .int .i64 b0), (pb, 1, .int .u64 b1), (r, 0, .int .i64 0), (r, 1, .int .u64 0)] : List (Nat × Nat × Value)), q.1 ≠ p7) (_ : w0.heap.size ≤ p7) (_ : Keeps w0 [(p8, 0, .bool false), (p8, 1, .slice none 0 0)] W) (_ : ∀ q ∈ ([(pa, 0, .int .i64 a0), (pa, 1, .int .u64 a1), (pb, 0, .int .i64 b0), (pb, 1, .int .u64 b1), (r, 0, .int .i64 0), (r, 1, .int .u64 0)] : List (Nat × Nat × Value)), q.1 ≠ p8) (_ : w0.heap.size ≤ p8) (_ : p7 ≠ p8), wpAnyH Try.prog .any (regOps Try.f15 1) Q (Keeps w0 [(pa, 0, .int .i64 a0), (pa, 1, .int .u64 a1), (pb, 0, .int .i64 b0), (pb, 1, .int .u64 b1), (r, 0, .int .i64 0), (r, 1, .int .u64 0)]) 4 lst { tmps := #[.int .i64 n, wideV a0 a1, wideV b0 b1, .int .i64 m, undef, .pointer (some ⟨pa, 0, none⟩), .pointer (some ⟨pb, 0, none⟩), undef, .pointer (some ⟨r, 0, none⟩), .int .i64 0, undef, .pointer (some ⟨p7, 0, none⟩), .pointer (some ⟨p8, 0, none⟩), undef, undef, undef, undef, undef, undef, undef, undef, .agg #[.int .i64 b0, .int .u64 b1], .agg #[.bool x1, .slice A1 n1 c1], .agg #[.int .i64 a0, .int .u64 a1], .agg #[.bool x3, .slice A3 n3 c3], .int .i64 m, .agg #[.bool x5, .slice A5 n5 c5], undef, undef, undef, undef, undef, undef, undef, undef, undef, undef, undef, undef, undef, undef, undef, undef, undef, undef, undef, undef, undef, undef, undef, undef, undef, undef, undef, undef, undef, undef, undef], defers := [] } W := by
    rintro lst rfl W x1 A1 n1 c1 x3 A3 n3 c3 x5 A5 n5 c5 p7 p8 hS z1_0 z3_0 z5_0 k7 d7 l7 k8 d8 l8 e7_8
    refine wpAnyH_ready (rs := [6]) (by kernel_rfl) (by simp) ?_
    refine AllReadyH.cons (o := ⟨some 10, _, _, _, _, _⟩) rfl (fun K hK => ?_) ?_
    · go_simp
      have kd := hS.2.ne
      have kl := hS.1.size
      refine hK.out _ _ (by first | exact hS.alloc _ | exact (hS.alloc _).drew) (fun hS2 => ?_)
      clear hK K
      try simp only [List.setIfInBounds_toArray, List.set_cons_zero, List.set_cons_succ]
      exact G0 _ (by kernel_rfl) _ _ _ _ _ _ _ _ _ _ _ _ _ _ _ _ hS2 (z1_0.below (below_alloc _ _)) (z3_0.below (below_alloc _ _)) (z5_0.below (below_alloc _ _)) (newK2 hS2) kd kl (k7.alloc _) d7 l7 (k8.alloc _) d8 l8 (Nat.ne_of_gt k7.2.1.1) (Nat.ne_of_gt k8.2.1.1) e7_8
    exact AllReadyH.nil
  have G4 : ∀ (lst : Array Bool) (_ : lst = #[true, true, true, true, true, false, true, true, true, false, false, false]) (W : World) (x1 : Bool) (A1 : Option Addr) (n1 : Nat) (c1 : Nat) (x3 : Bool) (A3 : Option Addr) (n3 : Nat) (c3 : Nat) (p6 : Nat) (p7 : Nat) (p8 : Nat) (_ : Keeps w0 [(pa, 0, .int .i64 a0), (pa, 1, .int .u64 a1), (pb, 0, .int .i64 b0), (pb, 1, .int .u64 b1), (r, 0, .int .i64 0), (r, 1, .int .u64 0)] W) (_ : NumZ W (.agg #[.bool x1, .slice A1 n1 c1]) zb) (_ : NumZ W (.agg #[.bool x3, .slice A3 n3 c3]) za) (_ : Keeps w0 [(p6, 0, .bool false), (p6, 1, .slice none 0 0)] W) (_ : ∀ q ∈ ([(pa, 0, .int .i64 a0), (pa, 1, .int .u64 a1), (pb, 0, .int .i64 b0), (pb, 1, .int .u64 b1), (r, 0, .int .i64 0), (r, 1, .int .u64 0)] : List (Nat × Nat × Value)), q.1 ≠ p6) (_ : w0.heap.size ≤ p6) (_ : Keeps w0 [(p7, 0, .bool false), (p7, 1, .slice none 0 0)] W) (_ : ∀ q ∈ ([(pa, 0, .int .i64 a0), (pa, 1, .int .u64 a1), (pb, 0, .int .i64 b0), (pb, 1, .int .u64 b1), (r, 0, .int .i64 0), (r, 1, .int .u64 0)] : List (Nat × Nat × Value)), q.1 ≠ p7) (_ : w0.heap.size ≤ p7) (_ : Keeps w0 [(p8, 0, .bool false), (p8, 1, .slice none 0 0)] W) (_ : ∀ q ∈ ([(pa, 0, .int .i64 a0), (pa, 1, .int .u64 a1), (pb, 0, .int .i64 b0), (pb, 1, .int .u64 b1), (r, 0, .int .i64 0), (r, 1, .int .u64 0)] : List (Nat × Nat × Value)), q.1 ≠ p8) (_ : w0.heap.size ≤ p8) (_ : p6 ≠ p7) (_ : p6 ≠ p8) (_ : p7 ≠ p8), wpAnyH Try.prog .any (regOps Try.f15 1) Q (Keeps w0 [(pa, 0, .int .i64 a0), (pa, 1, .int .u64 a1), (pb, 0, .int .i64 b0), (pb, 1, .int .u64 b1), (r, 0, .int .i64 0), (r, 1, .int .u64 0)]) 4 lst { tmps := #[.int .i64 n, wideV a0 a1, wideV b0 b1, .int .i64 m, undef, .pointer (some ⟨pa, 0, none⟩), .pointer (some ⟨pb, 0, none⟩), undef, .pointer (some ⟨r, 0, none⟩), .int .i64 0, .pointer (some ⟨p6, 0, none⟩), .pointer (some ⟨p7, 0, none⟩), .pointer (some ⟨p8, 0, none⟩), undef, undef, undef, undef, undef, undef, undef, undef, .agg #[.int .i64 b0, .int .u64 b1], .agg #[.bool x1, .slice A1 n1 c1], .agg #[.int .i64 a0, .int .u64 a1], .agg #[.bool x3, .slice A3 n3 c3], .int .i64 m, undef, undef, undef, undef, undef, undef, undef, undef, undef, undef, undef, undef, undef, undef, undef, undef, undef, undef, undef, undef, undef, undef, undef, undef, undef, undef, undef, undef, undef, undef, undef, undef], defers := [] } W := by
    rintro lst rfl W x1 A1 n1 c1 x3 A3 n3 c3 p6 p7 p8 hS z1_0 z3_0 k6 d6 l6 k7 d7 l7 k8 d8 l8 e6_7 e6_8 e7_8
    refine wpAnyH_ready (rs := [5]) (by kernel_rfl) (by simp) ?_
    refine AllReadyH.cons (o := ⟨some 26, _, _, _, _, _⟩) rfl (fun K hK => ?_) ?_
    · go_simp
      (with_reducible refine Calls.mono (OM.out _) ?_); rintro e w5 ⟨x5, A5, n5, c5, rfl, hb, y0⟩
      refine hK.out _ _ (hS.next hb) (fun hS2 => ?_)
      clear hK K
      try simp only [List.setIfInBounds_toArray, List.set_cons_zero, List.set_cons_succ]
      exact G0 _ (by kernel_rfl) _ _ _ _ _ _ _ _ _ _ _ _ _ _ _ _ hS2 (z1_0.below hb) (z3_0.below hb) y0 (k6.next hb) d6 l6 (k7.next hb) d7 l7 (k8.next hb) d8 l8 e6_7 e6_8 e7_8
    exact AllReadyH.nil
  have G5 : ∀ (lst : Array Bool) (_ : lst = #[true, true, true, true, true, true, true, false, false, false, false, false]) (W : World) (x1 : Bool) (A1 : Option Addr) (n1 : Nat) (c1 : Nat) (x3 : Bool) (A3 : Option Addr) (n3 : Nat) (c3 : Nat) (x5 : Bool) (A5 : Option Addr) (n5 : Nat) (c5 : Nat) (p6 : Nat) (_ : Keeps w0 [(pa, 0, .int .i64 a0), (pa, 1, .int .u64 a1), (pb, 0, .int .i64 b0), (pb, 1, .int .u64 b1), (r, 0, .int .i64 0), (r, 1, .int .u64 0)] W) (_ : NumZ W (.agg #[.bool x1, .slice A1 n1 c1]) zb) (_ : NumZ W (.agg #[.bool x3, .slice A3 n3 c3]) za) (_ : NumZ W (.agg #[.bool x5, .slice A5 n5 c5]) m) (_ : Keeps w0 [(p6, 0, .bool false), (p6, 1, .slice none 0 0)] W) (_ : ∀ q ∈ ([(pa, 0, .int .i64 a0), (pa, 1, .int .u64 a1), (pb, 0, .int .i64 b0), (pb, 1, .int .u64 b1), (r, 0, .int .i64 0), (r, 1, .int .u64 0)] : List (Nat × Nat × Value)), q.1 ≠ p6) (_ : w0.heap.size ≤ p6), wpAnyH Try.prog .any (regOps Try.f15 1) Q (Keeps w0 [(pa, 0, .int .i64 a0), (pa, 1, .int .u64 a1), (pb, 0, .int .i64 b0), (pb, 1, .int .u64 b1), (r, 0, .int .i64 0), (r, 1, .int .u64 0)]) 5 lst { tmps := #[.int .i64 n, wideV a0 a1, wideV b0 b1, .int .i64 m, undef, .pointer (some ⟨pa, 0, none⟩), .pointer (some ⟨pb, 0, none⟩), undef, .pointer (some ⟨r, 0, none⟩), .int .i64 0, .pointer (some ⟨p6, 0, none⟩), undef, undef, undef, undef, undef, undef, undef, undef, undef, undef, .agg #[.int .i64 b0, .int .u64 b1], .agg #[.bool x1, .slice A1 n1 c1], .agg #[.int .i64 a0, .int .u64 a1], .agg #[.bool x3, .slice A3 n3 c3], .int .i64 m, .agg #[.bool x5, .slice A5 n5 c5], undef, undef, undef, undef, undef, undef, undef, undef, undef, undef, undef, undef, undef, undef, undef, undef, undef, undef, undef, undef, undef, undef, undef, undef, undef, undef, undef, undef, undef, undef, undef], defers := [] } W := by
    rintro lst rfl W x1 A1 n1 c1 x3 A3 n3 c3 x5 A5 n5 c5 p6 hS z1_0 z3_0 z5_0 k6 d6 l6
    refine wpAnyH_ready (rs := [7, 8]) (by kernel_rfl) (by simp) ?_
    refine AllReadyH.cons (o := ⟨some 11, _, _, _, _, _⟩) rfl (fun K hK => ?_) ?_
    · go_simp
      have kd := hS.2.ne
      have kl := hS.1.size
      refine hK.out _ _ (by first | exact hS.alloc _ | exact (hS.alloc _).drew) (fun hS2 => ?_)
      clear hK K
      try simp only [List.setIfInBounds_toArray, List.set_cons_zero, List.set_cons_succ]
      exact G1 _ (by kernel_rfl) _ _ _ _ _ _ _ _ _ _ _ _ _ _ _ hS2 (z1_0.below (below_alloc _ _)) (z3_0.below (below_alloc _ _)) (z5_0.below (below_alloc _ _)) (k6.alloc _) d6 l6 (newK2 hS2) kd kl (Nat.ne_of_lt k6.2.1.1)
    refine AllReadyH.cons (o := ⟨some 12, _, _, _, _, _⟩) rfl (fun K hK => ?_) ?_
    · go_simp
      have kd := hS.2.ne
      have kl := hS.1.size
      refine hK.out _ _ (by first | exact hS.alloc _ | exact (hS.alloc _).drew) (fun hS2 => ?_)
      clear hK K
      try simp only [List.setIfInBounds_toArray, List.set_cons_zero, List.set_cons_succ]
      exact G2 _ (by kernel_rfl) _ _ _ _ _ _ _ _ _ _ _ _ _ _ _ hS2 (z1_0.below (below_alloc _ _)) (z3_0.below (below_alloc _ _)) (z5_0.below (below_alloc _ _)) (k6.alloc _) d6 l6 (newK2 hS2) kd kl (Nat.ne_of_lt k6.2.1.1)
    exact AllReadyH.nil
  have G6 : ∀ (lst : Array Bool) (_ : lst = #[true, true, true, true, true, true, false, true, false, false, false, false]) (W : World) (x1 : Bool) (A1 : Option Addr) (n1 : Nat) (c1 : Nat) (x3 : Bool) (A3 : Option Addr) (n3 : Nat) (c3 : Nat) (x5 : Bool) (A5 : Option Addr) (n5 : Nat) (c5 : Nat) (p7 : Nat) (_ : Keeps w0 [(pa, 0, .int .i64 a0), (pa, 1, .int .u64 a1), (pb, 0, .int .i64 b0), (pb, 1, .int .u64 b1), (r, 0, .int .i64 0), (r, 1, .int .u64 0)] W) (_ : NumZ W (.agg #[.bool x1, .slice A1 n1 c1]) zb) (_ : NumZ W (.agg #[.bool x3, .slice A3 n3 c3]) za) (_ : NumZ W (.agg #[.bool x5, .slice A5 n5 c5]) m) (_ : Keeps w0 [(p7, 0, .bool false), (p7, 1, .slice none 0 0)] W) (_ : ∀ q ∈ ([(pa, 0, .int .i64 a0), (pa, 1, .int .u64 a1), (pb, 0, .int .i64 b0), (pb, 1, .int .u64 b1), (r, 0, .int .i64 0), (r, 1, .int .u64 0)] : List (Nat × Nat × Value)), q.1 ≠ p7) (_ : w0.heap.size ≤ p7), wpAnyH Try.prog .any (regOps Try.f15 1) Q (Keeps w0 [(pa, 0, .int .i64 a0), (pa, 1, .int .u64 a1), (pb, 0, .int .i64 b0), (pb, 1, .int .u64 b1), (r, 0, .int .i64 0), (r, 1, .int .u64 0)]) 5 lst { tmps := #[.int .i64 n, wideV a0 a1, wideV b0 b1, .int .i64 m, undef, .pointer (some ⟨pa, 0, none⟩), .pointer (some ⟨pb, 0, none⟩), undef, .pointer (some ⟨r, 0, none⟩), .int .i64 0, undef, .pointer (some ⟨p7, 0, none⟩), undef, undef, undef, undef, undef, undef, undef, undef, undef, .agg #[.int .i64 b0, .int .u64 b1], .agg #[.bool x1, .slice A1 n1 c1], .agg #[.int .i64 a0, .int .u64 a1], .agg #[.bool x3, .slice A3 n3 c3], .int .i64 m, .agg #[.bool x5, .slice A5 n5 c5], undef, undef, undef, undef, undef, undef, undef, undef, undef, undef, undef, undef, undef, undef, undef, undef, undef, undef, undef, undef, undef, undef, undef, undef, undef, undef, undef, undef, undef, undef, undef], defers := [] } W := by
    rintro lst rfl W x1 A1 n1 c1 x3 A3 n3 c3 x5 A5 n5 c5 p7 hS z1_0 z3_0 z5_0 k7 d7 l7
    refine wpAnyH_ready (rs := [6, 8]) (by kernel_rfl) (by simp) ?_
    refine AllReadyH.cons (o := ⟨some 10, _, _, _, _, _⟩) rfl (fun K hK => ?_) ?_
    · go_simp
      have kd := hS.2.ne
      have kl := hS.1.size
      refine hK.out _ _ (by first | exact hS.alloc _ | exact (hS.alloc _).drew) (fun hS2 => ?_)
      clear hK K
      try simp only [List.setIfInBounds_toArray, List.set_cons_zero, List.set_cons_succ]
      exact G1 _ (by kernel_rfl) _ _ _ _ _ _ _ _ _ _ _ _ _ _ _ hS2 (z1_0.below (below_alloc _ _)) (z3_0.below (below_alloc _ _)) (z5_0.below (below_alloc _ _)) (newK2 hS2) kd kl (k7.alloc _) d7 l7 (Nat.ne_of_gt k7.2.1.1)
    refine AllReadyH.cons (o := ⟨some 12, _, _, _, _, _⟩) rfl (fun K hK => ?_) ?_
    · go_simp
      have kd := hS.2.ne
      have kl := hS.1.size
      refine hK.out _ _ (by first | exact hS.alloc _ | exact (hS.alloc _).drew) (fun hS2 => ?_)
      clear hK K
      try simp only [List.setIfInBounds_toArray, List.set_cons_zero, List.set_cons_succ]
      exact G3 _ (by kernel_rfl) _ _ _ _ _ _ _ _ _ _ _ _ _ _ _ hS2 (z1_0.below (below_alloc _ _)) (z3_0.below (below_alloc _ _)) (z5_0.below (below_alloc _ _)) (k7.alloc _) d7 l7 (newK2 hS2) kd kl (Nat.ne_of_lt k7.2.1.1)
    exact AllReadyH.nil
  have G7 : ∀ (lst : Array Bool) (_ : lst = #[true, true, true, true, true, true, false, false, true, false, false, false]) (W : World) (x1 : Bool) (A1 : Option Addr) (n1 : Nat) (c1 : Nat) (x3 : Bool) (A3 : Option Addr) (n3 : Nat) (c3 : Nat) (x5 : Bool) (A5 : Option Addr) (n5 : Nat) (c5 : Nat) (p8 : Nat) (_ : Keeps w0 [(pa, 0, .int .i64 a0), (pa, 1, .int .u64 a1), (pb, 0, .int .i64 b0), (pb, 1, .int .u64 b1), (r, 0, .int .i64 0), (r, 1, .int .u64 0)] W) (_ : NumZ W (.agg #[.bool x1, .slice A1 n1 c1]) zb) (_ : NumZ W (.agg #[.bool x3, .slice A3 n3 c3]) za) (_ : NumZ W (.agg #[.bool x5, .slice A5 n5 c5]) m) (_ : Keeps w0 [(p8, 0, .bool false), (p8, 1, .slice none 0 0)] W) (_ : ∀ q ∈ ([(pa, 0, .int .i64 a0), (pa, 1, .int .u64 a1), (pb, 0, .int .i64 b0), (pb, 1, .int .u64 b1), (r, 0, .int .i64 0), (r, 1, .int .u64 0)] : List (Nat × Nat × Value)), q.1 ≠ p8) (_ : w0.heap.size ≤ p8), wpAnyH Try.prog .any (regOps Try.f15 1) Q (Keeps w0 [(pa, 0, .int .i64 a0), (pa, 1, .int .u64 a1), (pb, 0, .int .i64 b0), (pb, 1, .int .u64 b1), (r, 0, .int .i64 0), (r, 1, .int .u64 0)]) 5 lst { tmps := #[.int .i64 n, wideV a0 a1, wideV b0 b1, .int .i64 m, undef, .pointer (some ⟨pa, 0, none⟩), .pointer (some ⟨pb, 0, none⟩), undef, .pointer (some ⟨r, 0, none⟩), .int .i64 0, undef, undef, .pointer (some ⟨p8, 0, none⟩), undef, undef, undef, undef, undef, undef, undef, undef, .agg #[.int .i64 b0, .int .u64 b1], .agg #[.bool x1, .slice A1 n1 c1], .agg #[.int .i64 a0, .int .u64 a1], .agg #[.bool x3, .slice A3 n3 c3], .int .i64 m, .agg #[.bool x5, .slice A5 n5 c5], undef, undef, undef, undef, undef, undef, undef, undef, undef, undef, undef, undef, undef, undef, undef, undef, undef, undef, undef, undef, undef, undef, undef, undef, undef, undef, undef, undef, undef, undef, undef], defers := [] } W := by
    rintro lst rfl W x1 A1 n1 c1 x3 A3 n3 c3 x5 A5 n5 c5 p8 hS z1_0 z3_0 z5_0 k8 d8 l8
    refine wpAnyH_ready (rs := [6, 7]) (by kernel_rfl) (by simp) ?_
    refine AllReadyH.cons (o := ⟨some 10, _, _, _, _, _⟩) rfl (fun K hK => ?_) ?_
    · go_simp
      have kd := hS.2.ne
      have kl := hS.1.size
      refine hK.out _ _ (by first | exact hS.alloc _ | exact (hS.alloc _).drew) (fun hS2 => ?_)
      clear hK K
      try simp only [List.setIfInBounds_toArray, List.set_cons_zero, List.set_cons_succ]
      exact G2 _ (by kernel_rfl) _ _ _ _ _ _ _ _ _ _ _ _ _ _ _ hS2 (z1_0.below (below_alloc _ _)) (z3_0.below (below_alloc _ _)) (z5_0.below (below_alloc _ _)) (newK2 hS2) kd kl (k8.alloc _) d8 l8 (Nat.ne_of_gt k8.2.1.1)
    refine AllReadyH.cons (o := ⟨some 11, _, _, _, _, _⟩) rfl (fun K hK => ?_) ?_
    · go_simp
      have kd := hS.2.ne
      have kl := hS.1.size
      refine hK.out _ _ (by first | exact hS.alloc _ | exact (hS.alloc _).drew) (fun hS2 => ?_)
      clear hK K
      try simp only [List.setIfInBounds_toArray, List.set_cons_zero, List.set_cons_succ]
      exact G3 _ (by kernel_rfl) _ _ _ _ _ _ _ _ _ _ _ _ _ _ _ hS2 (z1_0.below (below_alloc _ _)) (z3_0.below (below_alloc _ _)) (z5_0.below (below_alloc _ _)) (newK2 hS2) kd kl (k8.alloc _) d8 l8 (Nat.ne_of_gt k8.2.1.1)
    exact AllReadyH.nil
  have G8 : ∀ (lst : Array Bool) (_ : lst = #[true, true, true, true, true, false, true, true, false, false, false, false]) (W : World) (x1 : Bool) (A1 : Option Addr) (n1 : Nat) (c1 : Nat) (x3 : Bool) (A3 : Option Addr) (n3 : Nat) (c3 : Nat) (p6 : Nat) (p7 : Nat) (_ : Keeps w0 [(pa, 0, .int .i64 a0), (pa, 1, .int .u64 a1), (pb, 0, .int .i64 b0), (pb, 1, .int .u64 b1), (r, 0, .int .i64 0), (r, 1, .int .u64 0)] W) (_ : NumZ W (.agg #[.bool x1, .slice A1 n1 c1]) zb) (_ : NumZ W (.agg #[.bool x3, .slice A3 n3 c3]) za) (_ : Keeps w0 [(p6, 0, .bool false), (p6, 1, .slice none 0 0)] W) (_ : ∀ q ∈ ([(pa, 0, .int .i64 a0), (pa, 1, .int .u64 a1), (pb, 0, .int .i64 b0), (pb, 1, .int .u64 b1), (r, 0, .int .i64 0), (r, 1, .int .u64 0)] : List (Nat × Nat × Value)), q.1 ≠ p6) (_ : w0.heap.size ≤ p6) (_ : Keeps w0 [(p7, 0, .bool false), (p7, 1, .slice none 0 0)] W) (_ : ∀ q ∈ ([(pa, 0, .int .i64 a0), (pa, 1, .int .u64 a1), (pb, 0, .int .i64 b0), (pb, 1, .int .u64 b1), (r, 0, .int .i64 0), (r, 1, .int .u64 0)] : List (Nat × Nat × Value)), q.1 ≠ p7) (_ : w0.heap.size ≤ p7) (_ : p6 ≠ p7), wpAnyH Try.prog .any (regOps Try.f15 1) Q (Keeps w0 [(pa, 0, .int .i64 a0), (pa, 1, .int .u64 a1), (pb, 0, .int .i64 b0), (pb, 1, .int .u64 b1), (r, 0, .int .i64 0), (r, 1, .int .u64 0)]) 5 lst { tmps := #[.int .i64 n, wideV a0 a1, wideV b0 b1, .int .i64 m, undef, .pointer (some ⟨pa, 0, none⟩), .pointer (some ⟨pb, 0, none⟩), undef, .pointer (some ⟨r, 0, none⟩), .int .i64 0, .pointer (some ⟨p6, 0, none⟩), .pointer (some ⟨p7, 0, none⟩), undef, undef, undef, undef, undef, undef, undef, undef, undef, .agg #[.int .i64 b0, .int .u64 b1], .agg #[.bool x1, .slice A1 n1 c1], .agg #[.int .i64 a0, .int .u64 a1], .agg #[.bool x3, .slice A3 n3 c3], .int .i64 m, undef, undef, undef, undef, undef, undef, undef, undef, undef, undef, undef, undef, undef, undef, undef, undef, undef, undef, undef, undef, undef, undef, undef, undef, undef, undef, undef, undef, undef, undef, undef, undef], defers := [] } W := by
    rintro lst rfl W x1 A1 n1 c1 x3 A3 n3 c3 p6 p7 hS z1_0 z3_0 k6 d6 l6 k7 d7 l7 e6_7
    refine wpAnyH_ready (rs := [5, 8]) (by kernel_rfl) (by simp) ?_
    refine AllReadyH.cons (o := ⟨some 26, _, _, _, _, _⟩) rfl (fun K hK => ?_) ?_
    · go_simp
      (with_reducible refine Calls.mono (OM.out _) ?_); rintro e w5 ⟨x5, A5, n5, c5, rfl, hb, y0⟩
      refine hK.out _ _ (hS.next hb) (fun hS2 => ?_)
      clear hK K
      try simp only [List.setIfInBounds_toArray, List.set_cons_zero, List.set_cons_succ]
      exact G1 _ (by kernel_rfl) _ _ _ _ _ _ _ _ _ _ _ _ _ _ _ hS2 (z1_0.below hb) (z3_0.below hb) y0 (k6.next hb) d6 l6 (k7.next hb) d7 l7 e6_7
    refine AllReadyH.cons (o := ⟨some 12, _, _, _, _, _⟩) rfl (fun K hK => ?_) ?_
    · go_simp
      have kd := hS.2.ne
      have kl := hS.1.size
      refine hK.out _ _ (by first | exact hS.alloc _ | exact (hS.alloc _).drew) (fun hS2 => ?_)
      clear hK K
      try simp only [List.setIfInBounds_toArray, List.set_cons_zero, List.set_cons_succ]
      exact G4 _ (by kernel_rfl) _ _ _ _ _ _ _ _ _ _ _ _ hS2 (z1_0.below (below_alloc _ _)) (z3_0.below (below_alloc _ _)) (k6.alloc _) d6 l6 (k7.alloc _) d7 l7 (newK2 hS2) kd kl e6_7 (Nat.ne_of_lt k6.2.1.1) (Nat.ne_of_lt k7.2.1.1)
    exact AllReadyH.nil
  have G9 : ∀ (lst : Array Bool) (_ : lst = #[true, true, true, true, true, false, true, false, true, false, false, false]) (W : World) (x1 : Bool) (A1 : Option Addr) (n1 : Nat) (c1 : Nat) (x3 : Bool) (A3 : Option Addr) (n3 : Nat) (c3 : Nat) (p6 : Nat) (p8 : Nat) (_ : Keeps w0 [(pa, 0, .int .i64 a0), (pa, 1, .int .u64 a1), (pb, 0, .int .i64 b0), (pb, 1, .int .u64 b1), (r, 0, .int .i64 0), (r, 1, .int .u64 0)] W) (_ : NumZ W (.agg #[.bool x1, .slice A1 n1 c1]) zb) (_ : NumZ W (.agg #[.bool x3, .slice A3 n3 c3]) za) (_ : Keeps w0 [(p6, 0, .bool false), (p6, 1, .slice none 0 0)] W) (_ : ∀ q ∈ ([(pa, 0, .int .i64 a0), (pa, 1, .int .u64 a1), (pb, 0, .int .i64 b0), (pb, 1, .int .u64 b1), (r, 0, .int .i64 0), (r, 1, .int .u64 0)] : List (Nat × Nat × Value)), q.1 ≠ p6) (_ : w0.heap.size ≤ p6) (_ : Keeps w0 [(p8, 0, .bool false), (p8, 1, .slice none 0 0)] W) (_ : ∀ q ∈ ([(pa, 0, .int .i64 a0), (pa, 1, .int .u64 a1), (pb, 0, .int .i64 b0), (pb, 1, .int .u64 b1), (r, 0, .int .i64 0), (r, 1, .int .u64 0)] : List (Nat × Nat × Value)), q.1 ≠ p8) (_ : w0.heap.size ≤ p8) (_ : p6 ≠ p8), wpAnyH Try.prog .any (regOps Try.f15 1) Q (Keeps w0 [(pa, 0, .int .i64 a0), (pa, 1, .int .u64 a1), (pb, 0, .int .i64 b0), (pb, 1, .int .u64 b1), (r, 0, .int .i64 0), (r, 1, .int .u64 0)]) 5 lst { tmps := #[.int .i64 n, wideV a0 a1, wideV b0 b1, .int .i64 m, undef, .pointer (some ⟨pa, 0, none⟩), .pointer (some ⟨pb, 0, none⟩), undef, .pointer (some ⟨r, 0, none⟩), .int .i64 0, .pointer (some ⟨p6, 0, none⟩), undef, .pointer (some ⟨p8, 0, none⟩), undef, undef, undef, undef, undef, undef, undef, undef, .agg #[.int .i64 b0, .int .u64 b1], .agg #[.bool x1, .slice A1 n1 c1], .agg #[.int .i64 a0, .int .u64 a1], .agg #[.bool x3, .slice A3 n3 c3], .int .i64 m, undef, undef, undef, undef, undef, undef, undef, undef, undef, undef, undef, undef, undef, undef, undef, undef, undef, undef, undef, undef, undef, undef, undef, undef, undef, undef, undef, undef, undef, undef, undef, undef], defers := [] } W := by
    rintro lst rfl W x1 A1 n1 c1 x3 A3 n3 c3 p6 p8 hS z1_0 z3_0 k6 d6 l6 k8 d8 l8 e6_8
    refine wpAnyH_ready (rs := [5, 7]) (by kernel_rfl) (by simp) ?_
    refine AllReadyH.cons (o := ⟨some 26, _, _, _, _, _⟩) rfl (fun K hK => ?_) ?_
    · go_simp
      (with_reducible refine Calls.mono (OM.out _) ?_); rintro e w5 ⟨x5, A5, n5, c5, rfl, hb, y0⟩
      refine hK.out _ _ (hS.next hb) (fun hS2 => ?_)
      clear hK K
      try simp only [List.setIfInBounds_toArray, List.set_cons_zero, List.set_cons_succ]
      exact G2 _ (by kernel_rfl) _ _ _ _ _ _ _ _ _ _ _ _ _ _ _ hS2 (z1_0.below hb) (z3_0.below hb) y0 (k6.next hb) d6 l6 (k8.next hb) d8 l8 e6_8
    refine AllReadyH.cons (o := ⟨some 11, _, _, _, _, _⟩) rfl (fun K hK => ?_) ?_
    · go_simp
      have kd := hS.2.ne
      have kl := hS.1.size
      refine hK.out _ _ (by first | exact hS.alloc _ | exact (hS.alloc _).drew) (fun hS2 => ?_)
      clear hK K
      try simp only [List.setIfInBounds_toArray, List.set_cons_zero, List.set_cons_succ]
      exact G4 _ (by kernel_rfl) _ _ _ _ _ _ _ _ _ _ _ _ hS2 (z1_0.below (below_alloc _ _)) (z3_0.below (below_alloc _ _)) (k6.alloc _) d6 l6 (newK2 hS2) kd kl (k8.alloc _) d8 l8 (Nat.ne_of_lt k6.2.1.1) e6_8 (Nat.ne_of_gt k8.2.1.1)
    exact AllReadyH.nil
  have G10 : ∀ (lst : Array Bool) (_ : lst = #[true, true, true, true, true, false, false, true, true, false, false, false]) (W : World) (x1 : Bool) (A1 : Option Addr) (n1 : Nat) (c1 : Nat) (x3 : Bool) (A3 : Option Addr) (n3 : Nat) (c3 : Nat) (p7 : Nat) (p8 : Nat) (_ : Keeps w0 [(pa, 0, .int .i64 a0), (pa, 1, .int .u64 a1), (pb, 0, .int .i64 b0), (pb, 1, .int .u64 b1), (r, 0, .int .i64 0), (r, 1, .int .u64 0)] W) (_ : NumZ W (.agg #[.bool x1, .slice A1 n1 c1]) zb) (_ : NumZ W (.agg #[.bool x3, .slice A3 n3 c3]) za) (_ : Keeps w0 [(p7, 0, .bool false), (p7, 1, .slice none 0 0)] W) (_ : ∀ q ∈ ([(pa, 0, .int .i64 a0), (pa, 1, .int .u64 a1), (pb, 0, .int .i64 b0), (pb, 1, .int .u64 b1), (r, 0, .int .i64 0), (r, 1, .int .u64 0)] : List (Nat × Nat × Value)), q.1 ≠ p7) (_ : w0.heap.size ≤ p7) (_ : Keeps w0 [(p8, 0, .bool false), (p8, 1, .slice none 0 0)] W) (_ : ∀ q ∈ ([(pa, 0, .int .i64 a0), (pa, 1, .int .u64 a1), (pb, 0, .int .i64 b0), (pb, 1, .int .u64 b1), (r, 0, .int .i64 0), (r, 1, .int .u64 0)] : List (Nat × Nat × Value)), q.1 ≠ p8) (_ : w0.heap.size ≤ p8) (_ : p7 ≠ p8), wpAnyH Try.prog .any (regOps Try.f15 1) Q (Keeps w0 [(pa, 0, .int .i64 a0), (pa, 1, .int .u64 a1), (pb, 0, .int .i64 b0), (pb, 1, .int .u64 b1), (r, 0, .int .i64 0), (r, 1, .int .u64 0)]) 5 lst { tmps := #[.int .i64 n, wideV a0 a1, wideV b0 b1, .int .i64 m, undef, .pointer (some ⟨pa, 0, none⟩), .pointer (some ⟨pb, 0, none⟩), undef, .pointer (some ⟨r, 0, none⟩), .int .i64 0, undef, .pointer (some ⟨p7, 0, none⟩), .pointer (some ⟨p8, 0, none⟩), undef, undef, undef, undef, undef, undef, undef, undef, .agg #[.int .i64 b0, .int .u64 b1], .agg #[.bool x1, .slice A1 n1 c1], .agg #[.int .i64 a0, .int .u64 a1], .agg #[.bool x3, .slice A3 n3 c3], .int .i64 m, undef, undef, undef, undef, undef, undef, undef, undef, undef, undef, undef, undef, undef, undef, undef, undef, undef, undef, undef, undef, undef, undef, undef, undef, undef, undef, undef, undef, undef, undef, undef, undef], defers := [] } W := by
    rintro lst rfl W x1 A1 n1 c1 x3 A3 n3 c3 p7 p8 hS z1_0 z3_0 k7 d7 l7 k8 d8 l8 e7_8
    refine wpAnyH_ready (rs := [5, 6]) (by kernel_rfl) (by simp) ?_
    refine AllReadyH.cons (o := ⟨some 26, _, _, _, _, _⟩) rfl (fun K hK => ?_) ?_
    · go_simp
      (with_reducible refine Calls.mono (OM.out _) ?_); rintro e w5 ⟨x5, A5, n5, c5, rfl, hb, y0⟩
      refine hK.out _ _ (hS.next hb) (fun hS2 => ?_)
      clear hK K
      try simp only [List.setIfInBounds_toArray, List.set_cons_zero, List.set_cons_succ]
      exact G3 _ (by kernel_rfl) _ _ _ _ _ _ _ _ _ _ _ _ _ _ _ hS2 (z1_0.below hb) (z3_0.below hb) y0 (k7.next hb) d7 l7 (k8.next hb) d8 l8 e7_8
    refine AllReadyH.cons (o := ⟨some 10, _, _, _, _, _⟩) rfl (fun K hK => ?_) ?_
    · go_simp
      have kd := hS.2.ne
      have kl := hS.1.size
      refine hK.out _ _ (by first | exact hS.alloc _ | exact (hS.alloc _).drew) (fun hS2 => ?_)
      clear hK K
      try simp only [List.setIfInBounds_toArray, List.set_cons_zero, List.set_cons_succ]
      exact G4 _ (by kernel_rfl) _ _ _ _ _ _ _ _ _ _ _ _ hS2 (z1_0.below (below_alloc _ _)) (z3_0.below (below_alloc _ _)) (newK2 hS2) kd kl (k7.alloc _) d7 l7 (k8.alloc _) d8 l8 (Nat.ne_of_gt k7.2.1.1) (Nat.ne_of_gt k8.2.1.1) e7_8
    exact AllReadyH.nil
  have G11 : ∀ (lst : Array Bool) (_ : lst = #[true, true, true, false, true, false, true, true, true, false, false, false]) (W : World) (x1 : Bool) (A1 : Option Addr) (n1 : Nat) (c1 : Nat) (p6 : Nat) (p7 : Nat) (p8 : Nat) (_ : Keeps w0 [(pa, 0, .int .i64 a0), (pa, 1, .int .u64 a1), (pb, 0, .int .i64 b0), (pb, 1, .int .u64 b1), (r, 0, .int .i64 0), (r, 1, .int .u64 0)] W) (_ : NumZ W (.agg #[.bool x1, .slice A1 n1 c1]) zb) (_ : Keeps w0 [(p6, 0, .bool false), (p6, 1, .slice none 0 0)] W) (_ : ∀ q ∈ ([(pa, 0, .int .i64 a0), (pa, 1, .int .u64 a1), (pb, 0, .int .i64 b0), (pb, 1, .int .u64 b1), (r, 0, .int .i64 0), (r, 1, .int .u64 0)] : List (Nat × Nat × Value)), q.1 ≠ p6) (_ : w0.heap.size ≤ p6) (_ : Keeps w0 [(p7, 0, .bool false), (p7, 1, .slice none 0 0)] W) (_ : ∀ q ∈ ([(pa, 0, .int .i64 a0), (pa, 1, .int .u64 a1), (pb, 0, .int .i64 b0), (pb, 1, .int .u64 b1), (r, 0, .int .i64 0), (r, 1, .int .u64 0)] : List (Nat × Nat × Value)), q.1 ≠ p7) (_ : w0.heap.size ≤ p7) (_ : Keeps w0 [(p8, 0, .bool false), (p8, 1, .slice none 0 0)] W) (_ : ∀ q ∈ ([(pa, 0, .int .i64 a0), (pa, 1, .int .u64 a1), (pb, 0, .int .i64 b0), (pb, 1, .int .u64 b1), (r, 0, .int .i64 0), (r, 1, .int .u64 0)] : List (Nat × Nat × Value)), q.1 ≠ p8) (_ : w0.heap.size ≤ p8) (_ : p6 ≠ p7) (_ : p6 ≠ p8) (_ : p7 ≠ p8), wpAnyH Try.prog .any (regOps Try.f15 1) Q (Keeps w0 [(pa, 0, .int .i64 a0), (pa, 1, .int .u64 a1), (pb, 0, .int .i64 b0), (pb, 1, .int .u64 b1), (r, 0, .int .i64 0), (r, 1, .int .u64 0)]) 5 lst { tmps := #[.int .i64 n, wideV a0 a1, wideV b0 b1, .int .i64 m, undef, .pointer (some ⟨pa, 0, none⟩), .pointer (some ⟨pb, 0, none⟩), undef, .pointer (some ⟨r, 0, none⟩), .int .i64 0, .pointer (some ⟨p6, 0, none⟩), .pointer (some ⟨p7, 0, none⟩), .pointer (some ⟨p8, 0, none⟩), undef, undef, undef, undef, undef, undef, undef, undef, .agg #[.int .i64 b0, .int .u64 b1], .agg #[.bool x1, .slice A1 n1 c1], .agg #[.int .i64 a0, .int .u64 a1], undef, .int .i64 m, undef, undef, undef, undef, undef, undef, undef, undef, undef, undef, undef, undef, undef, undef, undef, undef, undef, undef, undef, undef, undef, undef, undef, undef, undef, undef, undef, undef, undef, undef, undef, undef], defers := [] } W := by
    rintro lst rfl W x1 A1 n1 c1 p6 p7 p8 hS z1_0 k6 d6 l6 k7 d7 l7 k8 d8 l8 e6_7 e6_8 e7_8
    refine wpAnyH_ready (rs := [3]) (by kernel_rfl) (by simp) ?_
    refine AllReadyH.cons (o := ⟨some 24, _, _, _, _, _⟩) rfl (fun K hK => ?_) ?_
    · go_simp
      (with_reducible refine Calls.mono (OA.out _) ?_); rintro e w5 ⟨x3, A3, n3, c3, rfl, hb, y0⟩
      refine hK.out _ _ (hS.next hb) (fun hS2 => ?_)
      clear hK K
      try simp only [List.setIfInBounds_toArray, List.set_cons_zero, List.set_cons_succ]
      exact G4 _ (by kernel_rfl) _ _ _ _ _ _ _ _ _ _ _ _ hS2 (z1_0.below hb) y0 (k6.next hb) d6 l6 (k7.next hb) d7 l7 (k8.next hb) d8 l8 e6_7 e6_8 e7_8
    exact AllReadyH.nil
  have G12 : ∀ (lst : Array Bool) (_ : lst = #[true, true, true, true, true, true, false, false, false, false, false, false]) (W : World) (x1 : Bool) (A1 : Option Addr) (n1 : Nat) (c1 : Nat) (x3 : Bool) (A3 : Option Addr) (n3 : Nat) (c3 : Nat) (x5 : Bool) (A5 : Option Addr) (n5 : Nat) (c5 : Nat) (_ : Keeps w0 [(pa, 0, .int .i64 a0), (pa, 1, .int .u64 a1), (pb, 0, .int .i64 b0), (pb, 1, .int .u64 b1), (r, 0, .int .i64 0), (r, 1, .int .u64 0)] W) (_ : NumZ W (.agg #[.bool x1, .slice A1 n1 c1]) zb) (_ : NumZ W (.agg #[.bool x3, .slice A3 n3 c3]) za) (_ : NumZ W (.agg #[.bool x5, .slice A5 n5 c5]) m), wpAnyH Try.prog .any (regOps Try.f15 1) Q (Keeps w0 [(pa, 0, .int .i64 a0), (pa, 1, .int .u64 a1), (pb, 0, .int .i64 b0), (pb, 1, .int .u64 b1), (r, 0, .int .i64 0), (r, 1, .int .u64 0)]) 6 lst { tmps := #[.int .i64 n, wideV a0 a1, wideV b0 b1, .int .i64 m, undef, .pointer (some ⟨pa, 0, none⟩), .pointer (some ⟨pb, 0, none⟩), undef, .pointer (some ⟨r, 0, none⟩), .int .i64 0, undef, undef, undef, undef, undef, undef, undef, undef, undef, undef, undef, .agg #[.int .i64 b0, .int .u64 b1], .agg #[.bool x1, .slice A1 n1 c1], .agg #[.int .i64 a0, .int .u64 a1], .agg #[.bool x3, .slice A3 n3 c3], .int .i64 m, .agg #[.bool x5, .slice A5 n5 c5], undef, undef, undef, undef, undef, undef, undef, undef, undef, undef, undef, undef, undef, undef, undef, undef, undef, undef, undef, undef, undef, undef, undef, undef, undef, undef, undef, undef, undef, undef, undef], defers := [] } W := by
    rintro lst rfl W x1 A1 n1 c1 x3 A3 n3 c3 x5 A5 n5 c5 hS z1_0 z3_0 z5_0
    refine wpAnyH_ready (rs := [6, 7, 8]) (by kernel_rfl) (by simp) ?_
    refine AllReadyH.cons (o := ⟨some 10, _, _, _, _, _⟩) rfl (fun K hK => ?_) ?_
    · go_simp
      have kd := hS.2.ne
      have kl := hS.1.size
      refine hK.out _ _ (by first | exact hS.alloc _ | exact (hS.alloc _).drew) (fun hS2 => ?_)
      clear hK K
      try simp only [List.setIfInBounds_toArray, List.set_cons_zero, List.set_cons_succ]
      exact G5 _ (by kernel_rfl) _ _ _ _ _ _ _ _ _ _ _ _ _ _ hS2 (z1_0.below (below_alloc _ _)) (z3_0.below (below_alloc _ _)) (z5_0.below (below_alloc _ _)) (newK2 hS2) kd kl
    refine AllReadyH.cons (o := ⟨some 11, _, _, _, _, _⟩) rfl (fun K hK => ?_) ?_
    · go_simp
      have kd := hS.2.ne
      have kl := hS.1.size
      refine hK.out _ _ (by first | exact hS.alloc _ | exact (hS.alloc _).drew) (fun hS2 => ?_)
      clear hK K
      try simp only [List.setIfInBounds_toArray, List.set_cons_zero, List.set_cons_succ]
      exact G6 _ (by kernel_rfl) _ _ _ _ _ _ _ _ _ _ _ _ _ _ hS2 (z1_0.below (below_alloc _ _)) (z3_0.below (below_alloc _ _)) (z5_0.below (below_alloc _ _)) (newK2 hS2) kd kl
    refine AllReadyH.cons (o := ⟨some 12, _, _, _, _, _⟩) rfl (fun K hK => ?_) ?_
    · go_simp
      have kd := hS.2.ne
      have kl := hS.1.size
      refine hK.out _ _ (by first | exact hS.alloc _ | exact (hS.alloc _).drew) (fun hS2 => ?_)
      clear hK K
      try simp only [List.setIfInBounds_toArray, List.set_cons_zero, List.set_cons_succ]
      exact G7 _ (by kernel_rfl) _ _ _ _ _ _ _ _ _ _ _ _ _ _ hS2 (z1_0.below (below_alloc _ _)) (z3_0.below (below_alloc _ _)) (z5_0.below (below_alloc _ _)) (newK2 hS2) kd kl
    exact AllReadyH.nil
  have G13 : ∀ (lst : Array Bool) (_ : lst = #[true, true, true, true, true, false, true, false, false, false, false, false]) (W : World) (x1 : Bool) (A1 : Option Addr) (n1 : Nat) (c1 : Nat) (x3 : Bool) (A3 : Option Addr) (n3 : Nat) (c3 : Nat) (p6 : Nat) (_ : Keeps w0 [(pa, 0, .int .i64 a0), (pa, 1, .int .u64 a1), (pb, 0, .int .i64 b0), (pb, 1, .int .u64 b1), (r, 0, .int .i64 0), (r, 1, .int .u64 0)] W) (_ : NumZ W (.agg #[.bool x1, .slice A1 n1 c1]) zb) (_ : NumZ W (.agg #[.bool x3, .slice A3 n3 c3]) za) (_ : Keeps w0 [(p6, 0, .bool false), (p6, 1, .slice none 0 0)] W) (_ : ∀ q ∈ ([(pa, 0, .int .i64 a0), (pa, 1, .int .u64 a1), (pb, 0, .int .i64 b0), (pb, 1, .int .u64 b1), (r, 0, .int .i64 0), (r, 1, .int .u64 0)] : List (Nat × Nat × Value)), q.1 ≠ p6) (_ : w0.heap.size ≤ p6), wpAnyH Try.prog .any (regOps Try.f15 1) Q (Keeps w0 [(pa, 0, .int .i64 a0), (pa, 1, .int .u64 a1), (pb, 0, .int .i64 b0), (pb, 1, .int .u64 b1), (r, 0, .int .i64 0), (r, 1, .int .u64 0)]) 6 lst { tmps := #[.int .i64 n, wideV a0 a1, wideV b0 b1, .int .i64 m, undef, .pointer (some ⟨pa, 0, none⟩), .pointer (some ⟨pb, 0, none⟩), undef, .pointer (some ⟨r, 0, none⟩), .int .i64 0, .pointer (some ⟨p6, 0, none⟩), undef, undef, undef, undef, undef, undef, undef, undef, undef, undef, .agg #[.int .i64 b0, .int .u64 b1], .agg #[.bool x1, .slice A1 n1 c1], .agg #[.int .i64 a0, .int .u64 a1], .agg #[.bool x3, .slice A3 n3 c3], .int .i64 m, undef, undef, undef, undef, undef, undef, undef, undef, undef, undef, undef, undef, undef, undef, undef, undef, undef, undef, undef, undef, undef, undef, undef, undef, undef, undef, undef, undef, undef, undef, undef, undef], defers := [] } W := by
    rintro lst rfl W x1 A1 n1 c1 x3 A3 n3 c3 p6 hS z1_0 z3_0 k6 d6 l6
    refine wpAnyH_ready (rs := [5, 7, 8]) (by kernel_rfl) (by simp) ?_
    refine AllReadyH.cons (o := ⟨some 26, _, _, _, _, _⟩) rfl (fun K hK => ?_) ?_
    · go_simp
      (with_reducible refine Calls.mono (OM.out _) ?_); rintro e w5 ⟨x5, A5, n5, c5, rfl, hb, y0⟩
      refine hK.out _ _ (hS.next hb) (fun hS2 => ?_)
      clear hK K
      try simp only [List.setIfInBounds_toArray, List.set_cons_zero, List.set_cons_succ]
      exact G5 _ (by kernel_rfl) _ _ _ _ _ _ _ _ _ _ _ _ _ _ hS2 (z1_0.below hb) (z3_0.below hb) y0 (k6.next hb) d6 l6
    refine AllReadyH.cons (o := ⟨some 11, _, _, _, _, _⟩) rfl (fun K hK => ?_) ?_
    · go_simp
      have kd := hS.2.ne
      have kl := hS.1.size
      refine hK.out _ _ (by first | exact hS.alloc _ | exact (hS.alloc _).drew) (fun hS2 => ?_)
      clear hK K
      try simp only [List.setIfInBounds_toArray, List.set_cons_zero, List.set_cons_succ]
      exact G8 _ (by kernel_rfl) _ _ _ _ _ _ _ _ _ _ _ hS2 (z1_0.below (below_alloc _ _)) (z3_0.below (below_alloc _ _)) (k6.alloc _) d6 l6 (newK2 hS2) kd kl (Nat.ne_of_lt k6.2.1.1)
    refine AllReadyH.cons (o := ⟨some 12, _, _, _, _, _⟩) rfl (fun K hK => ?_) ?_
    · go_simp
      have kd := hS.2.ne
      have kl := hS.1.size
      refine hK.out _ _ (by first | exact hS.alloc _ | exact (hS.alloc _).drew) (fun hS2 => ?_)
      clear hK K
      try simp only [List.setIfInBounds_toArray, List.set_cons_zero, List.set_cons_succ]
      exact G9 _ (by kernel_rfl) _ _ _ _ _ _ _ _ _ _ _ hS2 (z1_0.below (below_alloc _ _)) (z3_0.below (below_alloc _ _)) (k6.alloc _) d6 l6 (newK2 hS2) kd kl (Nat.ne_of_lt k6.2.1.1)
    exact AllReadyH.nil
  have G14 : ∀ (lst : Array Bool) (_ : lst = #[true, true, true, true, true, false, false, true, false, false, false, false]) (W : World) (x1 : Bool) (A1 : Option Addr) (n1 : Nat) (c1 : Nat) (x3 : Bool) (A3 : Option Addr) (n3 : Nat) (c3 : Nat) (p7 : Nat) (_ : Keeps w0 [(pa, 0, .int .i64 a0), (pa, 1, .int .u64 a1), (pb, 0, .int .i64 b0), (pb, 1, .int .u64 b1), (r, 0, .int .i64 0), (r, 1, .int .u64 0)] W) (_ : NumZ W (.agg #[.bool x1, .slice A1 n1 c1]) zb) (_ : NumZ W (.agg #[.bool x3, .slice A3 n3 c3]) za) (_ : Keeps w0 [(p7, 0, .bool false), (p7, 1, .slice none 0 0)] W) (_ : ∀ q ∈ ([(pa, 0, .int .i64 a0), (pa, 1, .int .u64 a1), (pb, 0, .int .i64 b0), (pb, 1, .int .u64 b1), (r, 0, .int .i64 0), (r, 1, .int .u64 0)] : List (Nat × Nat × Value)), q.1 ≠ p7) (_ : w0.heap.size ≤ p7), wpAnyH Try.prog .any (regOps Try.f15 1) Q (Keeps w0 [(pa, 0, .int .i64 a0), (pa, 1, .int .u64 a1), (pb, 0, .int .i64 b0), (pb, 1, .int .u64 b1), (r, 0, .int .i64 0), (r, 1, .int .u64 0)]) 6 lst { tmps := #[.int .i64 n, wideV a0 a1, wideV b0 b1, .int .i64 m, undef, .pointer (some ⟨pa, 0, none⟩), .pointer (some ⟨pb, 0, none⟩), undef, .pointer (some ⟨r, 0, none⟩), .int .i64 0, undef, .pointer (some ⟨p7, 0, none⟩), undef, undef, undef, undef, undef, undef, undef, undef, undef, .agg #[.int .i64 b0, .int .u64 b1], .agg #[.bool x1, .slice A1 n1 c1], .agg #[.int .i64 a0, .int .u64 a1], .agg #[.bool x3, .slice A3 n3 c3], .int .i64 m, undef, undef, undef, undef, undef, undef, undef, undef, undef, undef, undef, undef, undef, undef, undef, undef, undef, undef, undef, undef, undef, undef, undef, undef, undef, undef, undef, undef, undef, undef, undef, undef], defers := [] } W := by
    rintro lst rfl W x1 A1 n1 c1 x3 A3 n3 c3 p7 hS z1_0 z3_0 k7 d7 l7
    refine wpAnyH_ready (rs := [5, 6, 8]) (by kernel_rfl) (by simp) ?_
    refine AllReadyH.cons (o := ⟨some 26, _, _, _, _, _⟩) rfl (fun K hK => ?_) ?_
    · go_simp
      (with_reducible refine Calls.mono (OM.out _) ?_); rintro e w5 ⟨x5, A5, n5, c5, rfl, hb, y0⟩
      refine hK.out _ _ (hS.next hb) (fun hS2 => ?_)
      clear hK K
      try simp only [List.setIfInBounds_toArray, List.set_cons_zero, List.set_cons_succ]
      exact G6 _ (by kernel_rfl) _ _ _ _ _ _ _ _ _ _ _ _ _ _ hS2 (z1_0.below hb) (z3_0.below hb) y0 (k7.next hb) d7 l7
    refine AllReadyH.cons (o := ⟨some 10, _, _, _, _, _⟩) rfl (fun K hK => ?_) ?_
    · go_simp
      have kd := hS.2.ne
      have kl := hS.1.size
      refine hK.out _ _ (by first | exact hS.alloc _ | exact (hS.alloc _).drew) (fun hS2 => ?_)
      clear hK K
      try simp only [List.setIfInBounds_toArray, List.set_cons_zero, List.set_cons_succ]
      exact G8 _ (by kernel_rfl) _ _ _ _ _ _ _ _ _ _ _ hS2 (z1_0.below (below_alloc _ _)) (z3_0.below (below_alloc _ _)) (newK2 hS2) kd kl (k7.alloc _) d7 l7 (Nat.ne_of_gt k7.2.1.1)
    refine AllReadyH.cons (o := ⟨some 12, _, _, _, _, _⟩) rfl (fun K hK => ?_) ?_
    · go_simp
      have kd := hS.2.ne
      have kl := hS.1.size
      refine hK.out _ _ (by first | exact hS.alloc _ | exact (hS.alloc _).drew) (fun hS2 => ?_)
      clear hK K
      try simp only [List.setIfInBounds_toArray, List.set_cons_zero, List.set_cons_succ]
      exact G10 _ (by kernel_rfl) _ _ _ _ _ _ _ _ _ _ _ hS2 (z1_0.below (below_alloc _ _)) (z3_0.below (below_alloc _ _)) (k7.alloc _) d7 l7 (newK2 hS2) kd kl (Nat.ne_of_lt k7.2.1.1)
    exact AllReadyH.nil
  have G15 : ∀ (lst : Array Bool) (_ : lst = #[true, true, true, true, true, false, false, false, true, false, false, false]) (W : World) (x1 : Bool) (A1 : Option Addr) (n1 : Nat) (c1 : Nat) (x3 : Bool) (A3 : Option Addr) (n3 : Nat) (c3 : Nat) (p8 : Nat) (_ : Keeps w0 [(pa, 0, .int .i64 a0), (pa, 1, .int .u64 a1), (pb, 0, .int .i64 b0), (pb, 1, .int .u64 b1), (r, 0, .int .i64 0), (r, 1, .int .u64 0)] W) (_ : NumZ W (.agg #[.bool x1, .slice A1 n1 c1]) zb) (_ : NumZ W (.agg #[.bool x3, .slice A3 n3 c3]) za) (_ : Keeps w0 [(p8, 0, .bool false), (p8, 1, .slice none 0 0)] W) (_ : ∀ q ∈ ([(pa, 0, .int .i64 a0), (pa, 1, .int .u64 a1), (pb, 0, .int .i64 b0), (pb, 1, .int .u64 b1), (r, 0, .int .i64 0), (r, 1, .int .u64 0)] : List (Nat × Nat × Value)), q.1 ≠ p8) (_ : w0.heap.size ≤ p8), wpAnyH Try.prog .any (regOps Try.f15 1) Q (Keeps w0 [(pa, 0, .int .i64 a0), (pa, 1, .int .u64 a1), (pb, 0, .int .i64 b0), (pb, 1, .int .u64 b1), (r, 0, .int .i64 0), (r, 1, .int .u64 0)]) 6 lst { tmps := #[.int .i64 n, wideV a0 a1, wideV b0 b1, .int .i64 m, undef, .pointer (some ⟨pa, 0, none⟩), .pointer (some ⟨pb, 0, none⟩), undef, .pointer (some ⟨r, 0, none⟩), .int .i64 0, undef, undef, .pointer (some ⟨p8, 0, none⟩), undef, undef, undef, undef, undef, undef, undef, undef, .agg #[.int .i64 b0, .int .u64 b1], .agg #[.bool x1, .slice A1 n1 c1], .agg #[.int .i64 a0, .int .u64 a1], .agg #[.bool x3, .slice A3 n3 c3], .int .i64 m, undef, undef, undef, undef, undef, undef, undef, undef, undef, undef, undef, undef, undef, undef, undef, undef, undef, undef, undef, undef, undef, undef, undef, undef, undef, undef, undef, undef, undef, undef, undef, undef], defers := [] } W := by
    rintro lst rfl W x1 A1 n1 c1 x3 A3 n3 c3 p8 hS z1_0 z3_0 k8 d8 l8
    refine wpAnyH_ready (rs := [5, 6, 7]) (by kernel_rfl) (by simp) ?_
    refine AllReadyH.cons (o := ⟨some 26, _, _, _, _, _⟩) rfl (fun K hK => ?_) ?_
    · go_simp
      (with_reducible refine Calls.mono (OM.out _) ?_); rintro e w5 ⟨x5, A5, n5, c5, rfl, hb, y0⟩
      refine hK.out _ _ (hS.next hb) (fun hS2 => ?_)
      clear hK K
      try simp only [List.setIfInBounds_toArray, List.set_cons_zero, List.set_cons_succ]
      exact G7 _ (by kernel_rfl) _ _ _ _ _ _ _ _ _ _ _ _ _ _ hS2 (z1_0.below hb) (z3_0.below hb) y0 (k8.next hb) d8 l8
    refine AllReadyH.cons (o := ⟨some 10, _, _, _, _, _⟩) rfl (fun K hK => ?_) ?_
    · go_simp
      have kd := hS.2.ne
      have kl := hS.1.size
      refine hK.out _ _ (by first | exact hS.alloc _ | exact (hS.alloc _).drew) (fun hS2 => ?_)
      clear hK K
      try simp only [List.setIfInBounds_toArray, List.set_cons_zero, List.set_cons_succ]
      exact G9 _ (by kernel_rfl) _ _ _ _ _ _ _ _ _ _ _ hS2 (z1_0.below (below_alloc _ _)) (z3_0.below (below_alloc _ _)) (newK2 hS2) kd kl (k8.alloc _) d8 l8 (Nat.ne_of_gt k8.2.1.1)
    refine AllReadyH.cons (o := ⟨some 11, _, _, _, _, _⟩) rfl (fun K hK => ?_) ?_
    · go_simp
      have kd := hS.2.ne
      have kl := hS.1.size
      refine hK.out _ _ (by first | exact hS.alloc _ | exact (hS.alloc _).drew) (fun hS2 => ?_)
      clear hK K
      try simp only [List.setIfInBounds_toArray, List.set_cons_zero, List.set_cons_succ]
      exact G10 _ (by kernel_rfl) _ _ _ _ _ _ _ _ _ _ _ hS2 (z1_0.below (below_alloc _ _)) (z3_0.below (below_alloc _ _)) (newK2 hS2) kd kl (k8.alloc _) d8 l8 (Nat.ne_of_gt k8.2.1.1)
    exact AllReadyH.nil
  have G16 : ∀ (lst : Array Bool) (_ : lst = #[true, true, true, false, true, false, true, true, false, false, false, false]) (W : World) (x1 : Bool) (A1 : Option Addr) (n1 : Nat) (c1 : Nat) (p6 : Nat) (p7 : Nat) (_ : Keeps w0 [(pa, 0, .int .i64 a0), (pa, 1, .int .u64 a1), (pb, 0, .int .i64 b0), (pb, 1, .int .u64 b1), (r, 0, .int .i64 0), (r, 1, .int .u64 0)] W) (_ : NumZ W (.agg #[.bool x1, .slice A1 n1 c1]) zb) (_ : Keeps w0 [(p6, 0, .bool false), (p6, 1, .slice none 0 0)] W) (_ : ∀ q ∈ ([(pa, 0, .int .i64 a0), (pa, 1, .int .u64 a1), (pb, 0, .int .i64 b0), (pb, 1, .int .u64 b1), (r, 0, .int .i64 0), (r, 1, .int .u64 0)] : List (Nat × Nat × Value)), q.1 ≠ p6) (_ : w0.heap.size ≤ p6) (_ : Keeps w0 [(p7, 0, .bool false), (p7, 1, .slice none 0 0)] W) (_ : ∀ q ∈ ([(pa, 0, .int .i64 a0), (pa, 1, .int .u64 a1), (pb, 0, .int .i64 b0), (pb, 1, .int .u64 b1), (r, 0, .int .i64 0), (r, 1, .int .u64 0)] : List (Nat × Nat × Value)), q.1 ≠ p7) (_ : w0.heap.size ≤ p7) (_ : p6 ≠ p7), wpAnyH Try.prog .any (regOps Try.f15 1) Q (Keeps w0 [(pa, 0, .int .i64 a0), (pa, 1, .int .u64 a1), (pb, 0, .int .i64 b0), (pb, 1, .int .u64 b1), (r, 0, .int .i64 0), (r, 1, .int .u64 0)]) 6 lst { tmps := #[.int .i64 n, wideV a0 a1, wideV b0 b1, .int .i64 m, undef, .pointer (some ⟨pa, 0, none⟩), .pointer (some ⟨pb, 0, none⟩), undef, .pointer (some ⟨r, 0, none⟩), .int .i64 0, .pointer (some ⟨p6, 0, none⟩), .pointer (some ⟨p7, 0, none⟩), undef, undef, undef, undef, undef, undef, undef, undef, undef, .agg #[.int .i64 b0, .int .u64 b1], .agg #[.bool x1, .slice A1 n1 c1], .agg #[.int .i64 a0, .int .u64 a1], undef, .int .i64 m, undef, undef, undef, undef, undef, undef, undef, undef, undef, undef, undef, undef, undef, undef, undef, undef, undef, undef, undef, undef, undef, undef, undef, undef, undef, undef, undef, undef, undef, undef, undef, undef], defers := [] } W := by
    rintro lst rfl W x1 A1 n1 c1 p6 p7 hS z1_0 k6 d6 l6 k7 d7 l7 e6_7
    refine wpAnyH_ready (rs := [3, 8]) (by kernel_rfl) (by simp) ?_
    refine AllReadyH.cons (o := ⟨some 24, _, _, _, _, _⟩) rfl (fun K hK => ?_) ?_
    · go_simp
      (with_reducible refine Calls.mono (OA.out _) ?_); rintro e w5 ⟨x3, A3, n3, c3, rfl, hb, y0⟩
      refine hK.out _ _ (hS.next hb) (fun hS2 => ?_)
      clear hK K
      try simp only [List.setIfInBounds_toArray, List.set_cons_zero, List.set_cons_succ]
      exact G8 _ (by kernel_rfl) _ _ _ _ _ _ _ _ _ _ _ hS2 (z1_0.below hb) y0 (k6.next hb) d6 l6 (k7.next hb) d7 l7 e6_7
    refine AllReadyH.cons (o := ⟨some 12, _, _, _, _, _⟩) rfl (fun K hK => ?_) ?_
    · go_simp
      have kd := hS.2.ne
      have kl := hS.1.size
      refine hK.out _ _ (by first | exact hS.alloc _ | exact (hS.alloc _).drew) (fun hS2 => ?_)
      clear hK K
      try simp only [List.setIfInBounds_toArray, List.set_cons_zero, List.set_cons_succ]
      exact G11 _ (by kernel_rfl) _ _ _ _ _ _ _ _ hS2 (z1_0.below (below_alloc _ _)) (k6.alloc _) d6 l6 (k7.alloc _) d7 l7 (newK2 hS2) kd kl e6_7 (Nat.ne_of_lt k6.2.1.1) (Nat.ne_of_lt k7.2.1.1)
    exact AllReadyH.nil
  have G17 : ∀ (lst : Array Bool) (_ : lst = #[true, true, true, false, true, false, true, false, true, false, false, false]) (W : World) (x1 : Bool) (A1 : Option Addr) (n1 : Nat) (c1 : Nat) (p6 : Nat) (p8 : Nat) (_ : Keeps w0 [(pa, 0, .int .i64 a0), (pa, 1, .int .u64 a1), (pb, 0, .int .i64 b0), (pb, 1, .int .u64 b1), (r, 0, .int .i64 0), (r, 1, .int .u64 0)] W) (_ : NumZ W (.agg #[.bool x1, .slice A1 n1 c1]) zb) (_ : Keeps w0 [(p6, 0, .bool false), (p6, 1, .slice none 0 0)] W) (_ : ∀ q ∈ ([(pa, 0, .int .i64 a0), (pa, 1, .int .u64 a1), (pb, 0, .int .i64 b0), (pb, 1, .int .u64 b1), (r, 0, .int .i64 0), (r, 1, .int .u64 0)] : List (Nat × Nat × Value)), q.1 ≠ p6) (_ : w0.heap.size ≤ p6) (_ : Keeps w0 [(p8, 0, .bool false), (p8, 1, .slice none 0 0)] W) (_ : ∀ q ∈ ([(pa, 0, .int .i64 a0), (pa, 1, .int .u64 a1), (pb, 0, .int .i64 b0), (pb, 1, .int .u64 b1), (r, 0, .int .i64 0), (r, 1, .int .u64 0)] : List (Nat × Nat × Value)), q.1 ≠ p8) (_ : w0.heap.size ≤ p8) (_ : p6 ≠ p8), wpAnyH Try.prog .any (regOps Try.f15 1) Q (Keeps w0 [(pa, 0, .int .i64 a0), (pa, 1, .int .u64 a1), (pb, 0, .int .i64 b0), (pb, 1, .int .u64 b1), (r, 0, .int .i64 0), (r, 1, .int .u64 0)]) 6 lst { tmps := #[.int .i64 n, wideV a0 a1, wideV b0 b1, .int .i64 m, undef, .pointer (some ⟨pa, 0, none⟩), .pointer (some ⟨pb, 0, none⟩), undef, .pointer (some ⟨r, 0, none⟩), .int .i64 0, .pointer (some ⟨p6, 0, none⟩), undef, .pointer (some ⟨p8, 0, none⟩), undef, undef, undef, undef, undef, undef, undef, undef, .agg #[.int .i64 b0, .int .u64 b1], .agg #[.bool x1, .slice A1 n1 c1], .agg #[.int .i64 a0, .int .u64 a1], undef, .int .i64 m, undef, undef, undef, undef, undef, undef, undef, undef, undef, undef, undef, undef, undef, undef, undef, undef, undef, undef, undef, undef, undef, undef, undef, undef, undef, undef, undef, undef, undef, undef, undef, undef], defers := [] } W := by
    rintro lst rfl W x1 A1 n1 c1 p6 p8 hS z1_0 k6 d6 l6 k8 d8 l8 e6_8
    refine wpAnyH_ready (rs := [3, 7]) (by kernel_rfl) (by simp) ?_
    refine AllReadyH.cons (o := ⟨some 24, _, _, _, _, _⟩) rfl (fun K hK => ?_) ?_
    · go_simp
      (with_reducible refine Calls.mono (OA.out _) ?_); rintro e w5 ⟨x3, A3, n3, c3, rfl, hb, y0⟩
      refine hK.out _ _ (hS.next hb) (fun hS2 => ?_)
      clear hK K
      try simp only [List.setIfInBounds_toArray, List.set_cons_zero, List.set_cons_succ]
      exact G9 _ (by kernel_rfl) _ _ _ _ _ _ _ _ _ _ _ hS2 (z1_0.below hb) y0 (k6.next hb) d6 l6 (k8.next hb) d8 l8 e6_8
    refine AllReadyH.cons (o := ⟨some 11, _, _, _, _, _⟩) rfl (fun K hK => ?_) ?_
    · go_simp
      have kd := hS.2.ne
      have kl := hS.1.size
      refine hK.out _ _ (by first | exact hS.alloc _ | exact (hS.alloc _).drew) (fun hS2 => ?_)
      clear hK K
      try simp only [List.setIfInBounds_toArray, List.set_cons_zero, List.set_cons_succ]
      exact G11 _ (by kernel_rfl) _ _ _ _ _ _ _ _ hS2 (z1_0.below (below_alloc _ _)) (k6.alloc _) d6 l6 (newK2 hS2) kd kl (k8.alloc _) d8 l8 (Nat.ne_of_lt k6.2.1.1) e6_8 (Nat.ne_of_gt k8.2.1.1)
    exact AllReadyH.nil
  have G18 : ∀ (lst : Array Bool) (_ : lst = #[true, true, true, false, true, false, false, true, true, false, false, false]) (W : World) (x1 : Bool) (A1 : Option Addr) (n1 : Nat) (c1 : Nat) (p7 : Nat) (p8 : Nat) (_ : Keeps w0 [(pa, 0, .int .i64 a0), (pa, 1, .int .u64 a1), (pb, 0, .int .i64 b0), (pb, 1, .int .u64 b1), (r, 0, .int .i64 0), (r, 1, .int .u64 0)] W) (_ : NumZ W (.agg #[.bool x1, .slice A1 n1 c1]) zb) (_ : Keeps w0 [(p7, 0, .bool false), (p7, 1, .slice none 0 0)] W) (_ : ∀ q ∈ ([(pa, 0, .int .i64 a0), (pa, 1, .int .u64 a1), (pb, 0, .int .i64 b0), (pb, 1, .int .u64 b1), (r, 0, .int .i64 0), (r, 1, .int .u64 0)] : List (Nat × Nat × Value)), q.1 ≠ p7) (_ : w0.heap.size ≤ p7) (_ : Keeps w0 [(p8, 0, .bool false), (p8, 1, .slice none 0 0)] W) (_ : ∀ q ∈ ([(pa, 0, .int .i64 a0), (pa, 1, .int .u64 a1), (pb, 0, .int .i64 b0), (pb, 1, .int .u64 b1), (r, 0, .int .i64 0), (r, 1, .int .u64 0)] : List (Nat × Nat × Value)), q.1 ≠ p8) (_ : w0.heap.size ≤ p8) (_ : p7 ≠ p8), wpAnyH Try.prog .any (regOps Try.f15 1) Q (Keeps w0 [(pa, 0, .int .i64 a0), (pa, 1, .int .u64 a1), (pb, 0, .int .i64 b0), (pb, 1, .int .u64 b1), (r, 0, .int .i64 0), (r, 1, .int .u64 0)]) 6 lst { tmps := #[.int .i64 n, wideV a0 a1, wideV b0 b1, .int .i64 m, undef, .pointer (some ⟨pa, 0, none⟩), .pointer (some ⟨pb, 0, none⟩), undef, .pointer (some ⟨r, 0, none⟩), .int .i64 0, undef, .pointer (some ⟨p7, 0, none⟩), .pointer (some ⟨p8, 0, none⟩), undef, undef, undef, undef, undef, undef, undef, undef, .agg #[.int .i64 b0, .int .u64 b1], .agg #[.bool x1, .slice A1 n1 c1], .agg #[.int .i64 a0, .int .u64 a1], undef, .int .i64 m, undef, undef, undef, undef, undef, undef, undef, undef, undef, undef, undef, undef, undef, undef, undef, undef, undef, undef, undef, undef, undef, undef, undef, undef, undef, undef, undef, undef, undef, undef, undef, undef], defers := [] } W := by
    rintro lst rfl W x1 A1 n1 c1 p7 p8 hS z1_0 k7 d7 l7 k8 d8 l8 e7_8
    refine wpAnyH_ready (rs := [3, 6]) (by kernel_rfl) (by simp) ?_
    refine AllReadyH.cons (o := ⟨some 24, _, _, _, _, _⟩) rfl (fun K hK => ?_) ?_
    · go_simp
      (with_reducible refine Calls.mono (OA.out _) ?_); rintro e w5 ⟨x3, A3, n3, c3, rfl, hb, y0⟩
      refine hK.out _ _ (hS.next hb) (fun hS2 => ?_)
      clear hK K
      try simp only [List.setIfInBounds_toArray, List.set_cons_zero, List.set_cons_succ]
      exact G10 _ (by kernel_rfl) _ _ _ _ _ _ _ _ _ _ _ hS2 (z1_0.below hb) y0 (k7.next hb) d7 l7 (k8.next hb) d8 l8 e7_8
    refine AllReadyH.cons (o := ⟨some 10, _, _, _, _, _⟩) rfl (fun K hK => ?_) ?_
    · go_simp
      have kd := hS.2.ne
      have kl := hS.1.size
      refine hK.out _ _ (by first | exact hS.alloc _ | exact (hS.alloc _).drew) (fun hS2 => ?_)
      clear hK K
      try simp only [List.setIfInBounds_toArray, List.set_cons_zero, List.set_cons_succ]
      exact G11 _ (by kernel_rfl) _ _ _ _ _ _ _ _ hS2 (z1_0.below (below_alloc _ _)) (newK2 hS2) kd kl (k7.alloc _) d7 l7 (k8.alloc _) d8 l8 (Nat.ne_of_gt k7.2.1.1) (Nat.ne_of_gt k8.2.1.1) e7_8
    exact AllReadyH.nil
  have G19 : ∀ (lst : Array Bool) (_ : lst = #[true, false, true, false, true, false, true, true, true, false, false, false]) (W : World) (p6 : Nat) (p7 : Nat) (p8 : Nat) (_ : Keeps w0 [(pa, 0, .int .i64 a0), (pa, 1, .int .u64 a1), (pb, 0, .int .i64 b0), (pb, 1, .int .u64 b1), (r, 0, .int .i64 0), (r, 1, .int .u64 0)] W) (_ : Keeps w0 [(p6, 0, .bool false), (p6, 1, .slice none 0 0)] W) (_ : ∀ q ∈ ([(pa, 0, .int .i64 a0), (pa, 1, .int .u64 a1), (pb, 0, .int .i64 b0), (pb, 1, .int .u64 b1), (r, 0, .int .i64 0), (r, 1, .int .u64 0)] : List (Nat × Nat × Value)), q.1 ≠ p6) (_ : w0.heap.size ≤ p6) (_ : Keeps w0 [(p7, 0, .bool false), (p7, 1, .slice none 0 0)] W) (_ : ∀ q ∈ ([(pa, 0, .int .i64 a0), (pa, 1, .int .u64 a1), (pb, 0, .int .i64 b0), (pb, 1, .int .u64 b1), (r, 0, .int .i64 0), (r, 1, .int .u64 0)] : List (Nat × Nat × Value)), q.1 ≠ p7) (_ : w0.heap.size ≤ p7) (_ : Keeps w0 [(p8, 0, .bool false), (p8, 1, .slice none 0 0)] W) (_ : ∀ q ∈ ([(pa, 0, .int .i64 a0), (pa, 1, .int .u64 a1), (pb, 0, .int .i64 b0), (pb, 1, .int .u64 b1), (r, 0, .int .i64 0), (r, 1, .int .u64 0)] : List (Nat × Nat × Value)), q.1 ≠ p8) (_ : w0.heap.size ≤ p8) (_ : p6 ≠ p7) (_ : p6 ≠ p8) (_ : p7 ≠ p8), wpAnyH Try.prog .any (regOps Try.f15 1) Q (Keeps w0 [(pa, 0, .int .i64 a0), (pa, 1, .int .u64 a1), (pb, 0, .int .i64 b0), (pb, 1, .int .u64 b1), (r, 0, .int .i64 0), (r, 1, .int .u64 0)]) 6 lst { tmps := #[.int .i64 n, wideV a0 a1, wideV b0 b1, .int .i64 m, undef, .pointer (some ⟨pa, 0, none⟩), .pointer (some ⟨pb, 0, none⟩), undef, .pointer (some ⟨r, 0, none⟩), .int .i64 0, .pointer (some ⟨p6, 0, none⟩), .pointer (some ⟨p7, 0, none⟩), .pointer (some ⟨p8, 0, none⟩), undef, undef, undef, undef, undef, undef, undef, undef, .agg #[.int .i64 b0, .int .u64 b1], undef, .agg #[.int .i64 a0, .int .u64 a1], undef, .int .i64 m, undef, undef, undef, undef, undef, undef, undef, undef, undef, undef, undef, undef, undef, undef, undef, undef, undef, undef, undef, undef, undef, undef, undef, undef, undef, undef, undef, undef, undef, undef, undef, undef], defers := [] } W := by
    rintro lst rfl W p6 p7 p8 hS k6 d6 l6 k7 d7 l7 k8 d8 l8 e6_7 e6_8 e7_8
    refine wpAnyH_ready (rs := [1]) (by kernel_rfl) (by simp) ?_
    refine AllReadyH.cons (o := ⟨some 22, _, _, _, _, _⟩) rfl (fun K hK => ?_) ?_
    · go_simp
      (with_reducible refine Calls.mono (OB.out _) ?_); rintro e w5 ⟨x1, A1, n1, c1, rfl, hb, y0⟩
      refine hK.out _ _ (hS.next hb) (fun hS2 => ?_)
      clear hK K
      try simp only [List.setIfInBounds_toArray, List.set_cons_zero, List.set_cons_succ]
      exact G11 _ (by kernel_rfl) _ _ _ _ _ _ _ _ hS2 y0 (k6.next hb) d6 l6 (k7.next hb) d7 l7 (k8.next hb) d8 l8 e6_7 e6_8 e7_8
    exact AllReadyH.nil
  have G20 : ∀ (lst : Array Bool) (_ : lst = #[true, true, true, true, true, false, false, false, false, false, false, false]) (W : World) (x1 : Bool) (A1 : Option Addr) (n1 : Nat) (c1 : Nat) (x3 : Bool) (A3 : Option Addr) (n3 : Nat) (c3 : Nat) (_ : Keeps w0 [(pa, 0, .int .i64 a0), (pa, 1, .int .u64 a1), (pb, 0, .int .i64 b0), (pb, 1, .int .u64 b1), (r, 0, .int .i64 0), (r, 1, .int .u64 0)] W) (_ : NumZ W (.agg #[.bool x1, .slice A1 n1 c1]) zb) (_ : NumZ W (.agg #[.bool x3, .slice A3 n3 c3]) za), wpAnyH Try.prog .any (regOps Try.f15 1) Q (Keeps w0 [(pa, 0, .int .i64 a0), (pa, 1, .int .u64 a1), (pb, 0, .int .i64 b0), (pb, 1, .int .u64 b1), (r, 0, .int .i64 0), (r, 1, .int .u64 0)]) 7 lst { tmps := #[.int .i64 n, wideV a0 a1, wideV b0 b1, .int .i64 m, undef, .pointer (some ⟨pa, 0, none⟩), .pointer (some ⟨pb, 0, none⟩), undef, .pointer (some ⟨r, 0, none⟩), .int .i64 0, undef, undef, undef, undef, undef, undef, undef, undef, undef, undef, undef, .agg #[.int .i64 b0, .int .u64 b1], .agg #[.bool x1, .slice A1 n1 c1], .agg #[.int .i64 a0, .int .u64 a1], .agg #[.bool x3, .slice A3 n3 c3], .int .i64 m, undef, undef, undef, undef, undef, undef, undef, undef, undef, undef, undef, undef, undef, undef, undef, undef, undef, undef, undef, undef, undef, undef, undef, undef, undef, undef, undef, undef, undef, undef, undef, undef], defers := [] } W := by
    rintro lst rfl W x1 A1 n1 c1 x3 A3 n3 c3 hS z1_0 z3_0
    refine wpAnyH_ready (rs := [5, 6, 7, 8]) (by kernel_rfl) (by simp) ?_
    refine AllReadyH.cons (o := ⟨some 26, _, _, _, _, _⟩) rfl (fun K hK => ?_) ?_
    · go_simp
      (with_reducible refine Calls.mono (OM.out _) ?_); rintro e w5 ⟨x5, A5, n5, c5, rfl, hb, y0⟩
      refine hK.out _ _ (hS.next hb) (fun hS2 => ?_)
      clear hK K
      try simp only [List.setIfInBounds_toArray, List.set_cons_zero, List.set_cons_succ]
      exact G12 _ (by kernel_rfl) _ _ _ _ _ _ _ _ _ _ _ _ _ hS2 (z1_0.below hb) (z3_0.below hb) y0
    refine AllReadyH.cons (o := ⟨some 10, _, _, _, _, _⟩) rfl (fun K hK => ?_) ?_
    · go_simp
      have kd := hS.2.ne
      have kl := hS.1.size
      refine hK.out _ _ (by first | exact hS.alloc _ | exact (hS.alloc _).drew) (fun hS2 => ?_)
      clear hK K
      try simp only [List.setIfInBounds_toArray, List.set_cons_zero, List.set_cons_succ]
      exact G13 _ (by kernel_rfl) _ _ _ _ _ _ _ _ _ _ hS2 (z1_0.below (below_alloc _ _)) (z3_0.below (below_alloc _ _)) (newK2 hS2) kd kl
    refine AllReadyH.cons (o := ⟨some 11, _, _, _, _, _⟩) rfl (fun K hK => ?_) ?_
    · go_simp
      have kd := hS.2.ne
      have kl := hS.1.size
      refine hK.out _ _ (by first | exact hS.alloc _ | exact (hS.alloc _).drew) (fun hS2 => ?_)
      clear hK K
      try simp only [List.setIfInBounds_toArray, List.set_cons_zero, List.set_cons_succ]
      exact G14 _ (by kernel_rfl) _ _ _ _ _ _ _ _ _ _ hS2 (z1_0.below (below_alloc _ _)) (z3_0.below (below_alloc _ _)) (newK2 hS2) kd kl
    refine AllReadyH.cons (o := ⟨some 12, _, _, _, _, _⟩) rfl (fun K hK => ?_) ?_
    · go_simp
      have kd := hS.2.ne
      have kl := hS.1.size
      refine hK.out _ _ (by first | exact hS.alloc _ | exact (hS.alloc _).drew) (fun hS2 => ?_)
      clear hK K
      try simp only [List.setIfInBounds_toArray, List.set_cons_zero, List.set_cons_succ]
      exact G15 _ (by kernel_rfl) _ _ _ _ _ _ _ _ _ _ hS2 (z1_0.below (below_alloc _ _)) (z3_0.below (below_alloc _ _)) (newK2 hS2) kd kl
    exact AllReadyH.nil
  have G21 : ∀ (lst : Array Bool) (_ : lst = #[true, true, true, false, true, false, true, false, false, false, false, false]) (W : World) (x1 : Bool) (A1 : Option Addr) (n1 : Nat) (c1 : Nat) (p6 : Nat) (_ : Keeps w0 [(pa, 0, .int .i64 a0), (pa, 1, .int .u64 a1), (pb, 0, .int .i64 b0), (pb, 1, .int .u64 b1), (r, 0, .int .i64 0), (r, 1, .int .u64 0)] W) (_ : NumZ W (.agg #[.bool x1, .slice A1 n1 c1]) zb) (_ : Keeps w0 [(p6, 0, .bool false), (p6, 1, .slice none 0 0)] W) (_ : ∀ q ∈ ([(pa, 0, .int .i64 a0), (pa, 1, .int .u64 a1), (pb, 0, .int .i64 b0), (pb, 1, .int .u64 b1), (r, 0, .int .i64 0), (r, 1, .int .u64 0)] : List (Nat × Nat × Value)), q.1 ≠ p6) (_ : w0.heap.size ≤ p6), wpAnyH Try.prog .any (regOps Try.f15 1) Q (Keeps w0 [(pa, 0, .int .i64 a0), (pa, 1, .int .u64 a1), (pb, 0, .int .i64 b0), (pb, 1, .int .u64 b1), (r, 0, .int .i64 0), (r, 1, .int .u64 0)]) 7 lst { tmps := #[.int .i64 n, wideV a0 a1, wideV b0 b1, .int .i64 m, undef, .pointer (some ⟨pa, 0, none⟩), .pointer (some ⟨pb, 0, none⟩), undef, .pointer (some ⟨r, 0, none⟩), .int .i64 0, .pointer (some ⟨p6, 0, none⟩), undef, undef, undef, undef, undef, undef, undef, undef, undef, undef, .agg #[.int .i64 b0, .int .u64 b1], .agg #[.bool x1, .slice A1 n1 c1], .agg #[.int .i64 a0, .int .u64 a1], undef, .int .i64 m, undef, undef, undef, undef, undef, undef, undef, undef, undef, undef, undef, undef, undef, undef, undef, undef, undef, undef, undef, undef, undef, undef, undef, undef, undef, undef, undef, undef, undef, undef, undef, undef], defers := [] } W := by
    rintro lst rfl W x1 A1 n1 c1 p6 hS z1_0 k6 d6 l6
    refine wpAnyH_ready (rs := [3, 7, 8]) (by kernel_rfl) (by simp) ?_
    refine AllReadyH.cons (o := ⟨some 24, _, _, _, _, _⟩) rfl (fun K hK => ?_) ?_
    · go_simp
      (with_reducible refine Calls.mono (OA.out _) ?_); rintro e w5 ⟨x3, A3, n3, c3, rfl, hb, y0⟩
      refine hK.out _ _ (hS.next hb) (fun hS2 => ?_)
      clear hK K
      try simp only [List.setIfInBounds_toArray, List.set_cons_zero, List.set_cons_succ]
      exact G13 _ (by kernel_rfl) _ _ _ _ _ _ _ _ _ _ hS2 (z1_0.below hb) y0 (k6.next hb) d6 l6
    refine AllReadyH.cons (o := ⟨some 11, _, _, _, _, _⟩) rfl (fun K hK => ?_) ?_
    · go_simp
      have kd := hS.2.ne
      have kl := hS.1.size
      refine hK.out _ _ (by first | exact hS.alloc _ | exact (hS.alloc _).drew) (fun hS2 => ?_)
      clear hK K
      try simp only [List.setIfInBounds_toArray, List.set_cons_zero, List.set_cons_succ]
      exact G16 _ (by kernel_rfl) _ _ _ _ _ _ _ hS2 (z1_0.below (below_alloc _ _)) (k6.alloc _) d6 l6 (newK2 hS2) kd kl (Nat.ne_of_lt k6.2.1.1)
    refine AllReadyH.cons (o := ⟨some 12, _, _, _, _, _⟩) rfl (fun K hK => ?_) ?_
    · go_simp
      have kd := hS.2.ne
      have kl := hS.1.size
      refine hK.out _ _ (by first | exact hS.alloc _ | exact (hS.alloc _).drew) (fun hS2 => ?_)
      clear hK K
      try simp only [List.setIfInBounds_toArray, List.set_cons_zero, List.set_cons_succ]
      exact G17 _ (by kernel_rfl) _ _ _ _ _ _ _ hS2 (z1_0.below (below_alloc _ _)) (k6.alloc _) d6 l6 (newK2 hS2) kd kl (Nat.ne_of_lt k6.2.1.1)
    exact AllReadyH.nil
  have G22 : ∀ (lst : Array Bool) (_ : lst = #[true, true, true, false, true, false, false, true, false, false, false, false]) (W : World) (x1 : Bool) (A1 : Option Addr) (n1 : Nat) (c1 : Nat) (p7 : Nat) (_ : Keeps w0 [(pa, 0, .int .i64 a0), (pa, 1, .int .u64 a1), (pb, 0, .int .i64 b0), (pb, 1, .int .u64 b1), (r, 0, .int .i64 0), (r, 1, .int .u64 0)] W) (_ : NumZ W (.agg #[.bool x1, .slice A1 n1 c1]) zb) (_ : Keeps w0 [(p7, 0, .bool false), (p7, 1, .slice none 0 0)] W) (_ : ∀ q ∈ ([(pa, 0, .int .i64 a0), (pa, 1, .int .u64 a1), (pb, 0, .int .i64 b0), (pb, 1, .int .u64 b1), (r, 0, .int .i64 0), (r, 1, .int .u64 0)] : List (Nat × Nat × Value)), q.1 ≠ p7) (_ : w0.heap.size ≤ p7), wpAnyH Try.prog .any (regOps Try.f15 1) Q (Keeps w0 [(pa, 0, .int .i64 a0), (pa, 1, .int .u64 a1), (pb, 0, .int .i64 b0), (pb, 1, .int .u64 b1), (r, 0, .int .i64 0), (r, 1, .int .u64 0)]) 7 lst { tmps := #[.int .i64 n, wideV a0 a1, wideV b0 b1, .int .i64 m, undef, .pointer (some ⟨pa, 0, none⟩), .pointer (some ⟨pb, 0, none⟩), undef, .pointer (some ⟨r, 0, none⟩), .int .i64 0, undef, .pointer (some ⟨p7, 0, none⟩), undef, undef, undef, undef, undef, undef, undef, undef, undef, .agg #[.int .i64 b0, .int .u64 b1], .agg #[.bool x1, .slice A1 n1 c1], .agg #[.int .i64 a0, .int .u64 a1], undef, .int .i64 m, undef, undef, undef, undef, undef, undef, undef, undef, undef, undef, undef, undef, undef, undef, undef, undef, undef, undef, undef, undef, undef, undef, undef, undef, undef, undef, undef, undef, undef, undef, undef, undef], defers := [] } W := by
    rintro lst rfl W x1 A1 n1 c1 p7 hS z1_0 k7 d7 l7
    refine wpAnyH_ready (rs := [3, 6, 8]) (by kernel_rfl) (by simp) ?_
    refine AllReadyH.cons (o := ⟨some 24, _, _, _, _, _⟩) rfl (fun K hK => ?_) ?_
    · go_simp
      (with_reducible refine Calls.mono (OA.out _) ?_); rintro e w5 ⟨x3, A3, n3, c3, rfl, hb, y0⟩
      refine hK.out _ _ (hS.next hb) (fun hS2 => ?_)
      clear hK K
      try simp only [List.setIfInBounds_toArray, List.set_cons_zero, List.set_cons_succ]
      exact G14 _ (by kernel_rfl) _ _ _ _ _ _ _ _ _ _ hS2 (z1_0.below hb) y0 (k7.next hb) d7 l7
    refine AllReadyH.cons (o := ⟨some 10, _, _, _, _, _⟩) rfl (fun K hK => ?_) ?_
    · go_simp
      have kd := hS.2.ne
      have kl := hS.1.size
      refine hK.out _ _ (by first | exact hS.alloc _ | exact (hS.alloc _).drew) (fun hS2 => ?_)
      clear hK K
      try simp only [List.setIfInBounds_toArray, List.set_cons_zero, List.set_cons_succ]
      exact G16 _ (by kernel_rfl) _ _ _ _ _ _ _ hS2 (z1_0.below (below_alloc _ _)) (newK2 hS2) kd kl (k7.alloc _) d7 l7 (Nat.ne_of_gt k7.2.1.1)
    refine AllReadyH.cons (o := ⟨some 12, _, _, _, _, _⟩) rfl (fun K hK => ?_) ?_
    · go_simp
      have kd := hS.2.ne
      have kl := hS.1.size
      refine hK.out _ _ (by first | exact hS.alloc _ | exact (hS.alloc _).drew) (fun hS2 => ?_)
      clear hK K
      try simp only [List.setIfInBounds_toArray, List.set_cons_zero, List.set_cons_succ]
      exact G18 _ (by kernel_rfl) _ _ _ _ _ _ _ hS2 (z1_0.below (below_alloc _ _)) (k7.alloc _) d7 l7 (newK2 hS2) kd kl (Nat.ne_of_lt k7.2.1.1)
    exact AllReadyH.nil
  have G23 : ∀ (lst : Array Bool) (_ : lst = #[true, true, true, false, true, false, false, false, true, false, false, false]) (W : World) (x1 : Bool) (A1 : Option Addr) (n1 : Nat) (c1 : Nat) (p8 : Nat) (_ : Keeps w0 [(pa, 0, .int .i64 a0), (pa, 1, .int .u64 a1), (pb, 0, .int .i64 b0), (pb, 1, .int .u64 b1), (r, 0, .int .i64 0), (r, 1, .int .u64 0)] W) (_ : NumZ W (.agg #[.bool x1, .slice A1 n1 c1]) zb) (_ : Keeps w0 [(p8, 0, .bool false), (p8, 1, .slice none 0 0)] W) (_ : ∀ q ∈ ([(pa, 0, .int .i64 a0), (pa, 1, .int .u64 a1), (pb, 0, .int .i64 b0), (pb, 1, .int .u64 b1), (r, 0, .int .i64 0), (r, 1, .int .u64 0)] : List (Nat × Nat × Value)), q.1 ≠ p8) (_ : w0.heap.size ≤ p8), wpAnyH Try.prog .any (regOps Try.f15 1) Q (Keeps w0 [(pa, 0, .int .i64 a0), (pa, 1, .int .u64 a1), (pb, 0, .int .i64 b0), (pb, 1, .int .u64 b1), (r, 0, .int .i64 0), (r, 1, .int .u64 0)]) 7 lst { tmps := #[.int .i64 n, wideV a0 a1, wideV b0 b1, .int .i64 m, undef, .pointer (some ⟨pa, 0, none⟩), .pointer (some ⟨pb, 0, none⟩), undef, .pointer (some ⟨r, 0, none⟩), .int .i64 0, undef, undef, .pointer (some ⟨p8, 0, none⟩), undef, undef, undef, undef, undef, undef, undef, undef, .agg #[.int .i64 b0, .int .u64 b1], .agg #[.bool x1, .slice A1 n1 c1], .agg #[.int .i64 a0, .int .u64 a1], undef, .int .i64 m, undef, undef, undef, undef, undef, undef, undef, undef, undef, undef, undef, undef, undef, undef, undef, undef, undef, undef, undef, undef, undef, undef, undef, undef, undef, undef, undef, undef, undef, undef, undef, undef], defers := [] } W := by
    rintro lst rfl W x1 A1 n1 c1 p8 hS z1_0 k8 d8 l8
    refine wpAnyH_ready (rs := [3, 6, 7]) (by kernel_rfl) (by simp) ?_
    refine AllReadyH.cons (o := ⟨some 24, _, _, _, _, _⟩) rfl (fun K hK => ?_) ?_
    · go_simp
      (with_reducible refine Calls.mono (OA.out _) ?_); rintro e w5 ⟨x3, A3, n3, c3, rfl, hb, y0⟩
      refine hK.out _ _ (hS.next hb) (fun hS2 => ?_)
      clear hK K
      try simp only [List.setIfInBounds_toArray, List.set_cons_zero, List.set_cons_succ]
      exact G15 _ (by kernel_rfl) _ _ _ _ _ _ _ _ _ _ hS2 (z1_0.below hb) y0 (k8.next hb) d8 l8
    refine AllReadyH.cons (o := ⟨some 10, _, _, _, _, _⟩) rfl (fun K hK => ?_) ?_
    · go_simp
      have kd := hS.2.ne
      have kl := hS.1.size
      refine hK.out _ _ (by first | exact hS.alloc _ | exact (hS.alloc _).drew) (fun hS2 => ?_)
      clear hK K
      try simp only [List.setIfInBounds_toArray, List.set_cons_zero, List.set_cons_succ]
      exact G17 _ (by kernel_rfl) _ _ _ _ _ _ _ hS2 (z1_0.below (below_alloc _ _)) (newK2 hS2) kd kl (k8.alloc _) d8 l8 (Nat.ne_of_gt k8.2.1.1)
    refine AllReadyH.cons (o := ⟨some 11, _, _, _, _, _⟩) rfl (fun K hK => ?_) ?_
    · go_simp
      have kd := hS.2.ne
      have kl := hS.1.size
      refine hK.out _ _ (by first | exact hS.alloc _ | exact (hS.alloc _).drew) (fun hS2 => ?_)
      clear hK K
      try simp only [List.setIfInBounds_toArray, List.set_cons_zero, List.set_cons_succ]
      exact G18 _ (by kernel_rfl) _ _ _ _ _ _ _ hS2 (z1_0.below (below_alloc _ _)) (newK2 hS2) kd kl (k8.alloc _) d8 l8 (Nat.ne_of_gt k8.2.1.1)
    exact AllReadyH.nil
  have G24 : ∀ (lst : Array Bool) (_ : lst = #[true, false, true, false, true, false, true, true, false, false, false, false]) (W : World) (p6 : Nat) (p7 : Nat) (_ : Keeps w0 [(pa, 0, .int .i64 a0), (pa, 1, .int .u64 a1), (pb, 0, .int .i64 b0), (pb, 1, .int .u64 b1), (r, 0, .int .i64 0), (r, 1, .int .u64 0)] W) (_ : Keeps w0 [(p6, 0, .bool false), (p6, 1, .slice none 0 0)] W) (_ : ∀ q ∈ ([(pa, 0, .int .i64 a0), (pa, 1, .int .u64 a1), (pb, 0, .int .i64 b0), (pb, 1, .int .u64 b1), (r, 0, .int .i64 0), (r, 1, .int .u64 0)] : List (Nat × Nat × Value)), q.1 ≠ p6) (_ : w0.heap.size ≤ p6) (_ : Keeps w0 [(p7, 0, .bool false), (p7, 1, .slice none 0 0)] W) (_ : ∀ q ∈ ([(pa, 0, .int .i64 a0), (pa, 1, .int .u64 a1), (pb, 0, .int .i64 b0), (pb, 1, .int .u64 b1), (r, 0, .int .i64 0), (r, 1, .int .u64 0)] : List (Nat × Nat × Value)), q.1 ≠ p7) (_ : w0.heap.size ≤ p7) (_ : p6 ≠ p7), wpAnyH Try.prog .any (regOps Try.f15 1) Q (Keeps w0 [(pa, 0, .int .i64 a0), (pa, 1, .int .u64 a1), (pb, 0, .int .i64 b0), (pb, 1, .int .u64 b1), (r, 0, .int .i64 0), (r, 1, .int .u64 0)]) 7 lst { tmps := #[.int .i64 n, wideV a0 a1, wideV b0 b1, .int .i64 m, undef, .pointer (some ⟨pa, 0, none⟩), .pointer (some ⟨pb, 0, none⟩), undef, .pointer (some ⟨r, 0, none⟩), .int .i64 0, .pointer (some ⟨p6, 0, none⟩), .pointer (some ⟨p7, 0, none⟩), undef, undef, undef, undef, undef, undef, undef, undef, undef, .agg #[.int .i64 b0, .int .u64 b1], undef, .agg #[.int .i64 a0, .int .u64 a1], undef, .int .i64 m, undef, undef, undef, undef, undef, undef, undef, undef, undef, undef, undef, undef, undef, undef, undef, undef, undef, undef, undef, undef, undef, undef, undef, undef, undef, undef, undef, undef, undef, undef, undef, undef], defers := [] } W := by
    rintro lst rfl W p6 p7 hS k6 d6 l6 k7 d7 l7 e6_7
    refine wpAnyH_ready (rs := [1, 8]) (by kernel_rfl) (by simp) ?_
    refine AllReadyH.cons (o := ⟨some 22, _, _, _, _, _⟩) rfl (fun K hK => ?_) ?_
    · go_simp
      (with_reducible refine Calls.mono (OB.out _) ?_); rintro e w5 ⟨x1, A1, n1, c1, rfl, hb, y0⟩
      refine hK.out _ _ (hS.next hb) (fun hS2 => ?_)
      clear hK K
      try simp only [List.setIfInBounds_toArray, List.set_cons_zero, List.set_cons_succ]
      exact G16 _ (by kernel_rfl) _ _ _ _ _ _ _ hS2 y0 (k6.next hb) d6 l6 (k7.next hb) d7 l7 e6_7
    refine AllReadyH.cons (o := ⟨some 12, _, _, _, _, _⟩) rfl (fun K hK => ?_) ?_
    · go_simp
      have kd := hS.2.ne
      have kl := hS.1.size
      refine hK.out _ _ (by first | exact hS.alloc _ | exact (hS.alloc _).drew) (fun hS2 => ?_)
      clear hK K
      try simp only [List.setIfInBounds_toArray, List.set_cons_zero, List.set_cons_succ]
      exact G19 _ (by kernel_rfl) _ _ _ _ hS2 (k6.alloc _) d6 l6 (k7.alloc _) d7 l7 (newK2 hS2) kd kl e6_7 (Nat.ne_of_lt k6.2.1.1) (Nat.ne_of_lt k7.2.1.1)
    exact AllReadyH.nil
  have G25 : ∀ (lst : Array Bool) (_ : lst = #[true, false, true, false, true, false, true, false, true, false, false, false]) (W : World) (p6 : Nat) (p8 : Nat) (_ : Keeps w0 [(pa, 0, .int .i64 a0), (pa, 1, .int .u64 a1), (pb, 0, .int .i64 b0), (pb, 1, .int .u64 b1), (r, 0, .int .i64 0), (r, 1, .int .u64 0)] W) (_ : Keeps w0 [(p6, 0, .bool false), (p6, 1, .slice none 0 0)] W) (_ : ∀ q ∈ ([(pa, 0, .int .i64 a0), (pa, 1, .int .u64 a1), (pb, 0, .int .i64 b0), (pb, 1, .int .u64 b1), (r, 0, .int .i64 0), (r, 1, .int .u64 0)] : List (Nat × Nat × Value)), q.1 ≠ p6) (_ : w0.heap.size ≤ p6) (_ : Keeps w0 [(p8, 0, .bool false), (p8, 1, .slice none 0 0)] W) (_ : ∀ q ∈ ([(pa, 0, .int .i64 a0), (pa, 1, .int .u64 a1), (pb, 0, .int .i64 b0), (pb, 1, .int .u64 b1), (r, 0, .int .i64 0), (r, 1, .int .u64 0)] : List (Nat × Nat × Value)), q.1 ≠ p8) (_ : w0.heap.size ≤ p8) (_ : p6 ≠ p8), wpAnyH Try.prog .any (regOps Try.f15 1) Q (Keeps w0 [(pa, 0, .int .i64 a0), (pa, 1, .int .u64 a1), (pb, 0, .int .i64 b0), (pb, 1, .int .u64 b1), (r, 0, .int .i64 0), (r, 1, .int .u64 0)]) 7 lst { tmps := #[.int .i64 n, wideV a0 a1, wideV b0 b1, .int .i64 m, undef, .pointer (some ⟨pa, 0, none⟩), .pointer (some ⟨pb, 0, none⟩), undef, .pointer (some ⟨r, 0, none⟩), .int .i64 0, .pointer (some ⟨p6, 0, none⟩), undef, .pointer (some ⟨p8, 0, none⟩), undef, undef, undef, undef, undef, undef, undef, undef, .agg #[.int .i64 b0, .int .u64 b1], undef, .agg #[.int .i64 a0, .int .u64 a1], undef, .int .i64 m, undef, undef, undef, undef, undef, undef, undef, undef, undef, undef, undef, undef, undef, undef, undef, undef, undef, undef, undef, undef, undef, undef, undef, undef, undef, undef, undef, undef, undef, undef, undef, undef], defers := [] } W := by
    rintro lst rfl W p6 p8 hS k6 d6 l6 k8 d8 l8 e6_8
    refine wpAnyH_ready (rs := [1, 7]) (by kernel_rfl) (by simp) ?_
    refine AllReadyH.cons (o := ⟨some 22, _, _, _, _, _⟩) rfl (fun K hK => ?_) ?_
    · go_simp
      (with_reducible refine Calls.mono (OB.out _) ?_); rintro e w5 ⟨x1, A1, n1, c1, rfl, hb, y0⟩
      refine hK.out _ _ (hS.next hb) (fun hS2 => ?_)
      clear hK K
      try simp only [List.setIfInBounds_toArray, List.set_cons_zero, List.set_cons_succ]
      exact G17 _ (by kernel_rfl) _ _ _ _ _ _ _ hS2 y0 (k6.next hb) d6 l6 (k8.next hb) d8 l8 e6_8
    refine AllReadyH.cons (o := ⟨some 11, _, _, _, _, _⟩) rfl (fun K hK => ?_) ?_
    · go_simp
      have kd := hS.2.ne
      have kl := hS.1.size
      refine hK.out _ _ (by first | exact hS.alloc _ | exact (hS.alloc _).drew) (fun hS2 => ?_)
      clear hK K
      try simp only [List.setIfInBounds_toArray, List.set_cons_zero, List.set_cons_succ]
      exact G19 _ (by kernel_rfl) _ _ _ _ hS2 (k6.alloc _) d6 l6 (newK2 hS2) kd kl (k8.alloc _) d8 l8 (Nat.ne_of_lt k6.2.1.1) e6_8 (Nat.ne_of_gt k8.2.1.1)
    exact AllReadyH.nil
  have G26 : ∀ (lst : Array Bool) (_ : lst = #[true, false, true, false, true, false, false, true, true, false, false, false]) (W : World) (p7 : Nat) (p8 : Nat) (_ : Keeps w0 [(pa, 0, .int .i64 a0), (pa, 1, .int .u64 a1), (pb, 0, .int .i64 b0), (pb, 1, .int .u64 b1), (r, 0, .int .i64 0), (r, 1, .int .u64 0)] W) (_ : Keeps w0 [(p7, 0, .bool false), (p7, 1, .slice none 0 0)] W) (_ : ∀ q ∈ ([(pa, 0, .int .i64 a0), (pa, 1, .int .u64 a1), (pb, 0, .int .i64 b0), (pb, 1, .int .u64 b1), (r, 0, .int .i64 0), (r, 1, .int .u64 0)] : List (Nat × Nat × Value)), q.1 ≠ p7) (_ : w0.heap.size ≤ p7) (_ : Keeps w0 [(p8, 0, .bool false), (p8, 1, .slice none 0 0)] W) (_ : ∀ q ∈ ([(pa, 0, .int .i64 a0), (pa, 1, .int .u64 a1), (pb, 0, .int .i64 b0), (pb, 1, .int .u64 b1), (r, 0, .int .i64 0), (r, 1, .int .u64 0)] : List (Nat × Nat × Value)), q.1 ≠ p8) (_ : w0.heap.size ≤ p8) (_ : p7 ≠ p8), wpAnyH Try.prog .any (regOps Try.f15 1) Q (Keeps w0 [(pa, 0, .int .i64 a0), (pa, 1, .int .u64 a1), (pb, 0, .int .i64 b0), (pb, 1, .int .u64 b1), (r, 0, .int .i64 0), (r, 1, .int .u64 0)]) 7 lst { tmps := #[.int .i64 n, wideV a0 a1, wideV b0 b1, .int .i64 m, undef, .pointer (some ⟨pa, 0, none⟩), .pointer (some ⟨pb, 0, none⟩), undef, .pointer (some ⟨r, 0, none⟩), .int .i64 0, undef, .pointer (some ⟨p7, 0, none⟩), .pointer (some ⟨p8, 0, none⟩), undef, undef, undef, undef, undef, undef, undef, undef, .agg #[.int .i64 b0, .int .u64 b1], undef, .agg #[.int .i64 a0, .int .u64 a1], undef, .int .i64 m, undef, undef, undef, undef, undef, undef, undef, undef, undef, undef, undef, undef, undef, undef, undef, undef, undef, undef, undef, undef, undef, undef, undef, undef, undef, undef, undef, undef, undef, undef, undef, undef], defers := [] } W := by
    rintro lst rfl W p7 p8 hS k7 d7 l7 k8 d8 l8 e7_8
    refine wpAnyH_ready (rs := [1, 6]) (by kernel_rfl) (by simp) ?_
    refine AllReadyH.cons (o := ⟨some 22, _, _, _, _, _⟩) rfl (fun K hK => ?_) ?_
    · go_simp
      (with_reducible refine Calls.mono (OB.out _) ?_); rintro e w5 ⟨x1, A1, n1, c1, rfl, hb, y0⟩
      refine hK.out _ _ (hS.next hb) (fun hS2 => ?_)
      clear hK K
      try simp only [List.setIfInBounds_toArray, List.set_cons_zero, List.set_cons_succ]
      exact G18 _ (by kernel_rfl) _ _ _ _ _ _ _ hS2 y0 (k7.next hb) d7 l7 (k8.next hb) d8 l8 e7_8
    refine AllReadyH.cons (o := ⟨some 10, _, _, _, _, _⟩) rfl (fun K hK => ?_) ?_
    · go_simp
      have kd := hS.2.ne
      have kl := hS.1.size
      refine hK.out _ _ (by first | exact hS.alloc _ | exact (hS.alloc _).drew) (fun hS2 => ?_)
      clear hK K
      try simp only [List.setIfInBounds_toArray, List.set_cons_zero, List.set_cons_succ]
      exact G19 _ (by kernel_rfl) _ _ _ _ hS2 (newK2 hS2) kd kl (k7.alloc _) d7 l7 (k8.alloc _) d8 l8 (Nat.ne_of_gt k7.2.1.1) (Nat.ne_of_gt k8.2.1.1) e7_8
    exact AllReadyH.nil
  have G27 : ∀ (lst : Array Bool) (_ : lst = #[true, true, true, false, true, false, false, false, false, false, false, false]) (W : World) (x1 : Bool) (A1 : Option Addr) (n1 : Nat) (c1 : Nat) (_ : Keeps w0 [(pa, 0, .int .i64 a0), (pa, 1, .int .u64 a1), (pb, 0, .int .i64 b0), (pb, 1, .int .u64 b1), (r, 0, .int .i64 0), (r, 1, .int .u64 0)] W) (_ : NumZ W (.agg #[.bool x1, .slice A1 n1 c1]) zb), wpAnyH Try.prog .any (regOps Try.f15 1) Q (Keeps w0 [(pa, 0, .int .i64 a0), (pa, 1, .int .u64 a1), (pb, 0, .int .i64 b0), (pb, 1, .int .u64 b1), (r, 0, .int .i64 0), (r, 1, .int .u64 0)]) 8 lst { tmps := #[.int .i64 n, wideV a0 a1, wideV b0 b1, .int .i64 m, undef, .pointer (some ⟨pa, 0, none⟩), .pointer (some ⟨pb, 0, none⟩), undef, .pointer (some ⟨r, 0, none⟩), .int .i64 0, undef, undef, undef, undef, undef, undef, undef, undef, undef, undef, undef, .agg #[.int .i64 b0, .int .u64 b1], .agg #[.bool x1, .slice A1 n1 c1], .agg #[.int .i64 a0, .int .u64 a1], undef, .int .i64 m, undef, undef, undef, undef, undef, undef, undef, undef, undef, undef, undef, undef, undef, undef, undef, undef, undef, undef, undef, undef, undef, undef, undef, undef, undef, undef, undef, undef, undef, undef, undef, undef], defers := [] } W := by
    rintro lst rfl W x1 A1 n1 c1 hS z1_0
    refine wpAnyH_ready (rs := [3, 6, 7, 8]) (by kernel_rfl) (by simp) ?_
    refine AllReadyH.cons (o := ⟨some 24, _, _, _, _, _⟩) rfl (fun K hK => ?_) ?_
    · go_simp
      (with_reducible refine Calls.mono (OA.out _) ?_); rintro e w5 ⟨x3, A3, n3, c3, rfl, hb, y0⟩
      refine hK.out _ _ (hS.next hb) (fun hS2 => ?_)
      clear hK K
      try simp only [List.setIfInBounds_toArray, List.set_cons_zero, List.set_cons_succ]
      exact G20 _ (by kernel_rfl) _ _ _ _ _ _ _ _ _ hS2 (z1_0.below hb) y0
    refine AllReadyH.cons (o := ⟨some 10, _, _, _, _, _⟩) rfl (fun K hK => ?_) ?_
    · go_simp
      have kd := hS.2.ne
      have kl := hS.1.size
      refine hK.out _ _ (by first | exact hS.alloc _ | exact (hS.alloc _).drew) (fun hS2 => ?_)
      clear hK K
      try simp only [List.setIfInBounds_toArray, List.set_cons_zero, List.set_cons_succ]
      exact G21 _ (by kernel_rfl) _ _ _ _ _ _ hS2 (z1_0.below (below_alloc _ _)) (newK2 hS2) kd kl
    refine AllReadyH.cons (o := ⟨some 11, _, _, _, _, _⟩) rfl (fun K hK => ?_) ?_
    · go_simp
      have kd := hS.2.ne
      have kl := hS.1.size
      refine hK.out _ _ (by first | exact hS.alloc _ | exact (hS.alloc _).drew) (fun hS2 => ?_)
      clear hK K
      try simp only [List.setIfInBounds_toArray, List.set_cons_zero, List.set_cons_succ]
      exact G22 _ (by kernel_rfl) _ _ _ _ _ _ hS2 (z1_0.below (below_alloc _ _)) (newK2 hS2) kd kl
    refine AllReadyH.cons (o := ⟨some 12, _, _, _, _, _⟩) rfl (fun K hK => ?_) ?_
    · go_simp
      have kd := hS.2.ne
      have kl := hS.1.size
      refine hK.out _ _ (by first | exact hS.alloc _ | exact (hS.alloc _).drew) (fun hS2 => ?_)
      clear hK K
      try simp only [List.setIfInBounds_toArray, List.set_cons_zero, List.set_cons_succ]
      exact G23 _ (by kernel_rfl) _ _ _ _ _ _ hS2 (z1_0.below (below_alloc _ _)) (newK2 hS2) kd kl
    exact AllReadyH.nil
  have G28 : ∀ (lst : Array Bool) (_ : lst = #[true, false, true, false, true, false, true, false, false, false, false, false]) (W : World) (p6 : Nat) (_ : Keeps w0 [(pa, 0, .int .i64 a0), (pa, 1, .int .u64 a1), (pb, 0, .int .i64 b0), (pb, 1, .int .u64 b1), (r, 0, .int .i64 0), (r, 1, .int .u64 0)] W) (_ : Keeps w0 [(p6, 0, .bool false), (p6, 1, .slice none 0 0)] W) (_ : ∀ q ∈ ([(pa, 0, .int .i64 a0), (pa, 1, .int .u64 a1), (pb, 0, .int .i64 b0), (pb, 1, .int .u64 b1), (r, 0, .int .i64 0), (r, 1, .int .u64 0)] : List (Nat × Nat × Value)), q.1 ≠ p6) (_ : w0.heap.size ≤ p6), wpAnyH Try.prog .any (regOps Try.f15 1) Q (Keeps w0 [(pa, 0, .int .i64 a0), (pa, 1, .int .u64 a1), (pb, 0, .int .i64 b0), (pb, 1, .int .u64 b1), (r, 0, .int .i64 0), (r, 1, .int .u64 0)]) 8 lst { tmps := #[.int .i64 n, wideV a0 a1, wideV b0 b1, .int .i64 m, undef, .pointer (some ⟨pa, 0, none⟩), .pointer (some ⟨pb, 0, none⟩), undef, .pointer (some ⟨r, 0, none⟩), .int .i64 0, .pointer (some ⟨p6, 0, none⟩), undef, undef, undef, undef, undef, undef, undef, undef, undef, undef, .agg #[.int .i64 b0, .int .u64 b1], undef, .agg #[.int .i64 a0, .int .u64 a1], undef, .int .i64 m, undef, undef, undef, undef, undef, undef, undef, undef, undef, undef, undef, undef, undef, undef, undef, undef, undef, undef, undef, undef, undef, undef, undef, undef, undef, undef, undef, undef, undef, undef, undef, undef], defers := [] } W := by
    rintro lst rfl W p6 hS k6 d6 l6
    refine wpAnyH_ready (rs := [1, 7, 8]) (by kernel_rfl) (by simp) ?_
    refine AllReadyH.cons (o := ⟨some 22, _, _, _, _, _⟩) rfl (fun K hK => ?_) ?_
    · go_simp
      (with_reducible refine Calls.mono (OB.out _) ?_); rintro e w5 ⟨x1, A1, n1, c1, rfl, hb, y0⟩
      refine hK.out _ _ (hS.next hb) (fun hS2 => ?_)
      clear hK K
      try simp only [List.setIfInBounds_toArray, List.set_cons_zero, List.set_cons_succ]
      exact G21 _ (by kernel_rfl) _ _ _ _ _ _ hS2 y0 (k6.next hb) d6 l6
    refine AllReadyH.cons (o := ⟨some 11, _, _, _, _, _⟩) rfl (fun K hK => ?_) ?_
    · go_simp
      have kd := hS.2.ne
      have kl := hS.1.size
      refine hK.out _ _ (by first | exact hS.alloc _ | exact (hS.alloc _).drew) (fun hS2 => ?_)
      clear hK K
      try simp only [List.setIfInBounds_toArray, List.set_cons_zero, List.set_cons_succ]
      exact G24 _ (by kernel_rfl) _ _ _ hS2 (k6.alloc _) d6 l6 (newK2 hS2) kd kl (Nat.ne_of_lt k6.2.1.1)
    refine AllReadyH.cons (o := ⟨some 12, _, _, _, _, _⟩) rfl (fun K hK => ?_) ?_
    · go_simp
      have kd := hS.2.ne
      have kl := hS.1.size
      refine hK.out _ _ (by first | exact hS.alloc _ | exact (hS.alloc _).drew) (fun hS2 => ?_)
      clear hK K
      try simp only [List.setIfInBounds_toArray, List.set_cons_zero, List.set_cons_succ]
      exact G25 _ (by kernel_rfl) _ _ _ hS2 (k6.alloc _) d6 l6 (newK2 hS2) kd kl (Nat.ne_of_lt k6.2.1.1)
    exact AllReadyH.nil
  have G29 : ∀ (lst : Array Bool) (_ : lst = #[true, false, true, false, true, false, false, true, false, false, false, false]) (W : World) (p7 : Nat) (_ : Keeps w0 [(pa, 0, .int .i64 a0), (pa, 1, .int .u64 a1), (pb, 0, .int .i64 b0), (pb, 1, .int .u64 b1), (r, 0, .int .i64 0), (r, 1, .int .u64 0)] W) (_ : Keeps w0 [(p7, 0, .bool false), (p7, 1, .slice none 0 0)] W) (_ : ∀ q ∈ ([(pa, 0, .int .i64 a0), (pa, 1, .int .u64 a1), (pb, 0, .int .i64 b0), (pb, 1, .int .u64 b1), (r, 0, .int .i64 0), (r, 1, .int .u64 0)] : List (Nat × Nat × Value)), q.1 ≠ p7) (_ : w0.heap.size ≤ p7), wpAnyH Try.prog .any (regOps Try.f15 1) Q (Keeps w0 [(pa, 0, .int .i64 a0), (pa, 1, .int .u64 a1), (pb, 0, .int .i64 b0), (pb, 1, .int .u64 b1), (r, 0, .int .i64 0), (r, 1, .int .u64 0)]) 8 lst { tmps := #[.int .i64 n, wideV a0 a1, wideV b0 b1, .int .i64 m, undef, .pointer (some ⟨pa, 0, none⟩), .pointer (some ⟨pb, 0, none⟩), undef, .pointer (some ⟨r, 0, none⟩), .int .i64 0, undef, .pointer (some ⟨p7, 0, none⟩), undef, undef, undef, undef, undef, undef, undef, undef, undef, .agg #[.int .i64 b0, .int .u64 b1], undef, .agg #[.int .i64 a0, .int .u64 a1], undef, .int .i64 m, undef, undef, undef, undef, undef, undef, undef, undef, undef, undef, undef, undef, undef, undef, undef, undef, undef, undef, undef, undef, undef, undef, undef, undef, undef, undef, undef, undef, undef, undef, undef, undef], defers := [] } W := by
    rintro lst rfl W p7 hS k7 d7 l7
    refine wpAnyH_ready (rs := [1, 6, 8]) (by kernel_rfl) (by simp) ?_
    refine AllReadyH.cons (o := ⟨some 22, _, _, _, _, _⟩) rfl (fun K hK => ?_) ?_
    · go_simp
      (with_reducible refine Calls.mono (OB.out _) ?_); rintro e w5 ⟨x1, A1, n1, c1, rfl, hb, y0⟩
      refine hK.out _ _ (hS.next hb) (fun hS2 => ?_)
      clear hK K
      try simp only [List.setIfInBounds_toArray, List.set_cons_zero, List.set_cons_succ]
      exact G22 _ (by kernel_rfl) _ _ _ _ _ _ hS2 y0 (k7.next hb) d7 l7
    refine AllReadyH.cons (o := ⟨some 10, _, _, _, _, _⟩) rfl (fun K hK => ?_) ?_
    · go_simp
      have kd := hS.2.ne
      have kl := hS.1.size
      refine hK.out _ _ (by first | exact hS.alloc _ | exact (hS.alloc _).drew) (fun hS2 => ?_)
      clear hK K
      try simp only [List.setIfInBounds_toArray, List.set_cons_zero, List.set_cons_succ]
      exact G24 _ (by kernel_rfl) _ _ _ hS2 (newK2 hS2) kd kl (k7.alloc _) d7 l7 (Nat.ne_of_gt k7.2.1.1)
    refine AllReadyH.cons (o := ⟨some 12, _, _, _, _, _⟩) rfl (fun K hK => ?_) ?_
    · go_simp
      have kd := hS.2.ne
      have kl := hS.1.size
      refine hK.out _ _ (by first | exact hS.alloc _ | exact (hS.alloc _).drew) (fun hS2 => ?_)
      clear hK K
      try simp only [List.setIfInBounds_toArray, List.set_cons_zero, List.set_cons_succ]
      exact G26 _ (by kernel_rfl) _ _ _ hS2 (k7.alloc _) d7 l7 (newK2 hS2) kd kl (Nat.ne_of_lt k7.2.1.1)
    exact AllReadyH.nil
  have G30 : ∀ (lst : Array Bool) (_ : lst = #[true, false, true, false, true, false, false, false, true, false, false, false]) (W : World) (p8 : Nat) (_ : Keeps w0 [(pa, 0, .int .i64 a0), (pa, 1, .int .u64 a1), (pb, 0, .int .i64 b0), (pb, 1, .int .u64 b1), (r, 0, .int .i64 0), (r, 1, .int .u64 0)] W) (_ : Keeps w0 [(p8, 0, .bool false), (p8, 1, .slice none 0 0)] W) (_ : ∀ q ∈ ([(pa, 0, .int .i64 a0), (pa, 1, .int .u64 a1), (pb, 0, .int .i64 b0), (pb, 1, .int .u64 b1), (r, 0, .int .i64 0), (r, 1, .int .u64 0)] : List (Nat × Nat × Value)), q.1 ≠ p8) (_ : w0.heap.size ≤ p8), wpAnyH Try.prog .any (regOps Try.f15 1) Q (Keeps w0 [(pa, 0, .int .i64 a0), (pa, 1, .int .u64 a1), (pb, 0, .int .i64 b0), (pb, 1, .int .u64 b1), (r, 0, .int .i64 0), (r, 1, .int .u64 0)]) 8 lst { tmps := #[.int .i64 n, wideV a0 a1, wideV b0 b1, .int .i64 m, undef, .pointer (some ⟨pa, 0, none⟩), .pointer (some ⟨pb, 0, none⟩), undef, .pointer (some ⟨r, 0, none⟩), .int .i64 0, undef, undef, .pointer (some ⟨p8, 0, none⟩), undef, undef, undef, undef, undef, undef, undef, undef, .agg #[.int .i64 b0, .int .u64 b1], undef, .agg #[.int .i64 a0, .int .u64 a1], undef, .int .i64 m, undef, undef, undef, undef, undef, undef, undef, undef, undef, undef, undef, undef, undef, undef, undef, undef, undef, undef, undef, undef, undef, undef, undef, undef, undef, undef, undef, undef, undef, undef, undef, undef], defers := [] } W := by
    rintro lst rfl W p8 hS k8 d8 l8
    refine wpAnyH_ready (rs := [1, 6, 7]) (by kernel_rfl) (by simp) ?_
    refine AllReadyH.cons (o := ⟨some 22, _, _, _, _, _⟩) rfl (fun K hK => ?_) ?_
    · go_simp
      (with_reducible refine Calls.mono (OB.out _) ?_); rintro e w5 ⟨x1, A1, n1, c1, rfl, hb, y0⟩
      refine hK.out _ _ (hS.next hb) (fun hS2 => ?_)
      clear hK K
      try simp only [List.setIfInBounds_toArray, List.set_cons_zero, List.set_cons_succ]
      exact G23 _ (by kernel_rfl) _ _ _ _ _ _ hS2 y0 (k8.next hb) d8 l8
    refine AllReadyH.cons (o := ⟨some 10, _, _, _, _, _⟩) rfl (fun K hK => ?_) ?_
    · go_simp
      have kd := hS.2.ne
      have kl := hS.1.size
      refine hK.out _ _ (by first | exact hS.alloc _ | exact (hS.alloc _).drew) (fun hS2 => ?_)
      clear hK K
      try simp only [List.setIfInBounds_toArray, List.set_cons_zero, List.set_cons_succ]
      exact G25 _ (by kernel_rfl) _ _ _ hS2 (newK2 hS2) kd kl (k8.alloc _) d8 l8 (Nat.ne_of_gt k8.2.1.1)
    refine AllReadyH.cons (o := ⟨some 11, _, _, _, _, _⟩) rfl (fun K hK => ?_) ?_
    · go_simp
      have kd := hS.2.ne
      have kl := hS.1.size
      refine hK.out _ _ (by first | exact hS.alloc _ | exact (hS.alloc _).drew) (fun hS2 => ?_)
      clear hK K
      try simp only [List.setIfInBounds_toArray, List.set_cons_zero, List.set_cons_succ]
      exact G26 _ (by kernel_rfl) _ _ _ hS2 (newK2 hS2) kd kl (k8.alloc _) d8 l8 (Nat.ne_of_gt k8.2.1.1)
    exact AllReadyH.nil
  have G31 : ∀ (lst : Array Bool) (_ : lst = #[true, false, true, false, true, false, false, false, false, false, false, false]) (W : World)  (_ : Keeps w0 [(pa, 0, .int .i64 a0), (pa, 1, .int .u64 a1), (pb, 0, .int .i64 b0), (pb, 1, .int .u64 b1), (r, 0, .int .i64 0), (r, 1, .int .u64 0)] W) , wpAnyH Try.prog .any (regOps Try.f15 1) Q (Keeps w0 [(pa, 0, .int .i64 a0), (pa, 1, .int .u64 a1), (pb, 0, .int .i64 b0), (pb, 1, .int .u64 b1), (r, 0, .int .i64 0), (r, 1, .int .u64 0)]) 9 lst { tmps := #[.int .i64 n, wideV a0 a1, wideV b0 b1, .int .i64 m, undef, .pointer (some ⟨pa, 0, none⟩), .pointer (some ⟨pb, 0, none⟩), undef, .pointer (some ⟨r, 0, none⟩), .int .i64 0, undef, undef, undef, undef, undef, undef, undef, undef, undef, undef, undef, .agg #[.int .i64 b0, .int .u64 b1], undef, .agg #[.int .i64 a0, .int .u64 a1], undef, .int .i64 m, undef, undef, undef, undef, undef, undef, undef, undef, undef, undef, undef, undef, undef, undef, undef, undef, undef, undef, undef, undef, undef, undef, undef, undef, undef, undef, undef, undef, undef, undef, undef, undef], defers := [] } W := by
    rintro lst rfl W  hS 
    refine wpAnyH_ready (rs := [1, 6, 7, 8]) (by kernel_rfl) (by simp) ?_
    refine AllReadyH.cons (o := ⟨some 22, _, _, _, _, _⟩) rfl (fun K hK => ?_) ?_
    · go_simp
      (with_reducible refine Calls.mono (OB.out _) ?_); rintro e w5 ⟨x1, A1, n1, c1, rfl, hb, y0⟩
      refine hK.out _ _ (hS.next hb) (fun hS2 => ?_)
      clear hK K
      try simp only [List.setIfInBounds_toArray, List.set_cons_zero, List.set_cons_succ]
      exact G27 _ (by kernel_rfl) _ _ _ _ _ hS2 y0
    refine AllReadyH.cons (o := ⟨some 10, _, _, _, _, _⟩) rfl (fun K hK => ?_) ?_
    · go_simp
      have kd := hS.2.ne
      have kl := hS.1.size
      refine hK.out _ _ (by first | exact hS.alloc _ | exact (hS.alloc _).drew) (fun hS2 => ?_)
      clear hK K
      try simp only [List.setIfInBounds_toArray, List.set_cons_zero, List.set_cons_succ]
      exact G28 _ (by kernel_rfl) _ _ hS2 (newK2 hS2) kd kl
    refine AllReadyH.cons (o := ⟨some 11, _, _, _, _, _⟩) rfl (fun K hK => ?_) ?_
    · go_simp
      have kd := hS.2.ne
      have kl := hS.1.size
      refine hK.out _ _ (by first | exact hS.alloc _ | exact (hS.alloc _).drew) (fun hS2 => ?_)
      clear hK K
      try simp only [List.setIfInBounds_toArray, List.set_cons_zero, List.set_cons_succ]
      exact G29 _ (by kernel_rfl) _ _ hS2 (newK2 hS2) kd kl
    refine AllReadyH.cons (o := ⟨some 12, _, _, _, _, _⟩) rfl (fun K hK => ?_) ?_
    · go_simp
      have kd := hS.2.ne
      have kl := hS.1.size
      refine hK.out _ _ (by first | exact hS.alloc _ | exact (hS.alloc _).drew) (fun hS2 => ?_)
      clear hK K
      try simp only [List.setIfInBounds_toArray, List.set_cons_zero, List.set_cons_succ]
      exact G30 _ (by kernel_rfl) _ _ hS2 (newK2 hS2) kd kl
    exact AllReadyH.nil
  refine region_keeps (w0 := w0) (L := [(pa, 0, .int .i64 a0), (pa, 1, .int .u64 a1), (pb, 0, .int .i64 b0), (pb, 1, .int .u64 b1), (r, 0, .int .i64 0), (r, 1, .int .u64 0)]) (by kernel_rfl) hS (fun hS0 => ?_)
  refine wpAnyH_take (i := 0) (oi := ⟨some 21, _, _, _, _, _⟩) (v := ?_) rfl (by kernel_rfl) (by kernel_rfl) (by kernel_rfl) (fun c a w h => hQp c a _ _ w h) (Or.inl ⟨by rfl, ?_⟩) (by assumption) ?_
  rotate_left
  · intro wq hSw; obtain ⟨⟨qz0, qc0, qf0⟩, ⟨qz1, qc1, qf1⟩, ⟨qz2, qc2, qf2⟩, ⟨qz3, qc3, qf3⟩, ⟨qz4, qc4, qf4⟩, ⟨qz5, qc5, qf5⟩, _⟩ := hSw.2; go_simp; (try with_reducible rfl)
  try simp only [Act.put, List.setIfInBounds_toArray, List.set_cons_zero, List.set_cons_succ]
  refine wpAnyH_take (i := 2) (oi := ⟨some 23, _, _, _, _, _⟩) (v := ?_) rfl (by kernel_rfl) (by kernel_rfl) (by kernel_rfl) (fun c a w h => hQp c a _ _ w h) (Or.inl ⟨by rfl, ?_⟩) (by assumption) ?_
  rotate_left
  · intro wq hSw; obtain ⟨⟨qz0, qc0, qf0⟩, ⟨qz1, qc1, qf1⟩, ⟨qz2, qc2, qf2⟩, ⟨qz3, qc3, qf3⟩, ⟨qz4, qc4, qf4⟩, ⟨qz5, qc5, qf5⟩, _⟩ := hSw.2; go_simp; (try with_reducible rfl)
  try simp only [Act.put, List.setIfInBounds_toArray, List.set_cons_zero, List.set_cons_succ]
  refine wpAnyH_take (i := 4) (oi := ⟨some 25, _, _, _, _, _⟩) (v := ?_) rfl (by kernel_rfl) (by kernel_rfl) (by kernel_rfl) (fun c a w h => hQp c a _ _ w h) (Or.inl ⟨by rfl, ?_⟩) (by assumption) ?_
  rotate_left
  · intro wq hSw; go_simp; (try with_reducible rfl)
  try simp only [Act.put, List.setIfInBounds_toArray, List.set_cons_zero, List.set_cons_succ]
  exact G31 _ (by kernel_rfl) _ hS0
end Go.Proofs.Ytnacdofidmgfmaa
