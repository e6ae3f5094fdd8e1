/-
  The walk of the law FsumSums. Conditions: the words of the wide numbers are of 64 bits.
-/
import Derived.Test.YtnacdofidmgfmaaDpA
import Derived.Test.YtnacdofidmgfmaaRxN
/-
  Layer 6, the document's own answer to Sum: what a round adds (a region whose order is drawn). Conditions: those written at each fact.
-/
namespace Go.Proofs.Ytnacdofidmgfmaa
open Go.RowKit

abbrev numV (x : Bool) (A : Option Addr) (n c : Nat) : Value := .agg #[.bool x, .slice A n c]
/-- A store into two cells of another block leaves a cell. -/
theorem off2 {W : World} {B D i : Nat} {u0 u1 v : Value} (hne : B ≠ D) (h : W.cell? ⟨D, i, none⟩ = some v) : ((W.setCell ⟨B, 0, none⟩ u0).setCell ⟨B, 1, none⟩ u1).cell? ⟨D, i, none⟩ = some v :=
  off_cell (by intro e; exact hne (congrArg Addr.block e)) (off_cell (by intro e; exact hne (congrArg Addr.block e)) h)
set_option maxRecDepth 100000 in
set_option maxHeartbeats 8000000 in
theorem round6 {Q : Exit → Act → World → Prop} (hQp : ∀ (c : _) (a : Act) (d : Option Tmp) (v : Value) (w : World), Q (.panic c) (a.put d v) w → Q (.panic c) a w) (w : World) {u0 u1 u2 u3 u4 u5 u6 u7 u8 u9 u10 u11 u12 u17 u18 u19 u20 u21 u22 u23 u24 u25 u26 u27 u28 u29 u30 u31 u32 u33 u34 u35 u36 u37 u38 u39 u40 u41 u42 u43 u44 u45 u46 u47 u48 u49 u50 u51 u52 u53 u54 u55 u56 u57 : Value} (p6 p7 p8 r s t g h : Nat)
    (xa x3 x5 x6 x7 xs xl : Bool) (Aa A3 A5 A6 A7 As Al : Option Addr) (na ca n3 c3 n5 c5 n6 c6 n7 c7 ns cs nl cl : Nat) (X b m fs rs q rr : Int)
    (D1 : Hid (∀ u u' W, NumZ W u fs → NumZ W u' q → Calls Try.prog 37 #[u, u'] W (RetZ W (fs + q))))
    (D2 : Hid (∀ u u' W, NumZ W u rs → NumZ W u' rr → Calls Try.prog 37 #[u, u'] W (RetZ W (rs + rr))))
    (NE : Hid ((p6 ≠ s ∧ p6 ≠ t ∧ p7 ≠ s ∧ p7 ≠ t ∧ p8 ≠ s ∧ p8 ≠ t ∧ r ≠ s ∧ r ≠ t ∧ g ≠ s ∧ g ≠ t ∧ h ≠ s ∧ h ≠ t) ∧ s ≠ t ∧ w.heap.size ≤ s ∧ w.heap.size ≤ t))
    (V : World) (hS : Keeps w [(p6, 0, .bool xa), (p6, 1, .slice Aa na ca), (p7, 0, .bool x3), (p7, 1, .slice A3 n3 c3), (p8, 0, .bool x5), (p8, 1, .slice A5 n5 c5), (r, 0, .int .i64 0), (r, 1, .int .u64 0), (g, 0, .bool x6), (g, 1, .slice A6 n6 c6), (h, 0, .bool x7), (h, 1, .slice A7 n7 c7)] V) (hB : Keeps w [(s, 0, .bool xs), (s, 1, .slice As ns cs), (t, 0, .bool xl), (t, 1, .slice Al nl cl)] V)
    (za : Hid (NumZ V (numV xa Aa na ca) X)) (zb : Hid (NumZ V (numV x3 A3 n3 c3) b)) (zm : Hid (NumZ V (numV x5 A5 n5 c5) m)) (zs : Hid (NumZ V (numV xs As ns cs) fs)) (zl : Hid (NumZ V (numV xl Al nl cl) rs)) (zq : Hid (NumZ V (numV x6 A6 n6 c6) q)) (zr : Hid (NumZ V (numV x7 A7 n7 c7) rr))
    (hQ : ∀ (W' : World) (xu : Bool) (Au : Option Addr) (nu cu : Nat) (xv : Bool) (Av : Option Addr) (nv cv : Nat), Keeps w [(p6, 0, .bool xa), (p6, 1, .slice Aa na ca), (p7, 0, .bool x3), (p7, 1, .slice A3 n3 c3), (p8, 0, .bool x5), (p8, 1, .slice A5 n5 c5), (r, 0, .int .i64 0), (r, 1, .int .u64 0), (g, 0, .bool x6), (g, 1, .slice A6 n6 c6), (h, 0, .bool x7), (h, 1, .slice A7 n7 c7)] W' → Keeps w [(s, 0, .bool xu), (s, 1, .slice Au nu cu)] W' → Keeps w [(t, 0, .bool xv), (t, 1, .slice Av nv cv)] W' →
      NumZ W' (numV xa Aa na ca) X → NumZ W' (numV x3 A3 n3 c3) b → NumZ W' (numV x5 A5 n5 c5) m → NumZ W' (numV xu Au nu cu) (fs + q) → NumZ W' (numV xv Av nv cv) (rs + rr) → Q .normal { tmps := #[u0, u1, u2, u3, u4, u5, u6, u7, u8, u9, u10, u11, u12, .pointer (some ⟨s, 0, none⟩), .pointer (some ⟨t, 0, none⟩), .pointer (some ⟨g, 0, none⟩), .pointer (some ⟨h, 0, none⟩), u17, u18, u19, u20, u21, u22, u23, u24, u25, u26, u27, u28, u29, u30, u31, u32, u33, u34, u35, numV xs As ns cs, numV x6 A6 n6 c6, numV xu Au nu cu, numV xl Al nl cl, numV x7 A7 n7 c7, numV xv Av nv cv, u42, u43, u44, u45, u46, u47, u48, u49, u50, u51, u52, u53, u54, u55, u56, u57], defers := [] } W') :
    (Code.region 6 (regOps Try.f15 6) true).wp Try.prog Q { tmps := #[u0, u1, u2, u3, u4, u5, u6, u7, u8, u9, u10, u11, u12, .pointer (some ⟨s, 0, none⟩), .pointer (some ⟨t, 0, none⟩), .pointer (some ⟨g, 0, none⟩), .pointer (some ⟨h, 0, none⟩), u17, u18, u19, u20, u21, u22, u23, u24, u25, u26, u27, u28, u29, u30, u31, u32, u33, u34, u35, u36, u37, u38, u39, u40, u41, u42, u43, u44, u45, u46, u47, u48, u49, u50, u51, u52, u53, u54, u55, u56, u57], defers := [] } V := by
  obtain ⟨⟨e1, e2, e3, e4, e5, e6, e7, e8, e9, e10, e11, e12⟩, e13, e14, e15⟩ := NE.out
  have N1 := Lib.hid (show ∀ q ∈ ([(p6, 0, .bool xa), (p6, 1, .slice Aa na ca), (p7, 0, .bool x3), (p7, 1, .slice A3 n3 c3), (p8, 0, .bool x5), (p8, 1, .slice A5 n5 c5), (r, 0, .int .i64 0), (r, 1, .int .u64 0), (g, 0, .bool x6), (g, 1, .slice A6 n6 c6), (h, 0, .bool x7), (h, 1, .slice A7 n7 c7)] : List (Nat × Nat × Value)), q.1 ≠ s by simp; omega)
  have N2 := Lib.hid (show ∀ q ∈ ([(p6, 0, .bool xa), (p6, 1, .slice Aa na ca), (p7, 0, .bool x3), (p7, 1, .slice A3 n3 c3), (p8, 0, .bool x5), (p8, 1, .slice A5 n5 c5), (r, 0, .int .i64 0), (r, 1, .int .u64 0), (g, 0, .bool x6), (g, 1, .slice A6 n6 c6), (h, 0, .bool x7), (h, 1, .slice A7 n7 c7)] : List (Nat × Nat × Value)), q.1 ≠ t by simp; omega)
  clear e1 e2 e3 e4 e5 e6 e7 e8 e9 e10 e11 e12 NE
  replace e14 := Lib.hid e14
  replace e15 := Lib.hid e15
  have e13s := Ne.symm e13
  refine region_keepsB (w0 := w) (L := [(p6, 0, .bool xa), (p6, 1, .slice Aa na ca), (p7, 0, .bool x3), (p7, 1, .slice A3 n3 c3), (p8, 0, .bool x5), (p8, 1, .slice A5 n5 c5), (r, 0, .int .i64 0), (r, 1, .int .u64 0), (g, 0, .bool x6), (g, 1, .slice A6 n6 c6), (h, 0, .bool x7), (h, 1, .slice A7 n7 c7)]) (M := [(s, 0, .bool xs), (s, 1, .slice As ns cs), (t, 0, .bool xl), (t, 1, .slice Al nl cl)]) (by kernel_rfl) hS hB (fun hHeld0 hT0 => ?_)
  refine wpAnyH_take (i := 1) (oi := ⟨some 37, _, _, _, _, _⟩) (v := ?_) rfl (by kernel_rfl) (by kernel_rfl) (by kernel_rfl) (fun c a w h => hQp c a _ _ w h) (Or.inl ⟨by rfl, ?_⟩) (by assumption) ?_
  rotate_left
  · intro wq hSw; obtain ⟨⟨qz0, qc0, qf0⟩, ⟨qz1, qc1, qf1⟩, ⟨qz2, qc2, qf2⟩, ⟨qz3, qc3, qf3⟩, ⟨qz4, qc4, qf4⟩, ⟨qz5, qc5, qf5⟩, ⟨qz6, qc6, qf6⟩, ⟨qz7, qc7, qf7⟩, ⟨qz8, qc8, qf8⟩, ⟨qz9, qc9, qf9⟩, ⟨qz10, qc10, qf10⟩, ⟨qz11, qc11, qf11⟩, _⟩ := hSw.2; go_simp; (try with_reducible rfl)
  try simp only [Act.put, List.setIfInBounds_toArray, List.set_cons_zero, List.set_cons_succ]
  refine wpAnyH_take (i := 4) (oi := ⟨some 40, _, _, _, _, _⟩) (v := ?_) rfl (by kernel_rfl) (by kernel_rfl) (by kernel_rfl) (fun c a w h => hQp c a _ _ w h) (Or.inl ⟨by rfl, ?_⟩) (by assumption) ?_
  rotate_left
  · intro wq hSw; obtain ⟨⟨qz0, qc0, qf0⟩, ⟨qz1, qc1, qf1⟩, ⟨qz2, qc2, qf2⟩, ⟨qz3, qc3, qf3⟩, ⟨qz4, qc4, qf4⟩, ⟨qz5, qc5, qf5⟩, ⟨qz6, qc6, qf6⟩, ⟨qz7, qc7, qf7⟩, ⟨qz8, qc8, qf8⟩, ⟨qz9, qc9, qf9⟩, ⟨qz10, qc10, qf10⟩, ⟨qz11, qc11, qf11⟩, _⟩ := hSw.2; go_simp; (try with_reducible rfl)
  try simp only [Act.put, List.setIfInBounds_toArray, List.set_cons_zero, List.set_cons_succ]
  refine wpAnyH_ready (rs := [0, 3]) (by kernel_rfl) (by simp) ?_
  refine AllReadyH.cons (o := ⟨some 36, _, _, _, _, _⟩) rfl (fun K hK => ?_) ?_
  obtain ⟨⟨kz0, kc0, kf0⟩, ⟨kz1, kc1, kf1⟩, ⟨kz2, kc2, kf2⟩, ⟨kz3, kc3, kf3⟩, ⟨kz4, kc4, kf4⟩, ⟨kz5, kc5, kf5⟩, ⟨kz6, kc6, kf6⟩, ⟨kz7, kc7, kf7⟩, ⟨kz8, kc8, kf8⟩, ⟨kz9, kc9, kf9⟩, ⟨kz10, kc10, kf10⟩, ⟨kz11, kc11, kf11⟩, _⟩ := hHeld0.2
  obtain ⟨⟨t0z0, t0c0, t0f0⟩, ⟨t0z1, t0c1, t0f1⟩, ⟨t0z2, t0c2, t0f2⟩, ⟨t0z3, t0c3, t0f3⟩, _⟩ := hT0.2
  go_simp
  refine hK.out _ _ (by first | exact hHeld0 | (first | exact hHeld | (refine ⟨by go_grown, ?_⟩; simp [Cells, go_sem]; done))) (fun hHeld1 => ?_)
  clear hK K
  try clear hb
  try simp only [Act.put, List.setIfInBounds_toArray, List.set_cons_zero, List.set_cons_succ]
  refine wpAnyH_ready (rs := [2, 3]) (by kernel_rfl) (by simp) ?_
  refine AllReadyH.cons (o := ⟨some 38, _, _, _, _, _⟩) rfl (fun K hK => ?_) ?_
  go_simp
  (with_reducible refine Calls.mono (D1.out _ _ _ (zs.out.below (Below.refl _ _).drew) (zq.out.below (Below.refl _ _).drew)) ?_); rintro e wa ⟨xu, Au, nu, cu, rfl, hb, yu⟩; have zaA := Lib.hid ((za.out.below (Below.refl _ _).drew).below hb); have zbA := Lib.hid ((zb.out.below (Below.refl _ _).drew).below hb); have zmA := Lib.hid ((zm.out.below (Below.refl _ _).drew).below hb); have zlA := Lib.hid ((zl.out.below (Below.refl _ _).drew).below hb); have zrA := Lib.hid ((zr.out.below (Below.refl _ _).drew).below hb)
  refine hK.out _ _ (hHeld1.next hb) (fun hHeld2 => ?_)
  replace hT0 := hT0.next hb
  clear hK K
  try clear hb
  try simp only [Act.put, List.setIfInBounds_toArray, List.set_cons_zero, List.set_cons_succ]
  refine wpAnyH_ready (rs := [3]) (by kernel_rfl) (by simp) ?_
  refine AllReadyH.cons (o := ⟨some 39, _, _, _, _, _⟩) rfl (fun K hK => ?_) AllReadyH.nil
  obtain ⟨⟨kz0, kc0, kf0⟩, ⟨kz1, kc1, kf1⟩, ⟨kz2, kc2, kf2⟩, ⟨kz3, kc3, kf3⟩, ⟨kz4, kc4, kf4⟩, ⟨kz5, kc5, kf5⟩, ⟨kz6, kc6, kf6⟩, ⟨kz7, kc7, kf7⟩, ⟨kz8, kc8, kf8⟩, ⟨kz9, kc9, kf9⟩, ⟨kz10, kc10, kf10⟩, ⟨kz11, kc11, kf11⟩, _⟩ := hHeld2.2
  obtain ⟨⟨t0z0, t0c0, t0f0⟩, ⟨t0z1, t0c1, t0f1⟩, ⟨t0z2, t0c2, t0f2⟩, ⟨t0z3, t0c3, t0f3⟩, _⟩ := hT0.2
  go_simp
  refine hK.out _ _ (by first | exact hHeld2 | (first | exact hHeld | (refine ⟨by go_grown, ?_⟩; simp [Cells, go_sem]; done))) (fun hHeld3 => ?_)
  clear hK K
  try clear hb
  try simp only [Act.put, List.setIfInBounds_toArray, List.set_cons_zero, List.set_cons_succ]
  refine wpAnyH_ready (rs := [5]) (by kernel_rfl) (by simp) ?_
  refine AllReadyH.cons (o := ⟨some 41, _, _, _, _, _⟩) rfl (fun K hK => ?_) AllReadyH.nil
  go_simp
  (with_reducible refine Calls.mono (D2.out _ _ _ zlA.out zrA.out) ?_); rintro e wb ⟨xv, Av, nv, cv, rfl, hb, yv⟩; have zaB := zaA.out.below hb; have zbB := zbA.out.below hb; have zmB := zmA.out.below hb; have yuB := yu.below hb
  refine hK.out _ _ (hHeld3.next hb) (fun hHeld4 => ?_)
  replace hT0 := hT0.next hb
  clear hK K
  try clear hb
  try simp only [Act.put, List.setIfInBounds_toArray, List.set_cons_zero, List.set_cons_succ]
  refine wpAnyH_ready (rs := [6]) (by kernel_rfl) (by simp) ?_
  refine AllReadyH.cons (o := ⟨none, _, _, _, _, _⟩) rfl (fun K hK => ?_) AllReadyH.nil
  obtain ⟨⟨t0z0, t0c0, t0f0⟩, ⟨t0z1, t0c1, t0f1⟩, ⟨t0z2, t0c2, t0f2⟩, ⟨t0z3, t0c3, t0f3⟩, _⟩ := hT0.2; (try simp at t0z0); (try simp at t0c0); (try simp at t0f0); (try simp at t0z1); (try simp at t0c1); (try simp at t0f1); (try simp at t0z2); (try simp at t0c2); (try simp at t0f2); (try simp at t0z3); (try simp at t0c3); (try simp at t0f3)
  go_simp
  refine hK.out _ _ (((hHeld4.set (p := ⟨s, 0, none⟩) e14.out N1.out _).set (p := ⟨s, 1, none⟩) e14.out N1.out _)) (fun hHeld5 => ?_)
  clear hK K
  try clear hb
  try simp only [Act.put, List.setIfInBounds_toArray, List.set_cons_zero, List.set_cons_succ]
  refine wpAnyH_ready (rs := [7]) (by kernel_rfl) (by simp) ?_
  refine AllReadyH.cons (o := ⟨none, _, _, _, _, _⟩) rfl (fun K hK => ?_) AllReadyH.nil
  go_simp
  refine hK.out _ _ (((hHeld5.set (p := ⟨t, 0, none⟩) e15.out N2.out _).set (p := ⟨t, 1, none⟩) e15.out N2.out _)) (fun hHeld6 => ?_)
  clear hK K
  try clear hb
  try simp only [Act.put, List.setIfInBounds_toArray, List.set_cons_zero, List.set_cons_succ]
  refine wpAnyH_done (by kernel_rfl) ?_ _
  have hHeld := hHeld6
  obtain ⟨⟨kz0, kc0, kf0⟩, ⟨kz1, kc1, kf1⟩, ⟨kz2, kc2, kf2⟩, ⟨kz3, kc3, kf3⟩, ⟨kz4, kc4, kf4⟩, ⟨kz5, kc5, kf5⟩, ⟨kz6, kc6, kf6⟩, ⟨kz7, kc7, kf7⟩, ⟨kz8, kc8, kf8⟩, ⟨kz9, kc9, kf9⟩, ⟨kz10, kc10, kf10⟩, ⟨kz11, kc11, kf11⟩, _⟩ := hHeld.2
  rotate_left 1
  refine AllReadyH.cons (o := ⟨some 39, _, _, _, _, _⟩) rfl (fun K hK => ?_) ?_
  obtain ⟨⟨kz0, kc0, kf0⟩, ⟨kz1, kc1, kf1⟩, ⟨kz2, kc2, kf2⟩, ⟨kz3, kc3, kf3⟩, ⟨kz4, kc4, kf4⟩, ⟨kz5, kc5, kf5⟩, ⟨kz6, kc6, kf6⟩, ⟨kz7, kc7, kf7⟩, ⟨kz8, kc8, kf8⟩, ⟨kz9, kc9, kf9⟩, ⟨kz10, kc10, kf10⟩, ⟨kz11, kc11, kf11⟩, _⟩ := hHeld1.2
  obtain ⟨⟨t0z0, t0c0, t0f0⟩, ⟨t0z1, t0c1, t0f1⟩, ⟨t0z2, t0c2, t0f2⟩, ⟨t0z3, t0c3, t0f3⟩, _⟩ := hT0.2
  go_simp
  refine hK.out _ _ (by first | exact hHeld1 | (first | exact hHeld | (refine ⟨by go_grown, ?_⟩; simp [Cells, go_sem]; done))) (fun hHeld7 => ?_)
  clear hK K
  try clear hb
  try simp only [Act.put, List.setIfInBounds_toArray, List.set_cons_zero, List.set_cons_succ]
  refine wpAnyH_ready (rs := [2]) (by kernel_rfl) (by simp) ?_
  refine AllReadyH.cons (o := ⟨some 38, _, _, _, _, _⟩) rfl (fun K hK => ?_) AllReadyH.nil
  go_simp
  (with_reducible refine Calls.mono (D1.out _ _ _ (zs.out.below (Below.refl _ _).drew) (zq.out.below (Below.refl _ _).drew)) ?_); rintro e wa ⟨xu, Au, nu, cu, rfl, hb, yu⟩; have zaA := Lib.hid ((za.out.below (Below.refl _ _).drew).below hb); have zbA := Lib.hid ((zb.out.below (Below.refl _ _).drew).below hb); have zmA := Lib.hid ((zm.out.below (Below.refl _ _).drew).below hb); have zlA := Lib.hid ((zl.out.below (Below.refl _ _).drew).below hb); have zrA := Lib.hid ((zr.out.below (Below.refl _ _).drew).below hb)
  refine hK.out _ _ (hHeld7.next hb) (fun hHeld8 => ?_)
  replace hT0 := hT0.next hb
  clear hK K
  try clear hb
  try simp only [Act.put, List.setIfInBounds_toArray, List.set_cons_zero, List.set_cons_succ]
  refine wpAnyH_ready (rs := [5]) (by kernel_rfl) (by simp) ?_
  refine AllReadyH.cons (o := ⟨some 41, _, _, _, _, _⟩) rfl (fun K hK => ?_) AllReadyH.nil
  go_simp
  (with_reducible refine Calls.mono (D2.out _ _ _ zlA.out zrA.out) ?_); rintro e wb ⟨xv, Av, nv, cv, rfl, hb, yv⟩; have zaB := zaA.out.below hb; have zbB := zbA.out.below hb; have zmB := zmA.out.below hb; have yuB := yu.below hb
  refine hK.out _ _ (hHeld8.next hb) (fun hHeld9 => ?_)
  replace hT0 := hT0.next hb
  clear hK K
  try clear hb
  try simp only [Act.put, List.setIfInBounds_toArray, List.set_cons_zero, List.set_cons_succ]
  refine wpAnyH_ready (rs := [6]) (by kernel_rfl) (by simp) ?_
  refine AllReadyH.cons (o := ⟨none, _, _, _, _, _⟩) rfl (fun K hK => ?_) AllReadyH.nil
  obtain ⟨⟨t0z0, t0c0, t0f0⟩, ⟨t0z1, t0c1, t0f1⟩, ⟨t0z2, t0c2, t0f2⟩, ⟨t0z3, t0c3, t0f3⟩, _⟩ := hT0.2; (try simp at t0z0); (try simp at t0c0); (try simp at t0f0); (try simp at t0z1); (try simp at t0c1); (try simp at t0f1); (try simp at t0z2); (try simp at t0c2); (try simp at t0f2); (try simp at t0z3); (try simp at t0c3); (try simp at t0f3)
  go_simp
  refine hK.out _ _ (((hHeld9.set (p := ⟨s, 0, none⟩) e14.out N1.out _).set (p := ⟨s, 1, none⟩) e14.out N1.out _)) (fun hHeld10 => ?_)
  clear hK K
  try clear hb
  try simp only [Act.put, List.setIfInBounds_toArray, List.set_cons_zero, List.set_cons_succ]
  refine wpAnyH_ready (rs := [7]) (by kernel_rfl) (by simp) ?_
  refine AllReadyH.cons (o := ⟨none, _, _, _, _, _⟩) rfl (fun K hK => ?_) AllReadyH.nil
  go_simp
  refine hK.out _ _ (((hHeld10.set (p := ⟨t, 0, none⟩) e15.out N2.out _).set (p := ⟨t, 1, none⟩) e15.out N2.out _)) (fun hHeld11 => ?_)
  clear hK K
  try clear hb
  try simp only [Act.put, List.setIfInBounds_toArray, List.set_cons_zero, List.set_cons_succ]
  refine wpAnyH_done (by kernel_rfl) ?_ _
  have hHeld := hHeld11
  obtain ⟨⟨kz0, kc0, kf0⟩, ⟨kz1, kc1, kf1⟩, ⟨kz2, kc2, kf2⟩, ⟨kz3, kc3, kf3⟩, ⟨kz4, kc4, kf4⟩, ⟨kz5, kc5, kf5⟩, ⟨kz6, kc6, kf6⟩, ⟨kz7, kc7, kf7⟩, ⟨kz8, kc8, kf8⟩, ⟨kz9, kc9, kf9⟩, ⟨kz10, kc10, kf10⟩, ⟨kz11, kc11, kf11⟩, _⟩ := hHeld.2
  rotate_left 1
  exact AllReadyH.nil
  refine AllReadyH.cons (o := ⟨some 39, _, _, _, _, _⟩) rfl (fun K hK => ?_) ?_
  obtain ⟨⟨kz0, kc0, kf0⟩, ⟨kz1, kc1, kf1⟩, ⟨kz2, kc2, kf2⟩, ⟨kz3, kc3, kf3⟩, ⟨kz4, kc4, kf4⟩, ⟨kz5, kc5, kf5⟩, ⟨kz6, kc6, kf6⟩, ⟨kz7, kc7, kf7⟩, ⟨kz8, kc8, kf8⟩, ⟨kz9, kc9, kf9⟩, ⟨kz10, kc10, kf10⟩, ⟨kz11, kc11, kf11⟩, _⟩ := hHeld0.2
  obtain ⟨⟨t0z0, t0c0, t0f0⟩, ⟨t0z1, t0c1, t0f1⟩, ⟨t0z2, t0c2, t0f2⟩, ⟨t0z3, t0c3, t0f3⟩, _⟩ := hT0.2
  go_simp
  refine hK.out _ _ (by first | exact hHeld0 | (first | exact hHeld | (refine ⟨by go_grown, ?_⟩; simp [Cells, go_sem]; done))) (fun hHeld12 => ?_)
  clear hK K
  try clear hb
  try simp only [Act.put, List.setIfInBounds_toArray, List.set_cons_zero, List.set_cons_succ]
  refine wpAnyH_ready (rs := [0]) (by kernel_rfl) (by simp) ?_
  refine AllReadyH.cons (o := ⟨some 36, _, _, _, _, _⟩) rfl (fun K hK => ?_) AllReadyH.nil
  obtain ⟨⟨kz0, kc0, kf0⟩, ⟨kz1, kc1, kf1⟩, ⟨kz2, kc2, kf2⟩, ⟨kz3, kc3, kf3⟩, ⟨kz4, kc4, kf4⟩, ⟨kz5, kc5, kf5⟩, ⟨kz6, kc6, kf6⟩, ⟨kz7, kc7, kf7⟩, ⟨kz8, kc8, kf8⟩, ⟨kz9, kc9, kf9⟩, ⟨kz10, kc10, kf10⟩, ⟨kz11, kc11, kf11⟩, _⟩ := hHeld12.2
  obtain ⟨⟨t0z0, t0c0, t0f0⟩, ⟨t0z1, t0c1, t0f1⟩, ⟨t0z2, t0c2, t0f2⟩, ⟨t0z3, t0c3, t0f3⟩, _⟩ := hT0.2
  go_simp
  refine hK.out _ _ (by first | exact hHeld12 | (first | exact hHeld | (refine ⟨by go_grown, ?_⟩; simp [Cells, go_sem]; done))) (fun hHeld13 => ?_)
  clear hK K
  try clear hb
  try simp only [Act.put, List.setIfInBounds_toArray, List.set_cons_zero, List.set_cons_succ]
  refine wpAnyH_ready (rs := [2]) (by kernel_rfl) (by simp) ?_
  refine AllReadyH.cons (o := ⟨some 38, _, _, _, _, _⟩) rfl (fun K hK => ?_) AllReadyH.nil
  go_simp
  (with_reducible refine Calls.mono (D1.out _ _ _ (zs.out.below (Below.refl _ _).drew) (zq.out.below (Below.refl _ _).drew)) ?_); rintro e wa ⟨xu, Au, nu, cu, rfl, hb, yu⟩; have zaA := Lib.hid ((za.out.below (Below.refl _ _).drew).below hb); have zbA := Lib.hid ((zb.out.below (Below.refl _ _).drew).below hb); have zmA := Lib.hid ((zm.out.below (Below.refl _ _).drew).below hb); have zlA := Lib.hid ((zl.out.below (Below.refl _ _).drew).below hb); have zrA := Lib.hid ((zr.out.below (Below.refl _ _).drew).below hb)
  refine hK.out _ _ (hHeld13.next hb) (fun hHeld14 => ?_)
  replace hT0 := hT0.next hb
  clear hK K
  try clear hb
  try simp only [Act.put, List.setIfInBounds_toArray, List.set_cons_zero, List.set_cons_succ]
  refine wpAnyH_ready (rs := [5]) (by kernel_rfl) (by simp) ?_
  refine AllReadyH.cons (o := ⟨some 41, _, _, _, _, _⟩) rfl (fun K hK => ?_) AllReadyH.nil
  go_simp
  (with_reducible refine Calls.mono (D2.out _ _ _ zlA.out zrA.out) ?_); rintro e wb ⟨xv, Av, nv, cv, rfl, hb, yv⟩; have zaB := zaA.out.below hb; have zbB := zbA.out.below hb; have zmB := zmA.out.below hb; have yuB := yu.below hb
  refine hK.out _ _ (hHeld14.next hb) (fun hHeld15 => ?_)
  replace hT0 := hT0.next hb
  clear hK K
  try clear hb
  try simp only [Act.put, List.setIfInBounds_toArray, List.set_cons_zero, List.set_cons_succ]
  refine wpAnyH_ready (rs := [6]) (by kernel_rfl) (by simp) ?_
  refine AllReadyH.cons (o := ⟨none, _, _, _, _, _⟩) rfl (fun K hK => ?_) AllReadyH.nil
  obtain ⟨⟨t0z0, t0c0, t0f0⟩, ⟨t0z1, t0c1, t0f1⟩, ⟨t0z2, t0c2, t0f2⟩, ⟨t0z3, t0c3, t0f3⟩, _⟩ := hT0.2; (try simp at t0z0); (try simp at t0c0); (try simp at t0f0); (try simp at t0z1); (try simp at t0c1); (try simp at t0f1); (try simp at t0z2); (try simp at t0c2); (try simp at t0f2); (try simp at t0z3); (try simp at t0c3); (try simp at t0f3)
  go_simp
  refine hK.out _ _ (((hHeld15.set (p := ⟨s, 0, none⟩) e14.out N1.out _).set (p := ⟨s, 1, none⟩) e14.out N1.out _)) (fun hHeld16 => ?_)
  clear hK K
  try clear hb
  try simp only [Act.put, List.setIfInBounds_toArray, List.set_cons_zero, List.set_cons_succ]
  refine wpAnyH_ready (rs := [7]) (by kernel_rfl) (by simp) ?_
  refine AllReadyH.cons (o := ⟨none, _, _, _, _, _⟩) rfl (fun K hK => ?_) AllReadyH.nil
  go_simp
  refine hK.out _ _ (((hHeld16.set (p := ⟨t, 0, none⟩) e15.out N2.out _).set (p := ⟨t, 1, none⟩) e15.out N2.out _)) (fun hHeld17 => ?_)
  clear hK K
  try clear hb
  try simp only [Act.put, List.setIfInBounds_toArray, List.set_cons_zero, List.set_cons_succ]
  refine wpAnyH_done (by kernel_rfl) ?_ _
  have hHeld := hHeld17
  obtain ⟨⟨kz0, kc0, kf0⟩, ⟨kz1, kc1, kf1⟩, ⟨kz2, kc2, kf2⟩, ⟨kz3, kc3, kf3⟩, ⟨kz4, kc4, kf4⟩, ⟨kz5, kc5, kf5⟩, ⟨kz6, kc6, kf6⟩, ⟨kz7, kc7, kf7⟩, ⟨kz8, kc8, kf8⟩, ⟨kz9, kc9, kf9⟩, ⟨kz10, kc10, kf10⟩, ⟨kz11, kc11, kf11⟩, _⟩ := hHeld.2
  rotate_left 1
  exact AllReadyH.nil
  all_goals
    have m0 := off2 (u0 := .bool xu) (u1 := .slice Au nu cu) e13 t0c2
    have m1 := off2 (u0 := .bool xu) (u1 := .slice Au nu cu) e13 t0c3
    refine hQ _ xu Au nu cu xv Av nv cv hHeld ⟨hHeld.1, ⟨?_, ?_, ?_⟩, ⟨?_, ?_, ?_⟩, trivial⟩ ⟨hHeld.1, ⟨?_, ?_, ?_⟩, ⟨?_, ?_, ?_⟩, trivial⟩ ((zaB.set2 t0c0 t0c1 _ _).set2 m0 m1 _ _) ((zbB.set2 t0c0 t0c1 _ _).set2 m0 m1 _ _) ((zmB.set2 t0c0 t0c1 _ _).set2 m0 m1 _ _) ((yuB.set2 t0c0 t0c1 _ _).set2 m0 m1 _ _) ((yv.set2 t0c0 t0c1 _ _).set2 m0 m1 _ _)
    · simpa [World.setCell] using t0z0
    · exact off2 (Ne.symm e13) (set2 t0c0 t0c1).1
    · simp only [World.frozen?_setCell]; exact t0f0
    · simpa [World.setCell] using t0z0
    · exact off2 (Ne.symm e13) (set2 t0c0 t0c1).2
    · simp only [World.frozen?_setCell]; exact t0f1
    · simpa [World.setCell] using t0z2
    · exact (set2 m0 m1).1
    · simp only [World.frozen?_setCell]; exact t0f2
    · simpa [World.setCell] using t0z2
    · exact (set2 m0 m1).2
    · simp only [World.frozen?_setCell]; exact t0f3
end Go.Proofs.Ytnacdofidmgfmaa

/-
  Layer 6, the document's own answer to Sum. Conditions: what may be asked for.
-/
namespace Go.Proofs.Ytnacdofidmgfmaa
open Go.RowKit

set_option maxRecDepth 100000 in
set_option maxHeartbeats 8000000 in
theorem refSum_any (N : Nat) (a b m : Int) (hN : N ≤ 256) (ha : termB a = true) (hb : termB b = true) (hm0 : 1 ≤ m) (hm1 : m ≤ 281474976710656) (w : World) :
    Calls Try.prog 15 #[.int .i64 N, wideV (rhi a) (rlo a), wideV (rhi b) (rlo b), .int .i64 m] w (Ret w (.tuple #[wideV (rhi (floorS N a b m)) (rlo (floorS N a b m)), .int .i64 (restS N a b m)])) := by
  have OA := Lib.hid (fun W => of_fits a (term_fits ha) W)
  have OB := Lib.hid (fun W => of_fits b (term_fits hb) W)
  have OM := Lib.hid (fun W => intZ_any m (by omega) (by omega) W)
  have hsh : ∀ k : Nat, k ≤ 256 → Short a b m k := fun k hk => short hk ha hb hm0 hm1
  have lm : (sizeL m.natAbs).length ≤ 130 := fits_len (by unfold Fits; omega)
  have la : (sizeL a.natAbs).length ≤ 130 := fits_len (term_fits ha)
  have DV := Lib.hid (fun (k : Nat) (hk : k < N) u u' W h h' => divD_any (a * k + b) m hm0 (by have := (hsh k (by omega)).x; omega) (by omega) u u' W h h')
  have AS := Lib.hid (fun (k : Nat) (hk : k < N) u u' W h h' => addZ_any (floorS k a b m) ((a * k + b) / m) (by have := (hsh k (by omega)).s; omega) (by have := (hsh k (by omega)).q; omega) u u' W h h')
  have AL := Lib.hid (fun (k : Nat) (hk : k < N) u u' W h h' => addZ_any (restS k a b m) ((a * k + b) % m) (by have := (hsh k (by omega)).l; omega) (by have := (hsh k (by omega)).r; omega) u u' W h h')
  have AA := Lib.hid (fun (k : Nat) (hk : k < N) u u' W h h' => addZ_any (a * k + b) a (by have := (hsh k (by omega)).x; omega) (by omega) u u' W h h')
  have WI := Lib.hid (fun u W h => wideZ_any (floorS N a b m) (by have := (hsh N hN).s; omega) u W h)
  have VA := fun u W h => valueZ_any (restS N a b m) (by have := (hsh N hN).l; omega) u W h
  have rb := rest_bounds hm0 N a b
  have rc : (N : Int) * (m - 1) ≤ 256 * 281474976710656 := Int.mul_le_mul (by omega) (by omega) (by omega) (by omega)
  have ev : valueV (restS N a b m) = restS N a b m := by unfold valueV; rw [if_pos (by omega)]
  rw [ev] at VA
  replace VA := Lib.hid VA
  have nx : ∀ k : Nat, a * ((k + 1 : Nat) : Int) + b = a * k + b + a := fun k => by
    rw [show ((k + 1 : Nat) : Int) = (k : Int) + 1 by omega, Int.mul_add]; omega
  replace nx := Lib.hid nx
  have hN' := Lib.hid hN
  clear hsh lm la ev rb rc ha hb hm0 hm1 hN
  generalize rhi a = a0 at *
  generalize rlo a = a1 at *
  generalize rhi b = b0 at *
  generalize rlo b = b1 at *
  go_enter Try.func15, Try.ntmps15
  go_upto_region 1 with fail
  have hK : Keeps w [(w.heap.size, 0, .int .i64 a0), (w.heap.size, 1, .int .u64 a1), (w.heap.size + 1, 0, .int .i64 b0), (w.heap.size + 1, 1, .int .u64 b1), (w.heap.size + 1 + 1, 0, .int .i64 0), (w.heap.size + 1 + 1, 1, .int .u64 0)] (((w.alloc (.cells #[.int .i64 a0, .int .u64 a1] 24)).alloc (.cells #[.int .i64 b0, .int .u64 b1] 24)).alloc (.cells #[.int .i64 0, .int .u64 0] 24)) := ⟨by go_grown, by simp [Cells, go_sem]⟩
  refine dpSum (fun c a d v w h => by cases d <;> exact h) w w.heap.size (w.heap.size + 1) (w.heap.size + 1 + 1) N a0 a1 b0 b1 m a b OB OA OM _ hK ?_
  intro W x1 A1 n1 c1 x3 A3 n3 c3 x5 A5 n5 c5 p6 p7 p8 hS k6 d6 l6 k7 d7 l7 k8 d8 l8 e67 e68 e78 z1 z3 z5
  clear hK
  go_wp2_with fail
  have q6 := k6.2.1.1
  have q7 := k7.2.1.1
  have q8 := k8.2.1.1
  have qr := hS.2.2.2.2.2.1.1
  have er := d6 (w.heap.size + 1 + 1, 0, .int .i64 0) (by simp)
  have hT := ((((hS.app (k6.app (k7.app k8))).alloc (.cells #[.bool false, .slice none 0 0] 68)).alloc (.cells #[.bool false, .slice none 0 0] 68)).app (((newK2 (hS.alloc (.cells #[.bool false, .slice none 0 0] 68))).alloc (.cells #[.bool false, .slice none 0 0] 68)).app (newK2 ((hS.alloc (.cells #[.bool false, .slice none 0 0] 68)).alloc (.cells #[.bool false, .slice none 0 0] 68)))))
  rw [show (W.alloc (.cells #[.bool false, .slice none 0 0] 68)).heap.size = W.heap.size + 1 by simp] at hT
  obtain ⟨s, es⟩ : ∃ s, s = W.heap.size := ⟨_, rfl⟩
  obtain ⟨t, et⟩ : ∃ t, t = W.heap.size + 1 := ⟨_, rfl⟩
  obtain ⟨r, err⟩ : ∃ r, r = w.heap.size + 1 + 1 := ⟨_, rfl⟩
  have NE : Hid ((p6 ≠ s ∧ p6 ≠ t ∧ p7 ≠ s ∧ p7 ≠ t ∧ p8 ≠ s ∧ p8 ≠ t ∧ r ≠ s ∧ r ≠ t ∧ s ≠ t) ∧ p6 ≠ p7 ∧ p6 ≠ p8 ∧ r ≠ p6 ∧ w.heap.size ≤ s ∧ w.heap.size ≤ t ∧ w.heap.size ≤ r ∧ w.heap.size ≤ p6) := by
    have z := hS.1.size
    subst es et err
    exact Lib.hid ⟨⟨Nat.ne_of_lt q6, Nat.ne_of_lt (Nat.lt_succ_of_lt q6), Nat.ne_of_lt q7, Nat.ne_of_lt (Nat.lt_succ_of_lt q7), Nat.ne_of_lt q8, Nat.ne_of_lt (Nat.lt_succ_of_lt q8), Nat.ne_of_lt qr, Nat.ne_of_lt (Nat.lt_succ_of_lt qr), Nat.ne_of_lt (Nat.lt_succ_self _)⟩, e67, e68, er, z, Nat.le_succ_of_le z, Nat.le_succ_of_le (Nat.le_succ _), l6⟩
  rw [← et, ← es, ← err] at hT
  rw [← et, ← es, ← err]
  replace hT : Keeps w [(p6, 0, .bool x1), (p6, 1, .slice A1 n1 c1), (p7, 0, .bool x3), (p7, 1, .slice A3 n3 c3), (p8, 0, .bool x5), (p8, 1, .slice A5 n5 c5), (r, 0, .int .i64 0), (r, 1, .int .u64 0), (s, 0, .bool false), (s, 1, .slice none 0 0), (t, 0, .bool false), (t, 1, .slice none 0 0)] _ := hT.sub (by simp)
  have Z1 := (z1.below (below_alloc W (.cells #[.bool false, .slice none 0 0] 68))).below (below_alloc _ (.cells #[.bool false, .slice none 0 0] 68))
  have Z3 := (z3.below (below_alloc W (.cells #[.bool false, .slice none 0 0] 68))).below (below_alloc _ (.cells #[.bool false, .slice none 0 0] 68))
  have Z5 := (z5.below (below_alloc W (.cells #[.bool false, .slice none 0 0] 68))).below (below_alloc _ (.cells #[.bool false, .slice none 0 0] 68))
  clear q6 q7 q8 qr er es et err hS k6 d6 l6 k7 d7 l7 k8 d8 l8 e67 e68 e78 z1 z3 z5
  generalize (W.alloc (.cells #[.bool false, .slice none 0 0] 68)).alloc (.cells #[.bool false, .slice none 0 0] 68) = V at *
  replace Z1 := Lib.hid Z1
  replace Z3 := Lib.hid Z3
  replace Z5 := Lib.hid Z5
  go_loopw [28] (fun i wr => ∃ (k : Nat) (xa : Bool) (Aa : Option Addr) (na ca : Nat) (xs : Bool) (As : Option Addr) (ns cs : Nat) (xl : Bool) (Al : Option Addr) (nl cl : Nat), i = .int .i64 k ∧ k ≤ N ∧ Keeps w [(p6, 0, .bool xa), (p6, 1, .slice Aa na ca), (p7, 0, .bool x3), (p7, 1, .slice A3 n3 c3), (p8, 0, .bool x5), (p8, 1, .slice A5 n5 c5), (r, 0, .int .i64 0), (r, 1, .int .u64 0), (s, 0, .bool xs), (s, 1, .slice As ns cs), (t, 0, .bool xl), (t, 1, .slice Al nl cl)] wr ∧ Hid (NumZ wr (numV xa Aa na ca) (a * k + b) ∧ NumZ wr (numV x3 A3 n3 c3) a ∧ NumZ wr (numV x5 A5 n5 c5) m ∧ NumZ wr (numV xs As ns cs) (floorS k a b m) ∧ NumZ wr (numV xl Al nl cl) (restS k a b m))) (fun i _ => N - (intOf i).toNat)
  case atStart => exact ⟨0, x1, A1, n1, c1, false, none, 0, 0, false, none, 0, 0, rfl, by omega, hT, Lib.hid ⟨by simpa using Z1.out, Z3.out, Z5.out, numZ_zero _, numZ_zero _⟩⟩
  case round =>
    obtain ⟨k, xa, Aa, na, ca, xs, As, ns, cs, xl, Al, nl, cl, rfl, hk, hHeld, HZ⟩ := hrel
    clear hT Z1 Z3 Z5
    by_cases gk : k < N
    · have wk : wrap64 ((k : Int) + 1) = (k : Int) + 1 := by have := hN'.out; unfold wrap64; omega
      have D := Lib.hid (DV.out k gk)
      have D1 := Lib.hid (AS.out k gk)
      have D2 := Lib.hid (AL.out k gk)
      have D3 := Lib.hid (AA.out k gk)
      have F1 := Lib.hid (show floorS (k + 1) a b m = floorS k a b m + (a * k + b) / m from rfl)
      have F2 := Lib.hid (show restS (k + 1) a b m = restS k a b m + (a * k + b) % m from rfl)
      have F3 := Lib.hid (nx.out k)
      generalize (a * (k : Int) + b) / m = Q at *
      generalize (a * (k : Int) + b) % m = R at *
      generalize a * (k : Int) + b = X at *
      generalize floorS k a b m = fs at *
      generalize restS k a b m = rs at *
      obtain ⟨za, zb, zm, zs, zl⟩ := HZ.out
      replace za := Lib.hid za
      replace zb := Lib.hid zb
      replace zm := Lib.hid zm
      replace zs := Lib.hid zs
      replace zl := Lib.hid zl
      clear HZ
      obtain ⟨⟨kz0, kc0, kf0⟩, ⟨kz1, kc1, kf1⟩, ⟨kz2, kc2, kf2⟩, ⟨kz3, kc3, kf3⟩, ⟨kz4, kc4, kf4⟩, ⟨kz5, kc5, kf5⟩, ⟨kz6, kc6, kf6⟩, ⟨kz7, kc7, kf7⟩, ⟨kz8, kc8, kf8⟩, ⟨kz9, kc9, kf9⟩, ⟨kz10, kc10, kf10⟩, ⟨kz11, kc11, kf11⟩, _⟩ := hHeld.2
      go_wp2_with fail
      refine (D.out _ _ _ za.out zm.out).mono ?_
      rintro e w5 ⟨x6, A6, n6, c6, x7, A7, n7, c7, rfl, hb, zq, zr⟩
      replace za := Lib.hid (za.out.below hb)
      replace zb := Lib.hid (zb.out.below hb)
      replace zm := Lib.hid (zm.out.below hb)
      replace zs := Lib.hid (zs.out.below hb)
      replace zl := Lib.hid (zl.out.below hb)
      replace hHeld := hHeld.next hb
      replace zq := Lib.hid zq
      replace zr := Lib.hid zr
      clear hb
      (try clear hHeld0); (try clear hHeld1); (try clear hHeld2); (try clear hHeld3); (try clear hHeld4); (try clear hHeld5); (try clear hHeld6); (try clear hHeld7); (try clear hHeld8); (try clear hHeld9); (try clear hHeld10); (try clear hHeld11); (try clear hHeld12); (try clear hHeld13); (try clear hT0); (try clear kz0 kc0 kf0); (try clear kz1 kc1 kf1); (try clear kz2 kc2 kf2); (try clear kz3 kc3 kf3); (try clear kz4 kc4 kf4); (try clear kz5 kc5 kf5); (try clear kz6 kc6 kf6); (try clear kz7 kc7 kf7); (try clear kz8 kc8 kf8); (try clear kz9 kc9 kf9); (try clear kz10 kc10 kf10); (try clear kz11 kc11 kf11); (try clear kz12 kc12 kf12); (try clear kz13 kc13 kf13); (try clear t0z0 t0c0 t0f0); (try clear t0z1 t0c1 t0f1)
      obtain ⟨⟨kz0, kc0, kf0⟩, ⟨kz1, kc1, kf1⟩, ⟨kz2, kc2, kf2⟩, ⟨kz3, kc3, kf3⟩, ⟨kz4, kc4, kf4⟩, ⟨kz5, kc5, kf5⟩, ⟨kz6, kc6, kf6⟩, ⟨kz7, kc7, kf7⟩, ⟨kz8, kc8, kf8⟩, ⟨kz9, kc9, kf9⟩, ⟨kz10, kc10, kf10⟩, ⟨kz11, kc11, kf11⟩, _⟩ := hHeld.2
      go_wp2_with fail
      have hB := ((newK2 (hHeld.alloc (.cells #[.bool x6, .slice A6 n6 c6] 68))).alloc (.cells #[.bool x7, .slice A7 n7 c7] 68)).app ((newK2 ((hHeld.alloc (.cells #[.bool x6, .slice A6 n6 c6] 68)).alloc (.cells #[.bool x7, .slice A7 n7 c7] 68))).app ((hHeld.alloc (.cells #[.bool x6, .slice A6 n6 c6] 68)).alloc (.cells #[.bool x7, .slice A7 n7 c7] 68)))
      rw [show (w5.alloc (.cells #[.bool x6, .slice A6 n6 c6] 68)).heap.size = w5.heap.size + 1 by simp] at hB
      obtain ⟨g, eg⟩ : ∃ g, g = w5.heap.size := ⟨_, rfl⟩
      obtain ⟨h, eh⟩ : ∃ h, h = w5.heap.size + 1 := ⟨_, rfl⟩
      have NG : Hid (g ≠ s ∧ g ≠ t ∧ h ≠ s ∧ h ≠ t) := by
        subst eg eh
        exact Lib.hid ⟨Nat.ne_of_gt kz8, Nat.ne_of_gt kz10, Nat.ne_of_gt (Nat.lt_succ_of_lt kz8), Nat.ne_of_gt (Nat.lt_succ_of_lt kz10)⟩
      rw [← eh, ← eg] at hB
      rw [← eh, ← eg]
      clear eg eh hHeld
      (try clear hHeld0); (try clear hHeld1); (try clear hHeld2); (try clear hHeld3); (try clear hHeld4); (try clear hHeld5); (try clear hHeld6); (try clear hHeld7); (try clear hHeld8); (try clear hHeld9); (try clear hHeld10); (try clear hHeld11); (try clear hHeld12); (try clear hHeld13); (try clear hT0); (try clear kz0 kc0 kf0); (try clear kz1 kc1 kf1); (try clear kz2 kc2 kf2); (try clear kz3 kc3 kf3); (try clear kz4 kc4 kf4); (try clear kz5 kc5 kf5); (try clear kz6 kc6 kf6); (try clear kz7 kc7 kf7); (try clear kz8 kc8 kf8); (try clear kz9 kc9 kf9); (try clear kz10 kc10 kf10); (try clear kz11 kc11 kf11); (try clear kz12 kc12 kf12); (try clear kz13 kc13 kf13); (try clear t0z0 t0c0 t0f0); (try clear t0z1 t0c1 t0f1)
      replace za := Lib.hid ((za.out.below (below_alloc w5 (.cells #[.bool x6, .slice A6 n6 c6] 68))).below (below_alloc _ (.cells #[.bool x7, .slice A7 n7 c7] 68)))
      replace zb := Lib.hid ((zb.out.below (below_alloc w5 (.cells #[.bool x6, .slice A6 n6 c6] 68))).below (below_alloc _ (.cells #[.bool x7, .slice A7 n7 c7] 68)))
      replace zm := Lib.hid ((zm.out.below (below_alloc w5 (.cells #[.bool x6, .slice A6 n6 c6] 68))).below (below_alloc _ (.cells #[.bool x7, .slice A7 n7 c7] 68)))
      replace zs := Lib.hid ((zs.out.below (below_alloc w5 (.cells #[.bool x6, .slice A6 n6 c6] 68))).below (below_alloc _ (.cells #[.bool x7, .slice A7 n7 c7] 68)))
      replace zl := Lib.hid ((zl.out.below (below_alloc w5 (.cells #[.bool x6, .slice A6 n6 c6] 68))).below (below_alloc _ (.cells #[.bool x7, .slice A7 n7 c7] 68)))
      replace zq := Lib.hid ((zq.out.below (below_alloc w5 (.cells #[.bool x6, .slice A6 n6 c6] 68))).below (below_alloc _ (.cells #[.bool x7, .slice A7 n7 c7] 68)))
      replace zr := Lib.hid ((zr.out.below (below_alloc w5 (.cells #[.bool x6, .slice A6 n6 c6] 68))).below (below_alloc _ (.cells #[.bool x7, .slice A7 n7 c7] 68)))
      generalize (w5.alloc (.cells #[.bool x6, .slice A6 n6 c6] 68)).alloc (.cells #[.bool x7, .slice A7 n7 c7] 68) = V6 at *
      obtain ⟨⟨e1, e2, e3, e4, e5, e6, e7, e8, e9⟩, e10, e11, e12, e13, e14, e15, e16⟩ := NE.out
      obtain ⟨e17, e18, e19, e20⟩ := NG.out
      have NX := Lib.hid (show (p6 ≠ s ∧ p6 ≠ t ∧ p7 ≠ s ∧ p7 ≠ t ∧ p8 ≠ s ∧ p8 ≠ t ∧ r ≠ s ∧ r ≠ t ∧ g ≠ s ∧ g ≠ t ∧ h ≠ s ∧ h ≠ t) ∧ s ≠ t ∧ w.heap.size ≤ s ∧ w.heap.size ≤ t from ⟨⟨e1, e2, e3, e4, e5, e6, e7, e8, e17, e18, e19, e20⟩, e9, e13, e14⟩)
      clear e1 e2 e3 e4 e5 e6 e7 e8 e9 e10 e11 e12 e13 e14 e15 e16 e17 e18 e19 e20
      refine round6 (fun c a d v w h => by cases d <;> exact h) w p6 p7 p8 r s t g h xa x3 x5 x6 x7 xs xl Aa A3 A5 A6 A7 As Al na ca n3 c3 n5 c5 n6 c6 n7 c7 ns cs nl cl X a m fs rs Q R D1 D2 NX V6 (hB.sub (by simp)) (hB.sub (by simp)) za zb zm zs zl zq zr ?_
      clear hB za zb zm zs zl zq zr
      intro W' xu Au nu cu xv Av nv cv hL hs2 ht2 ya yb ym yu yv
      have hF : Keeps w [(p6, 0, .bool xa), (p6, 1, .slice Aa na ca), (p7, 0, .bool x3), (p7, 1, .slice A3 n3 c3), (p8, 0, .bool x5), (p8, 1, .slice A5 n5 c5), (r, 0, .int .i64 0), (r, 1, .int .u64 0), (s, 0, .bool xu), (s, 1, .slice Au nu cu), (t, 0, .bool xv), (t, 1, .slice Av nv cv)] W' := (hL.app (hs2.app ht2)).sub (by simp)
      clear hL hs2 ht2
      replace ya := Lib.hid ya
      replace yb := Lib.hid yb
      replace ym := Lib.hid ym
      replace yu := Lib.hid yu
      replace yv := Lib.hid yv
      obtain ⟨⟨kz0, kc0, kf0⟩, ⟨kz1, kc1, kf1⟩, ⟨kz2, kc2, kf2⟩, ⟨kz3, kc3, kf3⟩, ⟨kz4, kc4, kf4⟩, ⟨kz5, kc5, kf5⟩, ⟨kz6, kc6, kf6⟩, ⟨kz7, kc7, kf7⟩, ⟨kz8, kc8, kf8⟩, ⟨kz9, kc9, kf9⟩, ⟨kz10, kc10, kf10⟩, ⟨kz11, kc11, kf11⟩, _⟩ := hF.2
      go_wp2_with fail
      refine (D3.out _ _ _ ya.out yb.out).mono ?_
      rintro e w9 ⟨xn, An, nn, cn, rfl, hb, yn⟩
      replace yb := Lib.hid (yb.out.below hb)
      replace ym := Lib.hid (ym.out.below hb)
      replace yu := Lib.hid (yu.out.below hb)
      replace yv := Lib.hid (yv.out.below hb)
      replace yn := Lib.hid yn
      replace hF := hF.next hb
      clear hb ya
      (try clear hHeld0); (try clear hHeld1); (try clear hHeld2); (try clear hHeld3); (try clear hHeld4); (try clear hHeld5); (try clear hHeld6); (try clear hHeld7); (try clear hHeld8); (try clear hHeld9); (try clear hHeld10); (try clear hHeld11); (try clear hHeld12); (try clear hHeld13); (try clear hT0); (try clear kz0 kc0 kf0); (try clear kz1 kc1 kf1); (try clear kz2 kc2 kf2); (try clear kz3 kc3 kf3); (try clear kz4 kc4 kf4); (try clear kz5 kc5 kf5); (try clear kz6 kc6 kf6); (try clear kz7 kc7 kf7); (try clear kz8 kc8 kf8); (try clear kz9 kc9 kf9); (try clear kz10 kc10 kf10); (try clear kz11 kc11 kf11); (try clear kz12 kc12 kf12); (try clear kz13 kc13 kf13); (try clear t0z0 t0c0 t0f0); (try clear t0z1 t0c1 t0f1)
      obtain ⟨⟨kz0, kc0, kf0⟩, ⟨kz1, kc1, kf1⟩, ⟨kz2, kc2, kf2⟩, ⟨kz3, kc3, kf3⟩, ⟨kz4, kc4, kf4⟩, ⟨kz5, kc5, kf5⟩, ⟨kz6, kc6, kf6⟩, ⟨kz7, kc7, kf7⟩, ⟨kz8, kc8, kf8⟩, ⟨kz9, kc9, kf9⟩, ⟨kz10, kc10, kf10⟩, ⟨kz11, kc11, kf11⟩, _⟩ := hF.2
      obtain ⟨⟨e1, e2, e3, e4, e5, e6, e7, e8, e9⟩, e10, e11, e12, e13, e14, e15, e16⟩ := NE.out
      have g1 : Keeps w [(p6, 0, .bool xn), (p6, 1, .slice Aa na ca), (p7, 0, .bool x3), (p7, 1, .slice A3 n3 c3), (p8, 0, .bool x5), (p8, 1, .slice A5 n5 c5), (r, 0, .int .i64 0), (r, 1, .int .u64 0), (s, 0, .bool xu), (s, 1, .slice Au nu cu), (t, 0, .bool xv), (t, 1, .slice Av nv cv)] _ := hF.put (B := p6) (o := 0) (a := .bool xa) (u := .bool xn) e16 (by simp) (by simp [Ne.symm e1, Ne.symm e2, Ne.symm e10, Ne.symm e11, e12])
      have g2 : Keeps w [(p6, 0, .bool xn), (p6, 1, .slice An nn cn), (p7, 0, .bool x3), (p7, 1, .slice A3 n3 c3), (p8, 0, .bool x5), (p8, 1, .slice A5 n5 c5), (r, 0, .int .i64 0), (r, 1, .int .u64 0), (s, 0, .bool xu), (s, 1, .slice Au nu cu), (t, 0, .bool xv), (t, 1, .slice Av nv cv)] _ := g1.put (B := p6) (o := 1) (a := .slice Aa na ca) (u := .slice An nn cn) e16 (by simp) (by simp [Ne.symm e1, Ne.symm e2, Ne.symm e10, Ne.symm e11, e12])
      have r1 := yn.out.set2 kc0 kc1 (.bool xn) (.slice An nn cn)
      have r2 := yb.out.set2 kc0 kc1 (.bool xn) (.slice An nn cn)
      have r3 := ym.out.set2 kc0 kc1 (.bool xn) (.slice An nn cn)
      have r4 := yu.out.set2 kc0 kc1 (.bool xn) (.slice An nn cn)
      have r5 := yv.out.set2 kc0 kc1 (.bool xn) (.slice An nn cn)
      replace r1 := Lib.hid r1
      replace r2 := Lib.hid r2
      replace r3 := Lib.hid r3
      replace r4 := Lib.hid r4
      replace r5 := Lib.hid r5
      clear g1 e1 e2 e3 e4 e5 e6 e7 e8 e9 e10 e11 e12 e13 e14 e15 e16 yn yb ym yu yv hF
      go_wp2_with fail
      go_roundw
      case rel => exact ⟨k + 1, xn, An, nn, cn, xu, Au, nu, cu, xv, Av, nv, cv, by first | rfl | (simp; done) | simp [wk], by omega, g2, Lib.hid ⟨by rw [F3.out]; exact r1.out, r2.out, r3.out, by rw [F1.out]; exact r4.out, by rw [F2.out]; exact r5.out⟩⟩
      case measure => exact fewer_left wk gk
    · obtain rfl : k = N := by omega
      obtain ⟨za, zb, zm, zs, zl⟩ := HZ.out
      replace zs := Lib.hid zs
      replace zl := Lib.hid zl
      clear za zb zm HZ
      obtain ⟨_, _, _, _, _, _, lr, _⟩ := NE.out
      replace lr := Lib.hid lr
      obtain ⟨⟨kz0, kc0, kf0⟩, ⟨kz1, kc1, kf1⟩, ⟨kz2, kc2, kf2⟩, ⟨kz3, kc3, kf3⟩, ⟨kz4, kc4, kf4⟩, ⟨kz5, kc5, kf5⟩, ⟨kz6, kc6, kf6⟩, ⟨kz7, kc7, kf7⟩, ⟨kz8, kc8, kf8⟩, ⟨kz9, kc9, kf9⟩, ⟨kz10, kc10, kf10⟩, ⟨kz11, kc11, kf11⟩, _⟩ := hHeld.2
      go_wp2_with fail
      refine (WI.out _ _ zs.out).mono ?_
      rintro e wf ⟨rfl, hb⟩
      replace hHeld := hHeld.next hb
      replace zl := Lib.hid (zl.out.below hb)
      clear hb
      (try clear hHeld0); (try clear hHeld1); (try clear hHeld2); (try clear hHeld3); (try clear hHeld4); (try clear hHeld5); (try clear hHeld6); (try clear hHeld7); (try clear hHeld8); (try clear hHeld9); (try clear hHeld10); (try clear hHeld11); (try clear hHeld12); (try clear hHeld13); (try clear hT0); (try clear kz0 kc0 kf0); (try clear kz1 kc1 kf1); (try clear kz2 kc2 kf2); (try clear kz3 kc3 kf3); (try clear kz4 kc4 kf4); (try clear kz5 kc5 kf5); (try clear kz6 kc6 kf6); (try clear kz7 kc7 kf7); (try clear kz8 kc8 kf8); (try clear kz9 kc9 kf9); (try clear kz10 kc10 kf10); (try clear kz11 kc11 kf11); (try clear kz12 kc12 kf12); (try clear kz13 kc13 kf13); (try clear t0z0 t0c0 t0f0); (try clear t0z1 t0c1 t0f1)
      obtain ⟨⟨kz0, kc0, kf0⟩, ⟨kz1, kc1, kf1⟩, ⟨kz2, kc2, kf2⟩, ⟨kz3, kc3, kf3⟩, ⟨kz4, kc4, kf4⟩, ⟨kz5, kc5, kf5⟩, ⟨kz6, kc6, kf6⟩, ⟨kz7, kc7, kf7⟩, ⟨kz8, kc8, kf8⟩, ⟨kz9, kc9, kf9⟩, ⟨kz10, kc10, kf10⟩, ⟨kz11, kc11, kf11⟩, _⟩ := hHeld.2
      go_wp2_with fail
      refine (VA.out _ _ (zl.out.below (below_alloc _ _))).mono ?_
      rintro e wv ⟨rfl, hb⟩
      have hW := ((newK2 (hHeld.alloc _)).app (hHeld.alloc _)).next hb
      clear hb hHeld
      (try clear hHeld0); (try clear hHeld1); (try clear hHeld2); (try clear hHeld3); (try clear hHeld4); (try clear hHeld5); (try clear hHeld6); (try clear hHeld7); (try clear hHeld8); (try clear hHeld9); (try clear hHeld10); (try clear hHeld11); (try clear hHeld12); (try clear hHeld13); (try clear hT0); (try clear kz0 kc0 kf0); (try clear kz1 kc1 kf1); (try clear kz2 kc2 kf2); (try clear kz3 kc3 kf3); (try clear kz4 kc4 kf4); (try clear kz5 kc5 kf5); (try clear kz6 kc6 kf6); (try clear kz7 kc7 kf7); (try clear kz8 kc8 kf8); (try clear kz9 kc9 kf9); (try clear kz10 kc10 kf10); (try clear kz11 kc11 kf11); (try clear kz12 kc12 kf12); (try clear kz13 kc13 kf13); (try clear t0z0 t0c0 t0f0); (try clear t0z1 t0c1 t0f1)
      obtain ⟨⟨kz0, kc0, kf0⟩, ⟨kz1, kc1, kf1⟩, ⟨kz2, kc2, kf2⟩, ⟨kz3, kc3, kf3⟩, ⟨kz4, kc4, kf4⟩, ⟨kz5, kc5, kf5⟩, ⟨kz6, kc6, kf6⟩, ⟨kz7, kc7, kf7⟩, ⟨kz8, kc8, kf8⟩, ⟨kz9, kc9, kf9⟩, ⟨kz10, kc10, kf10⟩, ⟨kz11, kc11, kf11⟩, ⟨kz12, kc12, kf12⟩, ⟨kz13, kc13, kf13⟩, _⟩ := hW.2
      go_wp2_with fail
      have hP := (hW.sub (L' := [(r, 0, .int .i64 0), (r, 1, .int .u64 0)]) (by simp)).put2 lr.out (.int .i64 (rhi (floorS k a b m))) (.int .u64 (rlo (floorS k a b m)))
      have d0 := hP.2.1.2.1
      have d1 := hP.2.2.1.2.1
      refine bodyPost_ret (v := .tuple #[wideV (rhi (floorS k a b m)) (rlo (floorS k a b m)), .int .i64 (restS k a b m)]) (by simp [results, Try.results15, go_sem, d0, d1]) rfl ?_
      exact ⟨rfl, hP.1⟩
end Go.Proofs.Ytnacdofidmgfmaa

namespace Go.Proofs.Ytnacdofidmgfmaa
open Go.RowKit

set_option maxRecDepth 100000 in
set_option maxHeartbeats 4000000 in
theorem sums6_core (n A B m : Int) (fA : Fits A) (fB : Fits B) (w : World) : Calls Try.prog 3 #[rowV n (rhi A) (rlo A) (rhi B) (rlo B) m] w (Ret w (.bool true)) := by
  have WK := Lib.hid (fun W => wakes6_any W)
  have S1 := fun W => sum_any n A B m fA fB W
  have S2 := fun W => rests_any n A B m fA fB W
  have RT := fun W => refRight6_any n A B m fA fB W
  by_cases h : stepsB n A B m = true
  · obtain ⟨⟨h0, h1⟩, h2, h3, h4, h5⟩ := (stepsB_iff n A B m).1 h
    have RS := fun W => refSum_any n.toNat A B m (by omega) h2 h3 h4 h5 W
    rw [show ((n.toNat : Nat) : Int) = n by omega] at RS
    have e1 : stE n A B m = 0 := by unfold stE; rw [if_pos h]
    have e2 : suQ n A B m = floorS n.toNat A B m := by unfold suQ; rw [if_pos h]
    have e3 : reQ n A B m = restS n.toNat A B m := by unfold reQ; rw [if_pos h]
    rw [e1, e2] at S1
    rw [e1, e3] at S2
    rw [h] at RT
    clear e1 e2 e3 h h0 h1 h2 h3 h4 h5 fA fB
    replace S1 := Lib.hid S1
    replace S2 := Lib.hid S2
    replace RT := Lib.hid RT
    replace RS := Lib.hid RS
    generalize floorS n.toNat A B m = T at *
    generalize restS n.toNat A B m = R at *
    generalize rhi T = T0 at *
    generalize rlo T = T1 at *
    generalize rhi A = a0 at *
    generalize rlo A = a1 at *
    generalize rhi B = b0 at *
    generalize rlo B = b1 at *
    go_enter Try.func3, Try.ntmps3
    go_wp2_with fail
    refine (WK.out _).mono ?_
    rintro e w1 ⟨rfl, hb⟩
    have hHeld : Keeps w [(w.heap.size, 0, .int .i64 n), (w.heap.size, 1, .int .i64 a0), (w.heap.size, 2, .int .u64 a1), (w.heap.size, 3, .int .i64 b0), (w.heap.size, 4, .int .u64 b1), (w.heap.size, 5, .int .i64 m)] _ := Keeps.next (by refine ⟨by go_grown, ?_⟩; simp [Cells, go_sem]) hb
    clear hb
    obtain ⟨⟨kz0, kc0, kf0⟩, ⟨kz1, kc1, kf1⟩, ⟨kz2, kc2, kf2⟩, ⟨kz3, kc3, kf3⟩, ⟨kz4, kc4, kf4⟩, ⟨kz5, kc5, kf5⟩, _⟩ := hHeld.2
    go_wp2_with fail
    refine (S1.out _).mono ?_
    rintro e w2 ⟨rfl, hb⟩
    replace hHeld := hHeld.next hb
    clear hb
    (try clear hHeld0); (try clear hHeld1); (try clear hHeld2); (try clear hHeld3); (try clear hHeld4); (try clear hHeld5); (try clear hHeld6); (try clear hHeld7); (try clear hHeld8); (try clear hHeld9); (try clear hHeld10); (try clear hHeld11); (try clear hHeld12); (try clear hHeld13); (try clear hT0); (try clear kz0 kc0 kf0); (try clear kz1 kc1 kf1); (try clear kz2 kc2 kf2); (try clear kz3 kc3 kf3); (try clear kz4 kc4 kf4); (try clear kz5 kc5 kf5); (try clear kz6 kc6 kf6); (try clear kz7 kc7 kf7); (try clear kz8 kc8 kf8); (try clear kz9 kc9 kf9); (try clear kz10 kc10 kf10); (try clear kz11 kc11 kf11); (try clear kz12 kc12 kf12); (try clear kz13 kc13 kf13); (try clear t0z0 t0c0 t0f0); (try clear t0z1 t0c1 t0f1)
    obtain ⟨⟨kz0, kc0, kf0⟩, ⟨kz1, kc1, kf1⟩, ⟨kz2, kc2, kf2⟩, ⟨kz3, kc3, kf3⟩, ⟨kz4, kc4, kf4⟩, ⟨kz5, kc5, kf5⟩, _⟩ := hHeld.2
    go_wp2_with fail
    refine (S2.out _).mono ?_
    rintro e w3 ⟨rfl, hb⟩
    have hS := ((newK2 (hHeld.alloc _)).app (hHeld.alloc _)).next hb
    clear hb hHeld
    (try clear hHeld0); (try clear hHeld1); (try clear hHeld2); (try clear hHeld3); (try clear hHeld4); (try clear hHeld5); (try clear hHeld6); (try clear hHeld7); (try clear hHeld8); (try clear hHeld9); (try clear hHeld10); (try clear hHeld11); (try clear hHeld12); (try clear hHeld13); (try clear hT0); (try clear kz0 kc0 kf0); (try clear kz1 kc1 kf1); (try clear kz2 kc2 kf2); (try clear kz3 kc3 kf3); (try clear kz4 kc4 kf4); (try clear kz5 kc5 kf5); (try clear kz6 kc6 kf6); (try clear kz7 kc7 kf7); (try clear kz8 kc8 kf8); (try clear kz9 kc9 kf9); (try clear kz10 kc10 kf10); (try clear kz11 kc11 kf11); (try clear kz12 kc12 kf12); (try clear kz13 kc13 kf13); (try clear t0z0 t0c0 t0f0); (try clear t0z1 t0c1 t0f1)
    obtain ⟨⟨kz0, kc0, kf0⟩, ⟨kz1, kc1, kf1⟩, ⟨kz2, kc2, kf2⟩, ⟨kz3, kc3, kf3⟩, ⟨kz4, kc4, kf4⟩, ⟨kz5, kc5, kf5⟩, ⟨kz6, kc6, kf6⟩, ⟨kz7, kc7, kf7⟩, _⟩ := hS.2
    go_wp2_with fail
    refine (RT.out _).mono ?_
    rintro e w4 ⟨rfl, hb⟩
    replace hS := hS.next hb
    clear hb
    (try clear hHeld0); (try clear hHeld1); (try clear hHeld2); (try clear hHeld3); (try clear hHeld4); (try clear hHeld5); (try clear hHeld6); (try clear hHeld7); (try clear hHeld8); (try clear hHeld9); (try clear hHeld10); (try clear hHeld11); (try clear hHeld12); (try clear hHeld13); (try clear hT0); (try clear kz0 kc0 kf0); (try clear kz1 kc1 kf1); (try clear kz2 kc2 kf2); (try clear kz3 kc3 kf3); (try clear kz4 kc4 kf4); (try clear kz5 kc5 kf5); (try clear kz6 kc6 kf6); (try clear kz7 kc7 kf7); (try clear kz8 kc8 kf8); (try clear kz9 kc9 kf9); (try clear kz10 kc10 kf10); (try clear kz11 kc11 kf11); (try clear kz12 kc12 kf12); (try clear kz13 kc13 kf13); (try clear t0z0 t0c0 t0f0); (try clear t0z1 t0c1 t0f1)
    obtain ⟨⟨kz0, kc0, kf0⟩, ⟨kz1, kc1, kf1⟩, ⟨kz2, kc2, kf2⟩, ⟨kz3, kc3, kf3⟩, ⟨kz4, kc4, kf4⟩, ⟨kz5, kc5, kf5⟩, ⟨kz6, kc6, kf6⟩, ⟨kz7, kc7, kf7⟩, _⟩ := hS.2
    go_wp2_with fail
    refine (RS.out _).mono ?_
    rintro e w5 ⟨rfl, hb⟩
    replace hS := hS.next hb
    clear hb
    (try clear hHeld0); (try clear hHeld1); (try clear hHeld2); (try clear hHeld3); (try clear hHeld4); (try clear hHeld5); (try clear hHeld6); (try clear hHeld7); (try clear hHeld8); (try clear hHeld9); (try clear hHeld10); (try clear hHeld11); (try clear hHeld12); (try clear hHeld13); (try clear hT0); (try clear kz0 kc0 kf0); (try clear kz1 kc1 kf1); (try clear kz2 kc2 kf2); (try clear kz3 kc3 kf3); (try clear kz4 kc4 kf4); (try clear kz5 kc5 kf5); (try clear kz6 kc6 kf6); (try clear kz7 kc7 kf7); (try clear kz8 kc8 kf8); (try clear kz9 kc9 kf9); (try clear kz10 kc10 kf10); (try clear kz11 kc11 kf11); (try clear kz12 kc12 kf12); (try clear kz13 kc13 kf13); (try clear t0z0 t0c0 t0f0); (try clear t0z1 t0c1 t0f1)
    obtain ⟨⟨kz0, kc0, kf0⟩, ⟨kz1, kc1, kf1⟩, ⟨kz2, kc2, kf2⟩, ⟨kz3, kc3, kf3⟩, ⟨kz4, kc4, kf4⟩, ⟨kz5, kc5, kf5⟩, ⟨kz6, kc6, kf6⟩, ⟨kz7, kc7, kf7⟩, _⟩ := hS.2
    go_wp2_with fail
    go_ret
    exact ⟨rfl, by have h1 := hS.1; go_grown⟩
  · have h' : stepsB n A B m = false := by simpa using h
    have e1 : stE n A B m = 2 := by unfold stE; rw [if_neg h]
    have e2 : suQ n A B m = 0 := by unfold suQ; rw [if_neg h]
    have e3 : reQ n A B m = 0 := by unfold reQ; rw [if_neg h]
    rw [e1, e2, zero_words.1, zero_words.2] at S1
    rw [e1, e3] at S2
    rw [h'] at RT
    clear e1 e2 e3 h h' fA fB
    replace S1 := Lib.hid S1
    replace S2 := Lib.hid S2
    replace RT := Lib.hid RT
    generalize rhi A = a0 at *
    generalize rlo A = a1 at *
    generalize rhi B = b0 at *
    generalize rlo B = b1 at *
    go_enter Try.func3, Try.ntmps3
    go_wp2_with fail
    refine (WK.out _).mono ?_
    rintro e w1 ⟨rfl, hb⟩
    have hHeld : Keeps w [(w.heap.size, 0, .int .i64 n), (w.heap.size, 1, .int .i64 a0), (w.heap.size, 2, .int .u64 a1), (w.heap.size, 3, .int .i64 b0), (w.heap.size, 4, .int .u64 b1), (w.heap.size, 5, .int .i64 m)] _ := Keeps.next (by refine ⟨by go_grown, ?_⟩; simp [Cells, go_sem]) hb
    clear hb
    obtain ⟨⟨kz0, kc0, kf0⟩, ⟨kz1, kc1, kf1⟩, ⟨kz2, kc2, kf2⟩, ⟨kz3, kc3, kf3⟩, ⟨kz4, kc4, kf4⟩, ⟨kz5, kc5, kf5⟩, _⟩ := hHeld.2
    go_wp2_with fail
    refine (S1.out _).mono ?_
    rintro e w2 ⟨rfl, hb⟩
    replace hHeld := hHeld.next hb
    clear hb
    (try clear hHeld0); (try clear hHeld1); (try clear hHeld2); (try clear hHeld3); (try clear hHeld4); (try clear hHeld5); (try clear hHeld6); (try clear hHeld7); (try clear hHeld8); (try clear hHeld9); (try clear hHeld10); (try clear hHeld11); (try clear hHeld12); (try clear hHeld13); (try clear hT0); (try clear kz0 kc0 kf0); (try clear kz1 kc1 kf1); (try clear kz2 kc2 kf2); (try clear kz3 kc3 kf3); (try clear kz4 kc4 kf4); (try clear kz5 kc5 kf5); (try clear kz6 kc6 kf6); (try clear kz7 kc7 kf7); (try clear kz8 kc8 kf8); (try clear kz9 kc9 kf9); (try clear kz10 kc10 kf10); (try clear kz11 kc11 kf11); (try clear kz12 kc12 kf12); (try clear kz13 kc13 kf13); (try clear t0z0 t0c0 t0f0); (try clear t0z1 t0c1 t0f1)
    obtain ⟨⟨kz0, kc0, kf0⟩, ⟨kz1, kc1, kf1⟩, ⟨kz2, kc2, kf2⟩, ⟨kz3, kc3, kf3⟩, ⟨kz4, kc4, kf4⟩, ⟨kz5, kc5, kf5⟩, _⟩ := hHeld.2
    go_wp2_with fail
    refine (S2.out _).mono ?_
    rintro e w3 ⟨rfl, hb⟩
    have hS := ((newK2 (hHeld.alloc _)).app (hHeld.alloc _)).next hb
    clear hb hHeld
    (try clear hHeld0); (try clear hHeld1); (try clear hHeld2); (try clear hHeld3); (try clear hHeld4); (try clear hHeld5); (try clear hHeld6); (try clear hHeld7); (try clear hHeld8); (try clear hHeld9); (try clear hHeld10); (try clear hHeld11); (try clear hHeld12); (try clear hHeld13); (try clear hT0); (try clear kz0 kc0 kf0); (try clear kz1 kc1 kf1); (try clear kz2 kc2 kf2); (try clear kz3 kc3 kf3); (try clear kz4 kc4 kf4); (try clear kz5 kc5 kf5); (try clear kz6 kc6 kf6); (try clear kz7 kc7 kf7); (try clear kz8 kc8 kf8); (try clear kz9 kc9 kf9); (try clear kz10 kc10 kf10); (try clear kz11 kc11 kf11); (try clear kz12 kc12 kf12); (try clear kz13 kc13 kf13); (try clear t0z0 t0c0 t0f0); (try clear t0z1 t0c1 t0f1)
    obtain ⟨⟨kz0, kc0, kf0⟩, ⟨kz1, kc1, kf1⟩, ⟨kz2, kc2, kf2⟩, ⟨kz3, kc3, kf3⟩, ⟨kz4, kc4, kf4⟩, ⟨kz5, kc5, kf5⟩, ⟨kz6, kc6, kf6⟩, ⟨kz7, kc7, kf7⟩, _⟩ := hS.2
    go_wp2_with fail
    refine (RT.out _).mono ?_
    rintro e w4 ⟨rfl, hb⟩
    replace hS := hS.next hb
    clear hb
    (try clear hHeld0); (try clear hHeld1); (try clear hHeld2); (try clear hHeld3); (try clear hHeld4); (try clear hHeld5); (try clear hHeld6); (try clear hHeld7); (try clear hHeld8); (try clear hHeld9); (try clear hHeld10); (try clear hHeld11); (try clear hHeld12); (try clear hHeld13); (try clear hT0); (try clear kz0 kc0 kf0); (try clear kz1 kc1 kf1); (try clear kz2 kc2 kf2); (try clear kz3 kc3 kf3); (try clear kz4 kc4 kf4); (try clear kz5 kc5 kf5); (try clear kz6 kc6 kf6); (try clear kz7 kc7 kf7); (try clear kz8 kc8 kf8); (try clear kz9 kc9 kf9); (try clear kz10 kc10 kf10); (try clear kz11 kc11 kf11); (try clear kz12 kc12 kf12); (try clear kz13 kc13 kf13); (try clear t0z0 t0c0 t0f0); (try clear t0z1 t0c1 t0f1)
    obtain ⟨⟨kz0, kc0, kf0⟩, ⟨kz1, kc1, kf1⟩, ⟨kz2, kc2, kf2⟩, ⟨kz3, kc3, kf3⟩, ⟨kz4, kc4, kf4⟩, ⟨kz5, kc5, kf5⟩, ⟨kz6, kc6, kf6⟩, ⟨kz7, kc7, kf7⟩, _⟩ := hS.2
    go_wp2_with fail
    go_ret
    exact ⟨rfl, by have h1 := hS.1; go_grown⟩
theorem sums6_any (n ah al bh bl m : Int) (h1 : I64 ah) (h2 : U64 al) (h3 : I64 bh) (h4 : U64 bl) (w : World) : Calls Try.prog 3 #[rowV n ah al bh bl m] w (Ret w (.bool true)) := by
  have h := sums6_core n (val ah al) (val bh bl) m (fits_val h1 h2) (fits_val h3 h4) w
  rw [rhi_val h1 h2, rlo_val h1 h2, rhi_val h3 h4, rlo_val h3 h4] at h
  exact h
end Go.Proofs.Ytnacdofidmgfmaa
