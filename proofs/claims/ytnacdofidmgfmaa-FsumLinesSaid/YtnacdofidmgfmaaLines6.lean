/-
  The walk of the law FsumLines. Conditions: none.
-/
import Derived.Test.YtnacdofidmgfmaaDpA
import Derived.Test.YtnacdofidmgfmaaLdC
import Derived.Test.YtnacdofidmgfmaaRxN
import Derived.Test.YtnacdofidmgfmaaFsJ
/-
  Layer 6, the document's own answer to Line: the region of a round, whose order is drawn (written by wip/tools/dp.py). Conditions: those written at each fact.
-/
namespace Go.Proofs.Ytnacdofidmgfmaa
open Go.RowKit

set_option maxRecDepth 100000 in
set_option maxHeartbeats 8000000 in
theorem dpLine {Q : Exit → Act → World → Prop} (hQp : ∀ (c : _) (a : Act) (d : Option Tmp) (v : Value) (w : World), Q (.panic c) (a.put d v) w → Q (.panic c) a w) (w0 : World) {u0 u1 u2 u3 u5 u6 u7 u8 u9 u10 u12 u13 u14 u15 u16 u17 u18 u19 u20 u21 u22 u23 u24 u25 u26 u27 u28 u29 u30 u31 u32 u33 u34 u35 u36 u37 u38 u39 u40 u41 u42 u43 u44 u45 u46 u47 u48 u49 u50 u51 u52 u53 u54 u55 u56 u57 u58 u59 u60 u61 u62 u63 u64 u65 u66 u67 u68 u69 u70 u71 u72 u73 u74 u75 u76 u77 u78 : Value} (pl rs ps : Nat) (a r n d at' X zq zr zs : Int) (xs : Bool) (As : Option Addr) (ns cs : Nat) (TM : Hid (∀ W, Calls Try.prog 47 #[lnV a r n d, .int .i64 at'] W (RetZ W X))) (ID : Hid (∀ W, Calls Try.prog 35 #[.int .i64 d] W (RetZ W d))) (DV : Hid (∀ u u' W, NumZ W u X → NumZ W u' d → Calls Try.prog 36 #[u, u'] W (RetZZ W zq zr))) (W : World) (hS : Keeps w0 [(pl, 0, .int .i64 a), (pl, 1, .int .i64 r), (pl, 2, .int .i64 n), (pl, 3, .int .i64 d), (rs, 0, .int .i64 0), (rs, 1, .int .u64 0), (ps, 0, .bool xs), (ps, 1, .slice As ns cs)] W) (hZ0 : NumZ W (.agg #[.bool xs, .slice As ns cs]) zs)
    (hQ : ∀ (W' : World) (x2 : Bool) (A2 : Option Addr) (n2 : Nat) (c2 : Nat) (x5 : Bool) (A5 : Option Addr) (n5 : Nat) (c5 : Nat) (x6 : Bool) (A6 : Option Addr) (n6 : Nat) (c6 : Nat) (x7 : Bool) (A7 : Option Addr) (n7 : Nat) (c7 : Nat) (p10 : Nat) (p11 : Nat), Keeps w0 [(pl, 0, .int .i64 a), (pl, 1, .int .i64 r), (pl, 2, .int .i64 n), (pl, 3, .int .i64 d), (rs, 0, .int .i64 0), (rs, 1, .int .u64 0), (ps, 0, .bool xs), (ps, 1, .slice As ns cs)] W' → Keeps w0 [(p10, 0, .bool x6), (p10, 1, .slice A6 n6 c6)] W' → (∀ q ∈ ([(pl, 0, .int .i64 a), (pl, 1, .int .i64 r), (pl, 2, .int .i64 n), (pl, 3, .int .i64 d), (rs, 0, .int .i64 0), (rs, 1, .int .u64 0), (ps, 0, .bool xs), (ps, 1, .slice As ns cs)] : List (Nat × Nat × Value)), q.1 ≠ p10) → w0.heap.size ≤ p10 → Keeps w0 [(p11, 0, .bool x7), (p11, 1, .slice A7 n7 c7)] W' → (∀ q ∈ ([(pl, 0, .int .i64 a), (pl, 1, .int .i64 r), (pl, 2, .int .i64 n), (pl, 3, .int .i64 d), (rs, 0, .int .i64 0), (rs, 1, .int .u64 0), (ps, 0, .bool xs), (ps, 1, .slice As ns cs)] : List (Nat × Nat × Value)), q.1 ≠ p11) → w0.heap.size ≤ p11 → p10 ≠ p11 → NumZ W' (.agg #[.bool xs, .slice As ns cs]) zs → NumZ W' (.agg #[.bool x2, .slice A2 n2 c2]) X → NumZ W' (.agg #[.bool x5, .slice A5 n5 c5]) d → NumZ W' (.agg #[.bool x6, .slice A6 n6 c6]) zq → NumZ W' (.agg #[.bool x7, .slice A7 n7 c7]) zr → Q .normal { tmps := #[u0, u1, u2, u3, .pointer (some ⟨pl, 0, none⟩), u5, u6, u7, u8, u9, u10, .int .i64 at', u12, .pointer (some ⟨p10, 0, none⟩), .pointer (some ⟨p11, 0, none⟩), u15, u16, u17, u18, u19, u20, u21, u22, u23, u24, u25, u26, u27, u28, u29, u30, u31, u32, u33, u34, u35, u36, u37, u38, u39, u40, u41, u42, u43, u44, u45, u46, u47, u48, u49, u50, u51, u52, u53, u54, u55, u56, u57, u58, .tuple #[.agg #[.bool x6, .slice A6 n6 c6], .agg #[.bool x7, .slice A7 n7 c7]], .agg #[.int .i64 a, .int .i64 r, .int .i64 n, .int .i64 d], .int .i64 at', .agg #[.bool x2, .slice A2 n2 c2], .pointer (some ⟨pl, 3, none⟩), .int .i64 d, .agg #[.bool x5, .slice A5 n5 c5], .tuple #[.agg #[.bool x6, .slice A6 n6 c6], .agg #[.bool x7, .slice A7 n7 c7]], .agg #[.bool x6, .slice A6 n6 c6], .agg #[.bool x7, .slice A7 n7 c7], u69, u70, u71, u72, u73, u74, u75, u76, u77, u78], defers := [] } W') :
    (Code.region 14 (regOps Try.f17 14) true).wp Try.prog Q { tmps := #[u0, u1, u2, u3, .pointer (some ⟨pl, 0, none⟩), u5, u6, u7, u8, u9, u10, .int .i64 at', u12, u13, u14, u15, u16, u17, u18, u19, u20, u21, u22, u23, u24, u25, u26, u27, u28, u29, u30, u31, u32, u33, u34, u35, u36, u37, u38, u39, u40, u41, u42, u43, u44, u45, u46, u47, u48, u49, u50, u51, u52, u53, u54, u55, u56, u57, u58, u59, u60, u61, u62, u63, u64, u65, u66, u67, u68, u69, u70, u71, u72, u73, u74, u75, u76, u77, u78], defers := [] } W := by
  have G0 : ∀ (lst : Array Bool) (_ : lst = #[true, true, true, true, true, true, true, true, true, true, true, true, false, false]) (W : World) (x2 : Bool) (A2 : Option Addr) (n2 : Nat) (c2 : Nat) (x5 : Bool) (A5 : Option Addr) (n5 : Nat) (c5 : Nat) (x6 : Bool) (A6 : Option Addr) (n6 : Nat) (c6 : Nat) (x7 : Bool) (A7 : Option Addr) (n7 : Nat) (c7 : Nat) (p10 : Nat) (p11 : Nat) (_ : Keeps w0 [(pl, 0, .int .i64 a), (pl, 1, .int .i64 r), (pl, 2, .int .i64 n), (pl, 3, .int .i64 d), (rs, 0, .int .i64 0), (rs, 1, .int .u64 0), (ps, 0, .bool xs), (ps, 1, .slice As ns cs)] W) (_ : NumZ W (.agg #[.bool xs, .slice As ns cs]) zs) (_ : NumZ W (.agg #[.bool x2, .slice A2 n2 c2]) X) (_ : NumZ W (.agg #[.bool x5, .slice A5 n5 c5]) d) (_ : NumZ W (.agg #[.bool x6, .slice A6 n6 c6]) zq) (_ : NumZ W (.agg #[.bool x7, .slice A7 n7 c7]) zr) (_ : Keeps w0 [(p10, 0, .bool false), (p10, 1, .slice none 0 0)] W) (_ : ∀ q ∈ ([(pl, 0, .int .i64 a), (pl, 1, .int .i64 r), (pl, 2, .int .i64 n), (pl, 3, .int .i64 d), (rs, 0, .int .i64 0), (rs, 1, .int .u64 0), (ps, 0, .bool xs), (ps, 1, .slice As ns cs)] : List (Nat × Nat × Value)), q.1 ≠ p10) (_ : w0.heap.size ≤ p10) (_ : Keeps w0 [(p11, 0, .bool false), (p11, 1, .slice none 0 0)] W) (_ : ∀ q ∈ ([(pl, 0, .int .i64 a), (pl, 1, .int .i64 r), (pl, 2, .int .i64 n), (pl, 3, .int .i64 d), (rs, 0, .int .i64 0), (rs, 1, .int .u64 0), (ps, 0, .bool xs), (ps, 1, .slice As ns cs)] : List (Nat × Nat × Value)), q.1 ≠ p11) (_ : w0.heap.size ≤ p11) (_ : p10 ≠ p11), wpAnyH Try.prog .any (regOps Try.f17 14) Q (Keeps w0 [(pl, 0, .int .i64 a), (pl, 1, .int .i64 r), (pl, 2, .int .i64 n), (pl, 3, .int .i64 d), (rs, 0, .int .i64 0), (rs, 1, .int .u64 0), (ps, 0, .bool xs), (ps, 1, .slice As ns cs)]) 2 lst { tmps := #[u0, u1, u2, u3, .pointer (some ⟨pl, 0, none⟩), u5, u6, u7, u8, u9, u10, .int .i64 at', u12, .pointer (some ⟨p10, 0, none⟩), .pointer (some ⟨p11, 0, none⟩), u15, u16, u17, u18, u19, u20, u21, u22, u23, u24, u25, u26, u27, u28, u29, u30, u31, u32, u33, u34, u35, u36, u37, u38, u39, u40, u41, u42, u43, u44, u45, u46, u47, u48, u49, u50, u51, u52, u53, u54, u55, u56, u57, u58, .tuple #[.agg #[.bool x6, .slice A6 n6 c6], .agg #[.bool x7, .slice A7 n7 c7]], .agg #[.int .i64 a, .int .i64 r, .int .i64 n, .int .i64 d], .int .i64 at', .agg #[.bool x2, .slice A2 n2 c2], .pointer (some ⟨pl, 3, none⟩), .int .i64 d, .agg #[.bool x5, .slice A5 n5 c5], .tuple #[.agg #[.bool x6, .slice A6 n6 c6], .agg #[.bool x7, .slice A7 n7 c7]], .agg #[.bool x6, .slice A6 n6 c6], .agg #[.bool x7, .slice A7 n7 c7], u69, u70, u71, u72, u73, u74, u75, u76, u77, u78], defers := [] } W := by
    rintro lst rfl W x2 A2 n2 c2 x5 A5 n5 c5 x6 A6 n6 c6 x7 A7 n7 c7 p10 p11 hS zi0 z2_0 z5_0 z6_0 z6_1 k10 d10 l10 k11 d11 l11 e10_11
    refine wpAnyH_ready (rs := [12]) (by kernel_rfl) (by simp) ?_
    refine AllReadyH.cons (o := ⟨none, _, _, _, _, _⟩) rfl (fun K hK => ?_) AllReadyH.nil
    obtain ⟨⟨tz0, tc0, tf0⟩, ⟨tz1, tc1, tf1⟩, _⟩ := k10.2
    go_simp
    refine hK.out _ _ ((hS.set (p := ⟨p10, 0, none⟩) l10 d10 _).set (p := ⟨p10, 1, none⟩) l10 d10 _) (fun hS2 => ?_)
    clear hK K
    replace zi0 := zi0.store2 hS2 tc0 tc1
    replace z2_0 := z2_0.store2 hS2 tc0 tc1
    replace z5_0 := z5_0.store2 hS2 tc0 tc1
    replace z6_0 := z6_0.store2 hS2 tc0 tc1
    replace z6_1 := z6_1.store2 hS2 tc0 tc1
    replace k11 := k11.mv2 hS2 l10 (by simp; first | exact e10_11 | exact Ne.symm e10_11)
    replace k10 := k10.put2 l10 (.bool x6) (.slice A6 n6 c6)
    replace hS := hS2
    clear hS2 tz0 tc0 tf0 tz1 tc1 tf1
    refine wpAnyH_ready (rs := [13]) (by kernel_rfl) (by simp) ?_
    refine AllReadyH.cons (o := ⟨none, _, _, _, _, _⟩) rfl (fun K hK => ?_) AllReadyH.nil
    obtain ⟨⟨tz0, tc0, tf0⟩, ⟨tz1, tc1, tf1⟩, _⟩ := k11.2
    go_simp
    refine hK.out _ _ ((hS.set (p := ⟨p11, 0, none⟩) l11 d11 _).set (p := ⟨p11, 1, none⟩) l11 d11 _) (fun hS2 => ?_)
    clear hK K
    replace zi0 := zi0.store2 hS2 tc0 tc1
    replace z2_0 := z2_0.store2 hS2 tc0 tc1
    replace z5_0 := z5_0.store2 hS2 tc0 tc1
    replace z6_0 := z6_0.store2 hS2 tc0 tc1
    replace z6_1 := z6_1.store2 hS2 tc0 tc1
    replace k10 := k10.mv2 hS2 l11 (by simp; first | exact e10_11 | exact Ne.symm e10_11)
    replace k11 := k11.put2 l11 (.bool x7) (.slice A7 n7 c7)
    replace hS := hS2
    clear hS2 tz0 tc0 tf0 tz1 tc1 tf1
    refine wpAnyH_done (by kernel_rfl) ?_ _
    exact hQ _ _ _ _ _ _ _ _ _ _ _ _ _ _ _ _ _ _ _ hS k10 d10 l10 k11 d11 l11 e10_11 zi0 z2_0 z5_0 z6_0 z6_1
  have G1 : ∀ (lst : Array Bool) (_ : lst = #[true, true, true, true, true, true, true, true, true, true, true, false, false, false]) (W : World) (x2 : Bool) (A2 : Option Addr) (n2 : Nat) (c2 : Nat) (x5 : Bool) (A5 : Option Addr) (n5 : Nat) (c5 : Nat) (x6 : Bool) (A6 : Option Addr) (n6 : Nat) (c6 : Nat) (x7 : Bool) (A7 : Option Addr) (n7 : Nat) (c7 : Nat) (p10 : Nat) (_ : Keeps w0 [(pl, 0, .int .i64 a), (pl, 1, .int .i64 r), (pl, 2, .int .i64 n), (pl, 3, .int .i64 d), (rs, 0, .int .i64 0), (rs, 1, .int .u64 0), (ps, 0, .bool xs), (ps, 1, .slice As ns cs)] W) (_ : NumZ W (.agg #[.bool xs, .slice As ns cs]) zs) (_ : NumZ W (.agg #[.bool x2, .slice A2 n2 c2]) X) (_ : NumZ W (.agg #[.bool x5, .slice A5 n5 c5]) d) (_ : NumZ W (.agg #[.bool x6, .slice A6 n6 c6]) zq) (_ : NumZ W (.agg #[.bool x7, .slice A7 n7 c7]) zr) (_ : Keeps w0 [(p10, 0, .bool false), (p10, 1, .slice none 0 0)] W) (_ : ∀ q ∈ ([(pl, 0, .int .i64 a), (pl, 1, .int .i64 r), (pl, 2, .int .i64 n), (pl, 3, .int .i64 d), (rs, 0, .int .i64 0), (rs, 1, .int .u64 0), (ps, 0, .bool xs), (ps, 1, .slice As ns cs)] : List (Nat × Nat × Value)), q.1 ≠ p10) (_ : w0.heap.size ≤ p10), wpAnyH Try.prog .any (regOps Try.f17 14) Q (Keeps w0 [(pl, 0, .int .i64 a), (pl, 1, .int .i64 r), (pl, 2, .int .i64 n), (pl, 3, .int .i64 d), (rs, 0, .int .i64 0), (rs, 1, .int .u64 0), (ps, 0, .bool xs), (ps, 1, .slice As ns cs)]) 3 lst { tmps := #[u0, u1, u2, u3, .pointer (some ⟨pl, 0, none⟩), u5, u6, u7, u8, u9, u10, .int .i64 at', u12, .pointer (some ⟨p10, 0, none⟩), u14, u15, u16, u17, u18, u19, u20, u21, u22, u23, u24, u25, u26, u27, u28, u29, u30, u31, u32, u33, u34, u35, u36, u37, u38, u39, u40, u41, u42, u43, u44, u45, u46, u47, u48, u49, u50, u51, u52, u53, u54, u55, u56, u57, u58, .tuple #[.agg #[.bool x6, .slice A6 n6 c6], .agg #[.bool x7, .slice A7 n7 c7]], .agg #[.int .i64 a, .int .i64 r, .int .i64 n, .int .i64 d], .int .i64 at', .agg #[.bool x2, .slice A2 n2 c2], .pointer (some ⟨pl, 3, none⟩), .int .i64 d, .agg #[.bool x5, .slice A5 n5 c5], .tuple #[.agg #[.bool x6, .slice A6 n6 c6], .agg #[.bool x7, .slice A7 n7 c7]], .agg #[.bool x6, .slice A6 n6 c6], .agg #[.bool x7, .slice A7 n7 c7], u69, u70, u71, u72, u73, u74, u75, u76, u77, u78], defers := [] } W := by
    rintro lst rfl W x2 A2 n2 c2 x5 A5 n5 c5 x6 A6 n6 c6 x7 A7 n7 c7 p10 hS zi0 z2_0 z5_0 z6_0 z6_1 k10 d10 l10
    refine wpAnyH_ready (rs := [11]) (by kernel_rfl) (by simp) ?_
    refine AllReadyH.cons (o := ⟨some 14, _, _, _, _, _⟩) rfl (fun K hK => ?_) ?_
    · go_simp
      have kd := hS.2.ne
      have kl := hS.1.size
      refine hK.out _ _ (by first | exact hS.alloc _ | exact (hS.alloc _).drew) (fun hS2 => ?_)
      clear hK K
      try simp only [List.setIfInBounds_toArray, List.set_cons_zero, List.set_cons_succ]
      exact G0 _ (by kernel_rfl) _ _ _ _ _ _ _ _ _ _ _ _ _ _ _ _ _ _ _ hS2 (zi0.below (below_alloc _ _)) (z2_0.below (below_alloc _ _)) (z5_0.below (below_alloc _ _)) (z6_0.below (below_alloc _ _)) (z6_1.below (below_alloc _ _)) (k10.alloc _) d10 l10 (newK2 hS2) kd kl (Nat.ne_of_lt k10.2.1.1)
    exact AllReadyH.nil
  have G2 : ∀ (lst : Array Bool) (_ : lst = #[true, true, true, true, true, true, true, true, true, true, false, true, false, false]) (W : World) (x2 : Bool) (A2 : Option Addr) (n2 : Nat) (c2 : Nat) (x5 : Bool) (A5 : Option Addr) (n5 : Nat) (c5 : Nat) (x6 : Bool) (A6 : Option Addr) (n6 : Nat) (c6 : Nat) (x7 : Bool) (A7 : Option Addr) (n7 : Nat) (c7 : Nat) (p11 : Nat) (_ : Keeps w0 [(pl, 0, .int .i64 a), (pl, 1, .int .i64 r), (pl, 2, .int .i64 n), (pl, 3, .int .i64 d), (rs, 0, .int .i64 0), (rs, 1, .int .u64 0), (ps, 0, .bool xs), (ps, 1, .slice As ns cs)] W) (_ : NumZ W (.agg #[.bool xs, .slice As ns cs]) zs) (_ : NumZ W (.agg #[.bool x2, .slice A2 n2 c2]) X) (_ : NumZ W (.agg #[.bool x5, .slice A5 n5 c5]) d) (_ : NumZ W (.agg #[.bool x6, .slice A6 n6 c6]) zq) (_ : NumZ W (.agg #[.bool x7, .slice A7 n7 c7]) zr) (_ : Keeps w0 [(p11, 0, .bool false), (p11, 1, .slice none 0 0)] W) (_ : ∀ q ∈ ([(pl, 0, .int .i64 a), (pl, 1, .int .i64 r), (pl, 2, .int .i64 n), (pl, 3, .int .i64 d), (rs, 0, .int .i64 0), (rs, 1, .int .u64 0), (ps, 0, .bool xs), (ps, 1, .slice As ns cs)] : List (Nat × Nat × Value)), q.1 ≠ p11) (_ : w0.heap.size ≤ p11), wpAnyH Try.prog .any (regOps Try.f17 14) Q (Keeps w0 [(pl, 0, .int .i64 a), (pl, 1, .int .i64 r), (pl, 2, .int .i64 n), (pl, 3, .int .i64 d), (rs, 0, .int .i64 0), (rs, 1, .int .u64 0), (ps, 0, .bool xs), (ps, 1, .slice As ns cs)]) 3 lst { tmps := #[u0, u1, u2, u3, .pointer (some ⟨pl, 0, none⟩), u5, u6, u7, u8, u9, u10, .int .i64 at', u12, u13, .pointer (some ⟨p11, 0, none⟩), u15, u16, u17, u18, u19, u20, u21, u22, u23, u24, u25, u26, u27, u28, u29, u30, u31, u32, u33, u34, u35, u36, u37, u38, u39, u40, u41, u42, u43, u44, u45, u46, u47, u48, u49, u50, u51, u52, u53, u54, u55, u56, u57, u58, .tuple #[.agg #[.bool x6, .slice A6 n6 c6], .agg #[.bool x7, .slice A7 n7 c7]], .agg #[.int .i64 a, .int .i64 r, .int .i64 n, .int .i64 d], .int .i64 at', .agg #[.bool x2, .slice A2 n2 c2], .pointer (some ⟨pl, 3, none⟩), .int .i64 d, .agg #[.bool x5, .slice A5 n5 c5], .tuple #[.agg #[.bool x6, .slice A6 n6 c6], .agg #[.bool x7, .slice A7 n7 c7]], .agg #[.bool x6, .slice A6 n6 c6], .agg #[.bool x7, .slice A7 n7 c7], u69, u70, u71, u72, u73, u74, u75, u76, u77, u78], defers := [] } W := by
    rintro lst rfl W x2 A2 n2 c2 x5 A5 n5 c5 x6 A6 n6 c6 x7 A7 n7 c7 p11 hS zi0 z2_0 z5_0 z6_0 z6_1 k11 d11 l11
    refine wpAnyH_ready (rs := [10]) (by kernel_rfl) (by simp) ?_
    refine AllReadyH.cons (o := ⟨some 13, _, _, _, _, _⟩) rfl (fun K hK => ?_) ?_
    · go_simp
      have kd := hS.2.ne
      have kl := hS.1.size
      refine hK.out _ _ (by first | exact hS.alloc _ | exact (hS.alloc _).drew) (fun hS2 => ?_)
      clear hK K
      try simp only [List.setIfInBounds_toArray, List.set_cons_zero, List.set_cons_succ]
      exact G0 _ (by kernel_rfl) _ _ _ _ _ _ _ _ _ _ _ _ _ _ _ _ _ _ _ hS2 (zi0.below (below_alloc _ _)) (z2_0.below (below_alloc _ _)) (z5_0.below (below_alloc _ _)) (z6_0.below (below_alloc _ _)) (z6_1.below (below_alloc _ _)) (newK2 hS2) kd kl (k11.alloc _) d11 l11 (Nat.ne_of_gt k11.2.1.1)
    exact AllReadyH.nil
  have G3 : ∀ (lst : Array Bool) (_ : lst = #[true, true, true, true, true, true, true, true, true, true, false, false, false, false]) (W : World) (x2 : Bool) (A2 : Option Addr) (n2 : Nat) (c2 : Nat) (x5 : Bool) (A5 : Option Addr) (n5 : Nat) (c5 : Nat) (x6 : Bool) (A6 : Option Addr) (n6 : Nat) (c6 : Nat) (x7 : Bool) (A7 : Option Addr) (n7 : Nat) (c7 : Nat) (_ : Keeps w0 [(pl, 0, .int .i64 a), (pl, 1, .int .i64 r), (pl, 2, .int .i64 n), (pl, 3, .int .i64 d), (rs, 0, .int .i64 0), (rs, 1, .int .u64 0), (ps, 0, .bool xs), (ps, 1, .slice As ns cs)] W) (_ : NumZ W (.agg #[.bool xs, .slice As ns cs]) zs) (_ : NumZ W (.agg #[.bool x2, .slice A2 n2 c2]) X) (_ : NumZ W (.agg #[.bool x5, .slice A5 n5 c5]) d) (_ : NumZ W (.agg #[.bool x6, .slice A6 n6 c6]) zq) (_ : NumZ W (.agg #[.bool x7, .slice A7 n7 c7]) zr), wpAnyH Try.prog .any (regOps Try.f17 14) Q (Keeps w0 [(pl, 0, .int .i64 a), (pl, 1, .int .i64 r), (pl, 2, .int .i64 n), (pl, 3, .int .i64 d), (rs, 0, .int .i64 0), (rs, 1, .int .u64 0), (ps, 0, .bool xs), (ps, 1, .slice As ns cs)]) 4 lst { tmps := #[u0, u1, u2, u3, .pointer (some ⟨pl, 0, none⟩), u5, u6, u7, u8, u9, u10, .int .i64 at', u12, u13, u14, u15, u16, u17, u18, u19, u20, u21, u22, u23, u24, u25, u26, u27, u28, u29, u30, u31, u32, u33, u34, u35, u36, u37, u38, u39, u40, u41, u42, u43, u44, u45, u46, u47, u48, u49, u50, u51, u52, u53, u54, u55, u56, u57, u58, .tuple #[.agg #[.bool x6, .slice A6 n6 c6], .agg #[.bool x7, .slice A7 n7 c7]], .agg #[.int .i64 a, .int .i64 r, .int .i64 n, .int .i64 d], .int .i64 at', .agg #[.bool x2, .slice A2 n2 c2], .pointer (some ⟨pl, 3, none⟩), .int .i64 d, .agg #[.bool x5, .slice A5 n5 c5], .tuple #[.agg #[.bool x6, .slice A6 n6 c6], .agg #[.bool x7, .slice A7 n7 c7]], .agg #[.bool x6, .slice A6 n6 c6], .agg #[.bool x7, .slice A7 n7 c7], u69, u70, u71, u72, u73, u74, u75, u76, u77, u78], defers := [] } W := by
    rintro lst rfl W x2 A2 n2 c2 x5 A5 n5 c5 x6 A6 n6 c6 x7 A7 n7 c7 hS zi0 z2_0 z5_0 z6_0 z6_1
    refine wpAnyH_ready (rs := [10, 11]) (by kernel_rfl) (by simp) ?_
    refine AllReadyH.cons (o := ⟨some 13, _, _, _, _, _⟩) rfl (fun K hK => ?_) ?_
    · go_simp
      have kd := hS.2.ne
      have kl := hS.1.size
      refine hK.out _ _ (by first | exact hS.alloc _ | exact (hS.alloc _).drew) (fun hS2 => ?_)
      clear hK K
      try simp only [List.setIfInBounds_toArray, List.set_cons_zero, List.set_cons_succ]
      exact G1 _ (by kernel_rfl) _ _ _ _ _ _ _ _ _ _ _ _ _ _ _ _ _ _ hS2 (zi0.below (below_alloc _ _)) (z2_0.below (below_alloc _ _)) (z5_0.below (below_alloc _ _)) (z6_0.below (below_alloc _ _)) (z6_1.below (below_alloc _ _)) (newK2 hS2) kd kl
    refine AllReadyH.cons (o := ⟨some 14, _, _, _, _, _⟩) rfl (fun K hK => ?_) ?_
    · go_simp
      have kd := hS.2.ne
      have kl := hS.1.size
      refine hK.out _ _ (by first | exact hS.alloc _ | exact (hS.alloc _).drew) (fun hS2 => ?_)
      clear hK K
      try simp only [List.setIfInBounds_toArray, List.set_cons_zero, List.set_cons_succ]
      exact G2 _ (by kernel_rfl) _ _ _ _ _ _ _ _ _ _ _ _ _ _ _ _ _ _ hS2 (zi0.below (below_alloc _ _)) (z2_0.below (below_alloc _ _)) (z5_0.below (below_alloc _ _)) (z6_0.below (below_alloc _ _)) (z6_1.below (below_alloc _ _)) (newK2 hS2) kd kl
    exact AllReadyH.nil
  have G4 : ∀ (lst : Array Bool) (_ : lst = #[true, true, true, true, true, true, false, false, false, false, true, true, false, false]) (W : World) (x2 : Bool) (A2 : Option Addr) (n2 : Nat) (c2 : Nat) (x5 : Bool) (A5 : Option Addr) (n5 : Nat) (c5 : Nat) (p10 : Nat) (p11 : Nat) (_ : Keeps w0 [(pl, 0, .int .i64 a), (pl, 1, .int .i64 r), (pl, 2, .int .i64 n), (pl, 3, .int .i64 d), (rs, 0, .int .i64 0), (rs, 1, .int .u64 0), (ps, 0, .bool xs), (ps, 1, .slice As ns cs)] W) (_ : NumZ W (.agg #[.bool xs, .slice As ns cs]) zs) (_ : NumZ W (.agg #[.bool x2, .slice A2 n2 c2]) X) (_ : NumZ W (.agg #[.bool x5, .slice A5 n5 c5]) d) (_ : Keeps w0 [(p10, 0, .bool false), (p10, 1, .slice none 0 0)] W) (_ : ∀ q ∈ ([(pl, 0, .int .i64 a), (pl, 1, .int .i64 r), (pl, 2, .int .i64 n), (pl, 3, .int .i64 d), (rs, 0, .int .i64 0), (rs, 1, .int .u64 0), (ps, 0, .bool xs), (ps, 1, .slice As ns cs)] : List (Nat × Nat × Value)), q.1 ≠ p10) (_ : w0.heap.size ≤ p10) (_ : Keeps w0 [(p11, 0, .bool false), (p11, 1, .slice none 0 0)] W) (_ : ∀ q ∈ ([(pl, 0, .int .i64 a), (pl, 1, .int .i64 r), (pl, 2, .int .i64 n), (pl, 3, .int .i64 d), (rs, 0, .int .i64 0), (rs, 1, .int .u64 0), (ps, 0, .bool xs), (ps, 1, .slice As ns cs)] : List (Nat × Nat × Value)), q.1 ≠ p11) (_ : w0.heap.size ≤ p11) (_ : p10 ≠ p11), wpAnyH Try.prog .any (regOps Try.f17 14) Q (Keeps w0 [(pl, 0, .int .i64 a), (pl, 1, .int .i64 r), (pl, 2, .int .i64 n), (pl, 3, .int .i64 d), (rs, 0, .int .i64 0), (rs, 1, .int .u64 0), (ps, 0, .bool xs), (ps, 1, .slice As ns cs)]) 6 lst { tmps := #[u0, u1, u2, u3, .pointer (some ⟨pl, 0, none⟩), u5, u6, u7, u8, u9, u10, .int .i64 at', u12, .pointer (some ⟨p10, 0, none⟩), .pointer (some ⟨p11, 0, none⟩), u15, u16, u17, u18, u19, u20, u21, u22, u23, u24, u25, u26, u27, u28, u29, u30, u31, u32, u33, u34, u35, u36, u37, u38, u39, u40, u41, u42, u43, u44, u45, u46, u47, u48, u49, u50, u51, u52, u53, u54, u55, u56, u57, u58, u59, .agg #[.int .i64 a, .int .i64 r, .int .i64 n, .int .i64 d], .int .i64 at', .agg #[.bool x2, .slice A2 n2 c2], .pointer (some ⟨pl, 3, none⟩), .int .i64 d, .agg #[.bool x5, .slice A5 n5 c5], u66, u67, u68, u69, u70, u71, u72, u73, u74, u75, u76, u77, u78], defers := [] } W := by
    rintro lst rfl W x2 A2 n2 c2 x5 A5 n5 c5 p10 p11 hS zi0 z2_0 z5_0 k10 d10 l10 k11 d11 l11 e10_11
    refine wpAnyH_ready (rs := [6]) (by kernel_rfl) (by simp) ?_
    refine AllReadyH.cons (o := ⟨some 66, _, _, _, _, _⟩) rfl (fun K hK => ?_) ?_
    · go_simp
      (with_reducible refine Calls.mono (DV.out _ _ _ z2_0 z5_0) ?_); rintro e w5 ⟨x6, A6, n6, c6, x7, A7, n7, c7, rfl, hb, y0, y1⟩
      refine hK.out _ _ (hS.next hb) (fun hS2 => ?_)
      clear hK K
      try simp only [List.setIfInBounds_toArray, List.set_cons_zero, List.set_cons_succ]
      refine wpAnyH_take (i := 7) (oi := ⟨some 59, _, _, _, _, _⟩) (v := ?_) rfl (by kernel_rfl) (by kernel_rfl) (by kernel_rfl) (fun c a w h => hQp c a _ _ w h) (Or.inl ⟨by rfl, ?_⟩) (by assumption) ?_
      rotate_left
      · intro wq hSw; go_simp; (try with_reducible rfl)
      try simp only [Act.put, List.setIfInBounds_toArray, List.set_cons_zero, List.set_cons_succ]
      refine wpAnyH_take (i := 8) (oi := ⟨some 67, _, _, _, _, _⟩) (v := ?_) rfl (by kernel_rfl) (by kernel_rfl) (by kernel_rfl) (fun c a w h => hQp c a _ _ w h) (Or.inl ⟨by rfl, ?_⟩) (by assumption) ?_
      rotate_left
      · intro wq hSw; go_simp; (try with_reducible rfl)
      try simp only [Act.put, List.setIfInBounds_toArray, List.set_cons_zero, List.set_cons_succ]
      refine wpAnyH_take (i := 9) (oi := ⟨some 68, _, _, _, _, _⟩) (v := ?_) rfl (by kernel_rfl) (by kernel_rfl) (by kernel_rfl) (fun c a w h => hQp c a _ _ w h) (Or.inl ⟨by rfl, ?_⟩) (by assumption) ?_
      rotate_left
      · intro wq hSw; go_simp; (try with_reducible rfl)
      try simp only [Act.put, List.setIfInBounds_toArray, List.set_cons_zero, List.set_cons_succ]
      exact G0 _ (by kernel_rfl) _ _ _ _ _ _ _ _ _ _ _ _ _ _ _ _ _ _ _ hS2 (zi0.below hb) (z2_0.below hb) (z5_0.below hb) y0 y1 (k10.next hb) d10 l10 (k11.next hb) d11 l11 e10_11
    exact AllReadyH.nil
  have G5 : ∀ (lst : Array Bool) (_ : lst = #[true, true, true, true, true, true, false, false, false, false, true, false, false, false]) (W : World) (x2 : Bool) (A2 : Option Addr) (n2 : Nat) (c2 : Nat) (x5 : Bool) (A5 : Option Addr) (n5 : Nat) (c5 : Nat) (p10 : Nat) (_ : Keeps w0 [(pl, 0, .int .i64 a), (pl, 1, .int .i64 r), (pl, 2, .int .i64 n), (pl, 3, .int .i64 d), (rs, 0, .int .i64 0), (rs, 1, .int .u64 0), (ps, 0, .bool xs), (ps, 1, .slice As ns cs)] W) (_ : NumZ W (.agg #[.bool xs, .slice As ns cs]) zs) (_ : NumZ W (.agg #[.bool x2, .slice A2 n2 c2]) X) (_ : NumZ W (.agg #[.bool x5, .slice A5 n5 c5]) d) (_ : Keeps w0 [(p10, 0, .bool false), (p10, 1, .slice none 0 0)] W) (_ : ∀ q ∈ ([(pl, 0, .int .i64 a), (pl, 1, .int .i64 r), (pl, 2, .int .i64 n), (pl, 3, .int .i64 d), (rs, 0, .int .i64 0), (rs, 1, .int .u64 0), (ps, 0, .bool xs), (ps, 1, .slice As ns cs)] : List (Nat × Nat × Value)), q.1 ≠ p10) (_ : w0.heap.size ≤ p10), wpAnyH Try.prog .any (regOps Try.f17 14) Q (Keeps w0 [(pl, 0, .int .i64 a), (pl, 1, .int .i64 r), (pl, 2, .int .i64 n), (pl, 3, .int .i64 d), (rs, 0, .int .i64 0), (rs, 1, .int .u64 0), (ps, 0, .bool xs), (ps, 1, .slice As ns cs)]) 7 lst { tmps := #[u0, u1, u2, u3, .pointer (some ⟨pl, 0, none⟩), u5, u6, u7, u8, u9, u10, .int .i64 at', u12, .pointer (some ⟨p10, 0, none⟩), u14, u15, u16, u17, u18, u19, u20, u21, u22, u23, u24, u25, u26, u27, u28, u29, u30, u31, u32, u33, u34, u35, u36, u37, u38, u39, u40, u41, u42, u43, u44, u45, u46, u47, u48, u49, u50, u51, u52, u53, u54, u55, u56, u57, u58, u59, .agg #[.int .i64 a, .int .i64 r, .int .i64 n, .int .i64 d], .int .i64 at', .agg #[.bool x2, .slice A2 n2 c2], .pointer (some ⟨pl, 3, none⟩), .int .i64 d, .agg #[.bool x5, .slice A5 n5 c5], u66, u67, u68, u69, u70, u71, u72, u73, u74, u75, u76, u77, u78], defers := [] } W := by
    rintro lst rfl W x2 A2 n2 c2 x5 A5 n5 c5 p10 hS zi0 z2_0 z5_0 k10 d10 l10
    refine wpAnyH_ready (rs := [6, 11]) (by kernel_rfl) (by simp) ?_
    refine AllReadyH.cons (o := ⟨some 66, _, _, _, _, _⟩) rfl (fun K hK => ?_) ?_
    · go_simp
      (with_reducible refine Calls.mono (DV.out _ _ _ z2_0 z5_0) ?_); rintro e w5 ⟨x6, A6, n6, c6, x7, A7, n7, c7, rfl, hb, y0, y1⟩
      refine hK.out _ _ (hS.next hb) (fun hS2 => ?_)
      clear hK K
      try simp only [List.setIfInBounds_toArray, List.set_cons_zero, List.set_cons_succ]
      refine wpAnyH_take (i := 7) (oi := ⟨some 59, _, _, _, _, _⟩) (v := ?_) rfl (by kernel_rfl) (by kernel_rfl) (by kernel_rfl) (fun c a w h => hQp c a _ _ w h) (Or.inl ⟨by rfl, ?_⟩) (by assumption) ?_
      rotate_left
      · intro wq hSw; go_simp; (try with_reducible rfl)
      try simp only [Act.put, List.setIfInBounds_toArray, List.set_cons_zero, List.set_cons_succ]
      refine wpAnyH_take (i := 8) (oi := ⟨some 67, _, _, _, _, _⟩) (v := ?_) rfl (by kernel_rfl) (by kernel_rfl) (by kernel_rfl) (fun c a w h => hQp c a _ _ w h) (Or.inl ⟨by rfl, ?_⟩) (by assumption) ?_
      rotate_left
      · intro wq hSw; go_simp; (try with_reducible rfl)
      try simp only [Act.put, List.setIfInBounds_toArray, List.set_cons_zero, List.set_cons_succ]
      refine wpAnyH_take (i := 9) (oi := ⟨some 68, _, _, _, _, _⟩) (v := ?_) rfl (by kernel_rfl) (by kernel_rfl) (by kernel_rfl) (fun c a w h => hQp c a _ _ w h) (Or.inl ⟨by rfl, ?_⟩) (by assumption) ?_
      rotate_left
      · intro wq hSw; go_simp; (try with_reducible rfl)
      try simp only [Act.put, List.setIfInBounds_toArray, List.set_cons_zero, List.set_cons_succ]
      exact G1 _ (by kernel_rfl) _ _ _ _ _ _ _ _ _ _ _ _ _ _ _ _ _ _ hS2 (zi0.below hb) (z2_0.below hb) (z5_0.below hb) y0 y1 (k10.next hb) d10 l10
    refine AllReadyH.cons (o := ⟨some 14, _, _, _, _, _⟩) rfl (fun K hK => ?_) ?_
    · go_simp
      have kd := hS.2.ne
      have kl := hS.1.size
      refine hK.out _ _ (by first | exact hS.alloc _ | exact (hS.alloc _).drew) (fun hS2 => ?_)
      clear hK K
      try simp only [List.setIfInBounds_toArray, List.set_cons_zero, List.set_cons_succ]
      exact G4 _ (by kernel_rfl) _ _ _ _ _ _ _ _ _ _ _ hS2 (zi0.below (below_alloc _ _)) (z2_0.below (below_alloc _ _)) (z5_0.below (below_alloc _ _)) (k10.alloc _) d10 l10 (newK2 hS2) kd kl (Nat.ne_of_lt k10.2.1.1)
    exact AllReadyH.nil
  have G6 : ∀ (lst : Array Bool) (_ : lst = #[true, true, true, true, true, true, false, false, false, false, false, true, false, false]) (W : World) (x2 : Bool) (A2 : Option Addr) (n2 : Nat) (c2 : Nat) (x5 : Bool) (A5 : Option Addr) (n5 : Nat) (c5 : Nat) (p11 : Nat) (_ : Keeps w0 [(pl, 0, .int .i64 a), (pl, 1, .int .i64 r), (pl, 2, .int .i64 n), (pl, 3, .int .i64 d), (rs, 0, .int .i64 0), (rs, 1, .int .u64 0), (ps, 0, .bool xs), (ps, 1, .slice As ns cs)] W) (_ : NumZ W (.agg #[.bool xs, .slice As ns cs]) zs) (_ : NumZ W (.agg #[.bool x2, .slice A2 n2 c2]) X) (_ : NumZ W (.agg #[.bool x5, .slice A5 n5 c5]) d) (_ : Keeps w0 [(p11, 0, .bool false), (p11, 1, .slice none 0 0)] W) (_ : ∀ q ∈ ([(pl, 0, .int .i64 a), (pl, 1, .int .i64 r), (pl, 2, .int .i64 n), (pl, 3, .int .i64 d), (rs, 0, .int .i64 0), (rs, 1, .int .u64 0), (ps, 0, .bool xs), (ps, 1, .slice As ns cs)] : List (Nat × Nat × Value)), q.1 ≠ p11) (_ : w0.heap.size ≤ p11), wpAnyH Try.prog .any (regOps Try.f17 14) Q (Keeps w0 [(pl, 0, .int .i64 a), (pl, 1, .int .i64 r), (pl, 2, .int .i64 n), (pl, 3, .int .i64 d), (rs, 0, .int .i64 0), (rs, 1, .int .u64 0), (ps, 0, .bool xs), (ps, 1, .slice As ns cs)]) 7 lst { tmps := #[u0, u1, u2, u3, .pointer (some ⟨pl, 0, none⟩), u5, u6, u7, u8, u9, u10, .int .i64 at', u12, u13, .pointer (some ⟨p11, 0, none⟩), u15, u16, u17, u18, u19, u20, u21, u22, u23, u24, u25, u26, u27, u28, u29, u30, u31, u32, u33, u34, u35, u36, u37, u38, u39, u40, u41, u42, u43, u44, u45, u46, u47, u48, u49, u50, u51, u52, u53, u54, u55, u56, u57, u58, u59, .agg #[.int .i64 a, .int .i64 r, .int .i64 n, .int .i64 d], .int .i64 at', .agg #[.bool x2, .slice A2 n2 c2], .pointer (some ⟨pl, 3, none⟩), .int .i64 d, .agg #[.bool x5, .slice A5 n5 c5], u66, u67, u68, u69, u70, u71, u72, u73, u74, u75, u76, u77, u78], defers := [] } W := by
    rintro lst rfl W x2 A2 n2 c2 x5 A5 n5 c5 p11 hS zi0 z2_0 z5_0 k11 d11 l11
    refine wpAnyH_ready (rs := [6, 10]) (by kernel_rfl) (by simp) ?_
    refine AllReadyH.cons (o := ⟨some 66, _, _, _, _, _⟩) rfl (fun K hK => ?_) ?_
    · go_simp
      (with_reducible refine Calls.mono (DV.out _ _ _ z2_0 z5_0) ?_); rintro e w5 ⟨x6, A6, n6, c6, x7, A7, n7, c7, rfl, hb, y0, y1⟩
      refine hK.out _ _ (hS.next hb) (fun hS2 => ?_)
      clear hK K
      try simp only [List.setIfInBounds_toArray, List.set_cons_zero, List.set_cons_succ]
      refine wpAnyH_take (i := 7) (oi := ⟨some 59, _, _, _, _, _⟩) (v := ?_) rfl (by kernel_rfl) (by kernel_rfl) (by kernel_rfl) (fun c a w h => hQp c a _ _ w h) (Or.inl ⟨by rfl, ?_⟩) (by assumption) ?_
      rotate_left
      · intro wq hSw; go_simp; (try with_reducible rfl)
      try simp only [Act.put, List.setIfInBounds_toArray, List.set_cons_zero, List.set_cons_succ]
      refine wpAnyH_take (i := 8) (oi := ⟨some 67, _, _, _, _, _⟩) (v := ?_) rfl (by kernel_rfl) (by kernel_rfl) (by kernel_rfl) (fun c a w h => hQp c a _ _ w h) (Or.inl ⟨by rfl, ?_⟩) (by assumption) ?_
      rotate_left
      · intro wq hSw; go_simp; (try with_reducible rfl)
      try simp only [Act.put, List.setIfInBounds_toArray, List.set_cons_zero, List.set_cons_succ]
      refine wpAnyH_take (i := 9) (oi := ⟨some 68, _, _, _, _, _⟩) (v := ?_) rfl (by kernel_rfl) (by kernel_rfl) (by kernel_rfl) (fun c a w h => hQp c a _ _ w h) (Or.inl ⟨by rfl, ?_⟩) (by assumption) ?_
      rotate_left
      · intro wq hSw; go_simp; (try with_reducible rfl)
      try simp only [Act.put, List.setIfInBounds_toArray, List.set_cons_zero, List.set_cons_succ]
      exact G2 _ (by kernel_rfl) _ _ _ _ _ _ _ _ _ _ _ _ _ _ _ _ _ _ hS2 (zi0.below hb) (z2_0.below hb) (z5_0.below hb) y0 y1 (k11.next hb) d11 l11
    refine AllReadyH.cons (o := ⟨some 13, _, _, _, _, _⟩) rfl (fun K hK => ?_) ?_
    · go_simp
      have kd := hS.2.ne
      have kl := hS.1.size
      refine hK.out _ _ (by first | exact hS.alloc _ | exact (hS.alloc _).drew) (fun hS2 => ?_)
      clear hK K
      try simp only [List.setIfInBounds_toArray, List.set_cons_zero, List.set_cons_succ]
      exact G4 _ (by kernel_rfl) _ _ _ _ _ _ _ _ _ _ _ hS2 (zi0.below (below_alloc _ _)) (z2_0.below (below_alloc _ _)) (z5_0.below (below_alloc _ _)) (newK2 hS2) kd kl (k11.alloc _) d11 l11 (Nat.ne_of_gt k11.2.1.1)
    exact AllReadyH.nil
  have G7 : ∀ (lst : Array Bool) (_ : lst = #[true, true, true, true, true, false, false, false, false, false, true, true, false, false]) (W : World) (x2 : Bool) (A2 : Option Addr) (n2 : Nat) (c2 : Nat) (p10 : Nat) (p11 : Nat) (_ : Keeps w0 [(pl, 0, .int .i64 a), (pl, 1, .int .i64 r), (pl, 2, .int .i64 n), (pl, 3, .int .i64 d), (rs, 0, .int .i64 0), (rs, 1, .int .u64 0), (ps, 0, .bool xs), (ps, 1, .slice As ns cs)] W) (_ : NumZ W (.agg #[.bool xs, .slice As ns cs]) zs) (_ : NumZ W (.agg #[.bool x2, .slice A2 n2 c2]) X) (_ : Keeps w0 [(p10, 0, .bool false), (p10, 1, .slice none 0 0)] W) (_ : ∀ q ∈ ([(pl, 0, .int .i64 a), (pl, 1, .int .i64 r), (pl, 2, .int .i64 n), (pl, 3, .int .i64 d), (rs, 0, .int .i64 0), (rs, 1, .int .u64 0), (ps, 0, .bool xs), (ps, 1, .slice As ns cs)] : List (Nat × Nat × Value)), q.1 ≠ p10) (_ : w0.heap.size ≤ p10) (_ : Keeps w0 [(p11, 0, .bool false), (p11, 1, .slice none 0 0)] W) (_ : ∀ q ∈ ([(pl, 0, .int .i64 a), (pl, 1, .int .i64 r), (pl, 2, .int .i64 n), (pl, 3, .int .i64 d), (rs, 0, .int .i64 0), (rs, 1, .int .u64 0), (ps, 0, .bool xs), (ps, 1, .slice As ns cs)] : List (Nat × Nat × Value)), q.1 ≠ p11) (_ : w0.heap.size ≤ p11) (_ : p10 ≠ p11), wpAnyH Try.prog .any (regOps Try.f17 14) Q (Keeps w0 [(pl, 0, .int .i64 a), (pl, 1, .int .i64 r), (pl, 2, .int .i64 n), (pl, 3, .int .i64 d), (rs, 0, .int .i64 0), (rs, 1, .int .u64 0), (ps, 0, .bool xs), (ps, 1, .slice As ns cs)]) 7 lst { tmps := #[u0, u1, u2, u3, .pointer (some ⟨pl, 0, none⟩), u5, u6, u7, u8, u9, u10, .int .i64 at', u12, .pointer (some ⟨p10, 0, none⟩), .pointer (some ⟨p11, 0, none⟩), u15, u16, u17, u18, u19, u20, u21, u22, u23, u24, u25, u26, u27, u28, u29, u30, u31, u32, u33, u34, u35, u36, u37, u38, u39, u40, u41, u42, u43, u44, u45, u46, u47, u48, u49, u50, u51, u52, u53, u54, u55, u56, u57, u58, u59, .agg #[.int .i64 a, .int .i64 r, .int .i64 n, .int .i64 d], .int .i64 at', .agg #[.bool x2, .slice A2 n2 c2], .pointer (some ⟨pl, 3, none⟩), .int .i64 d, u65, u66, u67, u68, u69, u70, u71, u72, u73, u74, u75, u76, u77, u78], defers := [] } W := by
    rintro lst rfl W x2 A2 n2 c2 p10 p11 hS zi0 z2_0 k10 d10 l10 k11 d11 l11 e10_11
    refine wpAnyH_ready (rs := [5]) (by kernel_rfl) (by simp) ?_
    refine AllReadyH.cons (o := ⟨some 65, _, _, _, _, _⟩) rfl (fun K hK => ?_) ?_
    · go_simp
      (with_reducible refine Calls.mono (ID.out _) ?_); rintro e w5 ⟨x5, A5, n5, c5, rfl, hb, y0⟩
      refine hK.out _ _ (hS.next hb) (fun hS2 => ?_)
      clear hK K
      try simp only [List.setIfInBounds_toArray, List.set_cons_zero, List.set_cons_succ]
      exact G4 _ (by kernel_rfl) _ _ _ _ _ _ _ _ _ _ _ hS2 (zi0.below hb) (z2_0.below hb) y0 (k10.next hb) d10 l10 (k11.next hb) d11 l11 e10_11
    exact AllReadyH.nil
  have G8 : ∀ (lst : Array Bool) (_ : lst = #[true, true, true, true, true, true, false, false, false, false, false, false, false, false]) (W : World) (x2 : Bool) (A2 : Option Addr) (n2 : Nat) (c2 : Nat) (x5 : Bool) (A5 : Option Addr) (n5 : Nat) (c5 : Nat) (_ : Keeps w0 [(pl, 0, .int .i64 a), (pl, 1, .int .i64 r), (pl, 2, .int .i64 n), (pl, 3, .int .i64 d), (rs, 0, .int .i64 0), (rs, 1, .int .u64 0), (ps, 0, .bool xs), (ps, 1, .slice As ns cs)] W) (_ : NumZ W (.agg #[.bool xs, .slice As ns cs]) zs) (_ : NumZ W (.agg #[.bool x2, .slice A2 n2 c2]) X) (_ : NumZ W (.agg #[.bool x5, .slice A5 n5 c5]) d), wpAnyH Try.prog .any (regOps Try.f17 14) Q (Keeps w0 [(pl, 0, .int .i64 a), (pl, 1, .int .i64 r), (pl, 2, .int .i64 n), (pl, 3, .int .i64 d), (rs, 0, .int .i64 0), (rs, 1, .int .u64 0), (ps, 0, .bool xs), (ps, 1, .slice As ns cs)]) 8 lst { tmps := #[u0, u1, u2, u3, .pointer (some ⟨pl, 0, none⟩), u5, u6, u7, u8, u9, u10, .int .i64 at', u12, u13, u14, u15, u16, u17, u18, u19, u20, u21, u22, u23, u24, u25, u26, u27, u28, u29, u30, u31, u32, u33, u34, u35, u36, u37, u38, u39, u40, u41, u42, u43, u44, u45, u46, u47, u48, u49, u50, u51, u52, u53, u54, u55, u56, u57, u58, u59, .agg #[.int .i64 a, .int .i64 r, .int .i64 n, .int .i64 d], .int .i64 at', .agg #[.bool x2, .slice A2 n2 c2], .pointer (some ⟨pl, 3, none⟩), .int .i64 d, .agg #[.bool x5, .slice A5 n5 c5], u66, u67, u68, u69, u70, u71, u72, u73, u74, u75, u76, u77, u78], defers := [] } W := by
    rintro lst rfl W x2 A2 n2 c2 x5 A5 n5 c5 hS zi0 z2_0 z5_0
    refine wpAnyH_ready (rs := [6, 10, 11]) (by kernel_rfl) (by simp) ?_
    refine AllReadyH.cons (o := ⟨some 66, _, _, _, _, _⟩) rfl (fun K hK => ?_) ?_
    · go_simp
      (with_reducible refine Calls.mono (DV.out _ _ _ z2_0 z5_0) ?_); rintro e w5 ⟨x6, A6, n6, c6, x7, A7, n7, c7, rfl, hb, y0, y1⟩
      refine hK.out _ _ (hS.next hb) (fun hS2 => ?_)
      clear hK K
      try simp only [List.setIfInBounds_toArray, List.set_cons_zero, List.set_cons_succ]
      refine wpAnyH_take (i := 7) (oi := ⟨some 59, _, _, _, _, _⟩) (v := ?_) rfl (by kernel_rfl) (by kernel_rfl) (by kernel_rfl) (fun c a w h => hQp c a _ _ w h) (Or.inl ⟨by rfl, ?_⟩) (by assumption) ?_
      rotate_left
      · intro wq hSw; go_simp; (try with_reducible rfl)
      try simp only [Act.put, List.setIfInBounds_toArray, List.set_cons_zero, List.set_cons_succ]
      refine wpAnyH_take (i := 8) (oi := ⟨some 67, _, _, _, _, _⟩) (v := ?_) rfl (by kernel_rfl) (by kernel_rfl) (by kernel_rfl) (fun c a w h => hQp c a _ _ w h) (Or.inl ⟨by rfl, ?_⟩) (by assumption) ?_
      rotate_left
      · intro wq hSw; go_simp; (try with_reducible rfl)
      try simp only [Act.put, List.setIfInBounds_toArray, List.set_cons_zero, List.set_cons_succ]
      refine wpAnyH_take (i := 9) (oi := ⟨some 68, _, _, _, _, _⟩) (v := ?_) rfl (by kernel_rfl) (by kernel_rfl) (by kernel_rfl) (fun c a w h => hQp c a _ _ w h) (Or.inl ⟨by rfl, ?_⟩) (by assumption) ?_
      rotate_left
      · intro wq hSw; go_simp; (try with_reducible rfl)
      try simp only [Act.put, List.setIfInBounds_toArray, List.set_cons_zero, List.set_cons_succ]
      exact G3 _ (by kernel_rfl) _ _ _ _ _ _ _ _ _ _ _ _ _ _ _ _ _ hS2 (zi0.below hb) (z2_0.below hb) (z5_0.below hb) y0 y1
    refine AllReadyH.cons (o := ⟨some 13, _, _, _, _, _⟩) rfl (fun K hK => ?_) ?_
    · go_simp
      have kd := hS.2.ne
      have kl := hS.1.size
      refine hK.out _ _ (by first | exact hS.alloc _ | exact (hS.alloc _).drew) (fun hS2 => ?_)
      clear hK K
      try simp only [List.setIfInBounds_toArray, List.set_cons_zero, List.set_cons_succ]
      exact G5 _ (by kernel_rfl) _ _ _ _ _ _ _ _ _ _ hS2 (zi0.below (below_alloc _ _)) (z2_0.below (below_alloc _ _)) (z5_0.below (below_alloc _ _)) (newK2 hS2) kd kl
    refine AllReadyH.cons (o := ⟨some 14, _, _, _, _, _⟩) rfl (fun K hK => ?_) ?_
    · go_simp
      have kd := hS.2.ne
      have kl := hS.1.size
      refine hK.out _ _ (by first | exact hS.alloc _ | exact (hS.alloc _).drew) (fun hS2 => ?_)
      clear hK K
      try simp only [List.setIfInBounds_toArray, List.set_cons_zero, List.set_cons_succ]
      exact G6 _ (by kernel_rfl) _ _ _ _ _ _ _ _ _ _ hS2 (zi0.below (below_alloc _ _)) (z2_0.below (below_alloc _ _)) (z5_0.below (below_alloc _ _)) (newK2 hS2) kd kl
    exact AllReadyH.nil
  have G9 : ∀ (lst : Array Bool) (_ : lst = #[true, true, true, true, true, false, false, false, false, false, true, false, false, false]) (W : World) (x2 : Bool) (A2 : Option Addr) (n2 : Nat) (c2 : Nat) (p10 : Nat) (_ : Keeps w0 [(pl, 0, .int .i64 a), (pl, 1, .int .i64 r), (pl, 2, .int .i64 n), (pl, 3, .int .i64 d), (rs, 0, .int .i64 0), (rs, 1, .int .u64 0), (ps, 0, .bool xs), (ps, 1, .slice As ns cs)] W) (_ : NumZ W (.agg #[.bool xs, .slice As ns cs]) zs) (_ : NumZ W (.agg #[.bool x2, .slice A2 n2 c2]) X) (_ : Keeps w0 [(p10, 0, .bool false), (p10, 1, .slice none 0 0)] W) (_ : ∀ q ∈ ([(pl, 0, .int .i64 a), (pl, 1, .int .i64 r), (pl, 2, .int .i64 n), (pl, 3, .int .i64 d), (rs, 0, .int .i64 0), (rs, 1, .int .u64 0), (ps, 0, .bool xs), (ps, 1, .slice As ns cs)] : List (Nat × Nat × Value)), q.1 ≠ p10) (_ : w0.heap.size ≤ p10), wpAnyH Try.prog .any (regOps Try.f17 14) Q (Keeps w0 [(pl, 0, .int .i64 a), (pl, 1, .int .i64 r), (pl, 2, .int .i64 n), (pl, 3, .int .i64 d), (rs, 0, .int .i64 0), (rs, 1, .int .u64 0), (ps, 0, .bool xs), (ps, 1, .slice As ns cs)]) 8 lst { tmps := #[u0, u1, u2, u3, .pointer (some ⟨pl, 0, none⟩), u5, u6, u7, u8, u9, u10, .int .i64 at', u12, .pointer (some ⟨p10, 0, none⟩), u14, u15, u16, u17, u18, u19, u20, u21, u22, u23, u24, u25, u26, u27, u28, u29, u30, u31, u32, u33, u34, u35, u36, u37, u38, u39, u40, u41, u42, u43, u44, u45, u46, u47, u48, u49, u50, u51, u52, u53, u54, u55, u56, u57, u58, u59, .agg #[.int .i64 a, .int .i64 r, .int .i64 n, .int .i64 d], .int .i64 at', .agg #[.bool x2, .slice A2 n2 c2], .pointer (some ⟨pl, 3, none⟩), .int .i64 d, u65, u66, u67, u68, u69, u70, u71, u72, u73, u74, u75, u76, u77, u78], defers := [] } W := by
    rintro lst rfl W x2 A2 n2 c2 p10 hS zi0 z2_0 k10 d10 l10
    refine wpAnyH_ready (rs := [5, 11]) (by kernel_rfl) (by simp) ?_
    refine AllReadyH.cons (o := ⟨some 65, _, _, _, _, _⟩) rfl (fun K hK => ?_) ?_
    · go_simp
      (with_reducible refine Calls.mono (ID.out _) ?_); rintro e w5 ⟨x5, A5, n5, c5, rfl, hb, y0⟩
      refine hK.out _ _ (hS.next hb) (fun hS2 => ?_)
      clear hK K
      try simp only [List.setIfInBounds_toArray, List.set_cons_zero, List.set_cons_succ]
      exact G5 _ (by kernel_rfl) _ _ _ _ _ _ _ _ _ _ hS2 (zi0.below hb) (z2_0.below hb) y0 (k10.next hb) d10 l10
    refine AllReadyH.cons (o := ⟨some 14, _, _, _, _, _⟩) rfl (fun K hK => ?_) ?_
    · go_simp
      have kd := hS.2.ne
      have kl := hS.1.size
      refine hK.out _ _ (by first | exact hS.alloc _ | exact (hS.alloc _).drew) (fun hS2 => ?_)
      clear hK K
      try simp only [List.setIfInBounds_toArray, List.set_cons_zero, List.set_cons_succ]
      exact G7 _ (by kernel_rfl) _ _ _ _ _ _ _ hS2 (zi0.below (below_alloc _ _)) (z2_0.below (below_alloc _ _)) (k10.alloc _) d10 l10 (newK2 hS2) kd kl (Nat.ne_of_lt k10.2.1.1)
    exact AllReadyH.nil
  have G10 : ∀ (lst : Array Bool) (_ : lst = #[true, true, true, true, true, false, false, false, false, false, false, true, false, false]) (W : World) (x2 : Bool) (A2 : Option Addr) (n2 : Nat) (c2 : Nat) (p11 : Nat) (_ : Keeps w0 [(pl, 0, .int .i64 a), (pl, 1, .int .i64 r), (pl, 2, .int .i64 n), (pl, 3, .int .i64 d), (rs, 0, .int .i64 0), (rs, 1, .int .u64 0), (ps, 0, .bool xs), (ps, 1, .slice As ns cs)] W) (_ : NumZ W (.agg #[.bool xs, .slice As ns cs]) zs) (_ : NumZ W (.agg #[.bool x2, .slice A2 n2 c2]) X) (_ : Keeps w0 [(p11, 0, .bool false), (p11, 1, .slice none 0 0)] W) (_ : ∀ q ∈ ([(pl, 0, .int .i64 a), (pl, 1, .int .i64 r), (pl, 2, .int .i64 n), (pl, 3, .int .i64 d), (rs, 0, .int .i64 0), (rs, 1, .int .u64 0), (ps, 0, .bool xs), (ps, 1, .slice As ns cs)] : List (Nat × Nat × Value)), q.1 ≠ p11) (_ : w0.heap.size ≤ p11), wpAnyH Try.prog .any (regOps Try.f17 14) Q (Keeps w0 [(pl, 0, .int .i64 a), (pl, 1, .int .i64 r), (pl, 2, .int .i64 n), (pl, 3, .int .i64 d), (rs, 0, .int .i64 0), (rs, 1, .int .u64 0), (ps, 0, .bool xs), (ps, 1, .slice As ns cs)]) 8 lst { tmps := #[u0, u1, u2, u3, .pointer (some ⟨pl, 0, none⟩), u5, u6, u7, u8, u9, u10, .int .i64 at', u12, u13, .pointer (some ⟨p11, 0, none⟩), u15, u16, u17, u18, u19, u20, u21, u22, u23, u24, u25, u26, u27, u28, u29, u30, u31, u32, u33, u34, u35, u36, u37, u38, u39, u40, u41, u42, u43, u44, u45, u46, u47, u48, u49, u50, u51, u52, u53, u54, u55, u56, u57, u58, u59, .agg #[.int .i64 a, .int .i64 r, .int .i64 n, .int .i64 d], .int .i64 at', .agg #[.bool x2, .slice A2 n2 c2], .pointer (some ⟨pl, 3, none⟩), .int .i64 d, u65, u66, u67, u68, u69, u70, u71, u72, u73, u74, u75, u76, u77, u78], defers := [] } W := by
    rintro lst rfl W x2 A2 n2 c2 p11 hS zi0 z2_0 k11 d11 l11
    refine wpAnyH_ready (rs := [5, 10]) (by kernel_rfl) (by simp) ?_
    refine AllReadyH.cons (o := ⟨some 65, _, _, _, _, _⟩) rfl (fun K hK => ?_) ?_
    · go_simp
      (with_reducible refine Calls.mono (ID.out _) ?_); rintro e w5 ⟨x5, A5, n5, c5, rfl, hb, y0⟩
      refine hK.out _ _ (hS.next hb) (fun hS2 => ?_)
      clear hK K
      try simp only [List.setIfInBounds_toArray, List.set_cons_zero, List.set_cons_succ]
      exact G6 _ (by kernel_rfl) _ _ _ _ _ _ _ _ _ _ hS2 (zi0.below hb) (z2_0.below hb) y0 (k11.next hb) d11 l11
    refine AllReadyH.cons (o := ⟨some 13, _, _, _, _, _⟩) rfl (fun K hK => ?_) ?_
    · go_simp
      have kd := hS.2.ne
      have kl := hS.1.size
      refine hK.out _ _ (by first | exact hS.alloc _ | exact (hS.alloc _).drew) (fun hS2 => ?_)
      clear hK K
      try simp only [List.setIfInBounds_toArray, List.set_cons_zero, List.set_cons_succ]
      exact G7 _ (by kernel_rfl) _ _ _ _ _ _ _ hS2 (zi0.below (below_alloc _ _)) (z2_0.below (below_alloc _ _)) (newK2 hS2) kd kl (k11.alloc _) d11 l11 (Nat.ne_of_gt k11.2.1.1)
    exact AllReadyH.nil
  have G11 : ∀ (lst : Array Bool) (_ : lst = #[true, true, false, true, true, false, false, false, false, false, true, true, false, false]) (W : World) (p10 : Nat) (p11 : Nat) (_ : Keeps w0 [(pl, 0, .int .i64 a), (pl, 1, .int .i64 r), (pl, 2, .int .i64 n), (pl, 3, .int .i64 d), (rs, 0, .int .i64 0), (rs, 1, .int .u64 0), (ps, 0, .bool xs), (ps, 1, .slice As ns cs)] W) (_ : NumZ W (.agg #[.bool xs, .slice As ns cs]) zs) (_ : Keeps w0 [(p10, 0, .bool false), (p10, 1, .slice none 0 0)] W) (_ : ∀ q ∈ ([(pl, 0, .int .i64 a), (pl, 1, .int .i64 r), (pl, 2, .int .i64 n), (pl, 3, .int .i64 d), (rs, 0, .int .i64 0), (rs, 1, .int .u64 0), (ps, 0, .bool xs), (ps, 1, .slice As ns cs)] : List (Nat × Nat × Value)), q.1 ≠ p10) (_ : w0.heap.size ≤ p10) (_ : Keeps w0 [(p11, 0, .bool false), (p11, 1, .slice none 0 0)] W) (_ : ∀ q ∈ ([(pl, 0, .int .i64 a), (pl, 1, .int .i64 r), (pl, 2, .int .i64 n), (pl, 3, .int .i64 d), (rs, 0, .int .i64 0), (rs, 1, .int .u64 0), (ps, 0, .bool xs), (ps, 1, .slice As ns cs)] : List (Nat × Nat × Value)), q.1 ≠ p11) (_ : w0.heap.size ≤ p11) (_ : p10 ≠ p11), wpAnyH Try.prog .any (regOps Try.f17 14) Q (Keeps w0 [(pl, 0, .int .i64 a), (pl, 1, .int .i64 r), (pl, 2, .int .i64 n), (pl, 3, .int .i64 d), (rs, 0, .int .i64 0), (rs, 1, .int .u64 0), (ps, 0, .bool xs), (ps, 1, .slice As ns cs)]) 8 lst { tmps := #[u0, u1, u2, u3, .pointer (some ⟨pl, 0, none⟩), u5, u6, u7, u8, u9, u10, .int .i64 at', u12, .pointer (some ⟨p10, 0, none⟩), .pointer (some ⟨p11, 0, none⟩), u15, u16, u17, u18, u19, u20, u21, u22, u23, u24, u25, u26, u27, u28, u29, u30, u31, u32, u33, u34, u35, u36, u37, u38, u39, u40, u41, u42, u43, u44, u45, u46, u47, u48, u49, u50, u51, u52, u53, u54, u55, u56, u57, u58, u59, .agg #[.int .i64 a, .int .i64 r, .int .i64 n, .int .i64 d], .int .i64 at', u62, .pointer (some ⟨pl, 3, none⟩), .int .i64 d, u65, u66, u67, u68, u69, u70, u71, u72, u73, u74, u75, u76, u77, u78], defers := [] } W := by
    rintro lst rfl W p10 p11 hS zi0 k10 d10 l10 k11 d11 l11 e10_11
    refine wpAnyH_ready (rs := [2]) (by kernel_rfl) (by simp) ?_
    refine AllReadyH.cons (o := ⟨some 62, _, _, _, _, _⟩) rfl (fun K hK => ?_) ?_
    · go_simp
      (with_reducible refine Calls.mono (TM.out _) ?_); rintro e w5 ⟨x2, A2, n2, c2, rfl, hb, y0⟩
      refine hK.out _ _ (hS.next hb) (fun hS2 => ?_)
      clear hK K
      try simp only [List.setIfInBounds_toArray, List.set_cons_zero, List.set_cons_succ]
      exact G7 _ (by kernel_rfl) _ _ _ _ _ _ _ hS2 (zi0.below hb) y0 (k10.next hb) d10 l10 (k11.next hb) d11 l11 e10_11
    exact AllReadyH.nil
  have G12 : ∀ (lst : Array Bool) (_ : lst = #[true, true, true, true, true, false, false, false, false, false, false, false, false, false]) (W : World) (x2 : Bool) (A2 : Option Addr) (n2 : Nat) (c2 : Nat) (_ : Keeps w0 [(pl, 0, .int .i64 a), (pl, 1, .int .i64 r), (pl, 2, .int .i64 n), (pl, 3, .int .i64 d), (rs, 0, .int .i64 0), (rs, 1, .int .u64 0), (ps, 0, .bool xs), (ps, 1, .slice As ns cs)] W) (_ : NumZ W (.agg #[.bool xs, .slice As ns cs]) zs) (_ : NumZ W (.agg #[.bool x2, .slice A2 n2 c2]) X), wpAnyH Try.prog .any (regOps Try.f17 14) Q (Keeps w0 [(pl, 0, .int .i64 a), (pl, 1, .int .i64 r), (pl, 2, .int .i64 n), (pl, 3, .int .i64 d), (rs, 0, .int .i64 0), (rs, 1, .int .u64 0), (ps, 0, .bool xs), (ps, 1, .slice As ns cs)]) 9 lst { tmps := #[u0, u1, u2, u3, .pointer (some ⟨pl, 0, none⟩), u5, u6, u7, u8, u9, u10, .int .i64 at', u12, u13, u14, u15, u16, u17, u18, u19, u20, u21, u22, u23, u24, u25, u26, u27, u28, u29, u30, u31, u32, u33, u34, u35, u36, u37, u38, u39, u40, u41, u42, u43, u44, u45, u46, u47, u48, u49, u50, u51, u52, u53, u54, u55, u56, u57, u58, u59, .agg #[.int .i64 a, .int .i64 r, .int .i64 n, .int .i64 d], .int .i64 at', .agg #[.bool x2, .slice A2 n2 c2], .pointer (some ⟨pl, 3, none⟩), .int .i64 d, u65, u66, u67, u68, u69, u70, u71, u72, u73, u74, u75, u76, u77, u78], defers := [] } W := by
    rintro lst rfl W x2 A2 n2 c2 hS zi0 z2_0
    refine wpAnyH_ready (rs := [5, 10, 11]) (by kernel_rfl) (by simp) ?_
    refine AllReadyH.cons (o := ⟨some 65, _, _, _, _, _⟩) rfl (fun K hK => ?_) ?_
    · go_simp
      (with_reducible refine Calls.mono (ID.out _) ?_); rintro e w5 ⟨x5, A5, n5, c5, rfl, hb, y0⟩
      refine hK.out _ _ (hS.next hb) (fun hS2 => ?_)
      clear hK K
      try simp only [List.setIfInBounds_toArray, List.set_cons_zero, List.set_cons_succ]
      exact G8 _ (by kernel_rfl) _ _ _ _ _ _ _ _ _ hS2 (zi0.below hb) (z2_0.below hb) y0
    refine AllReadyH.cons (o := ⟨some 13, _, _, _, _, _⟩) rfl (fun K hK => ?_) ?_
    · go_simp
      have kd := hS.2.ne
      have kl := hS.1.size
      refine hK.out _ _ (by first | exact hS.alloc _ | exact (hS.alloc _).drew) (fun hS2 => ?_)
      clear hK K
      try simp only [List.setIfInBounds_toArray, List.set_cons_zero, List.set_cons_succ]
      exact G9 _ (by kernel_rfl) _ _ _ _ _ _ hS2 (zi0.below (below_alloc _ _)) (z2_0.below (below_alloc _ _)) (newK2 hS2) kd kl
    refine AllReadyH.cons (o := ⟨some 14, _, _, _, _, _⟩) rfl (fun K hK => ?_) ?_
    · go_simp
      have kd := hS.2.ne
      have kl := hS.1.size
      refine hK.out _ _ (by first | exact hS.alloc _ | exact (hS.alloc _).drew) (fun hS2 => ?_)
      clear hK K
      try simp only [List.setIfInBounds_toArray, List.set_cons_zero, List.set_cons_succ]
      exact G10 _ (by kernel_rfl) _ _ _ _ _ _ hS2 (zi0.below (below_alloc _ _)) (z2_0.below (below_alloc _ _)) (newK2 hS2) kd kl
    exact AllReadyH.nil
  have G13 : ∀ (lst : Array Bool) (_ : lst = #[true, true, false, true, true, false, false, false, false, false, true, false, false, false]) (W : World) (p10 : Nat) (_ : Keeps w0 [(pl, 0, .int .i64 a), (pl, 1, .int .i64 r), (pl, 2, .int .i64 n), (pl, 3, .int .i64 d), (rs, 0, .int .i64 0), (rs, 1, .int .u64 0), (ps, 0, .bool xs), (ps, 1, .slice As ns cs)] W) (_ : NumZ W (.agg #[.bool xs, .slice As ns cs]) zs) (_ : Keeps w0 [(p10, 0, .bool false), (p10, 1, .slice none 0 0)] W) (_ : ∀ q ∈ ([(pl, 0, .int .i64 a), (pl, 1, .int .i64 r), (pl, 2, .int .i64 n), (pl, 3, .int .i64 d), (rs, 0, .int .i64 0), (rs, 1, .int .u64 0), (ps, 0, .bool xs), (ps, 1, .slice As ns cs)] : List (Nat × Nat × Value)), q.1 ≠ p10) (_ : w0.heap.size ≤ p10), wpAnyH Try.prog .any (regOps Try.f17 14) Q (Keeps w0 [(pl, 0, .int .i64 a), (pl, 1, .int .i64 r), (pl, 2, .int .i64 n), (pl, 3, .int .i64 d), (rs, 0, .int .i64 0), (rs, 1, .int .u64 0), (ps, 0, .bool xs), (ps, 1, .slice As ns cs)]) 9 lst { tmps := #[u0, u1, u2, u3, .pointer (some ⟨pl, 0, none⟩), u5, u6, u7, u8, u9, u10, .int .i64 at', u12, .pointer (some ⟨p10, 0, none⟩), u14, u15, u16, u17, u18, u19, u20, u21, u22, u23, u24, u25, u26, u27, u28, u29, u30, u31, u32, u33, u34, u35, u36, u37, u38, u39, u40, u41, u42, u43, u44, u45, u46, u47, u48, u49, u50, u51, u52, u53, u54, u55, u56, u57, u58, u59, .agg #[.int .i64 a, .int .i64 r, .int .i64 n, .int .i64 d], .int .i64 at', u62, .pointer (some ⟨pl, 3, none⟩), .int .i64 d, u65, u66, u67, u68, u69, u70, u71, u72, u73, u74, u75, u76, u77, u78], defers := [] } W := by
    rintro lst rfl W p10 hS zi0 k10 d10 l10
    refine wpAnyH_ready (rs := [2, 11]) (by kernel_rfl) (by simp) ?_
    refine AllReadyH.cons (o := ⟨some 62, _, _, _, _, _⟩) rfl (fun K hK => ?_) ?_
    · go_simp
      (with_reducible refine Calls.mono (TM.out _) ?_); rintro e w5 ⟨x2, A2, n2, c2, rfl, hb, y0⟩
      refine hK.out _ _ (hS.next hb) (fun hS2 => ?_)
      clear hK K
      try simp only [List.setIfInBounds_toArray, List.set_cons_zero, List.set_cons_succ]
      exact G9 _ (by kernel_rfl) _ _ _ _ _ _ hS2 (zi0.below hb) y0 (k10.next hb) d10 l10
    refine AllReadyH.cons (o := ⟨some 14, _, _, _, _, _⟩) rfl (fun K hK => ?_) ?_
    · go_simp
      have kd := hS.2.ne
      have kl := hS.1.size
      refine hK.out _ _ (by first | exact hS.alloc _ | exact (hS.alloc _).drew) (fun hS2 => ?_)
      clear hK K
      try simp only [List.setIfInBounds_toArray, List.set_cons_zero, List.set_cons_succ]
      exact G11 _ (by kernel_rfl) _ _ _ hS2 (zi0.below (below_alloc _ _)) (k10.alloc _) d10 l10 (newK2 hS2) kd kl (Nat.ne_of_lt k10.2.1.1)
    exact AllReadyH.nil
  have G14 : ∀ (lst : Array Bool) (_ : lst = #[true, true, false, true, true, false, false, false, false, false, false, true, false, false]) (W : World) (p11 : Nat) (_ : Keeps w0 [(pl, 0, .int .i64 a), (pl, 1, .int .i64 r), (pl, 2, .int .i64 n), (pl, 3, .int .i64 d), (rs, 0, .int .i64 0), (rs, 1, .int .u64 0), (ps, 0, .bool xs), (ps, 1, .slice As ns cs)] W) (_ : NumZ W (.agg #[.bool xs, .slice As ns cs]) zs) (_ : Keeps w0 [(p11, 0, .bool false), (p11, 1, .slice none 0 0)] W) (_ : ∀ q ∈ ([(pl, 0, .int .i64 a), (pl, 1, .int .i64 r), (pl, 2, .int .i64 n), (pl, 3, .int .i64 d), (rs, 0, .int .i64 0), (rs, 1, .int .u64 0), (ps, 0, .bool xs), (ps, 1, .slice As ns cs)] : List (Nat × Nat × Value)), q.1 ≠ p11) (_ : w0.heap.size ≤ p11), wpAnyH Try.prog .any (regOps Try.f17 14) Q (Keeps w0 [(pl, 0, .int .i64 a), (pl, 1, .int .i64 r), (pl, 2, .int .i64 n), (pl, 3, .int .i64 d), (rs, 0, .int .i64 0), (rs, 1, .int .u64 0), (ps, 0, .bool xs), (ps, 1, .slice As ns cs)]) 9 lst { tmps := #[u0, u1, u2, u3, .pointer (some ⟨pl, 0, none⟩), u5, u6, u7, u8, u9, u10, .int .i64 at', u12, u13, .pointer (some ⟨p11, 0, none⟩), u15, u16, u17, u18, u19, u20, u21, u22, u23, u24, u25, u26, u27, u28, u29, u30, u31, u32, u33, u34, u35, u36, u37, u38, u39, u40, u41, u42, u43, u44, u45, u46, u47, u48, u49, u50, u51, u52, u53, u54, u55, u56, u57, u58, u59, .agg #[.int .i64 a, .int .i64 r, .int .i64 n, .int .i64 d], .int .i64 at', u62, .pointer (some ⟨pl, 3, none⟩), .int .i64 d, u65, u66, u67, u68, u69, u70, u71, u72, u73, u74, u75, u76, u77, u78], defers := [] } W := by
    rintro lst rfl W p11 hS zi0 k11 d11 l11
    refine wpAnyH_ready (rs := [2, 10]) (by kernel_rfl) (by simp) ?_
    refine AllReadyH.cons (o := ⟨some 62, _, _, _, _, _⟩) rfl (fun K hK => ?_) ?_
    · go_simp
      (with_reducible refine Calls.mono (TM.out _) ?_); rintro e w5 ⟨x2, A2, n2, c2, rfl, hb, y0⟩
      refine hK.out _ _ (hS.next hb) (fun hS2 => ?_)
      clear hK K
      try simp only [List.setIfInBounds_toArray, List.set_cons_zero, List.set_cons_succ]
      exact G10 _ (by kernel_rfl) _ _ _ _ _ _ hS2 (zi0.below hb) y0 (k11.next hb) d11 l11
    refine AllReadyH.cons (o := ⟨some 13, _, _, _, _, _⟩) rfl (fun K hK => ?_) ?_
    · go_simp
      have kd := hS.2.ne
      have kl := hS.1.size
      refine hK.out _ _ (by first | exact hS.alloc _ | exact (hS.alloc _).drew) (fun hS2 => ?_)
      clear hK K
      try simp only [List.setIfInBounds_toArray, List.set_cons_zero, List.set_cons_succ]
      exact G11 _ (by kernel_rfl) _ _ _ hS2 (zi0.below (below_alloc _ _)) (newK2 hS2) kd kl (k11.alloc _) d11 l11 (Nat.ne_of_gt k11.2.1.1)
    exact AllReadyH.nil
  have G15 : ∀ (lst : Array Bool) (_ : lst = #[true, true, false, true, true, false, false, false, false, false, false, false, false, false]) (W : World)  (_ : Keeps w0 [(pl, 0, .int .i64 a), (pl, 1, .int .i64 r), (pl, 2, .int .i64 n), (pl, 3, .int .i64 d), (rs, 0, .int .i64 0), (rs, 1, .int .u64 0), (ps, 0, .bool xs), (ps, 1, .slice As ns cs)] W) (_ : NumZ W (.agg #[.bool xs, .slice As ns cs]) zs), wpAnyH Try.prog .any (regOps Try.f17 14) Q (Keeps w0 [(pl, 0, .int .i64 a), (pl, 1, .int .i64 r), (pl, 2, .int .i64 n), (pl, 3, .int .i64 d), (rs, 0, .int .i64 0), (rs, 1, .int .u64 0), (ps, 0, .bool xs), (ps, 1, .slice As ns cs)]) 10 lst { tmps := #[u0, u1, u2, u3, .pointer (some ⟨pl, 0, none⟩), u5, u6, u7, u8, u9, u10, .int .i64 at', u12, u13, u14, u15, u16, u17, u18, u19, u20, u21, u22, u23, u24, u25, u26, u27, u28, u29, u30, u31, u32, u33, u34, u35, u36, u37, u38, u39, u40, u41, u42, u43, u44, u45, u46, u47, u48, u49, u50, u51, u52, u53, u54, u55, u56, u57, u58, u59, .agg #[.int .i64 a, .int .i64 r, .int .i64 n, .int .i64 d], .int .i64 at', u62, .pointer (some ⟨pl, 3, none⟩), .int .i64 d, u65, u66, u67, u68, u69, u70, u71, u72, u73, u74, u75, u76, u77, u78], defers := [] } W := by
    rintro lst rfl W  hS zi0
    refine wpAnyH_ready (rs := [2, 10, 11]) (by kernel_rfl) (by simp) ?_
    refine AllReadyH.cons (o := ⟨some 62, _, _, _, _, _⟩) rfl (fun K hK => ?_) ?_
    · go_simp
      (with_reducible refine Calls.mono (TM.out _) ?_); rintro e w5 ⟨x2, A2, n2, c2, rfl, hb, y0⟩
      refine hK.out _ _ (hS.next hb) (fun hS2 => ?_)
      clear hK K
      try simp only [List.setIfInBounds_toArray, List.set_cons_zero, List.set_cons_succ]
      exact G12 _ (by kernel_rfl) _ _ _ _ _ hS2 (zi0.below hb) y0
    refine AllReadyH.cons (o := ⟨some 13, _, _, _, _, _⟩) rfl (fun K hK => ?_) ?_
    · go_simp
      have kd := hS.2.ne
      have kl := hS.1.size
      refine hK.out _ _ (by first | exact hS.alloc _ | exact (hS.alloc _).drew) (fun hS2 => ?_)
      clear hK K
      try simp only [List.setIfInBounds_toArray, List.set_cons_zero, List.set_cons_succ]
      exact G13 _ (by kernel_rfl) _ _ hS2 (zi0.below (below_alloc _ _)) (newK2 hS2) kd kl
    refine AllReadyH.cons (o := ⟨some 14, _, _, _, _, _⟩) rfl (fun K hK => ?_) ?_
    · go_simp
      have kd := hS.2.ne
      have kl := hS.1.size
      refine hK.out _ _ (by first | exact hS.alloc _ | exact (hS.alloc _).drew) (fun hS2 => ?_)
      clear hK K
      try simp only [List.setIfInBounds_toArray, List.set_cons_zero, List.set_cons_succ]
      exact G14 _ (by kernel_rfl) _ _ hS2 (zi0.below (below_alloc _ _)) (newK2 hS2) kd kl
    exact AllReadyH.nil
  refine region_keeps (w0 := w0) (L := [(pl, 0, .int .i64 a), (pl, 1, .int .i64 r), (pl, 2, .int .i64 n), (pl, 3, .int .i64 d), (rs, 0, .int .i64 0), (rs, 1, .int .u64 0), (ps, 0, .bool xs), (ps, 1, .slice As ns cs)]) (by kernel_rfl) hS (fun hS0 => ?_)
  refine wpAnyH_take (i := 0) (oi := ⟨some 60, _, _, _, _, _⟩) (v := ?_) rfl (by kernel_rfl) (by kernel_rfl) (by kernel_rfl) (fun c a w h => hQp c a _ _ w h) (Or.inl ⟨by rfl, ?_⟩) (by assumption) ?_
  rotate_left
  · intro wq hSw; obtain ⟨⟨qz0, qc0, qf0⟩, ⟨qz1, qc1, qf1⟩, ⟨qz2, qc2, qf2⟩, ⟨qz3, qc3, qf3⟩, ⟨qz4, qc4, qf4⟩, ⟨qz5, qc5, qf5⟩, ⟨qz6, qc6, qf6⟩, ⟨qz7, qc7, qf7⟩, _⟩ := hSw.2; go_simp; (try with_reducible rfl)
  try simp only [Act.put, List.setIfInBounds_toArray, List.set_cons_zero, List.set_cons_succ]
  refine wpAnyH_take (i := 1) (oi := ⟨some 61, _, _, _, _, _⟩) (v := ?_) rfl (by kernel_rfl) (by kernel_rfl) (by kernel_rfl) (fun c a w h => hQp c a _ _ w h) (Or.inl ⟨by rfl, ?_⟩) (by assumption) ?_
  rotate_left
  · intro wq hSw; go_simp; (try with_reducible rfl)
  try simp only [Act.put, List.setIfInBounds_toArray, List.set_cons_zero, List.set_cons_succ]
  refine wpAnyH_take (i := 3) (oi := ⟨some 63, _, _, _, _, _⟩) (v := ?_) rfl (by kernel_rfl) (by kernel_rfl) (by kernel_rfl) (fun c a w h => hQp c a _ _ w h) (Or.inl ⟨by rfl, ?_⟩) (by assumption) ?_
  rotate_left
  · intro wq hSw; go_simp; (try with_reducible rfl)
  try simp only [Act.put, List.setIfInBounds_toArray, List.set_cons_zero, List.set_cons_succ]
  refine wpAnyH_take (i := 4) (oi := ⟨some 64, _, _, _, _, _⟩) (v := ?_) rfl (by kernel_rfl) (by kernel_rfl) (by kernel_rfl) (fun c a w h => hQp c a _ _ w h) (Or.inl ⟨by rfl, ?_⟩) (by assumption) ?_
  rotate_left
  · intro wq hSw; obtain ⟨⟨qz0, qc0, qf0⟩, ⟨qz1, qc1, qf1⟩, ⟨qz2, qc2, qf2⟩, ⟨qz3, qc3, qf3⟩, ⟨qz4, qc4, qf4⟩, ⟨qz5, qc5, qf5⟩, ⟨qz6, qc6, qf6⟩, ⟨qz7, qc7, qf7⟩, _⟩ := hSw.2; go_simp; (try with_reducible rfl)
  try simp only [Act.put, List.setIfInBounds_toArray, List.set_cons_zero, List.set_cons_succ]
  exact G15 _ (by kernel_rfl) _ hS0 (hZ0.below (Below.refl _ _).drew)
end Go.Proofs.Ytnacdofidmgfmaa

/-
  Layer 6, the document's own answer to Line: what a line's values come to, one by one, or why they may not be asked for. Conditions: those written at each fact.
-/
namespace Go.Proofs.Ytnacdofidmgfmaa
open Go.RowKit

set_option maxRecDepth 100000 in
set_option maxHeartbeats 4000000 in
theorem refLine_wrong (a r n d f s k : Int) (h : lineB a r n d = false) (w : World) :
    Calls Try.prog 17 #[lnV a r n d, .int .i64 f, .int .i64 s, .int .i64 k] w (Ret w (.tuple #[wideV 0 0, .int .i64 150])) := by
  have RT := fun W => refRight_any a r n d W
  rw [h] at RT
  replace RT := Lib.hid RT
  clear h
  go_enter Try.func17, Try.ntmps17
  go_wp2_with fail
  refine (RT.out _).mono ?_
  rintro e w1 ⟨rfl, hb⟩
  have hHeld : Keeps w [(w.heap.size, 0, .int .i64 a), (w.heap.size, 1, .int .i64 r), (w.heap.size, 2, .int .i64 n), (w.heap.size, 3, .int .i64 d), (w.heap.size + 1, 0, .int .i64 0), (w.heap.size + 1, 1, .int .u64 0)] _ := Keeps.next (by refine ⟨by go_grown, ?_⟩; simp [Cells, go_sem]) hb
  clear hb
  obtain ⟨⟨kz0, kc0, kf0⟩, ⟨kz1, kc1, kf1⟩, ⟨kz2, kc2, kf2⟩, ⟨kz3, kc3, kf3⟩, ⟨kz4, kc4, kf4⟩, ⟨kz5, kc5, kf5⟩, _⟩ := hHeld.2
  go_wp2_with fail
  have hP := (hHeld.sub (L' := [(w.heap.size + 1, 0, .int .i64 0), (w.heap.size + 1, 1, .int .u64 0)]) (by simp)).put2 (by omega) (.int .i64 0) (.int .u64 0)
  have d0 := hP.2.1.2.1
  have d1 := hP.2.2.1.2.1
  refine bodyPost_ret (v := .tuple #[wideV 0 0, .int .i64 150]) (by simp [results, Try.results17, go_sem, d0, d1]) rfl ?_
  exact ⟨rfl, hP.1⟩
set_option maxRecDepth 100000 in
set_option maxHeartbeats 4000000 in
theorem refLine_arg (a r n d f s k : Int) (h : lineB a r n d = true) (hb : k < 0 ∨ 256 < k ∨ f < 0 ∨ 281474976710656 < f ∨ s < 0 ∨ 281474976710656 < s) (w : World) :
    Calls Try.prog 17 #[lnV a r n d, .int .i64 f, .int .i64 s, .int .i64 k] w (Ret w (.tuple #[wideV 0 0, .int .i64 2])) := by
  have RT := fun W => refRight_any a r n d W
  rw [h] at RT
  replace RT := Lib.hid RT
  clear h
  go_enter Try.func17, Try.ntmps17
  go_wp2_with fail
  refine (RT.out _).mono ?_
  rintro e w1 ⟨rfl, hb⟩
  have hHeld : Keeps w [(w.heap.size, 0, .int .i64 a), (w.heap.size, 1, .int .i64 r), (w.heap.size, 2, .int .i64 n), (w.heap.size, 3, .int .i64 d), (w.heap.size + 1, 0, .int .i64 0), (w.heap.size + 1, 1, .int .u64 0)] _ := Keeps.next (by refine ⟨by go_grown, ?_⟩; simp [Cells, go_sem]) hb
  clear hb
  obtain ⟨⟨kz0, kc0, kf0⟩, ⟨kz1, kc1, kf1⟩, ⟨kz2, kc2, kf2⟩, ⟨kz3, kc3, kf3⟩, ⟨kz4, kc4, kf4⟩, ⟨kz5, kc5, kf5⟩, _⟩ := hHeld.2
  replace hHeld := Lib.hid hHeld
  by_cases g0 : k < 0
  · have hHeld := hHeld.out
    obtain ⟨⟨kz0, kc0, kf0⟩, ⟨kz1, kc1, kf1⟩, ⟨kz2, kc2, kf2⟩, ⟨kz3, kc3, kf3⟩, ⟨kz4, kc4, kf4⟩, ⟨kz5, kc5, kf5⟩, _⟩ := hHeld.2
    clear hb
    go_wp2_with fail
    have hP := (hHeld.sub (L' := [(w.heap.size + 1, 0, .int .i64 0), (w.heap.size + 1, 1, .int .u64 0)]) (by simp)).put2 (by omega) (.int .i64 0) (.int .u64 0)
    have d0 := hP.2.1.2.1
    have d1 := hP.2.2.1.2.1
    refine bodyPost_ret (v := .tuple #[wideV 0 0, .int .i64 2]) (by simp [results, Try.results17, go_sem, d0, d1]) rfl ?_
    exact ⟨rfl, hP.1⟩
  · replace hb := hb.resolve_left g0
    by_cases g1 : 256 < k
    · have hHeld := hHeld.out
      obtain ⟨⟨kz0, kc0, kf0⟩, ⟨kz1, kc1, kf1⟩, ⟨kz2, kc2, kf2⟩, ⟨kz3, kc3, kf3⟩, ⟨kz4, kc4, kf4⟩, ⟨kz5, kc5, kf5⟩, _⟩ := hHeld.2
      clear hb
      go_wp2_with fail
      have hP := (hHeld.sub (L' := [(w.heap.size + 1, 0, .int .i64 0), (w.heap.size + 1, 1, .int .u64 0)]) (by simp)).put2 (by omega) (.int .i64 0) (.int .u64 0)
      have d0 := hP.2.1.2.1
      have d1 := hP.2.2.1.2.1
      refine bodyPost_ret (v := .tuple #[wideV 0 0, .int .i64 2]) (by simp [results, Try.results17, go_sem, d0, d1]) rfl ?_
      exact ⟨rfl, hP.1⟩
    · replace hb := hb.resolve_left g1
      by_cases g2 : f < 0
      · have hHeld := hHeld.out
        obtain ⟨⟨kz0, kc0, kf0⟩, ⟨kz1, kc1, kf1⟩, ⟨kz2, kc2, kf2⟩, ⟨kz3, kc3, kf3⟩, ⟨kz4, kc4, kf4⟩, ⟨kz5, kc5, kf5⟩, _⟩ := hHeld.2
        clear hb
        go_wp2_with fail
        have hP := (hHeld.sub (L' := [(w.heap.size + 1, 0, .int .i64 0), (w.heap.size + 1, 1, .int .u64 0)]) (by simp)).put2 (by omega) (.int .i64 0) (.int .u64 0)
        have d0 := hP.2.1.2.1
        have d1 := hP.2.2.1.2.1
        refine bodyPost_ret (v := .tuple #[wideV 0 0, .int .i64 2]) (by simp [results, Try.results17, go_sem, d0, d1]) rfl ?_
        exact ⟨rfl, hP.1⟩
      · replace hb := hb.resolve_left g2
        by_cases g3 : 281474976710656 < f
        · have hHeld := hHeld.out
          obtain ⟨⟨kz0, kc0, kf0⟩, ⟨kz1, kc1, kf1⟩, ⟨kz2, kc2, kf2⟩, ⟨kz3, kc3, kf3⟩, ⟨kz4, kc4, kf4⟩, ⟨kz5, kc5, kf5⟩, _⟩ := hHeld.2
          clear hb
          go_wp2_with fail
          have hP := (hHeld.sub (L' := [(w.heap.size + 1, 0, .int .i64 0), (w.heap.size + 1, 1, .int .u64 0)]) (by simp)).put2 (by omega) (.int .i64 0) (.int .u64 0)
          have d0 := hP.2.1.2.1
          have d1 := hP.2.2.1.2.1
          refine bodyPost_ret (v := .tuple #[wideV 0 0, .int .i64 2]) (by simp [results, Try.results17, go_sem, d0, d1]) rfl ?_
          exact ⟨rfl, hP.1⟩
        · replace hb := hb.resolve_left g3
          by_cases g4 : s < 0
          · have hHeld := hHeld.out
            obtain ⟨⟨kz0, kc0, kf0⟩, ⟨kz1, kc1, kf1⟩, ⟨kz2, kc2, kf2⟩, ⟨kz3, kc3, kf3⟩, ⟨kz4, kc4, kf4⟩, ⟨kz5, kc5, kf5⟩, _⟩ := hHeld.2
            clear hb
            go_wp2_with fail
            have hP := (hHeld.sub (L' := [(w.heap.size + 1, 0, .int .i64 0), (w.heap.size + 1, 1, .int .u64 0)]) (by simp)).put2 (by omega) (.int .i64 0) (.int .u64 0)
            have d0 := hP.2.1.2.1
            have d1 := hP.2.2.1.2.1
            refine bodyPost_ret (v := .tuple #[wideV 0 0, .int .i64 2]) (by simp [results, Try.results17, go_sem, d0, d1]) rfl ?_
            exact ⟨rfl, hP.1⟩
          · replace hb := hb.resolve_left g4
            have hHeld := hHeld.out
            obtain ⟨⟨kz0, kc0, kf0⟩, ⟨kz1, kc1, kf1⟩, ⟨kz2, kc2, kf2⟩, ⟨kz3, kc3, kf3⟩, ⟨kz4, kc4, kf4⟩, ⟨kz5, kc5, kf5⟩, _⟩ := hHeld.2
            go_wp2_with fail
            have hP := (hHeld.sub (L' := [(w.heap.size + 1, 0, .int .i64 0), (w.heap.size + 1, 1, .int .u64 0)]) (by simp)).put2 (by omega) (.int .i64 0) (.int .u64 0)
            have d0 := hP.2.1.2.1
            have d1 := hP.2.2.1.2.1
            refine bodyPost_ret (v := .tuple #[wideV 0 0, .int .i64 2]) (by simp [results, Try.results17, go_sem, d0, d1]) rfl ?_
            exact ⟨rfl, hP.1⟩
theorem fewer_next {N k : Nat} (gk : k < N) : N - (intOf (.int .i64 ((k : Int) + 1))).toNat < N - (intOf (.int .i64 (k : Int))).toNat := by
  simp [intOf]; omega
/-- The time that was last asked for, of k. -/
def stepT (f s : Int) (k : Nat) : Int := f + ((k - 1 : Nat) : Int) * s
theorem stepT_next (f s : Int) (k : Nat) : stepT f s (k + 1) = f + k * s := by unfold stepT; rw [Nat.add_sub_cancel]
theorem stepT_up (f s : Int) {k : Nat} (h : 0 < k) : f + k * s = stepT f s k + s := by
  obtain ⟨j, rfl⟩ : ∃ j, k = j + 1 := ⟨k - 1, by omega⟩
  rw [stepT_next, show (((j + 1 : Nat)) : Int) = (j : Int) + 1 by omega, Int.add_mul]
  omega
theorem exV_step (a r n d f s : Int) (k : Nat) : n * s * k + exV a r n d f = exV a r n d (f + k * s) := by
  unfold exV
  rw [Int.mul_add, Int.mul_assoc, Int.mul_comm s (k : Int)]
  omega
/-- What Line tells, as far as the times may be told. -/
theorem lw_told {a r n d f s : Int} {N : Nat} (hN : N ≤ 256) (h : lineB a r n d = true) (hf : timeB f = true) (hs : timeB s = true) :
    (stepT f s N ≤ 281474976710656 → lwE a r n d f s N = 0 ∧ lwQ a r n d f s N = floorS N (n * s) (exV a r n d f) d) ∧ (∀ k : Nat, k < N → 0 < k → 281474976710656 < f + k * s → lwE a r n d f s N = 2 ∧ lwQ a r n d f s N = 0) := by
  have bf := (timeB_iff f).1 hf
  have bs := (timeB_iff s).1 hs
  constructor
  · intro g
    have hw : walkB f s N = true := by
      refine (walkB_iff f s N).2 ⟨by omega, hf, hs, ?_⟩
      by_cases z : N = 0
      · left; omega
      · right
        unfold stepT at g
        have e : ((N - 1 : Nat) : Int) = (N : Int) - 1 := by omega
        rw [e] at g
        have m0 : 0 ≤ ((N : Int) - 1) * s := Int.mul_nonneg (by omega) bs.1
        exact (timeB_iff _).2 ⟨by omega, g⟩
    have e1 : lwE a r n d f s N = 0 := by unfold lwE; rw [if_pos h, if_pos hw]
    exact ⟨e1, by unfold lwQ; rw [if_pos e1, Int.toNat_natCast]⟩
  · intro k hk hk0 hx
    have hw : ¬ walkB f s N = true := by
      intro hw
      obtain ⟨_, _, _, h4⟩ := (walkB_iff f s N).1 hw
      rcases h4 with h4 | h4
      · omega
      · have := ((timeB_iff _).1 h4).2
        have m : (k : Int) * s ≤ ((N : Int) - 1) * s := Int.mul_le_mul_of_nonneg_right (by omega) bs.1
        omega
    have e1 : lwE a r n d f s N = 2 := by unfold lwE; rw [if_pos h, if_neg hw]
    exact ⟨e1, by unfold lwQ; rw [e1, if_neg (by omega)]⟩
set_option maxRecDepth 100000 in
set_option maxHeartbeats 8000000 in
theorem refLine_go (a r n d f s : Int) (N : Nat) (hN : N ≤ 256) (h : lineB a r n d = true) (hf : timeB f = true) (hs : timeB s = true) (w : World) :
    Calls Try.prog 17 #[lnV a r n d, .int .i64 f, .int .i64 s, .int .i64 N] w (Ret w (.tuple #[wideV (rhi (lwQ a r n d f s N)) (rlo (lwQ a r n d f s N)), .int .i64 (lwE a r n d f s N)])) := by
  have RT := fun W => refRight_any a r n d W
  rw [h] at RT
  replace RT := Lib.hid RT
  obtain ⟨TA, TB, _, _, _, _, _, _, d1, d2⟩ := line_terms h hf hs
  have bf := (timeB_iff f).1 hf
  have bs := (timeB_iff s).1 hs
  have sh : ∀ k : Nat, k ≤ 256 → Short (n * s) (exV a r n d f) d k := fun k hk => short hk TA TB d1 d2
  have ld : (sizeL d.natAbs).length ≤ 130 := fits_len (by unfold Fits; omega)
  have ID := Lib.hid (fun W => intZ_any d (by omega) (by omega) W)
  have TMA := Lib.hid (fun (t : Int) (h0 : 0 ≤ t) (h1 : t ≤ 281474976710656) W => refTimes_any a r n d t h ((timeB_iff t).2 ⟨h0, h1⟩) W)
  have DV := Lib.hid (fun (k : Nat) (hk : k < N) u u' W h h' => divD_any (n * s * k + exV a r n d f) d d1 (by have := (sh k (by omega)).x; omega) (by omega) u u' W h h')
  have AS := fun (k : Nat) (hk : k < N) u u' W h h' => addZ_any (floorS k (n * s) (exV a r n d f) d) ((n * s * k + exV a r n d f) / d) (by have := (sh k (by omega)).s; omega) (by have := (sh k (by omega)).q; omega) u u' W h h'
  have WI := fun u W h => wideZ_any (floorS N (n * s) (exV a r n d f) d) (by have := (sh N hN).s; omega) u W h
  obtain ⟨OK, NO⟩ := lw_told hN h hf hs
  replace NO := Lib.hid NO
  have EX := Lib.hid (fun k : Nat => exV_step a r n d f s k)
  obtain ⟨T, hT0⟩ : ∃ T : Nat → Int, ∀ k, floorS k (n * s) (exV a r n d f) d = T k := ⟨fun k => floorS k (n * s) (exV a r n d f) d, fun _ => rfl⟩
  have FN : ∀ k : Nat, T (k + 1) = T k + (n * s * k + exV a r n d f) / d := fun k => by rw [← hT0, ← hT0]; rfl
  have FZ : T 0 = 0 := by rw [← hT0]; rfl
  rw [hT0] at OK WI
  simp only [hT0] at AS
  replace AS := Lib.hid AS
  replace WI := Lib.hid WI
  replace OK := Lib.hid OK
  replace FN := Lib.hid FN
  replace FZ := Lib.hid FZ
  clear hT0
  have ST := Lib.hid (fun (k : Nat) (hk : 0 < k) => stepT_up f s hk)
  have SN := Lib.hid (fun (k : Nat) => stepT_next f s k)
  have S0 := Lib.hid (show stepT f s 0 = f by unfold stepT; simp)
  have hN' := Lib.hid hN
  have hf0 : ¬ f < 0 := by omega
  have hf1 : ¬ 281474976710656 < f := by omega
  have hs0 : ¬ s < 0 := by omega
  have hs1 : ¬ 281474976710656 < s := by omega
  have hk0 : ¬ (N : Int) < 0 := by omega
  have hk1 : ¬ 256 < (N : Int) := by omega
  have BB := Lib.hid (show 0 ≤ s ∧ s ≤ 281474976710656 ∧ 0 ≤ f ∧ f ≤ 281474976710656 from ⟨bs.1, bs.2, bf.1, bf.2⟩)
  clear sh ld TA TB d1 d2 h hf hs bf bs hN
  generalize lwE a r n d f s N = E at *
  generalize lwQ a r n d f s N = QQ at *
  generalize exV a r n d f = X0 at *
  generalize n * s = A0 at *
  go_enter Try.func17, Try.ntmps17
  go_wp2_with fail
  refine (RT.out _).mono ?_
  rintro e w1 ⟨rfl, hb⟩
  have hHeld : Keeps w [(w.heap.size, 0, .int .i64 a), (w.heap.size, 1, .int .i64 r), (w.heap.size, 2, .int .i64 n), (w.heap.size, 3, .int .i64 d), (w.heap.size + 1, 0, .int .i64 0), (w.heap.size + 1, 1, .int .u64 0)] _ := Keeps.next (by refine ⟨by go_grown, ?_⟩; simp [Cells, go_sem]) hb
  clear hb
  obtain ⟨⟨kz0, kc0, kf0⟩, ⟨kz1, kc1, kf1⟩, ⟨kz2, kc2, kf2⟩, ⟨kz3, kc3, kf3⟩, ⟨kz4, kc4, kf4⟩, ⟨kz5, kc5, kf5⟩, _⟩ := hHeld.2
  go_wp2_with fail
  clear hf0 hf1 hs0 hs1 hk0 hk1 RT
  have hT := (hHeld.alloc (.cells #[.bool false, .slice none 0 0] 68)).app (newK2 (hHeld.alloc (.cells #[.bool false, .slice none 0 0] 68)))
  have hz := hHeld.1.size
  obtain ⟨pl, epl⟩ : ∃ p, p = w.heap.size := ⟨_, rfl⟩
  obtain ⟨rs, ers⟩ : ∃ p, p = w.heap.size + 1 := ⟨_, rfl⟩
  obtain ⟨ps, eps⟩ : ∃ p, p = w1.heap.size := ⟨_, rfl⟩
  have NE : Hid (pl ≠ ps ∧ rs ≠ ps ∧ w.heap.size ≤ ps ∧ w.heap.size ≤ rs) := Lib.hid ⟨by omega, by omega, by omega, by omega⟩
  rw [← ers, ← epl, ← eps] at hT
  rw [← ers, ← epl, ← eps]
  clear epl ers eps hHeld hz
  (try clear hHeld0); (try clear hHeld1); (try clear hHeld2); (try clear hHeld3); (try clear hHeld4); (try clear hHeld5); (try clear hHeld6); (try clear hHeld7); (try clear hHeld8); (try clear hHeld9); (try clear hHeld10); (try clear hHeld11); (try clear hHeld12); (try clear hHeld13); (try clear hT0); (try clear kz0 kc0 kf0); (try clear kz1 kc1 kf1); (try clear kz2 kc2 kf2); (try clear kz3 kc3 kf3); (try clear kz4 kc4 kf4); (try clear kz5 kc5 kf5); (try clear kz6 kc6 kf6); (try clear kz7 kc7 kf7); (try clear kz8 kc8 kf8); (try clear kz9 kc9 kf9); (try clear kz10 kc10 kf10); (try clear kz11 kc11 kf11); (try clear kz12 kc12 kf12); (try clear kz13 kc13 kf13); (try clear t0z0 t0c0 t0f0); (try clear t0z1 t0c1 t0f1)
  replace hT : Keeps w [(pl, 0, .int .i64 a), (pl, 1, .int .i64 r), (pl, 2, .int .i64 n), (pl, 3, .int .i64 d), (rs, 0, .int .i64 0), (rs, 1, .int .u64 0), (ps, 0, .bool false), (ps, 1, .slice none 0 0)] _ := hT.sub (by simp)
  generalize w1.alloc (.cells #[.bool false, .slice none 0 0] 68) = V at *
  go_loopw [11, 48] (fun v i wr => ∃ (k : Nat) (t : Int) (xs : Bool) (As : Option Addr) (ns cs : Nat), i = .int .i64 k ∧ v = .int .i64 t ∧ k ≤ N ∧ Hid (t = stepT f s k ∧ 0 ≤ t ∧ t ≤ 281474976710656) ∧ Keeps w [(pl, 0, .int .i64 a), (pl, 1, .int .i64 r), (pl, 2, .int .i64 n), (pl, 3, .int .i64 d), (rs, 0, .int .i64 0), (rs, 1, .int .u64 0), (ps, 0, .bool xs), (ps, 1, .slice As ns cs)] wr ∧ Hid (NumZ wr (.agg #[.bool xs, .slice As ns cs]) (T k))) (fun _ i _ => N - (intOf i).toNat)
  case atStart => exact ⟨0, f, false, none, 0, 0, rfl, rfl, by omega, Lib.hid ⟨S0.out.symm, BB.out.2.2.1, BB.out.2.2.2⟩, hT, Lib.hid (by rw [FZ.out]; exact numZ_zero _)⟩
  case round =>
    obtain ⟨k, t, xs, As, ns, cs, rfl, rfl, hk, TT, hHeld, zs⟩ := hrel
    clear hT
    by_cases gk : k < N
    · have wk : wrap64 ((k : Int) + 1) = (k : Int) + 1 := by have := hN'.out; unfold wrap64; omega
      have i1 : (k : Int) < (N : Int) := by omega
      have DVk := Lib.hid (DV.out k gk)
      have AD := Lib.hid (AS.out k gk)
      have F1 := Lib.hid (FN.out k)
      have EXk := EX.out k
      obtain ⟨t1, t2, t3⟩ := TT.out
      obtain ⟨b1, b2, b3, b4⟩ := BB.out
      by_cases k0 : k = 0
      · have i2 : ¬ (0 : Int) < (k : Int) := by omega
        have i3 : ¬ 281474976710656 < t := by omega
        have et : t = f + k * s := by rw [t1, k0, S0.out]; simp
        have TM := TMA.out t t2 t3
        rw [et, ← EXk] at TM
        rw [← et] at TM
        replace TM := Lib.hid TM
        have TN := Lib.hid (show t = stepT f s (k + 1) ∧ 0 ≤ t ∧ t ≤ 281474976710656 from ⟨by rw [SN.out, et], t2, t3⟩)
        clear et EXk t1 t2 t3 b1 b2 b3 b4 k0 TT
        generalize (A0 * (k : Int) + X0) / d = zq at *
        generalize (A0 * (k : Int) + X0) % d = zr at *
        generalize A0 * (k : Int) + X0 = X at *
        generalize T k = T0 at *
        obtain ⟨at', hat⟩ : ∃ z, z = t := ⟨_, rfl⟩
        rw [← hat] at TN TM i3
        obtain ⟨⟨kz0, kc0, kf0⟩, ⟨kz1, kc1, kf1⟩, ⟨kz2, kc2, kf2⟩, ⟨kz3, kc3, kf3⟩, ⟨kz4, kc4, kf4⟩, ⟨kz5, kc5, kf5⟩, ⟨kz6, kc6, kf6⟩, ⟨kz7, kc7, kf7⟩, _⟩ := hHeld.2
        go_wp2_with fail
        rw [← hat]
        clear hat
        refine dpLine (fun c a d v w h => by cases d <;> exact h) w pl rs ps a r n d at' X zq zr T0 xs As ns cs TM ID DVk _ hHeld zs.out ?_
        intro W' x2 A2 n2 c2 x5 A5 n5 c5 x6 A6 n6 c6 x7 A7 n7 c7 p10 p11 hL k10 d10 l10 k11 d11 l11 e1 y0 y2 y5 y6 y7
        clear hHeld k11 d11 l11 e1 y2 y5 y7 d10 l10 zs
        (try clear hHeld0); (try clear hHeld1); (try clear hHeld2); (try clear hHeld3); (try clear hHeld4); (try clear hHeld5); (try clear hHeld6); (try clear hHeld7); (try clear hHeld8); (try clear hHeld9); (try clear hHeld10); (try clear hHeld11); (try clear hHeld12); (try clear hHeld13); (try clear hT0); (try clear kz0 kc0 kf0); (try clear kz1 kc1 kf1); (try clear kz2 kc2 kf2); (try clear kz3 kc3 kf3); (try clear kz4 kc4 kf4); (try clear kz5 kc5 kf5); (try clear kz6 kc6 kf6); (try clear kz7 kc7 kf7); (try clear kz8 kc8 kf8); (try clear kz9 kc9 kf9); (try clear kz10 kc10 kf10); (try clear kz11 kc11 kf11); (try clear kz12 kc12 kf12); (try clear kz13 kc13 kf13); (try clear t0z0 t0c0 t0f0); (try clear t0z1 t0c1 t0f1)
        replace y0 := Lib.hid y0
        replace y6 := Lib.hid y6
        have hF := hL.app k10
        clear k10
        obtain ⟨⟨kz0, kc0, kf0⟩, ⟨kz1, kc1, kf1⟩, ⟨kz2, kc2, kf2⟩, ⟨kz3, kc3, kf3⟩, ⟨kz4, kc4, kf4⟩, ⟨kz5, kc5, kf5⟩, ⟨kz6, kc6, kf6⟩, ⟨kz7, kc7, kf7⟩, ⟨kz8, kc8, kf8⟩, ⟨kz9, kc9, kf9⟩, _⟩ := hF.2
        go_wp2_with fail
        refine (AD.out _ _ _ y0.out y6.out).mono ?_
        rintro e w9 ⟨xn, An, nn, cn, rfl, hb, yn⟩
        replace hL := hL.next hb
        replace yn := Lib.hid yn
        clear hb y0 y6 hF
        (try clear hHeld0); (try clear hHeld1); (try clear hHeld2); (try clear hHeld3); (try clear hHeld4); (try clear hHeld5); (try clear hHeld6); (try clear hHeld7); (try clear hHeld8); (try clear hHeld9); (try clear hHeld10); (try clear hHeld11); (try clear hHeld12); (try clear hHeld13); (try clear hT0); (try clear kz0 kc0 kf0); (try clear kz1 kc1 kf1); (try clear kz2 kc2 kf2); (try clear kz3 kc3 kf3); (try clear kz4 kc4 kf4); (try clear kz5 kc5 kf5); (try clear kz6 kc6 kf6); (try clear kz7 kc7 kf7); (try clear kz8 kc8 kf8); (try clear kz9 kc9 kf9); (try clear kz10 kc10 kf10); (try clear kz11 kc11 kf11); (try clear kz12 kc12 kf12); (try clear kz13 kc13 kf13); (try clear t0z0 t0c0 t0f0); (try clear t0z1 t0c1 t0f1)
        obtain ⟨⟨kz0, kc0, kf0⟩, ⟨kz1, kc1, kf1⟩, ⟨kz2, kc2, kf2⟩, ⟨kz3, kc3, kf3⟩, ⟨kz4, kc4, kf4⟩, ⟨kz5, kc5, kf5⟩, ⟨kz6, kc6, kf6⟩, ⟨kz7, kc7, kf7⟩, _⟩ := hL.2
        obtain ⟨f1, f2, f3, f4⟩ := NE.out
        have g1 : Keeps w [(pl, 0, .int .i64 a), (pl, 1, .int .i64 r), (pl, 2, .int .i64 n), (pl, 3, .int .i64 d), (rs, 0, .int .i64 0), (rs, 1, .int .u64 0), (ps, 0, .bool xn), (ps, 1, .slice As ns cs)] _ := hL.put (B := ps) (o := 0) (a := .bool xs) (u := .bool xn) f3 (by simp) (by simp [f1, f2])
        have g2 : Keeps w [(pl, 0, .int .i64 a), (pl, 1, .int .i64 r), (pl, 2, .int .i64 n), (pl, 3, .int .i64 d), (rs, 0, .int .i64 0), (rs, 1, .int .u64 0), (ps, 0, .bool xn), (ps, 1, .slice An nn cn)] _ := g1.put (B := ps) (o := 1) (a := .slice As ns cs) (u := .slice An nn cn) f3 (by simp) (by simp [f1, f2])
        have r1 := yn.out.set2 kc6 kc7 (.bool xn) (.slice An nn cn)
        replace r1 := Lib.hid r1
        clear g1 f1 f2 f3 f4 yn hL
        go_wp2_with fail
        go_roundw
        case rel => exact ⟨k + 1, at', xn, An, nn, cn, by first | rfl | (simp; done) | simp [wk], rfl, by omega, TN, g2, Lib.hid (by rw [F1.out]; exact r1.out)⟩
        case measure => first | exact fewer_next gk | exact fewer_left wk gk
      · have i2 : (0 : Int) < (k : Int) := by omega
        have et : f + k * s = t + s := by rw [t1]; exact ST.out k (by omega)
        have W2 : IntKind.i64.wrap (t + s) = t + s := by rw [IntKind.wrap_i64]; omega
        have W3 : wrap64 (t + s) = t + s := by unfold wrap64; omega
        by_cases g : 281474976710656 < t + s
        · obtain ⟨rfl, rfl⟩ := NO.out k gk (by omega) (by rw [et]; exact g)
          clear et EXk t1 t2 t3 b1 b2 b3 b4 k0 TT DVk AD F1 zs
          obtain ⟨⟨kz0, kc0, kf0⟩, ⟨kz1, kc1, kf1⟩, ⟨kz2, kc2, kf2⟩, ⟨kz3, kc3, kf3⟩, ⟨kz4, kc4, kf4⟩, ⟨kz5, kc5, kf5⟩, ⟨kz6, kc6, kf6⟩, ⟨kz7, kc7, kf7⟩, _⟩ := hHeld.2
          obtain ⟨f1, f2, f3, f4⟩ := NE.out
          go_wp2_with fail
          have hP := (hHeld.sub (L' := [(rs, 0, .int .i64 0), (rs, 1, .int .u64 0)]) (by simp)).put2 f4 (.int .i64 0) (.int .u64 0)
          have d0 := hP.2.1.2.1
          have d1 := hP.2.2.1.2.1
          refine bodyPost_ret (v := .tuple #[wideV 0 0, .int .i64 2]) (by simp [results, Try.results17, go_sem, d0, d1]) rfl ?_
          exact ⟨by rw [zero_words.1, zero_words.2], hP.1⟩
        · have TM := TMA.out (t + s) (by omega) (by omega)
          rw [← et, ← EXk, et] at TM
          replace TM := Lib.hid TM
          have TN := Lib.hid (show t + s = stepT f s (k + 1) ∧ 0 ≤ t + s ∧ t + s ≤ 281474976710656 from ⟨by rw [SN.out, et], by omega, by omega⟩)
          clear et EXk t1 t2 t3 b1 b2 b3 b4 k0 TT
          generalize (A0 * (k : Int) + X0) / d = zq at *
          generalize (A0 * (k : Int) + X0) % d = zr at *
          generalize A0 * (k : Int) + X0 = X at *
          generalize T k = T0 at *
          obtain ⟨at', hat⟩ : ∃ z, z = t + s := ⟨_, rfl⟩
          rw [← hat] at TN TM
          replace W2 : IntKind.i64.wrap (t + s) = at' := by rw [W2, hat]
          replace W3 : wrap64 (t + s) = at' := by rw [W3, hat]
          replace g : ¬ 281474976710656 < at' := by rw [hat]; exact g
          clear hat
          obtain ⟨⟨kz0, kc0, kf0⟩, ⟨kz1, kc1, kf1⟩, ⟨kz2, kc2, kf2⟩, ⟨kz3, kc3, kf3⟩, ⟨kz4, kc4, kf4⟩, ⟨kz5, kc5, kf5⟩, ⟨kz6, kc6, kf6⟩, ⟨kz7, kc7, kf7⟩, _⟩ := hHeld.2
          go_wp2_with fail
          refine dpLine (fun c a d v w h => by cases d <;> exact h) w pl rs ps a r n d at' X zq zr T0 xs As ns cs TM ID DVk _ hHeld zs.out ?_
          intro W' x2 A2 n2 c2 x5 A5 n5 c5 x6 A6 n6 c6 x7 A7 n7 c7 p10 p11 hL k10 d10 l10 k11 d11 l11 e1 y0 y2 y5 y6 y7
          clear hHeld k11 d11 l11 e1 y2 y5 y7 d10 l10 zs
          (try clear hHeld0); (try clear hHeld1); (try clear hHeld2); (try clear hHeld3); (try clear hHeld4); (try clear hHeld5); (try clear hHeld6); (try clear hHeld7); (try clear hHeld8); (try clear hHeld9); (try clear hHeld10); (try clear hHeld11); (try clear hHeld12); (try clear hHeld13); (try clear hT0); (try clear kz0 kc0 kf0); (try clear kz1 kc1 kf1); (try clear kz2 kc2 kf2); (try clear kz3 kc3 kf3); (try clear kz4 kc4 kf4); (try clear kz5 kc5 kf5); (try clear kz6 kc6 kf6); (try clear kz7 kc7 kf7); (try clear kz8 kc8 kf8); (try clear kz9 kc9 kf9); (try clear kz10 kc10 kf10); (try clear kz11 kc11 kf11); (try clear kz12 kc12 kf12); (try clear kz13 kc13 kf13); (try clear t0z0 t0c0 t0f0); (try clear t0z1 t0c1 t0f1)
          replace y0 := Lib.hid y0
          replace y6 := Lib.hid y6
          have hF := hL.app k10
          clear k10
          obtain ⟨⟨kz0, kc0, kf0⟩, ⟨kz1, kc1, kf1⟩, ⟨kz2, kc2, kf2⟩, ⟨kz3, kc3, kf3⟩, ⟨kz4, kc4, kf4⟩, ⟨kz5, kc5, kf5⟩, ⟨kz6, kc6, kf6⟩, ⟨kz7, kc7, kf7⟩, ⟨kz8, kc8, kf8⟩, ⟨kz9, kc9, kf9⟩, _⟩ := hF.2
          go_wp2_with fail
          refine (AD.out _ _ _ y0.out y6.out).mono ?_
          rintro e w9 ⟨xn, An, nn, cn, rfl, hb, yn⟩
          replace hL := hL.next hb
          replace yn := Lib.hid yn
          clear hb y0 y6 hF
          (try clear hHeld0); (try clear hHeld1); (try clear hHeld2); (try clear hHeld3); (try clear hHeld4); (try clear hHeld5); (try clear hHeld6); (try clear hHeld7); (try clear hHeld8); (try clear hHeld9); (try clear hHeld10); (try clear hHeld11); (try clear hHeld12); (try clear hHeld13); (try clear hT0); (try clear kz0 kc0 kf0); (try clear kz1 kc1 kf1); (try clear kz2 kc2 kf2); (try clear kz3 kc3 kf3); (try clear kz4 kc4 kf4); (try clear kz5 kc5 kf5); (try clear kz6 kc6 kf6); (try clear kz7 kc7 kf7); (try clear kz8 kc8 kf8); (try clear kz9 kc9 kf9); (try clear kz10 kc10 kf10); (try clear kz11 kc11 kf11); (try clear kz12 kc12 kf12); (try clear kz13 kc13 kf13); (try clear t0z0 t0c0 t0f0); (try clear t0z1 t0c1 t0f1)
          obtain ⟨⟨kz0, kc0, kf0⟩, ⟨kz1, kc1, kf1⟩, ⟨kz2, kc2, kf2⟩, ⟨kz3, kc3, kf3⟩, ⟨kz4, kc4, kf4⟩, ⟨kz5, kc5, kf5⟩, ⟨kz6, kc6, kf6⟩, ⟨kz7, kc7, kf7⟩, _⟩ := hL.2
          obtain ⟨f1, f2, f3, f4⟩ := NE.out
          have g1 : Keeps w [(pl, 0, .int .i64 a), (pl, 1, .int .i64 r), (pl, 2, .int .i64 n), (pl, 3, .int .i64 d), (rs, 0, .int .i64 0), (rs, 1, .int .u64 0), (ps, 0, .bool xn), (ps, 1, .slice As ns cs)] _ := hL.put (B := ps) (o := 0) (a := .bool xs) (u := .bool xn) f3 (by simp) (by simp [f1, f2])
          have g2 : Keeps w [(pl, 0, .int .i64 a), (pl, 1, .int .i64 r), (pl, 2, .int .i64 n), (pl, 3, .int .i64 d), (rs, 0, .int .i64 0), (rs, 1, .int .u64 0), (ps, 0, .bool xn), (ps, 1, .slice An nn cn)] _ := g1.put (B := ps) (o := 1) (a := .slice As ns cs) (u := .slice An nn cn) f3 (by simp) (by simp [f1, f2])
          have r1 := yn.out.set2 kc6 kc7 (.bool xn) (.slice An nn cn)
          replace r1 := Lib.hid r1
          clear g1 f1 f2 f3 f4 yn hL
          go_wp2_with fail
          go_roundw
          case rel => exact ⟨k + 1, at', xn, An, nn, cn, by first | rfl | (simp; done) | simp [wk], rfl, by omega, TN, g2, Lib.hid (by rw [F1.out]; exact r1.out)⟩
          case measure => first | exact fewer_next gk | exact fewer_left wk gk
    · obtain rfl : k = N := by omega
      have i1 : ¬ (k : Int) < (k : Int) := by omega
      obtain ⟨rfl, rfl⟩ := OK.out (by have := TT.out; omega)
      clear TT
      obtain ⟨⟨kz0, kc0, kf0⟩, ⟨kz1, kc1, kf1⟩, ⟨kz2, kc2, kf2⟩, ⟨kz3, kc3, kf3⟩, ⟨kz4, kc4, kf4⟩, ⟨kz5, kc5, kf5⟩, ⟨kz6, kc6, kf6⟩, ⟨kz7, kc7, kf7⟩, _⟩ := hHeld.2
      go_wp2_with fail
      refine (WI.out _ _ zs.out).mono ?_
      rintro e wf ⟨rfl, hb⟩
      replace hHeld := hHeld.next hb
      clear hb zs
      (try clear hHeld0); (try clear hHeld1); (try clear hHeld2); (try clear hHeld3); (try clear hHeld4); (try clear hHeld5); (try clear hHeld6); (try clear hHeld7); (try clear hHeld8); (try clear hHeld9); (try clear hHeld10); (try clear hHeld11); (try clear hHeld12); (try clear hHeld13); (try clear hT0); (try clear kz0 kc0 kf0); (try clear kz1 kc1 kf1); (try clear kz2 kc2 kf2); (try clear kz3 kc3 kf3); (try clear kz4 kc4 kf4); (try clear kz5 kc5 kf5); (try clear kz6 kc6 kf6); (try clear kz7 kc7 kf7); (try clear kz8 kc8 kf8); (try clear kz9 kc9 kf9); (try clear kz10 kc10 kf10); (try clear kz11 kc11 kf11); (try clear kz12 kc12 kf12); (try clear kz13 kc13 kf13); (try clear t0z0 t0c0 t0f0); (try clear t0z1 t0c1 t0f1)
      obtain ⟨⟨kz0, kc0, kf0⟩, ⟨kz1, kc1, kf1⟩, ⟨kz2, kc2, kf2⟩, ⟨kz3, kc3, kf3⟩, ⟨kz4, kc4, kf4⟩, ⟨kz5, kc5, kf5⟩, ⟨kz6, kc6, kf6⟩, ⟨kz7, kc7, kf7⟩, _⟩ := hHeld.2
      obtain ⟨f1, f2, f3, f4⟩ := NE.out
      generalize T k = QQ at *
      go_wp2_with fail
      have hP := ((hHeld.sub (L' := [(rs, 0, .int .i64 0), (rs, 1, .int .u64 0)]) (by simp)).put2 f4 (.int .i64 (rhi QQ)) (.int .u64 (rlo QQ))).alloc (.cells #[.int .i64 (rhi QQ), .int .u64 (rlo QQ)] 24)
      have d0 := hP.2.1.2.1
      have d1 := hP.2.2.1.2.1
      refine bodyPost_ret (v := .tuple #[wideV (rhi QQ) (rlo QQ), .int .i64 0]) (by simp [results, Try.results17, go_sem, d0, d1]) rfl ?_
      exact ⟨rfl, hP.1⟩
theorem refLine_any (a r n d f s k : Int) (w : World) :
    Calls Try.prog 17 #[lnV a r n d, .int .i64 f, .int .i64 s, .int .i64 k] w (Ret w (.tuple #[wideV (rhi (lwQ a r n d f s k)) (rlo (lwQ a r n d f s k)), .int .i64 (lwE a r n d f s k)])) := by
  cases h : lineB a r n d
  · have e1 : lwE a r n d f s k = 150 := by unfold lwE; rw [if_neg (by rw [h]; simp)]
    have e2 : lwQ a r n d f s k = 0 := by unfold lwQ; rw [e1, if_neg (by omega)]
    rw [e1, e2, zero_words.1, zero_words.2]
    exact refLine_wrong a r n d f s k h w
  · by_cases hb : k < 0 ∨ 256 < k ∨ f < 0 ∨ 281474976710656 < f ∨ s < 0 ∨ 281474976710656 < s
    · have e1 : lwE a r n d f s k = 2 := by
        unfold lwE
        rw [if_pos h, if_neg]
        intro hw
        obtain ⟨_, h2, h3, _⟩ := (walkB_iff f s k).1 hw
        have := (timeB_iff f).1 h2
        have := (timeB_iff s).1 h3
        omega
      have e2 : lwQ a r n d f s k = 0 := by unfold lwQ; rw [e1, if_neg (by omega)]
      rw [e1, e2, zero_words.1, zero_words.2]
      exact refLine_arg a r n d f s k h hb w
    · obtain ⟨N, rfl⟩ := Int.eq_ofNat_of_zero_le (show 0 ≤ k by omega)
      exact refLine_go a r n d f s N (by omega) h ((timeB_iff f).2 (by omega)) ((timeB_iff s).2 (by omega)) w
end Go.Proofs.Ytnacdofidmgfmaa

namespace Go.Proofs.Ytnacdofidmgfmaa
open Go.RowKit

set_option maxRecDepth 100000 in
set_option maxHeartbeats 4000000 in
theorem lines6_any (a r n d f s k : Int) (w : World) : Calls Try.prog 4 #[lnV a r n d, .agg #[.int .i64 f, .int .i64 s, .int .i64 k]] w (Ret w (.bool true)) := by
  have WK := Lib.hid (fun W => wakes6_any W)
  have S1 := fun W => line6_any a r n d f s k W
  have S2 := fun W => refLine_any a r n d f s k W
  generalize lwQ a r n d f s k = T at *
  generalize lwE a r n d f s k = E at *
  generalize rhi T = T0 at *
  generalize rlo T = T1 at *
  replace S1 := Lib.hid S1
  replace S2 := Lib.hid S2
  go_enter Try.func4, Try.ntmps4
  go_wp2_with fail
  refine (WK.out _).mono ?_
  rintro e w1 ⟨rfl, hb⟩
  have hHeld : Keeps w [(w.heap.size, 0, .int .i64 a), (w.heap.size, 1, .int .i64 r), (w.heap.size, 2, .int .i64 n), (w.heap.size, 3, .int .i64 d), (w.heap.size + 1, 0, .int .i64 f), (w.heap.size + 1, 1, .int .i64 s), (w.heap.size + 1, 2, .int .i64 k)] _ := Keeps.next (by refine ⟨by go_grown, ?_⟩; simp [Cells, go_sem]) hb
  clear hb
  obtain ⟨⟨kz0, kc0, kf0⟩, ⟨kz1, kc1, kf1⟩, ⟨kz2, kc2, kf2⟩, ⟨kz3, kc3, kf3⟩, ⟨kz4, kc4, kf4⟩, ⟨kz5, kc5, kf5⟩, ⟨kz6, kc6, kf6⟩, _⟩ := hHeld.2
  go_wp2_with fail
  refine (S1.out _).mono ?_
  rintro e w2 ⟨rfl, hb⟩
  replace hHeld := hHeld.next hb
  clear hb
  (try clear hHeld0); (try clear hHeld1); (try clear hHeld2); (try clear hHeld3); (try clear hHeld4); (try clear hHeld5); (try clear hHeld6); (try clear hHeld7); (try clear hHeld8); (try clear hHeld9); (try clear hHeld10); (try clear hHeld11); (try clear hHeld12); (try clear hHeld13); (try clear hT0); (try clear kz0 kc0 kf0); (try clear kz1 kc1 kf1); (try clear kz2 kc2 kf2); (try clear kz3 kc3 kf3); (try clear kz4 kc4 kf4); (try clear kz5 kc5 kf5); (try clear kz6 kc6 kf6); (try clear kz7 kc7 kf7); (try clear kz8 kc8 kf8); (try clear kz9 kc9 kf9); (try clear kz10 kc10 kf10); (try clear kz11 kc11 kf11); (try clear kz12 kc12 kf12); (try clear kz13 kc13 kf13); (try clear t0z0 t0c0 t0f0); (try clear t0z1 t0c1 t0f1)
  obtain ⟨⟨kz0, kc0, kf0⟩, ⟨kz1, kc1, kf1⟩, ⟨kz2, kc2, kf2⟩, ⟨kz3, kc3, kf3⟩, ⟨kz4, kc4, kf4⟩, ⟨kz5, kc5, kf5⟩, ⟨kz6, kc6, kf6⟩, _⟩ := hHeld.2
  go_wp2_with fail
  refine (S2.out _).mono ?_
  rintro e w3 ⟨rfl, hb⟩
  have hS := ((newK2 (hHeld.alloc _)).app (hHeld.alloc _)).next hb
  clear hb hHeld
  (try clear hHeld0); (try clear hHeld1); (try clear hHeld2); (try clear hHeld3); (try clear hHeld4); (try clear hHeld5); (try clear hHeld6); (try clear hHeld7); (try clear hHeld8); (try clear hHeld9); (try clear hHeld10); (try clear hHeld11); (try clear hHeld12); (try clear hHeld13); (try clear hT0); (try clear kz0 kc0 kf0); (try clear kz1 kc1 kf1); (try clear kz2 kc2 kf2); (try clear kz3 kc3 kf3); (try clear kz4 kc4 kf4); (try clear kz5 kc5 kf5); (try clear kz6 kc6 kf6); (try clear kz7 kc7 kf7); (try clear kz8 kc8 kf8); (try clear kz9 kc9 kf9); (try clear kz10 kc10 kf10); (try clear kz11 kc11 kf11); (try clear kz12 kc12 kf12); (try clear kz13 kc13 kf13); (try clear t0z0 t0c0 t0f0); (try clear t0z1 t0c1 t0f1)
  obtain ⟨⟨kz0, kc0, kf0⟩, ⟨kz1, kc1, kf1⟩, ⟨kz2, kc2, kf2⟩, ⟨kz3, kc3, kf3⟩, ⟨kz4, kc4, kf4⟩, ⟨kz5, kc5, kf5⟩, ⟨kz6, kc6, kf6⟩, ⟨kz7, kc7, kf7⟩, ⟨kz8, kc8, kf8⟩, _⟩ := hS.2
  go_wp2_with fail
  go_ret
  exact ⟨by simp, by have h1 := hS.1; go_grown⟩
end Go.Proofs.Ytnacdofidmgfmaa
