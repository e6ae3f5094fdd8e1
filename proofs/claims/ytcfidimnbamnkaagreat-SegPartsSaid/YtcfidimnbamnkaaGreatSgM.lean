/-
 Layer 11: what a segment's values at some times come to (Part). Conditions: those written at each fact.
-/
import Derived.Test.YtcfidimnbamnkaaGreatSgJ
import Derived.Test.YtcfidimnbamnkaaGreatSgK
namespace Go.Proofs.YtcfidimnbamnkaaGreat.P11
open Go.RowKit Go.Shelf Go.Proofs.YtcfidimnbamnkaaGreat.P7

attribute [local go_sem] fieldK0 fieldK1 fieldK2
theorem part_cells (l : List Int) : partL l = .agg #[.int .i64 (l.length : Int), .int .i64 (minL l), .int .i64 (maxL l), .int .i64 (rhi (sumL l)), .int .u64 (rlo (sumL l))] := rfl
theorem partK_any (s : Sg) (hs : segB s = true) (i j : Nat) (hij : i < j) (hj : j ≤ (timesR s.R).length) (v u : Value) (w : World) (h : ReadsR w v s.R) (hu : Reads .i64 w u s.V) :
  Calls Tryz.prog (partFn s.k) #[sgV s.k v s.a s.r s.n s.d u s.e, .int .i64 i, .int .i64 j] w (Ret w (partL (cutL (vals s) i j))) := by
 have hok := ((segB_iff s).1 hs).1
 have hT := times_ok hok
 have hvl := vals_length hs
 have hmj : wrap64 ((j : Int) - (i : Int)) = ((j - i : Nat) : Int) := by have := hT.few; rw [i64_keeps (by omega) (by omega)]; omega
 have hmj2 : IntKind.i64.wrap ((j : Int) - (i : Int)) = ((j - i : Nat) : Int) := by have := hT.few; rw [iwrap (by omega) (by omega)]; omega
 have hlen := cutL_length (l := vals s) (i := i) (j := j) (by omega)
 have hR1 : s.R.length ≤ 1000000 := by have := hT.runs; omega
 rcases segB_kind hs with ⟨hk, _, hv⟩ | ⟨hk, hk4, hlo, _⟩
 ·have e : partFn s.k = 178 := by unfold partFn; rw [if_pos hk]
  rw [e, hv]
  rw [hv] at hvl
  refine rawPart_any s.k s.a s.r s.n s.d s.e i j s.V hij (by omega) (by have := hT.few; omega) ?_ v u w hu
  have := ((segB_iff s).1 hs).2.2.2.2
  rwa [hv] at this
 ·obtain ⟨_, hl, hkl⟩ := (lineOk_iff s).1 hlo
  obtain ⟨_, _, hla, _⟩ := (lineB_iff _ _ _ _).1 hl
  have hba := (backB_iff _).1 hla
  by_cases k1 : s.k = 1
  ·have e : partFn s.k = 175 := by unfold partFn; rw [if_neg hk4, if_pos k1]
   obtain ⟨f1, f2, f3⟩ := flat_cut hs k1 hij (by omega)
   rw [e, part_cells, hlen, f1, f2, f3]
   exact flatPart_walk s.k s.a s.r s.n s.d s.e i j _ hmj _ _ (fun W => mul_any s.a ((j - i : Nat) : Int) (by unfold I64; omega) (by have := hT.few; unfold I64; omega) W) v u w
  ·have e : partFn s.k = 173 := by unfold partFn; rw [if_neg hk4, if_neg k1]
   obtain ⟨t1, ht1⟩ : ∃ t, (timesR s.R)[i]? = some t := ⟨_, List.getElem?_eq_getElem (by omega)⟩
   obtain ⟨t2, ht2⟩ : ∃ t, (timesR s.R)[j - 1]? = some t := ⟨_, List.getElem?_eq_getElem (by omega)⟩
   obtain ⟨m1, m2⟩ := line_ends hs hk4 hij ht1 ht2
   obtain ⟨p1, p2, p3⟩ := pieces_ok hs (i := (i : Int)) (j := (j : Int)) (by omega) (by omega) (by have := hT.total; omega)
   have eS : sumL (cutL (vals s) i j) = sumL ((piecesR s.R i j).map (pieceS s)) := by
    rw [p2]
    have : vals s = (timesR s.R).map (lnAt s) := by unfold vals; rw [if_neg hk4]
    rw [this, cutL_map]
    rfl
   obtain ⟨b1, b2, b3, b4, b5, b6⟩ := since_time hT ht1
   obtain ⟨c1, c2, c3, c4, c5, c6⟩ := since_time hT ht2
   have h12 := up_get hT.up ht1 ht2 (by omega)
   have at_is : ∀ (q : Nat) (t : Int), (timesR s.R)[q]? = some t → ∀ W, Below w.heap.size w W → Calls Tryz.prog 73 #[v, .int .i64 (q : Int)] W (Ret W (.tuple #[.int .i64 t, .int .i64 0])) := by
    intro q t hq W hW
    have hlt := (List.getElem?_eq_some_iff.1 hq).1
    have hA := atA_any s.R hR1 (q : Int) v W (h.below hW)
    have e1 : codeA s.R (q : Int) = 0 := by unfold codeA; rw [hok, if_pos rfl, if_pos (by have := hT.total; omega)]
    have e2 := times_get hT.cs (p := (q : Int)) (by omega) (by have := hT.total; omega)
    rw [show ((q : Int)).toNat = q by omega, hq] at e2
    injection e2 with e2
    have e3 : valA s.R (q : Int) = t := by unfold valA; rw [e1, if_pos rfl, e2]
    rwa [e1, e3] at hA
   have since_is : ∀ t : Int, wrap64 (t - fstT s.R) = t - fstT s.R → ∀ W, Below w.heap.size w W → Calls Tryz.prog 199 #[sgV s.k v s.a s.r s.n s.d u s.e, .int .i64 t] W (Ret W (.int .i64 (t - fstT s.R))) := by
    intro t ht W hW
    have := since_any s.k s.a s.r s.n s.d s.e t v u s.R W (h.below hW) hT.ne
    rwa [ht] at this
   have at_v : ∀ (q : Nat) (t : Int), (timesR s.R)[q]? = some t → timeB (t - fstT s.R) = true → atE s.a s.r s.n s.d (t - fstT s.R) = 0 ∧ atQ s.a s.r s.n s.d (t - fstT s.R) = lnAt s t := by
    intro q t hq hb
    obtain ⟨x, hx, hbx, _, h3⟩ := vals_at hs hq
    have e := h3 hk4
    have hbk : backB (exV s.a s.r s.n s.d (t - fstT s.R) / s.d) = true := by rw [e] at hbx; exact hbx
    exact ⟨(at_code hb).2 hbk, at_value hb hbk⟩
   obtain ⟨x1, x2⟩ := at_v i t1 ht1 b3
   obtain ⟨y1, y2⟩ := at_v (j - 1) t2 ht2 c3
   rw [e, part_cells, hlen, m1, m2, eS]
   refine linePart_walk s.k s.a s.r s.n s.d s.e i j ((j - 1 : Nat) : Int) _ t1 t2 (t1 - fstT s.R) (t2 - fstT s.R) _ _ _ _ hmj2 ?_ (piecesR s.R i j) v u w (at_is i t1 ht1) (at_is (j - 1) t2 ht2) (since_is t1 (i64_keeps (by omega) (by omega))) (since_is t2 (i64_keeps (by omega) (by omega))) (fun W => ?_) (fun W hW => ?_) (fun p W hW hp => ?_)
   ·have := hT.few; rw [i64_keeps (by omega) (by omega)]; omega
   ·exact ends_any s.a s.r s.n s.d (t1 - fstT s.R) (t2 - fstT s.R) _ _ 0 (.inr ⟨hl, .inr ⟨b3, c3, by omega, .inr (.inr ⟨x1, y1, by rw [x2, y2], by rw [x2, y2], rfl⟩)⟩⟩) W
   ·have := piecesA_any s.R hR1 (i : Int) (j : Int) v W (h.below hW)
    have e0 : codeP s.R (i : Int) (j : Int) = 0 := by unfold codeP; rw [hok, if_pos rfl, if_pos (by have := hT.total; omega)]
    rw [e0] at this
    exact this.mono fun e w' h => by simpa [Res] using h
   ·exact sumR_any (piecesR s.R i j) p3 (pieceS s) (fun r hr => by have := piece_told hs hk4 (p1 r hr); exact ⟨this.2.2.2.1, this.2.2.2.2⟩) _ _ rfl p W (fun r hr W' hW' => along_any s hs hk4 r (p1 r hr) v u W' (h.below (under hW hW'))) hp
end Go.Proofs.YtcfidimnbamnkaaGreat.P11
