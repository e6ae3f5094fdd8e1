/-
 Layer 11: what numbers at some places of a row come to. Conditions: the places are its own.
-/
import Derived.Test.YtcfidimnbamnkaaGreatSgI
namespace Go.Proofs.YtcfidimnbamnkaaGreat.P11
open Go.RowKit Go.Shelf Go.Proofs.YtcfidimnbamnkaaGreat.P7

theorem reads_cut {w : World} {A : Option Addr} {b off N c i j : Nat} {V : List Int} (h : Reads .i64 w (.slice A N c) V) (hA : A = some ⟨b, off, none⟩) (hi : i < j) (hj : j ≤ N) :
  Reads .i64 w (.slice (some ⟨b, off + i, none⟩) (j - i) (c - i)) (cutL V i j) := by
 obtain ⟨hN, hc, hk⟩ := h.at
 subst hN
 have e := cutL_length (l := V) (i := i) hj
 refine ⟨some ⟨b, off + i, none⟩, c - i, by rw [e], by rw [e]; omega, fun q z hq => ?_⟩
 have hlt := (List.getElem?_eq_some_iff.1 hq).1
 have hq2 : V[i + q]? = some z := by
  rw [← cutL_get (i := i) (j := j) (by omega) (by omega)]
  rwa [show i + q - i = q by omega]
 obtain ⟨b', off', e1, e2, e3⟩ := hk (i + q) z hq2
 rw [hA] at e1
 cases e1
 exact ⟨b, off + i, rfl, e2, by rw [Nat.add_assoc]; exact e3⟩
set_option maxRecDepth 100000 in
set_option maxHeartbeats 2000000 in
theorem rawPart_any (k a r n d e : Int) (i j : Nat) (V : List Int) (hij : i < j) (hj : j ≤ V.length) (hl : V.length ≤ 256) (hV : ∀ v ∈ V, backB v = true) (v u : Value) (w : World) (hu : Reads .i64 w u V) :
  Calls Tryz.prog 178 #[sgV k v a r n d u e, .int .i64 i, .int .i64 j] w (Ret w (partL (cutL V i j))) := by
 obtain ⟨A, c, rfl, hc, hk⟩ := id hu
 obtain ⟨zz, hzz⟩ : ∃ z, V[i]? = some z := ⟨_, List.getElem?_eq_getElem (show i < V.length by omega)⟩
 obtain ⟨bb, off, rfl, hbw, hcz⟩ := hk i zz hzz
 clear hcz hzz
 have hlen := cutL_length (l := V) (i := i) hj
 have hne : cutL V i j ≠ [] := by intro h; rw [h] at hlen; simp at hlen; omega
 have hback : ∀ v ∈ cutL V i j, backB v = true := fun x hx => by
  obtain ⟨q, _, _, hq⟩ := cutL_mem hx
  exact hV x (List.mem_of_getElem? hq)
 have RD := fun W (hb : Below w.heap.size w W) => reads_cut (hu.below hb) rfl hij hj
 have MI := Lib.hid (fun W (hb : Below w.heap.size w W) => min_any (cutL V i j) (by omega) hne _ W (RD W hb))
 have MA := Lib.hid (fun W (hb : Below w.heap.size w W) => max_any (cutL V i j) (by omega) hne _ W (RD W hb))
 have TG := Lib.hid (fun W (hb : Below w.heap.size w W) => sumI_any (cutL V i j) (by omega) hback _ W (RD W hb))
 unfold partL
 rw [hlen]
 obtain ⟨z0, hz0⟩ : ∃ x, x = rhi (sumL (cutL V i j)) := ⟨_, rfl⟩
 obtain ⟨z1, hz1⟩ : ∃ x, x = rlo (sumL (cutL V i j)) := ⟨_, rfl⟩
 have TG' : Hid (∀ W, Below w.heap.size w W → Calls Tryz.prog 208 #[.slice (some ⟨bb, off + i, none⟩) (j - i) (c - i), fnV 36] W (Ret W (wideV z0 z1))) := Lib.hid (by rw [hz0, hz1]; exact TG.out)
 show Calls _ _ _ w (Ret w (.agg #[.int .i64 ((j - i : Nat) : Int), .int .i64 (minL (cutL V i j)), .int .i64 (maxL (cutL V i j)), .int .i64 (rhi (sumL (cutL V i j))), .int .u64 (rlo (sumL (cutL V i j)))]))
 rw [← hz0, ← hz1]
 clear hz0 hz1 TG RD hback hne hV
 generalize minL (cutL V i j) = lo at *
 generalize maxL (cutL V i j) = hi at *
 generalize V.length = N at *
 have e0 : ((i : Int)).toNat = i := by omega
 have e1 : ((j : Int)).toNat = j := by omega
 have i0 : (0 : Int) ≤ (i : Int) := by omega
 have i1 : (i : Int) ≤ (j : Int) := by omega
 have i2 : (j : Int) ≤ (c : Int) := by omega
 have i3 : ¬ c = i := by omega
 have i4 : ((j : Int) - (i : Int)).toNat = j - i := by omega
 have i5 : ((c : Int) - (i : Int)).toNat = c - i := by omega
 have hK : Keeps w [(w.heap.size + 1, 0, .int .i64 0), (w.heap.size + 1, 1, .int .i64 0), (w.heap.size + 1, 2, .int .i64 0), (w.heap.size + 1, 3, .int .i64 0), (w.heap.size + 1, 4, .int .u64 0)] ((w.alloc (sgO 94 k v a r n d (.slice (some ⟨bb, off, none⟩) N c) e)).alloc (.cells #[.int .i64 0, .int .i64 0, .int .i64 0, .int .i64 0, .int .u64 0] 59)) := by
  refine ⟨by go_grown, ?_⟩
  simp [Cells, go_sem]
 clear hu hk hlen
 go_enter Tryz.func178, Tryz.ntmps178
 go_wp2_with fail
 refine (MI.out _ hK.1).mono ?_
 rintro e w1 ⟨rfl, hb⟩
 replace hK := hK.next hb
 clear hb
 go_wp2_with fail
 refine (MA.out _ hK.1).mono ?_
 rintro e w2 ⟨rfl, hb⟩
 replace hK := hK.next hb
 clear hb
 go_wp2_with fail
 refine (TG'.out _ hK.1).mono ?_
 rintro e w3 ⟨rfl, hb⟩
 replace hK := hK.next hb
 clear hb
 obtain ⟨hB,⟨_,x0,_⟩,⟨_,x1,_⟩,⟨_,x2,_⟩,⟨_,x3,_⟩,⟨_,x4,_⟩,_⟩ := hK
 obtain ⟨d0, d1, d2, d3, d4⟩ := set5 (u0 := .int .i64 ((j - i : Nat) : Int)) (u1 := .int .i64 lo) (u2 := .int .i64 hi) (u3 := .int .i64 z0) (u4 := .int .u64 z1) x0 x1 x2 x3 x4
 have hB2 : ∀ u0 u1 u2 u3 u4, Below w.heap.size w (((((w3.setCell ⟨w.heap.size + 1, 0, none⟩ u0).setCell ⟨w.heap.size + 1, 1, none⟩ u1).setCell ⟨w.heap.size + 1, 2, none⟩ u2).setCell ⟨w.heap.size + 1, 3, none⟩ u3).setCell ⟨w.heap.size + 1, 4, none⟩ u4) := fun _ _ _ _ _ => ((((hB.setCell (Nat.le_succ _) _).setCell (Nat.le_succ _) _).setCell (Nat.le_succ _) _).setCell (Nat.le_succ _) _).setCell (Nat.le_succ _) _
 go_wp2_with fail
 refine bodyPost_ret (v := .agg #[.int .i64 ((j - i : Nat) : Int), .int .i64 lo, .int .i64 hi, .int .i64 z0, .int .u64 z1]) (by simp [results, Tryz.results178, go_sem, d0, d1, d2, d3, d4]) rfl ?_
 exact ⟨rfl, hB2 _ _ _ _ _⟩
end Go.Proofs.YtcfidimnbamnkaaGreat.P11
