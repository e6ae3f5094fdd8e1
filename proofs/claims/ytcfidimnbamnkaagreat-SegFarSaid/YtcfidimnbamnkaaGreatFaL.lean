/-
 Layer 11: the law SegFar holds of every input. Conditions: those of the law's row.
-/
import Derived.Test.YtcfidimnbamnkaaGreatSgX
import Derived.Test.YtcfidimnbamnkaaGreatSgS
import Derived.Test.YtcfidimnbamnkaaGreatEq
import Derived.Test.YtcfidimnbamnkaaGreatNE
import Derived.Test.YtcfidimnbamnkaaGreatLdC
import Derived.Test.YtcfidimnbamnkaaGreatKitW
import Derived.Maps.RangeWalk
import Derived.Test.YtcfidimnbamnkaaGreatSgO
import Derived.Test.YtcfidimnbamnkaaGreatSgT
import Derived.Test.YtcfidimnbamnkaaGreatNC
import Derived.Test.YtcfidimnbamnkaaGreatKitS
/-
 Layer 11: equal rows of runs, and segments that are the same. Conditions: rows of at most a million.
-/
namespace Go.Proofs.YtcfidimnbamnkaaGreat.P11
open Go.RowKit Go.Shelf Go.Proofs.YtcfidimnbamnkaaGreat.P7

end Go.Proofs.YtcfidimnbamnkaaGreat.P11

/-
 Layer 11: segments that are the same. Conditions: rows of at most a million.
-/
namespace Go.Proofs.YtcfidimnbamnkaaGreat.P11
open Go.RowKit Go.Shelf Go.Proofs.YtcfidimnbamnkaaGreat.P7

end Go.Proofs.YtcfidimnbamnkaaGreat.P11

/-
 Layer 11: segments that are the same, by the document. Conditions: rows of at most a million.
-/
namespace Go.Proofs.YtcfidimnbamnkaaGreat.P11
open Go.RowKit Go.Shelf Go.Proofs.YtcfidimnbamnkaaGreat.P7

end Go.Proofs.YtcfidimnbamnkaaGreat.P11

/-
 Layer 11: the document's points of a segment. Conditions: its runs may be, and it has as many numbers as times, or a line that may be.
-/
namespace Go.Proofs.YtcfidimnbamnkaaGreat.P11
open Go.RowKit Go.Shelf Go.Proofs.YtcfidimnbamnkaaGreat.P7

def AskOk (s : Sg) : Prop := okB s.R = true ∧ (s.k = 4 ∧ (s.V.length : Int) = totalR s.R ∨ s.k ≠ 4 ∧ lineB s.a s.r s.n s.d = true)
theorem ask_len {s : Sg} (h : AskOk s) : (vals s).length = (timesR s.R).length := by
 obtain ⟨hok, ⟨hk, hl⟩ | ⟨hk, hl⟩⟩ := h
 ·have hT := times_ok hok
  unfold vals
  rw [if_pos hk]
  have := hT.total
  omega
 ·unfold vals
  rw [if_neg hk, List.length_map]
def RowP (W : World) (B : Nat) (u : Value) (l : List Pn) : Prop := W.ownsRow B 53 2 u l.length (flatP l)
def PointsD (w : World) (s : Sg) (e : Ending) (w' : World) : Prop := if backs (vals s) then ∃ A n c, e = .returned (.tuple #[.slice A n c, .bool true]) ∧ Below w.heap.size w w' ∧ RowP w' w.heap.size (.slice A n c) (ptsS s) else e = .returned (.tuple #[.slice none 0 0, .bool false]) ∧ Below w.heap.size w w'
theorem backs_at {s : Sg} {k : Nat} {x : Int} (hx : (vals s)[k]? = some x) (hb : backB x = false) : backs (vals s) = false := by
 rw [← Bool.not_eq_true, backs_iff]
 intro h
 have := h x (List.mem_of_getElem? hx)
 rw [hb] at this
 cases this
theorem owns_pt {W : World} {B pb i : Nat} {e : TypeId} {size n : Nat} {v : Value} {xs : List Value} (h : W.ownsRow B e size v n xs) (hpb : v.ownBlock ≠ some pb) (u : Value) : (W.setCell ⟨pb, i, none⟩ u).ownsRow B e size v n xs := by
 refine ⟨h.1, ?_⟩
 rcases h.2 with h2 | ⟨g', cap, cur, rfl, e2, e3, e4⟩
 ·exact .inl h2
 ·exact .inr ⟨g', cap, cur, rfl, e2, (Below.heap_setCell W ⟨pb, i, none⟩ u g' (fun e => hpb (by rw [show pb = g' from e.symm]; rfl))).trans e3, e4⟩
theorem take_few {α : Type} (l : List α) {j N : Nat} (h : j < N) (hN : N ≤ 256) : (l.take j).length ≤ 256 := by
 rw [List.length_take]
 omega
theorem keeps_named {w1 W : World} {L : List (Nat × Nat × Value)} (h : Keeps w1 L W) : ∃ W', W' = W ∧ Keeps w1 L W' := ⟨_, rfl, h⟩
theorem back_more {Vs : List Int} {j : Nat} {x : Int} (hx : Vs[j]? = some x) (h : ∀ (q : Nat) (y : Int), q < j → Vs[q]? = some y → backB y = true) : backB x = true → ∀ (q : Nat) (y : Int), q < j + 1 → Vs[q]? = some y → backB y = true := by
 intro hb q y hq hy
 by_cases e : q = j
 ·subst e
  rw [hx] at hy
  cases hy
  exact hb
 ·exact h q y (by omega) hy
theorem lt_of_eqV {j N M : Nat} (h : M = N) (hj : j < N) : (j : Int) < (M : Int) := by omega
end Go.Proofs.YtcfidimnbamnkaaGreat.P11

/-
 Layer 11: the document's Points. Conditions: its runs may be, and it has as many numbers as times, or a line that may be.
-/
namespace Go.Proofs.YtcfidimnbamnkaaGreat.P11
open Go.RowKit Go.Shelf Go.Proofs.YtcfidimnbamnkaaGreat.P7

set_option maxRecDepth 100000 in
set_option maxHeartbeats 8000000 in
theorem refPoints_raw (s : Sg) (hA : AskOk s) (hk : s.k = 4) (v u : Value) (w : World) (h : ReadsR w v s.R) (hu : Reads .i64 w u s.V) :
  Calls Tryz.prog 21 #[sgOf s v u] w (PointsD w s) := by
 have hok := hA.1
 have hT := times_ok hok
 have hlen := ask_len hA
 have hR1 : s.R.length ≤ 1000000 := by have := hT.runs; omega
 obtain ⟨i0, hi, hz0, hz1, hz2⟩ := info_parts infoPoint
 have TM : Hid (∀ W, Below w.heap.size w W → Calls Tryz.prog 56 #[v] W (LaidI W (timesR s.R))) := Lib.hid (fun W hb => by
  have := P7.refTimes_any s.R hR1 v W (h.below hb)
  rwa [timesD_ok hok] at this)
 have HW0 : Hid (∀ W, Below w.heap.size w W → Reads .i64 W u s.V) := Lib.hid (fun W hb => hu.below hb)
 have HP := Lib.hid (fun (q : Nat) (t x : Int) (hq : (timesR s.R)[q]? = some t) (hx : (vals s)[q]? = some x) => ptsF_get 0 _ _ q t x hq hx)
 have HPL : Hid ((ptsS s).length = (timesR s.R).length) := Lib.hid (ptsF_length 0 _ _ hlen)
 have HF := Lib.hid (fun (q : Nat) (t : Int) (hq : (timesR s.R)[q]? = some t) => since_time hT hq)
 have HF0 := Lib.hid (times_first hT)
 have HBK := Lib.hid (fun (q : Nat) (x : Int) (hx : (vals s)[q]? = some x) (hb : backB x = false) => backs_at hx hb)
 have hv4 : vals s = s.V := by unfold vals; rw [if_pos hk]
 have hu9 := hu
 have HT1 := Lib.hid hT.one
 have HT2 := Lib.hid hT.few
 have HVL := Lib.hid hlen
 unfold PointsD
 have HALL : Hid ((∀ j x, (vals s)[j]? = some x → backB x = true) → backs (vals s) = true) := Lib.hid (fun hh => (backs_iff _).2 (fun x hx => by obtain ⟨j, hj⟩ := List.getElem?_of_mem hx; exact hh j x hj))
 generalize backs (vals s) = bk at *
 obtain ⟨full, hfull⟩ : ∃ f, f = ptsS s := ⟨_, rfl⟩
 obtain ⟨T, hTT⟩ : ∃ T, T = timesR s.R := ⟨_, rfl⟩
 obtain ⟨Vs, hVs⟩ : ∃ V, V = vals s := ⟨_, rfl⟩
 have HP2 : Hid (∀ (q : Nat) (t x : Int), T[q]? = some t → Vs[q]? = some x → full[q]? = some ⟨(q : Int), t, x⟩) := Lib.hid (fun q t x h1 h2 => by
  rw [hTT] at h1
  rw [hVs] at h2
  have := HP.out q t x h1 h2
  rw [Nat.zero_add] at this
  rw [hfull]; exact this)
 rw [← hfull, ← hTT] at HPL
 rw [← hTT] at TM HF HF0 HT1 HT2 HVL
 rw [← hVs] at HBK HVL HALL hv4
 rw [← hfull]
 generalize fstT s.R = f0 at *
 clear HP hA hok hT hlen hR1 h hu hfull hTT hVs
 obtain ⟨k, R, a, r, n, d, V, e⟩ := s
 simp only at *
 subst hk
 subst hv4
 obtain ⟨A9, c9, rfl, hc9, hk9⟩ := hu9
 obtain ⟨y0, hy0⟩ : ∃ z, Vs[0]? = some z := ⟨_, List.getElem?_eq_getElem (by rw [HVL.out]; exact HT1.out)⟩
 obtain ⟨b9, o9, rfl, hb9, hy9⟩ := hk9 0 y0 hy0
 have HK9 := Lib.hid hk9
 clear hy9 hy0 hk9
 have hK := new_seg (Below.refl w.heap.size w) 27 4 v a r n d (.slice (some ⟨b9, o9, none⟩) Vs.length c9) e
 go_enter Tryz.func21, Tryz.ntmps21
 go_wp2_with fail
 refine (TM.out _ hK.1).mono ?_
 rintro e w1 ⟨vt, rfl, hb, hrow⟩
 replace hK := hK.next hb
 have hrd := reads_own (k := .i64) (show World.ownsRow _ _ _ _ _ _ _ from hrow)
 clear hb hrow TM
 obtain ⟨A2, c2, rfl, hc2, hk2⟩ := hrd
 have HK2 := Lib.hid hk2
 have HU := Lib.hid (HW0.out w1 hK.1)
 have HBW := Lib.hid hK.1
 have hBX : Cells [(w.heap.size, 0, .int .i64 4), (w.heap.size, 1, v), (w.heap.size, 2, .int .i64 a), (w.heap.size, 3, .int .i64 r), (w.heap.size, 4, .int .i64 n), (w.heap.size, 5, .int .i64 d), (w.heap.size, 6, .slice (some ⟨b9, o9, none⟩) Vs.length c9), (w.heap.size, 7, .int .i64 e)] w1 := hK.2
 have HBX := Lib.hid hBX
 clear hk2 HW0 hK hBX
 generalize hN : T.length = N at *
 have HN := Lib.hid hN
 clear hN
 go_wp2_with fail
 go_loopw [5, 6] (fun uu i wr => ∃ j : Nat, i = .int .i64 j ∧ j ≤ N ∧ Hid (∀ q x, q < j → Vs[q]? = some x → backB x = true) ∧ Hid (RowP wr w1.heap.size uu (full.take j)) ∧ Below w1.heap.size w1 wr) (fun _ i => fun _ => N - (intOf i).toNat)
 case atStart => exact ⟨0, rfl, Nat.zero_le _, Lib.hid (fun q x hq _ => by omega), Lib.hid (World.ownsRow_nil _ _ _ _), Below.refl _ _⟩
 case round =>
  obtain ⟨j, rfl, hjl, HB, HO, hB⟩ := hrel
  by_cases gj : j < N
  ·obtain ⟨t, ht⟩ : ∃ t, T[j]? = some t := ⟨_, List.getElem?_eq_getElem (by rw [HN.out]; exact gj)⟩
   obtain ⟨x, hx⟩ : ∃ x, Vs[j]? = some x := ⟨_, List.getElem?_eq_getElem (by rw [HVL.out]; exact gj)⟩
   obtain ⟨bb, off, rfl, hbw, hc1⟩ := HK2.out j _ ht
   obtain ⟨bb', off', hbe, hbw', hc0⟩ := HK2.out 0 f0 HF0.out
   cases hbe
   have hc1w := Lib.hid hc1
   have hc0w : Hid (w1.cell? ⟨bb, off, none⟩ = some (.int .i64 f0)) := Lib.hid (by simpa using hc0)
   have c1 := (hB.cell (p := ⟨bb, off + j, none⟩) hbw).trans hc1
   have c0 := (hB.cell (p := ⟨bb, off, none⟩) hbw).trans (by simpa using hc0)
   have j1 : (j : Int) < (N : Int) := by omega
   have j0 : (0 : Int) ≤ (j : Int) := by omega
   have jn : (0 : Int) < (N : Int) := by omega
   have jn2 : 0 < N := by omega
   have wk := one_moreV gj (show N ≤ 1000000 by have := HT2.out; omega)
   have tl := Lib.hid (turn_lessV gj)
   have hfp : Hid (full.take (j + 1) = full.take j ++ [⟨(j : Int), t, x⟩]) := Lib.hid (by rw [List.take_add_one, HP2.out j t x ht hx]; rfl)
   have hpl := take_few full gj HT2.out
   have HB2 : Hid (backB x = true → ∀ q y, q < j + 1 → Vs[q]? = some y → backB y = true) := Lib.hid (back_more hx HB.out)
   have hBX := HBX.out.next hB
   obtain ⟨z1, z2, z3, z4, z5, z6⟩ := HF.out j t ht
   have RB := fun W => refBack_any x W
   have HX := Lib.hid hx
   have HBN := Lib.hid (HBK.out j x hx)
   obtain ⟨b8, o8, hbe9, _, hx9⟩ := HK9.out j x hx
   cases hbe9
   have hb91 : b9 < w1.heap.size := Nat.lt_of_lt_of_le hb9 HBW.out.size
   have c5 := (hB.cell (p := ⟨b9, o9 + j, none⟩) hb91).trans ((HBW.out.cell (p := ⟨b9, o9 + j, none⟩) hb9).trans hx9)
   have hl9 : Vs.length = N := HVL.out
   have j9 := lt_of_eqV hl9 gj
   clear hl9
   clear hx9
   clear hc1 hc0 hbw' ht hx HB
   obtain ⟨A3, n3, c3, rfl⟩ := own_slw HO.out
   have hK0 : Keeps w1 [(w.heap.size, 0, .int .i64 4), (w.heap.size, 1, v), (w.heap.size, 2, .int .i64 a), (w.heap.size, 3, .int .i64 r), (w.heap.size, 4, .int .i64 n), (w.heap.size, 5, .int .i64 d), (w.heap.size, 6, .slice (some ⟨b9, o9, none⟩) Vs.length c9), (w.heap.size, 7, .int .i64 e), (wr.heap.size, 0, .int .i64 t), (wr.heap.size, 1, .int .i64 0)] (wr.alloc (.cells #[.int .i64 t, .int .i64 0] 53)) := Keeps.app (l := [(w.heap.size, 0, .int .i64 4), (w.heap.size, 1, v), (w.heap.size, 2, .int .i64 a), (w.heap.size, 3, .int .i64 r), (w.heap.size, 4, .int .i64 n), (w.heap.size, 5, .int .i64 d), (w.heap.size, 6, .slice (some ⟨b9, o9, none⟩) Vs.length c9), (w.heap.size, 7, .int .i64 e)]) ⟨under hB (below_alloc _ _), hBX.next (below_alloc _ _)⟩ (newK2 (L := []) ⟨under hB (below_alloc _ _), trivial⟩)
   have hgz : w1.heap.size ≤ wr.heap.size := hB.size
   have hpb : (Value.slice A3 n3 c3).ownBlock ≠ some wr.heap.size := fun e => by have := ((show World.ownsRow _ _ _ _ _ _ _ from HO.out).lt _ e).2; omega
   have HO2 : Hid (RowP (wr.alloc (.cells #[.int .i64 t, .int .i64 0] 53)) w1.heap.size (.slice A3 n3 c3) (full.take j)) := Lib.hid (owns_below (show World.ownsRow _ _ _ _ _ _ _ from HO.out) (below_alloc _ _))
   have c5' := ((below_alloc wr (.cells #[.int .i64 t, .int .i64 0] 53)).cell (p := ⟨b9, o9 + j, none⟩) (Nat.lt_of_lt_of_le hb91 hB.size)).trans c5
   have hb9' : b9 < wr.heap.size := Nat.lt_of_lt_of_le hb91 hB.size
   clear c5
   clear HO hBX c0
   go_upto_region 7 with (fail)
   clear c1 hB
   generalize wr.alloc (.cells #[.int .i64 t, .int .i64 0] 53) = wp at *
   generalize wr.heap.size = pb at *
   ·obtain ⟨⟨kz0,kc0,kf0⟩,⟨kz1,kc1,kf1⟩,⟨kz2,kc2,kf2⟩,⟨kz3,kc3,kf3⟩,⟨kz4,kc4,kf4⟩,⟨kz5,kc5,kf5⟩,⟨kz6,kc6,kf6⟩,⟨kz7,kc7,kf7⟩,⟨kz8,kc8,kf8⟩,⟨kz9,kc9,kf9⟩,_⟩ := hK0.2
    cases gb : backB x
    ·rw [gb] at RB
     replace RB := Lib.hid RB
     obtain rfl : bk = false := HBN.out gb
     have hP := hK0.1.setCell (p := ⟨pb, 1, none⟩) hgz (.int .i64 x)
     clear hK0 HO2
     go_wp2_with fail
     refine (RB.out _).mono ?_
     rintro e w6 ⟨rfl, hb⟩
     have hP2 := under hP hb
     clear hP hb
     (try clear kz0 kc0 kf0); (try clear kz1 kc1 kf1); (try clear kz2 kc2 kf2); (try clear kz3 kc3 kf3); (try clear kz4 kc4 kf4); (try clear kz5 kc5 kf5); (try clear kz6 kc6 kf6); (try clear kz7 kc7 kf7); (try clear kz8 kc8 kf8); (try clear kz9 kc9 kf9)
     go_wp2_with fail
     go_returns
     exact ⟨rfl, under HBW.out hP2⟩
    ·rw [gb] at RB
     replace RB := Lib.hid RB
     have hQ := kupd (M := [(pb, 0, .int .i64 t), (pb, 1, .int .i64 x)]) (hK0.sub (L' := [(pb, 0, .int .i64 t), (pb, 1, .int .i64 0)]) (by simp)) kc9 hgz (.int .i64 x) (by simp [updL])
     have HQ := Lib.hid (owns_pt (i := 1) (show World.ownsRow _ _ _ _ _ _ _ from HO2.out) hpb (.int .i64 x))
     have GB := Lib.hid gb
     clear hK0 HO2 gb
     go_wp2_with fail
     refine (RB.out _).mono ?_
     rintro e w6 ⟨rfl, hb⟩
     have hQ2 := hQ.next hb
     have HQ2 := Lib.hid (owns_below (show World.ownsRow _ _ _ _ _ _ _ from HQ.out) hb)
     clear hQ HQ hb
     (try clear kz0 kc0 kf0); (try clear kz1 kc1 kf1); (try clear kz2 kc2 kf2); (try clear kz3 kc3 kf3); (try clear kz4 kc4 kf4); (try clear kz5 kc5 kf5); (try clear kz6 kc6 kf6); (try clear kz7 kc7 kf7); (try clear kz8 kc8 kf8); (try clear kz9 kc9 kf9)
     go_upto_region 15 with (fail)
     have hH := hQ2
     have HO3 : Hid (RowP w6 w1.heap.size (.slice A3 n3 c3) (full.take j)) := HQ2
     have HBT := GB
     clear hQ2 HQ2 GB RB HBN
     have hHs := hH.1.size
     obtain ⟨⟨kz0, kc0, kf0⟩, ⟨kz1, kc1, kf1⟩, _⟩ := hH.2
     have hHB := Lib.hid hH.1
     skip
     go_wp2_with (at_builtin; go_loud (refine wpList_append_own _ rfl _ _ 35 rfl w1.heap.size 53 i0 (.agg #[.int .i64 0, .int .i64 0]) 2 16 Tryz.underlying35 hi hz0 hz1 hz2 rfl (by decide) _ _ _ rfl (owns_below (show World.ownsRow _ _ _ _ _ _ _ from HO3.out) (below_alloc w6 _)) ⟨w6.heap.size, 0, none⟩ 1 1 [.int .i64 t, .int .i64 x] rfl rfl ?c1 ?c2 ?c3 ?c4 ?c5 ?_))
     case c1 => exact new_cells2 rfl
     case c2 => intro u hu; simp at hu; rcases hu with rfl | rfl <;> rfl
     case c3 => unfold maxLen; omega
     case c4 => omega
     case c5 => simp; omega
     intro v' w12 hown' hgrow _
     have HO4 : Hid (RowP w12 w1.heap.size v' (full.take (j + 1))) := Lib.hid (by
      unfold RowP
      rw [hfp.out, List.length_append, flatP_app]
      simpa [flatP] using hown')
     have hB4 := own_grows hHB.out (show World.ownsRow _ _ _ _ _ _ _ from HO3.out) hgrow
     have HB3 := Lib.hid (HB2.out HBT.out)
     clear hown' hgrow hH HO3 HB2 hHB
     (try clear kz0 kc0 kf0); (try clear kz1 kc1 kf1); (try clear kz2 kc2 kf2); (try clear kz3 kc3 kf3); (try clear kz4 kc4 kf4); (try clear kz5 kc5 kf5); (try clear kz6 kc6 kf6); (try clear kz7 kc7 kf7); (try clear kz8 kc8 kf8); (try clear kz9 kc9 kf9)
     go_wp2_with fail
     go_roundw
     case rel => exact ⟨j + 1, by first | (simp; done) | (rw [wk]; simp; done), gj, HB3, HO4, hB4⟩
     case measure => first | exact tl.out | (rw [wk]; exact tl.out)
  ·have i1 : ¬ (j : Int) < (N : Int) := by omega
   have e : j = N := by omega
   subst e
   have EB : Hid (bk = true) := Lib.hid (HALL.out (fun q x hx => HB.out q x (by have := (List.getElem?_eq_some_iff.1 hx).1; rw [HVL.out] at this; exact this) hx))
   have HO2 := HO.out
   rw [List.take_of_length_le (by rw [HPL.out]; exact Nat.le_refl _)] at HO2
   replace HO2 := Lib.hid HO2
   obtain ⟨A3, n3, c3, rfl⟩ := own_slw HO2.out
   have hB2 := under HBW.out hB
   have HO3 := Lib.hid (owns_less (B' := w.heap.size) HO2.out (by have := HBW.out.size; omega))
   obtain rfl : bk = true := EB.out
   clear HB HO HO2 hB
   go_wp2_with fail
   go_returns
   exact ⟨A3, n3, c3, rfl, hB2, HO3.out⟩
end Go.Proofs.YtcfidimnbamnkaaGreat.P11

/-
 Layer 11: the document's Points. Conditions: its runs may be, and it has as many numbers as times, or a line that may be.
-/
namespace Go.Proofs.YtcfidimnbamnkaaGreat.P11
open Go.RowKit Go.Shelf Go.Proofs.YtcfidimnbamnkaaGreat.P7

set_option maxRecDepth 100000 in
set_option maxHeartbeats 8000000 in
theorem refPoints_line (s : Sg) (hA : AskOk s) (hk : s.k ≠ 4) (v u : Value) (w : World) (h : ReadsR w v s.R) (hu : Reads .i64 w u s.V) :
  Calls Tryz.prog 21 #[sgOf s v u] w (PointsD w s) := by
 have hok := hA.1
 have hT := times_ok hok
 have hlen := ask_len hA
 have hR1 : s.R.length ≤ 1000000 := by have := hT.runs; omega
 obtain ⟨i0, hi, hz0, hz1, hz2⟩ := info_parts infoPoint
 have TM : Hid (∀ W, Below w.heap.size w W → Calls Tryz.prog 56 #[v] W (LaidI W (timesR s.R))) := Lib.hid (fun W hb => by
  have := P7.refTimes_any s.R hR1 v W (h.below hb)
  rwa [timesD_ok hok] at this)
 have HW0 : Hid (∀ W, Below w.heap.size w W → Reads .i64 W u s.V) := Lib.hid (fun W hb => hu.below hb)
 have HP := Lib.hid (fun (q : Nat) (t x : Int) (hq : (timesR s.R)[q]? = some t) (hx : (vals s)[q]? = some x) => ptsF_get 0 _ _ q t x hq hx)
 have HPL : Hid ((ptsS s).length = (timesR s.R).length) := Lib.hid (ptsF_length 0 _ _ hlen)
 have HF := Lib.hid (fun (q : Nat) (t : Int) (hq : (timesR s.R)[q]? = some t) => since_time hT hq)
 have HF0 := Lib.hid (times_first hT)
 have HBK := Lib.hid (fun (q : Nat) (x : Int) (hx : (vals s)[q]? = some x) (hb : backB x = false) => backs_at hx hb)
 have HV4 : ∀ (q : Nat) (t : Int), (timesR s.R)[q]? = some t → (vals s)[q]? = some (exV s.a s.r s.n s.d (t - fstT s.R) / s.d) := fun q t hq => by unfold vals; rw [if_neg hk, List.getElem?_map, hq]; rfl
 have hln : lineB s.a s.r s.n s.d = true := by rcases hA.2 with ⟨h4, _⟩ | ⟨_, h⟩; exact absurd h4 hk; exact h
 have t4 : (s.k == 4) = false := by simpa using hk
 replace HV4 := Lib.hid HV4
 have HT1 := Lib.hid hT.one
 have HT2 := Lib.hid hT.few
 have HVL := Lib.hid hlen
 unfold PointsD
 have HALL : Hid ((∀ j x, (vals s)[j]? = some x → backB x = true) → backs (vals s) = true) := Lib.hid (fun hh => (backs_iff _).2 (fun x hx => by obtain ⟨j, hj⟩ := List.getElem?_of_mem hx; exact hh j x hj))
 generalize backs (vals s) = bk at *
 obtain ⟨full, hfull⟩ : ∃ f, f = ptsS s := ⟨_, rfl⟩
 obtain ⟨T, hTT⟩ : ∃ T, T = timesR s.R := ⟨_, rfl⟩
 obtain ⟨Vs, hVs⟩ : ∃ V, V = vals s := ⟨_, rfl⟩
 have HP2 : Hid (∀ (q : Nat) (t x : Int), T[q]? = some t → Vs[q]? = some x → full[q]? = some ⟨(q : Int), t, x⟩) := Lib.hid (fun q t x h1 h2 => by
  rw [hTT] at h1
  rw [hVs] at h2
  have := HP.out q t x h1 h2
  rw [Nat.zero_add] at this
  rw [hfull]; exact this)
 rw [← hfull, ← hTT] at HPL
 rw [← hTT] at TM HF HF0 HT1 HT2 HVL
 rw [← hVs] at HBK HVL HALL HV4
 rw [← hTT] at HV4
 rw [← hfull]
 generalize fstT s.R = f0 at *
 clear HP hA hok hT hlen hR1 h hu hfull hTT hVs
 obtain ⟨k, R, a, r, n, d, V, e⟩ := s
 simp only at *
 have hK := new_seg (Below.refl w.heap.size w) 27 k v a r n d (u) e
 go_enter Tryz.func21, Tryz.ntmps21
 go_wp2_with fail
 refine (TM.out _ hK.1).mono ?_
 rintro e w1 ⟨vt, rfl, hb, hrow⟩
 replace hK := hK.next hb
 have hrd := reads_own (k := .i64) (show World.ownsRow _ _ _ _ _ _ _ from hrow)
 clear hb hrow TM
 obtain ⟨A2, c2, rfl, hc2, hk2⟩ := hrd
 have HK2 := Lib.hid hk2
 have HU := Lib.hid (HW0.out w1 hK.1)
 have HBW := Lib.hid hK.1
 have hBX : Cells [(w.heap.size, 0, .int .i64 k), (w.heap.size, 1, v), (w.heap.size, 2, .int .i64 a), (w.heap.size, 3, .int .i64 r), (w.heap.size, 4, .int .i64 n), (w.heap.size, 5, .int .i64 d), (w.heap.size, 6, u), (w.heap.size, 7, .int .i64 e)] w1 := hK.2
 have HBX := Lib.hid hBX
 clear hk2 HW0 hK hBX
 generalize hN : T.length = N at *
 have HN := Lib.hid hN
 clear hN
 go_wp2_with fail
 go_loopw [5, 6] (fun uu i wr => ∃ j : Nat, i = .int .i64 j ∧ j ≤ N ∧ Hid (∀ q x, q < j → Vs[q]? = some x → backB x = true) ∧ Hid (RowP wr w1.heap.size uu (full.take j)) ∧ Below w1.heap.size w1 wr) (fun _ i => fun _ => N - (intOf i).toNat)
 case atStart => exact ⟨0, rfl, Nat.zero_le _, Lib.hid (fun q x hq _ => by omega), Lib.hid (World.ownsRow_nil _ _ _ _), Below.refl _ _⟩
 case round =>
  obtain ⟨j, rfl, hjl, HB, HO, hB⟩ := hrel
  by_cases gj : j < N
  ·obtain ⟨t, ht⟩ : ∃ t, T[j]? = some t := ⟨_, List.getElem?_eq_getElem (by rw [HN.out]; exact gj)⟩
   obtain ⟨x, hx⟩ : ∃ x, Vs[j]? = some x := ⟨_, List.getElem?_eq_getElem (by rw [HVL.out]; exact gj)⟩
   obtain ⟨bb, off, rfl, hbw, hc1⟩ := HK2.out j _ ht
   obtain ⟨bb', off', hbe, hbw', hc0⟩ := HK2.out 0 f0 HF0.out
   cases hbe
   have hc1w := Lib.hid hc1
   have hc0w : Hid (w1.cell? ⟨bb, off, none⟩ = some (.int .i64 f0)) := Lib.hid (by simpa using hc0)
   have c1 := (hB.cell (p := ⟨bb, off + j, none⟩) hbw).trans hc1
   have c0 := (hB.cell (p := ⟨bb, off, none⟩) hbw).trans (by simpa using hc0)
   have j1 : (j : Int) < (N : Int) := by omega
   have j0 : (0 : Int) ≤ (j : Int) := by omega
   have jn : (0 : Int) < (N : Int) := by omega
   have jn2 : 0 < N := by omega
   have wk := one_moreV gj (show N ≤ 1000000 by have := HT2.out; omega)
   have tl := Lib.hid (turn_lessV gj)
   have hfp : Hid (full.take (j + 1) = full.take j ++ [⟨(j : Int), t, x⟩]) := Lib.hid (by rw [List.take_add_one, HP2.out j t x ht hx]; rfl)
   have hpl := take_few full gj HT2.out
   have HB2 : Hid (backB x = true → ∀ q y, q < j + 1 → Vs[q]? = some y → backB y = true) := Lib.hid (back_more hx HB.out)
   have hBX := HBX.out.next hB
   obtain ⟨z1, z2, z3, z4, z5, z6⟩ := HF.out j t ht
   have RB := fun W => refBack_any x W
   have HX := Lib.hid hx
   have HBN := Lib.hid (HBK.out j x hx)
   have hxv : x = exV a r n d (t - f0) / d := by have := HV4.out j t ht; rw [hx] at this; injection this
   have AT' := fun W => refAt_any a r n d (t - f0) hln z3 W
   rw [← hxv] at AT'
   have HQV : Hid (backB x = true → ovQ (exV a r n d (t - f0)) d = x) := Lib.hid (fun hb => by unfold ovQ; rw [← hxv, hb, if_pos rfl])
   obtain ⟨gg, hgg⟩ : ∃ g, g = backB x := ⟨_, rfl⟩
   rw [← hgg] at AT'
   obtain ⟨qv, hqv⟩ : ∃ q, q = ovQ (exV a r n d (t - f0)) d := ⟨_, rfl⟩
   rw [← hqv] at AT' HQV
   have AT := Lib.hid AT'
   have ws : IntKind.i64.wrap (t - f0) = t - f0 := iwrap (by omega) (by omega)
   clear AT' hxv hqv RB
   clear hc1 hc0 hbw' ht hx HB
   obtain ⟨A3, n3, c3, rfl⟩ := own_slw HO.out
   have hK0 : Keeps w1 [(w.heap.size, 0, .int .i64 k), (w.heap.size, 1, v), (w.heap.size, 2, .int .i64 a), (w.heap.size, 3, .int .i64 r), (w.heap.size, 4, .int .i64 n), (w.heap.size, 5, .int .i64 d), (w.heap.size, 6, u), (w.heap.size, 7, .int .i64 e), (wr.heap.size, 0, .int .i64 t), (wr.heap.size, 1, .int .i64 0)] (wr.alloc (.cells #[.int .i64 t, .int .i64 0] 53)) := Keeps.app (l := [(w.heap.size, 0, .int .i64 k), (w.heap.size, 1, v), (w.heap.size, 2, .int .i64 a), (w.heap.size, 3, .int .i64 r), (w.heap.size, 4, .int .i64 n), (w.heap.size, 5, .int .i64 d), (w.heap.size, 6, u), (w.heap.size, 7, .int .i64 e)]) ⟨under hB (below_alloc _ _), hBX.next (below_alloc _ _)⟩ (newK2 (L := []) ⟨under hB (below_alloc _ _), trivial⟩)
   have hgz : w1.heap.size ≤ wr.heap.size := hB.size
   have hpb : (Value.slice A3 n3 c3).ownBlock ≠ some wr.heap.size := fun e => by have := ((show World.ownsRow _ _ _ _ _ _ _ from HO.out).lt _ e).2; omega
   have HO2 : Hid (RowP (wr.alloc (.cells #[.int .i64 t, .int .i64 0] 53)) w1.heap.size (.slice A3 n3 c3) (full.take j)) := Lib.hid (owns_below (show World.ownsRow _ _ _ _ _ _ _ from HO.out) (below_alloc _ _))
   clear HO hBX c0
   go_upto_region 7 with (fail)
   clear c1 hB
   generalize wr.alloc (.cells #[.int .i64 t, .int .i64 0] 53) = wp at *
   generalize wr.heap.size = pb at *
   ·obtain ⟨⟨kz0,kc0,kf0⟩,⟨kz1,kc1,kf1⟩,⟨kz2,kc2,kf2⟩,⟨kz3,kc3,kf3⟩,⟨kz4,kc4,kf4⟩,⟨kz5,kc5,kf5⟩,⟨kz6,kc6,kf6⟩,⟨kz7,kc7,kf7⟩,⟨kz8,kc8,kf8⟩,⟨kz9,kc9,kf9⟩,_⟩ := hK0.2
    have hL8 : Keeps w1 [(w.heap.size, 0, .int .i64 k), (w.heap.size, 1, v), (w.heap.size, 2, .int .i64 a), (w.heap.size, 3, .int .i64 r), (w.heap.size, 4, .int .i64 n), (w.heap.size, 5, .int .i64 d), (w.heap.size, 6, u), (w.heap.size, 7, .int .i64 e)] wp := hK0.sub (by simp)
    have hPB : Keeps w1 [(pb, 0, .int .i64 t), (pb, 1, .int .i64 0)] wp := hK0.sub (by simp)
    clear hK0
    go_upto_region 11 with (fail)
    (try clear hHeld0); (try clear hHeld1); (try clear kz0 kc0 kf0); (try clear kz1 kc1 kf1); (try clear kz2 kc2 kf2); (try clear kz3 kc3 kf3); (try clear kz4 kc4 kf4); (try clear kz5 kc5 kf5); (try clear kz6 kc6 kf6); (try clear kz7 kc7 kf7); (try clear kz8 kc8 kf8); (try clear kz9 kc9 kf9)
    refine region_keeps (w0 := w1) (L := [(w.heap.size, 0, .int .i64 k), (w.heap.size, 1, v), (w.heap.size, 2, .int .i64 a), (w.heap.size, 3, .int .i64 r), (w.heap.size, 4, .int .i64 n), (w.heap.size, 5, .int .i64 d), (w.heap.size, 6, u), (w.heap.size, 7, .int .i64 e)]) (by kernel_rfl) hL8 (fun hHeld0 => ?_)
    refine tv 0 38 rfl rfl ?_
    try go_frame
    refine tk 1 39 rfl rfl ?_ ?_ ?_
    rotate_left
    ·intro wq hSw; obtain ⟨⟨_,_,_⟩,⟨_,_,_⟩,⟨_,_,_⟩,⟨_,_,_⟩,⟨_,_,_⟩,⟨_,_,_⟩,⟨_,_,_⟩,⟨_,_,_⟩,_⟩ := hSw.2; have x1 := (hSw.1.cell (p := ⟨bb, off + j, none⟩) hbw).trans hc1w.out; have x0 := (hSw.1.cell (p := ⟨bb, off, none⟩) hbw).trans hc0w.out; go_simp; (try with_reducible rfl)
    try go_frame
    refine tv 2 40 rfl rfl ?_
    try go_frame
    refine tv 3 41 rfl rfl ?_
    try go_frame
    refine tv 4 42 rfl rfl ?_
    try go_frame
    refine tk 5 43 rfl rfl ?_ ?_ ?_
    rotate_left
    ·intro wq hSw; obtain ⟨⟨_,_,_⟩,⟨_,_,_⟩,⟨_,_,_⟩,⟨_,_,_⟩,⟨_,_,_⟩,⟨_,_,_⟩,⟨_,_,_⟩,⟨_,_,_⟩,_⟩ := hSw.2; have x1 := (hSw.1.cell (p := ⟨bb, off + j, none⟩) hbw).trans hc1w.out; have x0 := (hSw.1.cell (p := ⟨bb, off, none⟩) hbw).trans hc0w.out; go_simp; (try with_reducible rfl)
    try go_frame
    refine tv 6 44 rfl rfl ?_
    try go_frame
    refine tv 7 45 rfl rfl ?_
    try go_frame
    refine tk 8 46 rfl rfl ?_ ?_ ?_
    rotate_left
    ·intro wq hSw; obtain ⟨⟨_,_,_⟩,⟨_,_,_⟩,⟨_,_,_⟩,⟨_,_,_⟩,⟨_,_,_⟩,⟨_,_,_⟩,⟨_,_,_⟩,⟨_,_,_⟩,_⟩ := hSw.2; have x1 := (hSw.1.cell (p := ⟨bb, off + j, none⟩) hbw).trans hc1w.out; have x0 := (hSw.1.cell (p := ⟨bb, off, none⟩) hbw).trans hc0w.out; go_simp; (try with_reducible rfl)
    try go_frame
    refine tv 9 47 rfl rfl ?_
    try go_frame
    refine ty [10] ?_
    refine AllReadyH.cons rfl (fun K hK => ?_) AllReadyH.nil
    go_simp
    ((with_reducible refine (AT.out _).mono ?_); rintro e w6 ⟨rfl, hb⟩; have hb6 := hb)
    refine hK.out _ _ (hHeld0.next hb) (fun hHeld1 => ?_)
    clear hK K; try clear hb
    try go_frame
    refine tv 11 37 rfl rfl ?_
    try go_frame
    refine tv 12 49 rfl rfl ?_
    try go_frame
    refine tv 13 50 rfl rfl ?_
    try go_frame
    refine tv 14 8 rfl rfl ?_
    try go_frame
    refine tv 15 9 rfl rfl ?_
    try go_frame
    refine wpAnyH_done (by kernel_rfl) ?_ _
    have hHeld := hHeld1
    obtain ⟨⟨kz0,kc0,kf0⟩,⟨kz1,kc1,kf1⟩,⟨kz2,kc2,kf2⟩,⟨kz3,kc3,kf3⟩,⟨kz4,kc4,kf4⟩,⟨kz5,kc5,kf5⟩,⟨kz6,kc6,kf6⟩,⟨kz7,kc7,kf7⟩,_⟩ := hHeld.2
    all_goals
     have hPB2 := hPB.next (undrew hb6)
     have HQ := Lib.hid (owns_below (show World.ownsRow _ _ _ _ _ _ _ from HO2.out) (undrew hb6))
     (try clear hHeld); (try clear hHeld0); (try clear hHeld1); (try clear kz0 kc0 kf0) ; (try clear kz1 kc1 kf1) ; (try clear kz2 kc2 kf2) ; (try clear kz3 kc3 kf3) ; (try clear kz4 kc4 kf4) ; (try clear kz5 kc5 kf5)
     (try clear hHeld0); (try clear hHeld1); (try clear kz0 kc0 kf0); (try clear kz1 kc1 kf1); (try clear kz2 kc2 kf2); (try clear kz3 kc3 kf3); (try clear kz4 kc4 kf4); (try clear kz5 kc5 kf5); (try clear kz6 kc6 kf6); (try clear kz7 kc7 kf7); (try clear kz8 kc8 kf8); (try clear kz9 kc9 kf9)
     cases gb : backB x
     ·have g2 : gg = false := hgg.trans gb
      clear hgg
      subst g2
      obtain rfl : bk = false := HBN.out gb
      have hP2 := hPB2.1
      clear hPB2 HQ HO2 hb6
      go_wp2_with fail
      go_returns
      exact ⟨rfl, under HBW.out hP2⟩
     ·have g2 : gg = true := hgg.trans gb
      clear hgg
      subst g2
      have hqv := HQV.out gb
      subst hqv
      obtain ⟨⟨kz0, kc0, kf0⟩, ⟨kz1, kc1, kf1⟩, _⟩ := hPB2.2
      have hQ := kupd (M := [(pb, 0, .int .i64 t), (pb, 1, .int .i64 qv)]) hPB2 kc1 hgz (.int .i64 qv) (by simp [updL])
      have HQ3 := Lib.hid (owns_pt (i := 1) (show World.ownsRow _ _ _ _ _ _ _ from HQ.out) hpb (.int .i64 qv))
      have GB := Lib.hid gb
      clear hPB2 HQ HO2 hb6
      go_upto_region 15 with (fail)
      obtain ⟨wc, ewc, hH⟩ := keeps_named hQ
      rw [← ewc] at HQ3 ⊢
      have HO3 : Hid (RowP wc w1.heap.size (.slice A3 n3 c3) (full.take j)) := HQ3
      have HBT := GB
      clear ewc hQ HQ3 GB HBN HQV AT
      have hHs := hH.1.size
      obtain ⟨⟨kz0, kc0, kf0⟩, ⟨kz1, kc1, kf1⟩, _⟩ := hH.2
      have hHB := Lib.hid hH.1
      skip
      go_wp2_with (at_builtin; go_loud (refine wpList_append_own _ rfl _ _ 35 rfl w1.heap.size 53 i0 (.agg #[.int .i64 0, .int .i64 0]) 2 16 Tryz.underlying35 hi hz0 hz1 hz2 rfl (by decide) _ _ _ rfl (owns_below (show World.ownsRow _ _ _ _ _ _ _ from HO3.out) (below_alloc wc _)) ⟨wc.heap.size, 0, none⟩ 1 1 [.int .i64 t, .int .i64 qv] rfl rfl ?c1 ?c2 ?c3 ?c4 ?c5 ?_))
      case c1 => exact new_cells2 rfl
      case c2 => intro u hu; simp at hu; rcases hu with rfl | rfl <;> rfl
      case c3 => unfold maxLen; omega
      case c4 => omega
      case c5 => simp; omega
      intro v' w12 hown' hgrow _
      have HO4 : Hid (RowP w12 w1.heap.size v' (full.take (j + 1))) := Lib.hid (by
       unfold RowP
       rw [hfp.out, List.length_append, flatP_app]
       simpa [flatP] using hown')
      have hB4 := own_grows hHB.out (show World.ownsRow _ _ _ _ _ _ _ from HO3.out) hgrow
      have HB3 := Lib.hid (HB2.out HBT.out)
      clear hown' hgrow hH HO3 HB2 hHB
      (try clear hHeld0); (try clear hHeld1); (try clear kz0 kc0 kf0); (try clear kz1 kc1 kf1); (try clear kz2 kc2 kf2); (try clear kz3 kc3 kf3); (try clear kz4 kc4 kf4); (try clear kz5 kc5 kf5); (try clear kz6 kc6 kf6); (try clear kz7 kc7 kf7); (try clear kz8 kc8 kf8); (try clear kz9 kc9 kf9)
      go_wp2_with fail
      go_roundw
      case rel => exact ⟨j + 1, by first | (simp; done) | (rw [wk]; simp; done), gj, HB3, HO4, hB4⟩
      case measure => first | exact tl.out | (rw [wk]; exact tl.out)
  ·have i1 : ¬ (j : Int) < (N : Int) := by omega
   have e : j = N := by omega
   subst e
   have EB : Hid (bk = true) := Lib.hid (HALL.out (fun q x hx => HB.out q x (by have := (List.getElem?_eq_some_iff.1 hx).1; rw [HVL.out] at this; exact this) hx))
   have HO2 := HO.out
   rw [List.take_of_length_le (by rw [HPL.out]; exact Nat.le_refl _)] at HO2
   replace HO2 := Lib.hid HO2
   obtain ⟨A3, n3, c3, rfl⟩ := own_slw HO2.out
   have hB2 := under HBW.out hB
   have HO3 := Lib.hid (owns_less (B' := w.heap.size) HO2.out (by have := HBW.out.size; omega))
   obtain rfl : bk = true := EB.out
   clear HB HO HO2 hB
   go_wp2_with fail
   go_returns
   exact ⟨A3, n3, c3, rfl, hB2, HO3.out⟩
end Go.Proofs.YtcfidimnbamnkaaGreat.P11

/-
 Layer 11: the document's Kind and Right.
-/
namespace Go.Proofs.YtcfidimnbamnkaaGreat.P11
open Go.RowKit Go.Shelf Go.Proofs.YtcfidimnbamnkaaGreat.P7

set_option maxHeartbeats 2000000 in
theorem refKind_any (a r n d : Int) (w : World) : Calls Tryz.prog 23 #[lnV a r n d] w (Ret w (.int .i64 (kindL n r))) := by
 by_cases h1 : n = 0
 ·subst h1
  have e5 : kindL 0 r = 1 := rfl
  rw [e5]
  clear e5
  go_enter Tryz.func23, Tryz.ntmps23
  go_wp2_with fail
  go_returns
  exact ⟨rfl, by go_grown⟩
 ·have t1 : (n == 0) = false := by simpa using h1
  by_cases h2 : r = 0
  ·subst h2
   have e5 : kindL n 0 = 2 := by unfold kindL; rw [if_neg h1, if_pos rfl]
   rw [e5]
   clear e5 h1
   go_enter Tryz.func23, Tryz.ntmps23
   go_wp2_with fail
   go_returns
   exact ⟨rfl, by go_grown⟩
  ·have t2 : (r == 0) = false := by simpa using h2
   have e5 : kindL n r = 3 := by unfold kindL; rw [if_neg h1, if_neg h2]
   rw [e5]
   clear e5 h1 h2
   go_enter Tryz.func23, Tryz.ntmps23
   go_wp2_with fail
   go_returns
   exact ⟨rfl, by go_grown⟩
theorem points_bk {w : World} {s : Sg} {e : Ending} {w' : World} (h : PointsD w s e w') : ∃ A n c, e = .returned (.tuple #[.slice A n c, .bool (backs (vals s))]) ∧ Below w.heap.size w w' := by
 unfold PointsD at h
 cases g : backs (vals s)
 ·rw [g] at h
  simp only [Bool.false_eq_true, if_false] at h
  exact ⟨none, 0, 0, h.1, h.2⟩
 ·rw [g] at h
  simp only [if_true] at h
  obtain ⟨A, n, c, h1, h2, _⟩ := h
  exact ⟨A, n, c, h1, h2⟩
set_option maxRecDepth 100000 in
set_option maxHeartbeats 8000000 in
theorem refRightS_any (s : Sg) (hR : s.R.length ≤ 1000000) (hV : s.V.length ≤ 1000000) (v u : Value) (w : World) (h : ReadsR w v s.R) (hu : Reads .i64 w u s.V) :
  Calls Tryz.prog 16 #[sgOf s v u] w (Ret w (.bool (segB s))) := by
 have RR : Hid (∀ W, Below w.heap.size w W → Calls Tryz.prog 55 #[v] W (Ret W (.bool (okB s.R)))) := Lib.hid (fun W hb => P7.refRight_any s.R hR v W (h.below hb))
 have TM : Hid (okB s.R = true → ∀ W, Below w.heap.size w W → Calls Tryz.prog 56 #[v] W (LaidI W (timesR s.R))) := Lib.hid (fun hok W hb => by
  have := P7.refTimes_any s.R hR v W (h.below hb)
  rwa [timesD_ok hok] at this)
 have TT : Hid (okB s.R = true → ((timesR s.R).length : Int) = totalR s.R) := Lib.hid (fun hok => (times_ok hok).total)
 have PT : Hid (AskOk s → ∀ W, Below w.heap.size w W → Calls Tryz.prog 21 #[sgOf s v u] W (fun e w' => ∃ A n c, e = .returned (.tuple #[.slice A n c, .bool (backs (vals s))]) ∧ Below W.heap.size W w')) := Lib.hid (fun ha W hb => by
  by_cases g : s.k = 4
  ·exact (refPoints_raw s ha g v u W (h.below hb) (hu.below hb)).mono (fun _ _ hp => points_bk hp)
  ·exact (refPoints_line s ha g v u W (h.below hb) (hu.below hb)).mono (fun _ _ hp => points_bk hp))
 have RL : Hid (∀ W, Calls Tryz.prog 22 #[lnV s.a s.r s.n s.d] W (Ret W (.bool (lineB s.a s.r s.n s.d)))) := Lib.hid (fun W => Go.Proofs.YtcfidimnbamnkaaGreat.refRight_any s.a s.r s.n s.d W)
 have RK : Hid (∀ W, Calls Tryz.prog 23 #[lnV s.a s.r s.n s.d] W (Ret W (.int .i64 (kindL s.n s.r)))) := Lib.hid (fun W => refKind_any s.a s.r s.n s.d W)
 obtain ⟨k, R, a, r, n, d, V, e⟩ := s
 simp only at hR hV RR TM TT RL RK h hu
 obtain ⟨A9, c9, rfl, _, _⟩ := hu
 unfold sgOf
 unfold sgOf at PT
 simp only at PT ⊢
 cases g1 : okB R
 ·have e5 : segB ⟨k, R, a, r, n, d, V, e⟩ = false := by simp [segB, g1]
  rw [e5]
  rw [g1] at RR
  clear e5 TM TT PT RL RK h
  have hK := new_seg (Below.refl w.heap.size w) 27 k v a r n d (.slice A9 V.length c9) e
  go_enter Tryz.func16, Tryz.ntmps16
  go_wp2_with fail
  refine (RR.out _ hK.1).mono ?_
  rintro e' w1 ⟨rfl, hb⟩
  replace hK := hK.next hb
  clear hb RR
  obtain ⟨⟨kz0,kc0,kf0⟩,⟨kz1,kc1,kf1⟩,⟨kz2,kc2,kf2⟩,⟨kz3,kc3,kf3⟩,⟨kz4,kc4,kf4⟩,⟨kz5,kc5,kf5⟩,⟨kz6,kc6,kf6⟩,⟨kz7,kc7,kf7⟩,_⟩ := hK.2
  go_wp2_with fail
  go_returns
  exact ⟨rfl, hK.1⟩
 rw [g1] at RR
 replace TM := Lib.hid (TM.out g1)
 replace TT := TT.out g1
 by_cases g2 : e < 0
 ·have e5 : segB ⟨k, R, a, r, n, d, V, e⟩ = false := by
   have : ¬ 0 ≤ e := by omega
   simp [segB, this]
  rw [e5]
  clear e5 TM TT PT RL RK h
  have hK := new_seg (Below.refl w.heap.size w) 27 k v a r n d (.slice A9 V.length c9) e
  go_enter Tryz.func16, Tryz.ntmps16
  go_wp2_with fail
  refine (RR.out _ hK.1).mono ?_
  rintro e' w1 ⟨rfl, hb⟩
  replace hK := hK.next hb
  clear hb RR
  obtain ⟨⟨kz0,kc0,kf0⟩,⟨kz1,kc1,kf1⟩,⟨kz2,kc2,kf2⟩,⟨kz3,kc3,kf3⟩,⟨kz4,kc4,kf4⟩,⟨kz5,kc5,kf5⟩,⟨kz6,kc6,kf6⟩,⟨kz7,kc7,kf7⟩,_⟩ := hK.2
  go_wp2_with fail
  go_returns
  exact ⟨rfl, hK.1⟩
 by_cases g3 : 1099511627776 < e
 ·have e5 : segB ⟨k, R, a, r, n, d, V, e⟩ = false := by
   have : ¬ e ≤ 1099511627776 := by omega
   simp [segB, this]
  rw [e5]
  clear e5 TM TT PT RL RK h
  have hK := new_seg (Below.refl w.heap.size w) 27 k v a r n d (.slice A9 V.length c9) e
  go_enter Tryz.func16, Tryz.ntmps16
  go_wp2_with fail
  refine (RR.out _ hK.1).mono ?_
  rintro e' w1 ⟨rfl, hb⟩
  replace hK := hK.next hb
  clear hb RR
  obtain ⟨⟨kz0,kc0,kf0⟩,⟨kz1,kc1,kf1⟩,⟨kz2,kc2,kf2⟩,⟨kz3,kc3,kf3⟩,⟨kz4,kc4,kf4⟩,⟨kz5,kc5,kf5⟩,⟨kz6,kc6,kf6⟩,⟨kz7,kc7,kf7⟩,_⟩ := hK.2
  go_wp2_with fail
  go_returns
  exact ⟨rfl, hK.1⟩
 have g4 : 0 ≤ e := by omega
 have g5 : e ≤ 1099511627776 := by omega
 have SG : segB ⟨k, R, a, r, n, d, V, e⟩ = ((if k = 4 then rawOk ⟨k, R, a, r, n, d, V, e⟩ else lineOk ⟨k, R, a, r, n, d, V, e⟩) && backs (vals ⟨k, R, a, r, n, d, V, e⟩)) := by simp [segB, g1, g4, g5]
 rw [SG]
 have hRO : rawOk ⟨k, R, a, r, n, d, V, e⟩ = (decide (a = 0 ∧ r = 0 ∧ n = 0 ∧ d = 0) && decide ((V.length : Int) = totalR R)) := rfl
 have hLO : lineOk ⟨k, R, a, r, n, d, V, e⟩ = (decide (V.length = 0) && (lineB a r n d && decide (k = kindL n r))) := by
  have h0 : decide (V.length = 0) = decide (V = []) := decide_eq_decide.2 List.length_eq_zero_iff
  rw [h0]
  rfl
 rw [hRO, hLO, ← TT]
 clear SG hRO hLO g4 g5 h
 have PA1 : Hid (k = 4 → (V.length : Int) = ((timesR R).length : Int) → ∀ W, Below w.heap.size w W → Calls Tryz.prog 21 #[.agg #[.int .i64 k, v, .int .i64 a, .int .i64 r, .int .i64 n, .int .i64 d, .slice A9 V.length c9, .int .i64 e]] W (fun e' w' => ∃ A' n' c', e' = .returned (.tuple #[.slice A' n' c', .bool (backs (vals ⟨k, R, a, r, n, d, V, e⟩))]) ∧ Below W.heap.size W w')) := Lib.hid (fun hk hl => PT.out ⟨g1, .inl ⟨hk, by show (V.length : Int) = totalR R; rw [← TT]; exact hl⟩⟩)
 have PA2 : Hid (k ≠ 4 → lineB a r n d = true → ∀ W, Below w.heap.size w W → Calls Tryz.prog 21 #[.agg #[.int .i64 k, v, .int .i64 a, .int .i64 r, .int .i64 n, .int .i64 d, .slice A9 V.length c9, .int .i64 e]] W (fun e' w' => ∃ A' n' c', e' = .returned (.tuple #[.slice A' n' c', .bool (backs (vals ⟨k, R, a, r, n, d, V, e⟩))]) ∧ Below W.heap.size W w')) := Lib.hid (fun hk hl => PT.out ⟨g1, .inr ⟨hk, hl⟩⟩)
 clear PT g1 TT
 generalize backs (vals ⟨k, R, a, r, n, d, V, e⟩) = bk at *
 replace TM : Hid (∀ W, Below w.heap.size w W → Calls Tryz.prog 56 #[v] W (fun e' w' => ∃ A c, e' = .returned (.slice A (timesR R).length c) ∧ Below W.heap.size W w')) := Lib.hid (fun W hb => (TM.out W hb).mono (fun _ _ ⟨vt, h1, h2, h3⟩ => by
  obtain ⟨A2, c2, rfl, _, _⟩ := reads_own (k := .i64) (show World.ownsRow _ _ _ _ _ _ _ from h3)
  exact ⟨A2, c2, h1, h2⟩))
 generalize (timesR R).length = M at *
 generalize V.length = N at *
 generalize kindL n r = kl at *
 have q2 : ¬ e < 0 := g2
 have q3 : ¬ 1099511627776 < e := g3
 clear g2 g3 hR hV
 by_cases hk : k = 4
 ·subst hk
  rw [if_pos rfl]
  replace PA1 := Lib.hid (PA1.out rfl)
  clear PA2 RL RK
  by_cases ga : a = 0
  rotate_left
  ·have t5 : (a == 0) = false := by simpa using ga
   have e5 : (decide (a = 0 ∧ r = 0 ∧ n = 0 ∧ d = 0) && decide ((N : Int) = (M : Int)) && bk) = false := by simp [ga]
   rw [e5]
   clear e5 ga PA1 TM
   have hK := new_seg (Below.refl w.heap.size w) 27 4 v a r n d (.slice A9 N c9) e
   go_enter Tryz.func16, Tryz.ntmps16
   go_wp2_with fail
   refine (RR.out _ hK.1).mono ?_
   rintro e' w1 ⟨rfl, hb⟩
   replace hK := hK.next hb
   clear hb RR
   obtain ⟨⟨kz0,kc0,kf0⟩,⟨kz1,kc1,kf1⟩,⟨kz2,kc2,kf2⟩,⟨kz3,kc3,kf3⟩,⟨kz4,kc4,kf4⟩,⟨kz5,kc5,kf5⟩,⟨kz6,kc6,kf6⟩,⟨kz7,kc7,kf7⟩,_⟩ := hK.2
   go_upto_region 4 with (fail)
   (try clear hHeld0); (try clear hHeld1); (try clear hHeld2); (try clear kz0 kc0 kf0); (try clear kz1 kc1 kf1); (try clear kz2 kc2 kf2); (try clear kz3 kc3 kf3); (try clear kz4 kc4 kf4); (try clear kz5 kc5 kf5); (try clear kz6 kc6 kf6); (try clear kz7 kc7 kf7)
   refine region_keeps (w0 := w) (L := [(w.heap.size, 0, .int .i64 4), (w.heap.size, 1, v), (w.heap.size, 2, .int .i64 a), (w.heap.size, 3, .int .i64 r), (w.heap.size, 4, .int .i64 n), (w.heap.size, 5, .int .i64 d), (w.heap.size, 6, .slice A9 N c9), (w.heap.size, 7, .int .i64 e)]) (by kernel_rfl) hK (fun hHeld0 => ?_)
   refine tv 0 22 rfl rfl ?_
   try go_frame
   refine tk 1 23 rfl rfl ?_ ?_ ?_
   rotate_left
   ·intro wq hSw; obtain ⟨⟨_,_,_⟩,⟨_,_,_⟩,⟨_,_,_⟩,⟨_,_,_⟩,⟨_,_,_⟩,⟨_,_,_⟩,⟨_,_,_⟩,⟨_,_,_⟩,_⟩ := hSw.2; go_simp; (try with_reducible rfl)
   try go_frame
   refine tv 2 24 rfl rfl ?_
   try go_frame
   refine tv 3 25 rfl rfl ?_
   try go_frame
   refine tv 4 26 rfl rfl ?_
   try go_frame
   refine tu 5 27 rfl rfl ?_
   try go_frame
   refine tu 6 28 rfl rfl ?_
   try go_frame
   refine tu 7 29 rfl rfl ?_
   try go_frame
   refine tu 8 30 rfl rfl ?_
   try go_frame
   refine tu 9 31 rfl rfl ?_
   try go_frame
   refine tu 10 32 rfl rfl ?_
   try go_frame
   refine tu 11 33 rfl rfl ?_
   try go_frame
   refine tu 12 34 rfl rfl ?_
   try go_frame
   refine tv 13 35 rfl rfl ?_
   try go_frame
   refine wpAnyH_done (by kernel_rfl) ?_ _
   have hHeld := hHeld0
   obtain ⟨⟨kz0,kc0,kf0⟩,⟨kz1,kc1,kf1⟩,⟨kz2,kc2,kf2⟩,⟨kz3,kc3,kf3⟩,⟨kz4,kc4,kf4⟩,⟨kz5,kc5,kf5⟩,⟨kz6,kc6,kf6⟩,⟨kz7,kc7,kf7⟩,_⟩ := hHeld.2
   all_goals
    (try clear hHeld0); (try clear hHeld1); (try clear hHeld2); (try clear kz0 kc0 kf0); (try clear kz1 kc1 kf1); (try clear kz2 kc2 kf2); (try clear kz3 kc3 kf3); (try clear kz4 kc4 kf4); (try clear kz5 kc5 kf5); (try clear kz6 kc6 kf6); (try clear kz7 kc7 kf7)
    go_wp2_with fail
    go_returns
    exact ⟨rfl, hHeld.1⟩
  subst ga
  by_cases gr : r = 0
  rotate_left
  ·have t5 : (r == 0) = false := by simpa using gr
   have e5 : (decide ((0 : Int) = 0 ∧ r = 0 ∧ n = 0 ∧ d = 0) && decide ((N : Int) = (M : Int)) && bk) = false := by simp [gr]
   rw [e5]
   clear e5 gr PA1 TM
   have hK := new_seg (Below.refl w.heap.size w) 27 4 v 0 r n d (.slice A9 N c9) e
   go_enter Tryz.func16, Tryz.ntmps16
   go_wp2_with fail
   refine (RR.out _ hK.1).mono ?_
   rintro e' w1 ⟨rfl, hb⟩
   replace hK := hK.next hb
   clear hb RR
   obtain ⟨⟨kz0,kc0,kf0⟩,⟨kz1,kc1,kf1⟩,⟨kz2,kc2,kf2⟩,⟨kz3,kc3,kf3⟩,⟨kz4,kc4,kf4⟩,⟨kz5,kc5,kf5⟩,⟨kz6,kc6,kf6⟩,⟨kz7,kc7,kf7⟩,_⟩ := hK.2
   go_upto_region 4 with (fail)
   (try clear hHeld0); (try clear hHeld1); (try clear hHeld2); (try clear kz0 kc0 kf0); (try clear kz1 kc1 kf1); (try clear kz2 kc2 kf2); (try clear kz3 kc3 kf3); (try clear kz4 kc4 kf4); (try clear kz5 kc5 kf5); (try clear kz6 kc6 kf6); (try clear kz7 kc7 kf7)
   refine region_keeps (w0 := w) (L := [(w.heap.size, 0, .int .i64 4), (w.heap.size, 1, v), (w.heap.size, 2, .int .i64 0), (w.heap.size, 3, .int .i64 r), (w.heap.size, 4, .int .i64 n), (w.heap.size, 5, .int .i64 d), (w.heap.size, 6, .slice A9 N c9), (w.heap.size, 7, .int .i64 e)]) (by kernel_rfl) hK (fun hHeld0 => ?_)
   refine tv 0 22 rfl rfl ?_
   try go_frame
   refine tk 1 23 rfl rfl ?_ ?_ ?_
   rotate_left
   ·intro wq hSw; obtain ⟨⟨_,_,_⟩,⟨_,_,_⟩,⟨_,_,_⟩,⟨_,_,_⟩,⟨_,_,_⟩,⟨_,_,_⟩,⟨_,_,_⟩,⟨_,_,_⟩,_⟩ := hSw.2; go_simp; (try with_reducible rfl)
   try go_frame
   refine tv 2 24 rfl rfl ?_
   try go_frame
   refine tv 3 25 rfl rfl ?_
   try go_frame
   refine tv 4 26 rfl rfl ?_
   try go_frame
   refine tu 5 27 rfl rfl ?_
   try go_frame
   refine tu 6 28 rfl rfl ?_
   try go_frame
   refine tu 7 29 rfl rfl ?_
   try go_frame
   refine tu 8 30 rfl rfl ?_
   try go_frame
   refine tu 9 31 rfl rfl ?_
   try go_frame
   refine tu 10 32 rfl rfl ?_
   try go_frame
   refine tu 11 33 rfl rfl ?_
   try go_frame
   refine tu 12 34 rfl rfl ?_
   try go_frame
   refine tv 13 35 rfl rfl ?_
   try go_frame
   refine wpAnyH_done (by kernel_rfl) ?_ _
   have hHeld := hHeld0
   obtain ⟨⟨kz0,kc0,kf0⟩,⟨kz1,kc1,kf1⟩,⟨kz2,kc2,kf2⟩,⟨kz3,kc3,kf3⟩,⟨kz4,kc4,kf4⟩,⟨kz5,kc5,kf5⟩,⟨kz6,kc6,kf6⟩,⟨kz7,kc7,kf7⟩,_⟩ := hHeld.2
   all_goals
    (try clear hHeld0); (try clear hHeld1); (try clear hHeld2); (try clear kz0 kc0 kf0); (try clear kz1 kc1 kf1); (try clear kz2 kc2 kf2); (try clear kz3 kc3 kf3); (try clear kz4 kc4 kf4); (try clear kz5 kc5 kf5); (try clear kz6 kc6 kf6); (try clear kz7 kc7 kf7)
    go_wp2_with fail
    go_returns
    exact ⟨rfl, hHeld.1⟩
  subst gr
  by_cases gn : n = 0
  rotate_left
  ·have t5 : (n == 0) = false := by simpa using gn
   have e5 : (decide ((0 : Int) = 0 ∧ (0 : Int) = 0 ∧ n = 0 ∧ d = 0) && decide ((N : Int) = (M : Int)) && bk) = false := by simp [gn]
   rw [e5]
   clear e5 gn PA1 TM
   have hK := new_seg (Below.refl w.heap.size w) 27 4 v 0 0 n d (.slice A9 N c9) e
   go_enter Tryz.func16, Tryz.ntmps16
   go_wp2_with fail
   refine (RR.out _ hK.1).mono ?_
   rintro e' w1 ⟨rfl, hb⟩
   replace hK := hK.next hb
   clear hb RR
   obtain ⟨⟨kz0,kc0,kf0⟩,⟨kz1,kc1,kf1⟩,⟨kz2,kc2,kf2⟩,⟨kz3,kc3,kf3⟩,⟨kz4,kc4,kf4⟩,⟨kz5,kc5,kf5⟩,⟨kz6,kc6,kf6⟩,⟨kz7,kc7,kf7⟩,_⟩ := hK.2
   go_upto_region 4 with (fail)
   (try clear hHeld0); (try clear hHeld1); (try clear hHeld2); (try clear kz0 kc0 kf0); (try clear kz1 kc1 kf1); (try clear kz2 kc2 kf2); (try clear kz3 kc3 kf3); (try clear kz4 kc4 kf4); (try clear kz5 kc5 kf5); (try clear kz6 kc6 kf6); (try clear kz7 kc7 kf7)
   refine region_keeps (w0 := w) (L := [(w.heap.size, 0, .int .i64 4), (w.heap.size, 1, v), (w.heap.size, 2, .int .i64 0), (w.heap.size, 3, .int .i64 0), (w.heap.size, 4, .int .i64 n), (w.heap.size, 5, .int .i64 d), (w.heap.size, 6, .slice A9 N c9), (w.heap.size, 7, .int .i64 e)]) (by kernel_rfl) hK (fun hHeld0 => ?_)
   refine tv 0 22 rfl rfl ?_
   try go_frame
   refine tk 1 23 rfl rfl ?_ ?_ ?_
   rotate_left
   ·intro wq hSw; obtain ⟨⟨_,_,_⟩,⟨_,_,_⟩,⟨_,_,_⟩,⟨_,_,_⟩,⟨_,_,_⟩,⟨_,_,_⟩,⟨_,_,_⟩,⟨_,_,_⟩,_⟩ := hSw.2; go_simp; (try with_reducible rfl)
   try go_frame
   refine tv 2 24 rfl rfl ?_
   try go_frame
   refine tv 3 25 rfl rfl ?_
   try go_frame
   refine tv 4 26 rfl rfl ?_
   try go_frame
   refine tu 5 27 rfl rfl ?_
   try go_frame
   refine tu 6 28 rfl rfl ?_
   try go_frame
   refine tu 7 29 rfl rfl ?_
   try go_frame
   refine tu 8 30 rfl rfl ?_
   try go_frame
   refine tu 9 31 rfl rfl ?_
   try go_frame
   refine tu 10 32 rfl rfl ?_
   try go_frame
   refine tu 11 33 rfl rfl ?_
   try go_frame
   refine tu 12 34 rfl rfl ?_
   try go_frame
   refine tv 13 35 rfl rfl ?_
   try go_frame
   refine wpAnyH_done (by kernel_rfl) ?_ _
   have hHeld := hHeld0
   obtain ⟨⟨kz0,kc0,kf0⟩,⟨kz1,kc1,kf1⟩,⟨kz2,kc2,kf2⟩,⟨kz3,kc3,kf3⟩,⟨kz4,kc4,kf4⟩,⟨kz5,kc5,kf5⟩,⟨kz6,kc6,kf6⟩,⟨kz7,kc7,kf7⟩,_⟩ := hHeld.2
   all_goals
    (try clear hHeld0); (try clear hHeld1); (try clear hHeld2); (try clear kz0 kc0 kf0); (try clear kz1 kc1 kf1); (try clear kz2 kc2 kf2); (try clear kz3 kc3 kf3); (try clear kz4 kc4 kf4); (try clear kz5 kc5 kf5); (try clear kz6 kc6 kf6); (try clear kz7 kc7 kf7)
    go_wp2_with fail
    go_returns
    exact ⟨rfl, hHeld.1⟩
  subst gn
  by_cases gd : d = 0
  rotate_left
  ·have t5 : (d == 0) = false := by simpa using gd
   have e5 : (decide ((0 : Int) = 0 ∧ (0 : Int) = 0 ∧ (0 : Int) = 0 ∧ d = 0) && decide ((N : Int) = (M : Int)) && bk) = false := by simp [gd]
   rw [e5]
   clear e5 gd PA1 TM
   have hK := new_seg (Below.refl w.heap.size w) 27 4 v 0 0 0 d (.slice A9 N c9) e
   go_enter Tryz.func16, Tryz.ntmps16
   go_wp2_with fail
   refine (RR.out _ hK.1).mono ?_
   rintro e' w1 ⟨rfl, hb⟩
   replace hK := hK.next hb
   clear hb RR
   obtain ⟨⟨kz0,kc0,kf0⟩,⟨kz1,kc1,kf1⟩,⟨kz2,kc2,kf2⟩,⟨kz3,kc3,kf3⟩,⟨kz4,kc4,kf4⟩,⟨kz5,kc5,kf5⟩,⟨kz6,kc6,kf6⟩,⟨kz7,kc7,kf7⟩,_⟩ := hK.2
   go_upto_region 4 with (fail)
   (try clear hHeld0); (try clear hHeld1); (try clear hHeld2); (try clear kz0 kc0 kf0); (try clear kz1 kc1 kf1); (try clear kz2 kc2 kf2); (try clear kz3 kc3 kf3); (try clear kz4 kc4 kf4); (try clear kz5 kc5 kf5); (try clear kz6 kc6 kf6); (try clear kz7 kc7 kf7)
   refine region_keeps (w0 := w) (L := [(w.heap.size, 0, .int .i64 4), (w.heap.size, 1, v), (w.heap.size, 2, .int .i64 0), (w.heap.size, 3, .int .i64 0), (w.heap.size, 4, .int .i64 0), (w.heap.size, 5, .int .i64 d), (w.heap.size, 6, .slice A9 N c9), (w.heap.size, 7, .int .i64 e)]) (by kernel_rfl) hK (fun hHeld0 => ?_)
   refine tv 0 22 rfl rfl ?_
   try go_frame
   refine tk 1 23 rfl rfl ?_ ?_ ?_
   rotate_left
   ·intro wq hSw; obtain ⟨⟨_,_,_⟩,⟨_,_,_⟩,⟨_,_,_⟩,⟨_,_,_⟩,⟨_,_,_⟩,⟨_,_,_⟩,⟨_,_,_⟩,⟨_,_,_⟩,_⟩ := hSw.2; go_simp; (try with_reducible rfl)
   try go_frame
   refine tv 2 24 rfl rfl ?_
   try go_frame
   refine tv 3 25 rfl rfl ?_
   try go_frame
   refine tv 4 26 rfl rfl ?_
   try go_frame
   refine tu 5 27 rfl rfl ?_
   try go_frame
   refine tu 6 28 rfl rfl ?_
   try go_frame
   refine tu 7 29 rfl rfl ?_
   try go_frame
   refine tu 8 30 rfl rfl ?_
   try go_frame
   refine tu 9 31 rfl rfl ?_
   try go_frame
   refine tu 10 32 rfl rfl ?_
   try go_frame
   refine tu 11 33 rfl rfl ?_
   try go_frame
   refine tu 12 34 rfl rfl ?_
   try go_frame
   refine tv 13 35 rfl rfl ?_
   try go_frame
   refine wpAnyH_done (by kernel_rfl) ?_ _
   have hHeld := hHeld0
   obtain ⟨⟨kz0,kc0,kf0⟩,⟨kz1,kc1,kf1⟩,⟨kz2,kc2,kf2⟩,⟨kz3,kc3,kf3⟩,⟨kz4,kc4,kf4⟩,⟨kz5,kc5,kf5⟩,⟨kz6,kc6,kf6⟩,⟨kz7,kc7,kf7⟩,_⟩ := hHeld.2
   all_goals
    (try clear hHeld0); (try clear hHeld1); (try clear hHeld2); (try clear kz0 kc0 kf0); (try clear kz1 kc1 kf1); (try clear kz2 kc2 kf2); (try clear kz3 kc3 kf3); (try clear kz4 kc4 kf4); (try clear kz5 kc5 kf5); (try clear kz6 kc6 kf6); (try clear kz7 kc7 kf7)
    go_wp2_with fail
    go_returns
    exact ⟨rfl, hHeld.1⟩
  subst gd
  by_cases g6 : (N : Int) = (M : Int)
  ·have t5 : ((N : Int) == (M : Int)) = true := by simpa using g6
   have e5 : (decide ((0 : Int) = 0 ∧ (0 : Int) = 0 ∧ (0 : Int) = 0 ∧ (0 : Int) = 0) && decide ((N : Int) = (M : Int)) && bk) = bk := by simp [g6]
   rw [e5]
   replace PA1 := Lib.hid (PA1.out g6)
   clear e5 g6
   have hK := new_seg (Below.refl w.heap.size w) 27 4 v 0 0 0 0 (.slice A9 N c9) e
   go_enter Tryz.func16, Tryz.ntmps16
   go_wp2_with fail
   refine (RR.out _ hK.1).mono ?_
   rintro e' w1 ⟨rfl, hb⟩
   replace hK := hK.next hb
   clear hb RR
   obtain ⟨⟨kz0,kc0,kf0⟩,⟨kz1,kc1,kf1⟩,⟨kz2,kc2,kf2⟩,⟨kz3,kc3,kf3⟩,⟨kz4,kc4,kf4⟩,⟨kz5,kc5,kf5⟩,⟨kz6,kc6,kf6⟩,⟨kz7,kc7,kf7⟩,_⟩ := hK.2
   go_upto_region 4 with (fail)
   (try clear hHeld0); (try clear hHeld1); (try clear hHeld2); (try clear kz0 kc0 kf0); (try clear kz1 kc1 kf1); (try clear kz2 kc2 kf2); (try clear kz3 kc3 kf3); (try clear kz4 kc4 kf4); (try clear kz5 kc5 kf5); (try clear kz6 kc6 kf6); (try clear kz7 kc7 kf7)
   refine region_keeps (w0 := w) (L := [(w.heap.size, 0, .int .i64 4), (w.heap.size, 1, v), (w.heap.size, 2, .int .i64 0), (w.heap.size, 3, .int .i64 0), (w.heap.size, 4, .int .i64 0), (w.heap.size, 5, .int .i64 0), (w.heap.size, 6, .slice A9 N c9), (w.heap.size, 7, .int .i64 e)]) (by kernel_rfl) hK (fun hHeld0 => ?_)
   refine tv 0 22 rfl rfl ?_
   try go_frame
   refine tk 1 23 rfl rfl ?_ ?_ ?_
   rotate_left
   ·intro wq hSw; obtain ⟨⟨_,_,_⟩,⟨_,_,_⟩,⟨_,_,_⟩,⟨_,_,_⟩,⟨_,_,_⟩,⟨_,_,_⟩,⟨_,_,_⟩,⟨_,_,_⟩,_⟩ := hSw.2; go_simp; (try with_reducible rfl)
   try go_frame
   refine tv 2 24 rfl rfl ?_
   try go_frame
   refine tv 3 25 rfl rfl ?_
   try go_frame
   refine tv 4 26 rfl rfl ?_
   try go_frame
   refine tv 5 27 rfl rfl ?_
   try go_frame
   refine tk 6 28 rfl rfl ?_ ?_ ?_
   rotate_left
   ·intro wq hSw; obtain ⟨⟨_,_,_⟩,⟨_,_,_⟩,⟨_,_,_⟩,⟨_,_,_⟩,⟨_,_,_⟩,⟨_,_,_⟩,⟨_,_,_⟩,⟨_,_,_⟩,_⟩ := hSw.2; go_simp; (try with_reducible rfl)
   try go_frame
   refine tv 7 29 rfl rfl ?_
   try go_frame
   refine tv 8 30 rfl rfl ?_
   try go_frame
   refine tk 9 31 rfl rfl ?_ ?_ ?_
   rotate_left
   ·intro wq hSw; obtain ⟨⟨_,_,_⟩,⟨_,_,_⟩,⟨_,_,_⟩,⟨_,_,_⟩,⟨_,_,_⟩,⟨_,_,_⟩,⟨_,_,_⟩,⟨_,_,_⟩,_⟩ := hSw.2; go_simp; (try with_reducible rfl)
   try go_frame
   refine ty [10] ?_
   refine AllReadyH.cons rfl (fun K hK => ?_) AllReadyH.nil
   go_simp
   (have hB0 := hHeld0.1; (with_reducible refine (TM.out _ hB0).mono ?_); clear hB0; rintro e w2 ⟨A2, c2, rfl, hb⟩)
   refine hK.out _ _ (hHeld0.next hb) (fun hHeld1 => ?_)
   clear hK K; try clear hb
   try go_frame
   refine tv 11 33 rfl rfl ?_
   try go_frame
   refine tv 12 34 rfl rfl ?_
   try go_frame
   refine tv 13 35 rfl rfl ?_
   try go_frame
   refine wpAnyH_done (by kernel_rfl) ?_ _
   have hHeld := hHeld1
   obtain ⟨⟨kz0,kc0,kf0⟩,⟨kz1,kc1,kf1⟩,⟨kz2,kc2,kf2⟩,⟨kz3,kc3,kf3⟩,⟨kz4,kc4,kf4⟩,⟨kz5,kc5,kf5⟩,⟨kz6,kc6,kf6⟩,⟨kz7,kc7,kf7⟩,_⟩ := hHeld.2
   all_goals
    have hH9 := hHeld
    (try clear hHeld0); (try clear hHeld1); (try clear hHeld2); (try clear kz0 kc0 kf0); (try clear kz1 kc1 kf1); (try clear kz2 kc2 kf2); (try clear kz3 kc3 kf3); (try clear kz4 kc4 kf4); (try clear kz5 kc5 kf5); (try clear kz6 kc6 kf6); (try clear kz7 kc7 kf7)
    obtain ⟨⟨kz0,kc0,kf0⟩,⟨kz1,kc1,kf1⟩,⟨kz2,kc2,kf2⟩,⟨kz3,kc3,kf3⟩,⟨kz4,kc4,kf4⟩,⟨kz5,kc5,kf5⟩,⟨kz6,kc6,kf6⟩,⟨kz7,kc7,kf7⟩,_⟩ := hH9.2
    clear hHeld
    go_wp2_with fail
    refine (PA1.out _ hH9.1).mono ?_
    rintro e' w5 ⟨A7, n7, c7, rfl, hb⟩
    have hB7 := under hH9.1 hb
    clear hH9 hb
    (try clear hHeld0); (try clear hHeld1); (try clear hHeld2); (try clear kz0 kc0 kf0); (try clear kz1 kc1 kf1); (try clear kz2 kc2 kf2); (try clear kz3 kc3 kf3); (try clear kz4 kc4 kf4); (try clear kz5 kc5 kf5); (try clear kz6 kc6 kf6); (try clear kz7 kc7 kf7)
    go_wp2_with fail
    go_returns
    exact ⟨rfl, hB7⟩
  ·have t5 : ((N : Int) == (M : Int)) = false := by simpa using g6
   have e5 : (decide ((0 : Int) = 0 ∧ (0 : Int) = 0 ∧ (0 : Int) = 0 ∧ (0 : Int) = 0) && decide ((N : Int) = (M : Int)) && bk) = false := by simp [g6]
   rw [e5]
   clear e5 g6 PA1
   have hK := new_seg (Below.refl w.heap.size w) 27 4 v 0 0 0 0 (.slice A9 N c9) e
   go_enter Tryz.func16, Tryz.ntmps16
   go_wp2_with fail
   refine (RR.out _ hK.1).mono ?_
   rintro e' w1 ⟨rfl, hb⟩
   replace hK := hK.next hb
   clear hb RR
   obtain ⟨⟨kz0,kc0,kf0⟩,⟨kz1,kc1,kf1⟩,⟨kz2,kc2,kf2⟩,⟨kz3,kc3,kf3⟩,⟨kz4,kc4,kf4⟩,⟨kz5,kc5,kf5⟩,⟨kz6,kc6,kf6⟩,⟨kz7,kc7,kf7⟩,_⟩ := hK.2
   go_upto_region 4 with (fail)
   (try clear hHeld0); (try clear hHeld1); (try clear hHeld2); (try clear kz0 kc0 kf0); (try clear kz1 kc1 kf1); (try clear kz2 kc2 kf2); (try clear kz3 kc3 kf3); (try clear kz4 kc4 kf4); (try clear kz5 kc5 kf5); (try clear kz6 kc6 kf6); (try clear kz7 kc7 kf7)
   refine region_keeps (w0 := w) (L := [(w.heap.size, 0, .int .i64 4), (w.heap.size, 1, v), (w.heap.size, 2, .int .i64 0), (w.heap.size, 3, .int .i64 0), (w.heap.size, 4, .int .i64 0), (w.heap.size, 5, .int .i64 0), (w.heap.size, 6, .slice A9 N c9), (w.heap.size, 7, .int .i64 e)]) (by kernel_rfl) hK (fun hHeld0 => ?_)
   refine tv 0 22 rfl rfl ?_
   try go_frame
   refine tk 1 23 rfl rfl ?_ ?_ ?_
   rotate_left
   ·intro wq hSw; obtain ⟨⟨_,_,_⟩,⟨_,_,_⟩,⟨_,_,_⟩,⟨_,_,_⟩,⟨_,_,_⟩,⟨_,_,_⟩,⟨_,_,_⟩,⟨_,_,_⟩,_⟩ := hSw.2; go_simp; (try with_reducible rfl)
   try go_frame
   refine tv 2 24 rfl rfl ?_
   try go_frame
   refine tv 3 25 rfl rfl ?_
   try go_frame
   refine tv 4 26 rfl rfl ?_
   try go_frame
   refine tv 5 27 rfl rfl ?_
   try go_frame
   refine tk 6 28 rfl rfl ?_ ?_ ?_
   rotate_left
   ·intro wq hSw; obtain ⟨⟨_,_,_⟩,⟨_,_,_⟩,⟨_,_,_⟩,⟨_,_,_⟩,⟨_,_,_⟩,⟨_,_,_⟩,⟨_,_,_⟩,⟨_,_,_⟩,_⟩ := hSw.2; go_simp; (try with_reducible rfl)
   try go_frame
   refine tv 7 29 rfl rfl ?_
   try go_frame
   refine tv 8 30 rfl rfl ?_
   try go_frame
   refine tk 9 31 rfl rfl ?_ ?_ ?_
   rotate_left
   ·intro wq hSw; obtain ⟨⟨_,_,_⟩,⟨_,_,_⟩,⟨_,_,_⟩,⟨_,_,_⟩,⟨_,_,_⟩,⟨_,_,_⟩,⟨_,_,_⟩,⟨_,_,_⟩,_⟩ := hSw.2; go_simp; (try with_reducible rfl)
   try go_frame
   refine ty [10] ?_
   refine AllReadyH.cons rfl (fun K hK => ?_) AllReadyH.nil
   go_simp
   (have hB0 := hHeld0.1; (with_reducible refine (TM.out _ hB0).mono ?_); clear hB0; rintro e w2 ⟨A2, c2, rfl, hb⟩)
   refine hK.out _ _ (hHeld0.next hb) (fun hHeld1 => ?_)
   clear hK K; try clear hb
   try go_frame
   refine tv 11 33 rfl rfl ?_
   try go_frame
   refine tv 12 34 rfl rfl ?_
   try go_frame
   refine tv 13 35 rfl rfl ?_
   try go_frame
   refine wpAnyH_done (by kernel_rfl) ?_ _
   have hHeld := hHeld1
   obtain ⟨⟨kz0,kc0,kf0⟩,⟨kz1,kc1,kf1⟩,⟨kz2,kc2,kf2⟩,⟨kz3,kc3,kf3⟩,⟨kz4,kc4,kf4⟩,⟨kz5,kc5,kf5⟩,⟨kz6,kc6,kf6⟩,⟨kz7,kc7,kf7⟩,_⟩ := hHeld.2
   all_goals
    (try clear hHeld0); (try clear hHeld1); (try clear hHeld2); (try clear kz0 kc0 kf0); (try clear kz1 kc1 kf1); (try clear kz2 kc2 kf2); (try clear kz3 kc3 kf3); (try clear kz4 kc4 kf4); (try clear kz5 kc5 kf5); (try clear kz6 kc6 kf6); (try clear kz7 kc7 kf7)
    go_wp2_with fail
    go_returns
    exact ⟨rfl, hHeld.1⟩
 ·have t4 : (k == 4) = false := by simpa using hk
  rw [if_neg hk]
  replace PA2 := Lib.hid (PA2.out hk)
  clear PA1 TM
  by_cases g6 : N = 0
  rotate_left
  ·have t5 : (0 : Int) < (N : Int) := by omega
   have t6 : 0 < N := by omega
   have e5 : (decide (N = 0) && (lineB a r n d && decide (k = kl)) && bk) = false := by simp [g6]
   rw [e5]
   clear e5 g6 PA2 RL RK
   have hK := new_seg (Below.refl w.heap.size w) 27 k v a r n d (.slice A9 N c9) e
   go_enter Tryz.func16, Tryz.ntmps16
   go_wp2_with fail
   refine (RR.out _ hK.1).mono ?_
   rintro e' w1 ⟨rfl, hb⟩
   replace hK := hK.next hb
   clear hb RR
   obtain ⟨⟨kz0,kc0,kf0⟩,⟨kz1,kc1,kf1⟩,⟨kz2,kc2,kf2⟩,⟨kz3,kc3,kf3⟩,⟨kz4,kc4,kf4⟩,⟨kz5,kc5,kf5⟩,⟨kz6,kc6,kf6⟩,⟨kz7,kc7,kf7⟩,_⟩ := hK.2
   go_upto_region 6 with (fail)
   (try clear hHeld0); (try clear hHeld1); (try clear hHeld2); (try clear kz0 kc0 kf0); (try clear kz1 kc1 kf1); (try clear kz2 kc2 kf2); (try clear kz3 kc3 kf3); (try clear kz4 kc4 kf4); (try clear kz5 kc5 kf5); (try clear kz6 kc6 kf6); (try clear kz7 kc7 kf7)
   refine region_keeps (w0 := w) (L := [(w.heap.size, 0, .int .i64 k), (w.heap.size, 1, v), (w.heap.size, 2, .int .i64 a), (w.heap.size, 3, .int .i64 r), (w.heap.size, 4, .int .i64 n), (w.heap.size, 5, .int .i64 d), (w.heap.size, 6, .slice A9 N c9), (w.heap.size, 7, .int .i64 e)]) (by kernel_rfl) hK (fun hHeld0 => ?_)
   refine tv 0 36 rfl rfl ?_
   try go_frame
   refine tk 1 37 rfl rfl ?_ ?_ ?_
   rotate_left
   ·intro wq hSw; obtain ⟨⟨_,_,_⟩,⟨_,_,_⟩,⟨_,_,_⟩,⟨_,_,_⟩,⟨_,_,_⟩,⟨_,_,_⟩,⟨_,_,_⟩,⟨_,_,_⟩,_⟩ := hSw.2; go_simp; (try with_reducible rfl)
   try go_frame
   refine tv 2 38 rfl rfl ?_
   try go_frame
   refine tv 3 39 rfl rfl ?_
   try go_frame
   refine tv 4 40 rfl rfl ?_
   try go_frame
   refine tu 5 41 rfl rfl ?_
   try go_frame
   refine tu 6 42 rfl rfl ?_
   try go_frame
   refine tu 7 43 rfl rfl ?_
   try go_frame
   refine tu 8 44 rfl rfl ?_
   try go_frame
   refine tv 9 45 rfl rfl ?_
   try go_frame
   refine tv 10 46 rfl rfl ?_
   try go_frame
   refine tu 11 47 rfl rfl ?_
   try go_frame
   refine tu 12 48 rfl rfl ?_
   try go_frame
   refine tu 13 49 rfl rfl ?_
   try go_frame
   refine tu 14 50 rfl rfl ?_
   try go_frame
   refine tu 15 51 rfl rfl ?_
   try go_frame
   refine tu 16 52 rfl rfl ?_
   try go_frame
   refine tv 17 53 rfl rfl ?_
   try go_frame
   refine wpAnyH_done (by kernel_rfl) ?_ _
   have hHeld := hHeld0
   obtain ⟨⟨kz0,kc0,kf0⟩,⟨kz1,kc1,kf1⟩,⟨kz2,kc2,kf2⟩,⟨kz3,kc3,kf3⟩,⟨kz4,kc4,kf4⟩,⟨kz5,kc5,kf5⟩,⟨kz6,kc6,kf6⟩,⟨kz7,kc7,kf7⟩,_⟩ := hHeld.2
   all_goals
    (try clear hHeld0); (try clear hHeld1); (try clear hHeld2); (try clear kz0 kc0 kf0); (try clear kz1 kc1 kf1); (try clear kz2 kc2 kf2); (try clear kz3 kc3 kf3); (try clear kz4 kc4 kf4); (try clear kz5 kc5 kf5); (try clear kz6 kc6 kf6); (try clear kz7 kc7 kf7)
    go_wp2_with fail
    go_returns
    exact ⟨rfl, hHeld.1⟩
  subst g6
  cases gl : lineB a r n d
  ·rw [gl] at RL
   have e5 : (decide ((0 : Nat) = 0) && (false && decide (k = kl)) && bk) = false := by simp
   rw [e5]
   clear e5 gl PA2 RK
   have hK := new_seg (Below.refl w.heap.size w) 27 k v a r n d (.slice A9 0 c9) e
   go_enter Tryz.func16, Tryz.ntmps16
   go_wp2_with fail
   refine (RR.out _ hK.1).mono ?_
   rintro e' w1 ⟨rfl, hb⟩
   replace hK := hK.next hb
   clear hb RR
   obtain ⟨⟨kz0,kc0,kf0⟩,⟨kz1,kc1,kf1⟩,⟨kz2,kc2,kf2⟩,⟨kz3,kc3,kf3⟩,⟨kz4,kc4,kf4⟩,⟨kz5,kc5,kf5⟩,⟨kz6,kc6,kf6⟩,⟨kz7,kc7,kf7⟩,_⟩ := hK.2
   go_upto_region 6 with (fail)
   (try clear hHeld0); (try clear hHeld1); (try clear hHeld2); (try clear kz0 kc0 kf0); (try clear kz1 kc1 kf1); (try clear kz2 kc2 kf2); (try clear kz3 kc3 kf3); (try clear kz4 kc4 kf4); (try clear kz5 kc5 kf5); (try clear kz6 kc6 kf6); (try clear kz7 kc7 kf7)
   refine region_keeps (w0 := w) (L := [(w.heap.size, 0, .int .i64 k), (w.heap.size, 1, v), (w.heap.size, 2, .int .i64 a), (w.heap.size, 3, .int .i64 r), (w.heap.size, 4, .int .i64 n), (w.heap.size, 5, .int .i64 d), (w.heap.size, 6, .slice A9 0 c9), (w.heap.size, 7, .int .i64 e)]) (by kernel_rfl) hK (fun hHeld0 => ?_)
   refine tv 0 36 rfl rfl ?_
   try go_frame
   refine tk 1 37 rfl rfl ?_ ?_ ?_
   rotate_left
   ·intro wq hSw; obtain ⟨⟨_,_,_⟩,⟨_,_,_⟩,⟨_,_,_⟩,⟨_,_,_⟩,⟨_,_,_⟩,⟨_,_,_⟩,⟨_,_,_⟩,⟨_,_,_⟩,_⟩ := hSw.2; go_simp; (try with_reducible rfl)
   try go_frame
   refine tv 2 38 rfl rfl ?_
   try go_frame
   refine tv 3 39 rfl rfl ?_
   try go_frame
   refine tv 4 40 rfl rfl ?_
   try go_frame
   refine tv 5 41 rfl rfl ?_
   try go_frame
   refine tk 6 42 rfl rfl ?_ ?_ ?_
   rotate_left
   ·intro wq hSw; obtain ⟨⟨_,_,_⟩,⟨_,_,_⟩,⟨_,_,_⟩,⟨_,_,_⟩,⟨_,_,_⟩,⟨_,_,_⟩,⟨_,_,_⟩,⟨_,_,_⟩,_⟩ := hSw.2; go_simp; (try with_reducible rfl)
   try go_frame
   refine ty [7] ?_
   refine AllReadyH.cons rfl (fun K hK => ?_) AllReadyH.nil
   go_simp
   ((with_reducible refine (RL.out _).mono ?_); rintro e w2 ⟨rfl, hb⟩)
   refine hK.out _ _ (hHeld0.next hb) (fun hHeld1 => ?_)
   clear hK K; try clear hb
   try go_frame
   refine tv 8 44 rfl rfl ?_
   try go_frame
   refine tv 9 45 rfl rfl ?_
   try go_frame
   refine tv 10 46 rfl rfl ?_
   try go_frame
   refine tu 11 47 rfl rfl ?_
   try go_frame
   refine tu 12 48 rfl rfl ?_
   try go_frame
   refine tu 13 49 rfl rfl ?_
   try go_frame
   refine tu 14 50 rfl rfl ?_
   try go_frame
   refine tu 15 51 rfl rfl ?_
   try go_frame
   refine tu 16 52 rfl rfl ?_
   try go_frame
   refine tv 17 53 rfl rfl ?_
   try go_frame
   refine wpAnyH_done (by kernel_rfl) ?_ _
   have hHeld := hHeld1
   obtain ⟨⟨kz0,kc0,kf0⟩,⟨kz1,kc1,kf1⟩,⟨kz2,kc2,kf2⟩,⟨kz3,kc3,kf3⟩,⟨kz4,kc4,kf4⟩,⟨kz5,kc5,kf5⟩,⟨kz6,kc6,kf6⟩,⟨kz7,kc7,kf7⟩,_⟩ := hHeld.2
   all_goals
    (try clear hHeld0); (try clear hHeld1); (try clear hHeld2); (try clear kz0 kc0 kf0); (try clear kz1 kc1 kf1); (try clear kz2 kc2 kf2); (try clear kz3 kc3 kf3); (try clear kz4 kc4 kf4); (try clear kz5 kc5 kf5); (try clear kz6 kc6 kf6); (try clear kz7 kc7 kf7)
    go_wp2_with fail
    go_returns
    exact ⟨rfl, hHeld.1⟩
  rw [gl] at RL
  replace PA2 := Lib.hid (PA2.out gl)
  clear gl
  by_cases g7 : k = kl
  ·have t7 : (k == kl) = true := by simpa using g7
   have e5 : (decide ((0 : Nat) = 0) && (true && decide (k = kl)) && bk) = bk := by simp [g7]
   rw [e5]
   clear e5 g7
   have hK := new_seg (Below.refl w.heap.size w) 27 k v a r n d (.slice A9 0 c9) e
   go_enter Tryz.func16, Tryz.ntmps16
   go_wp2_with fail
   refine (RR.out _ hK.1).mono ?_
   rintro e' w1 ⟨rfl, hb⟩
   replace hK := hK.next hb
   clear hb RR
   obtain ⟨⟨kz0,kc0,kf0⟩,⟨kz1,kc1,kf1⟩,⟨kz2,kc2,kf2⟩,⟨kz3,kc3,kf3⟩,⟨kz4,kc4,kf4⟩,⟨kz5,kc5,kf5⟩,⟨kz6,kc6,kf6⟩,⟨kz7,kc7,kf7⟩,_⟩ := hK.2
   go_upto_region 6 with (fail)
   (try clear hHeld0); (try clear hHeld1); (try clear hHeld2); (try clear kz0 kc0 kf0); (try clear kz1 kc1 kf1); (try clear kz2 kc2 kf2); (try clear kz3 kc3 kf3); (try clear kz4 kc4 kf4); (try clear kz5 kc5 kf5); (try clear kz6 kc6 kf6); (try clear kz7 kc7 kf7)
   refine region_keeps (w0 := w) (L := [(w.heap.size, 0, .int .i64 k), (w.heap.size, 1, v), (w.heap.size, 2, .int .i64 a), (w.heap.size, 3, .int .i64 r), (w.heap.size, 4, .int .i64 n), (w.heap.size, 5, .int .i64 d), (w.heap.size, 6, .slice A9 0 c9), (w.heap.size, 7, .int .i64 e)]) (by kernel_rfl) hK (fun hHeld0 => ?_)
   refine tv 0 36 rfl rfl ?_
   try go_frame
   refine tk 1 37 rfl rfl ?_ ?_ ?_
   rotate_left
   ·intro wq hSw; obtain ⟨⟨_,_,_⟩,⟨_,_,_⟩,⟨_,_,_⟩,⟨_,_,_⟩,⟨_,_,_⟩,⟨_,_,_⟩,⟨_,_,_⟩,⟨_,_,_⟩,_⟩ := hSw.2; go_simp; (try with_reducible rfl)
   try go_frame
   refine tv 2 38 rfl rfl ?_
   try go_frame
   refine tv 3 39 rfl rfl ?_
   try go_frame
   refine tv 4 40 rfl rfl ?_
   try go_frame
   refine tv 5 41 rfl rfl ?_
   try go_frame
   refine tk 6 42 rfl rfl ?_ ?_ ?_
   rotate_left
   ·intro wq hSw; obtain ⟨⟨_,_,_⟩,⟨_,_,_⟩,⟨_,_,_⟩,⟨_,_,_⟩,⟨_,_,_⟩,⟨_,_,_⟩,⟨_,_,_⟩,⟨_,_,_⟩,_⟩ := hSw.2; go_simp; (try with_reducible rfl)
   try go_frame
   refine ty [7] ?_
   refine AllReadyH.cons rfl (fun K hK => ?_) AllReadyH.nil
   go_simp
   ((with_reducible refine (RL.out _).mono ?_); rintro e w2 ⟨rfl, hb⟩)
   refine hK.out _ _ (hHeld0.next hb) (fun hHeld1 => ?_)
   clear hK K; try clear hb
   try go_frame
   refine tv 8 44 rfl rfl ?_
   try go_frame
   refine tv 9 45 rfl rfl ?_
   try go_frame
   refine tv 10 46 rfl rfl ?_
   try go_frame
   refine tv 11 47 rfl rfl ?_
   try go_frame
   refine tk 12 48 rfl rfl ?_ ?_ ?_
   rotate_left
   ·intro wq hSw; obtain ⟨⟨_,_,_⟩,⟨_,_,_⟩,⟨_,_,_⟩,⟨_,_,_⟩,⟨_,_,_⟩,⟨_,_,_⟩,⟨_,_,_⟩,⟨_,_,_⟩,_⟩ := hSw.2; go_simp; (try with_reducible rfl)
   try go_frame
   refine tv 13 49 rfl rfl ?_
   try go_frame
   refine tk 14 50 rfl rfl ?_ ?_ ?_
   rotate_left
   ·intro wq hSw; obtain ⟨⟨_,_,_⟩,⟨_,_,_⟩,⟨_,_,_⟩,⟨_,_,_⟩,⟨_,_,_⟩,⟨_,_,_⟩,⟨_,_,_⟩,⟨_,_,_⟩,_⟩ := hSw.2; go_simp; (try with_reducible rfl)
   try go_frame
   refine ty [15] ?_
   refine AllReadyH.cons rfl (fun K hK => ?_) AllReadyH.nil
   go_simp
   ((with_reducible refine (RK.out _).mono ?_); rintro e w3 ⟨rfl, hb⟩)
   refine hK.out _ _ (hHeld1.next hb) (fun hHeld2 => ?_)
   clear hK K; try clear hb
   try go_frame
   refine tv 16 52 rfl rfl ?_
   try go_frame
   refine tv 17 53 rfl rfl ?_
   try go_frame
   refine wpAnyH_done (by kernel_rfl) ?_ _
   have hHeld := hHeld2
   obtain ⟨⟨kz0,kc0,kf0⟩,⟨kz1,kc1,kf1⟩,⟨kz2,kc2,kf2⟩,⟨kz3,kc3,kf3⟩,⟨kz4,kc4,kf4⟩,⟨kz5,kc5,kf5⟩,⟨kz6,kc6,kf6⟩,⟨kz7,kc7,kf7⟩,_⟩ := hHeld.2
   all_goals
    have hH9 := hHeld
    (try clear hHeld0); (try clear hHeld1); (try clear hHeld2); (try clear kz0 kc0 kf0); (try clear kz1 kc1 kf1); (try clear kz2 kc2 kf2); (try clear kz3 kc3 kf3); (try clear kz4 kc4 kf4); (try clear kz5 kc5 kf5); (try clear kz6 kc6 kf6); (try clear kz7 kc7 kf7)
    obtain ⟨⟨kz0,kc0,kf0⟩,⟨kz1,kc1,kf1⟩,⟨kz2,kc2,kf2⟩,⟨kz3,kc3,kf3⟩,⟨kz4,kc4,kf4⟩,⟨kz5,kc5,kf5⟩,⟨kz6,kc6,kf6⟩,⟨kz7,kc7,kf7⟩,_⟩ := hH9.2
    clear hHeld
    go_wp2_with fail
    refine (PA2.out _ hH9.1).mono ?_
    rintro e' w5 ⟨A7, n7, c7, rfl, hb⟩
    have hB7 := under hH9.1 hb
    clear hH9 hb
    (try clear hHeld0); (try clear hHeld1); (try clear hHeld2); (try clear kz0 kc0 kf0); (try clear kz1 kc1 kf1); (try clear kz2 kc2 kf2); (try clear kz3 kc3 kf3); (try clear kz4 kc4 kf4); (try clear kz5 kc5 kf5); (try clear kz6 kc6 kf6); (try clear kz7 kc7 kf7)
    go_wp2_with fail
    go_returns
    exact ⟨rfl, hB7⟩
  ·have t7 : (k == kl) = false := by simpa using g7
   have e5 : (decide ((0 : Nat) = 0) && (true && decide (k = kl)) && bk) = false := by simp [g7]
   rw [e5]
   clear e5 g7 PA2
   have hK := new_seg (Below.refl w.heap.size w) 27 k v a r n d (.slice A9 0 c9) e
   go_enter Tryz.func16, Tryz.ntmps16
   go_wp2_with fail
   refine (RR.out _ hK.1).mono ?_
   rintro e' w1 ⟨rfl, hb⟩
   replace hK := hK.next hb
   clear hb RR
   obtain ⟨⟨kz0,kc0,kf0⟩,⟨kz1,kc1,kf1⟩,⟨kz2,kc2,kf2⟩,⟨kz3,kc3,kf3⟩,⟨kz4,kc4,kf4⟩,⟨kz5,kc5,kf5⟩,⟨kz6,kc6,kf6⟩,⟨kz7,kc7,kf7⟩,_⟩ := hK.2
   go_upto_region 6 with (fail)
   (try clear hHeld0); (try clear hHeld1); (try clear hHeld2); (try clear kz0 kc0 kf0); (try clear kz1 kc1 kf1); (try clear kz2 kc2 kf2); (try clear kz3 kc3 kf3); (try clear kz4 kc4 kf4); (try clear kz5 kc5 kf5); (try clear kz6 kc6 kf6); (try clear kz7 kc7 kf7)
   refine region_keeps (w0 := w) (L := [(w.heap.size, 0, .int .i64 k), (w.heap.size, 1, v), (w.heap.size, 2, .int .i64 a), (w.heap.size, 3, .int .i64 r), (w.heap.size, 4, .int .i64 n), (w.heap.size, 5, .int .i64 d), (w.heap.size, 6, .slice A9 0 c9), (w.heap.size, 7, .int .i64 e)]) (by kernel_rfl) hK (fun hHeld0 => ?_)
   refine tv 0 36 rfl rfl ?_
   try go_frame
   refine tk 1 37 rfl rfl ?_ ?_ ?_
   rotate_left
   ·intro wq hSw; obtain ⟨⟨_,_,_⟩,⟨_,_,_⟩,⟨_,_,_⟩,⟨_,_,_⟩,⟨_,_,_⟩,⟨_,_,_⟩,⟨_,_,_⟩,⟨_,_,_⟩,_⟩ := hSw.2; go_simp; (try with_reducible rfl)
   try go_frame
   refine tv 2 38 rfl rfl ?_
   try go_frame
   refine tv 3 39 rfl rfl ?_
   try go_frame
   refine tv 4 40 rfl rfl ?_
   try go_frame
   refine tv 5 41 rfl rfl ?_
   try go_frame
   refine tk 6 42 rfl rfl ?_ ?_ ?_
   rotate_left
   ·intro wq hSw; obtain ⟨⟨_,_,_⟩,⟨_,_,_⟩,⟨_,_,_⟩,⟨_,_,_⟩,⟨_,_,_⟩,⟨_,_,_⟩,⟨_,_,_⟩,⟨_,_,_⟩,_⟩ := hSw.2; go_simp; (try with_reducible rfl)
   try go_frame
   refine ty [7] ?_
   refine AllReadyH.cons rfl (fun K hK => ?_) AllReadyH.nil
   go_simp
   ((with_reducible refine (RL.out _).mono ?_); rintro e w2 ⟨rfl, hb⟩)
   refine hK.out _ _ (hHeld0.next hb) (fun hHeld1 => ?_)
   clear hK K; try clear hb
   try go_frame
   refine tv 8 44 rfl rfl ?_
   try go_frame
   refine tv 9 45 rfl rfl ?_
   try go_frame
   refine tv 10 46 rfl rfl ?_
   try go_frame
   refine tv 11 47 rfl rfl ?_
   try go_frame
   refine tk 12 48 rfl rfl ?_ ?_ ?_
   rotate_left
   ·intro wq hSw; obtain ⟨⟨_,_,_⟩,⟨_,_,_⟩,⟨_,_,_⟩,⟨_,_,_⟩,⟨_,_,_⟩,⟨_,_,_⟩,⟨_,_,_⟩,⟨_,_,_⟩,_⟩ := hSw.2; go_simp; (try with_reducible rfl)
   try go_frame
   refine tv 13 49 rfl rfl ?_
   try go_frame
   refine tk 14 50 rfl rfl ?_ ?_ ?_
   rotate_left
   ·intro wq hSw; obtain ⟨⟨_,_,_⟩,⟨_,_,_⟩,⟨_,_,_⟩,⟨_,_,_⟩,⟨_,_,_⟩,⟨_,_,_⟩,⟨_,_,_⟩,⟨_,_,_⟩,_⟩ := hSw.2; go_simp; (try with_reducible rfl)
   try go_frame
   refine ty [15] ?_
   refine AllReadyH.cons rfl (fun K hK => ?_) AllReadyH.nil
   go_simp
   ((with_reducible refine (RK.out _).mono ?_); rintro e w3 ⟨rfl, hb⟩)
   refine hK.out _ _ (hHeld1.next hb) (fun hHeld2 => ?_)
   clear hK K; try clear hb
   try go_frame
   refine tv 16 52 rfl rfl ?_
   try go_frame
   refine tv 17 53 rfl rfl ?_
   try go_frame
   refine wpAnyH_done (by kernel_rfl) ?_ _
   have hHeld := hHeld2
   obtain ⟨⟨kz0,kc0,kf0⟩,⟨kz1,kc1,kf1⟩,⟨kz2,kc2,kf2⟩,⟨kz3,kc3,kf3⟩,⟨kz4,kc4,kf4⟩,⟨kz5,kc5,kf5⟩,⟨kz6,kc6,kf6⟩,⟨kz7,kc7,kf7⟩,_⟩ := hHeld.2
   all_goals
    (try clear hHeld0); (try clear hHeld1); (try clear hHeld2); (try clear kz0 kc0 kf0); (try clear kz1 kc1 kf1); (try clear kz2 kc2 kf2); (try clear kz3 kc3 kf3); (try clear kz4 kc4 kf4); (try clear kz5 kc5 kf5); (try clear kz6 kc6 kf6); (try clear kz7 kc7 kf7)
    go_wp2_with fail
    go_returns
    exact ⟨rfl, hHeld.1⟩
end Go.Proofs.YtcfidimnbamnkaaGreat.P11

/-
 Layer 11: the law SegValues holds of every input. Conditions: those of the law's row.
-/
namespace Go.Proofs.YtcfidimnbamnkaaGreat.P11
open Go.RowKit Go.Shelf Go.Proofs.YtcfidimnbamnkaaGreat.P7

end Go.Proofs.YtcfidimnbamnkaaGreat.P11

/-
 Layer 11: Part, as a law calls it; a segment of the law's own. Conditions: those written at each fact.
-/
namespace Go.Proofs.YtcfidimnbamnkaaGreat.P11
open Go.RowKit Go.Shelf Go.Proofs.YtcfidimnbamnkaaGreat.P7

theorem own_got {w : World} {s : Sg} {e : Ending} {w' : World} (h : OwnS w s e w') : ∃ A1 n1 c1 A2 n2 c2, e = .returned (sgOf s (.slice A1 n1 c1) (.slice A2 n2 c2)) ∧ Below w.heap.size w w' ∧ Own2 w' w.heap.size s (.slice A1 n1 c1) (.slice A2 n2 c2) := by
 obtain ⟨v, u, he, hb, ho⟩ := h
 obtain ⟨A1, n1, c1, rfl⟩ := own_sl ho.runs
 obtain ⟨A2, n2, c2, rfl⟩ := own_sl ho.raws
 exact ⟨A1, n1, c1, A2, n2, c2, he, hb, ho⟩
end Go.Proofs.YtcfidimnbamnkaaGreat.P11

/-
 Layer 11: two blocks of eight cells that are laid and stored into, beside rows of the law's own. Conditions: those written at each fact.
-/
namespace Go.Proofs.YtcfidimnbamnkaaGreat.P11
open Go.RowKit Go.Shelf Go.Proofs.YtcfidimnbamnkaaGreat.P7

theorem Own2.less {W : World} {m m' : Nat} {s : Sg} {v u : Value} (h : Own2 W m s v u) (hm : m' ≤ m) : Own2 W m' s v u := ⟨owns_less h.runs hm, owns_less h.raws hm⟩
theorem Own2.allocAs {w W : World} {m : Nat} {s : Sg} {v u : Value} {L : List (Nat × Nat × Value)} {o : Obj} (h : Own2 W m s v u) (_ : Keeps w L (W.alloc o)) : Own2 (W.alloc o) m s v u := h.below (below_alloc W o)
theorem ask_of2 {s : Sg} (g : segB s = true) : AskOk s := by
 have hok := ((segB_iff s).1 g).1
 have hT := times_ok hok
 have hvl := vals_length g
 by_cases h4 : s.k = 4
 ·refine ⟨hok, .inl ⟨h4, ?_⟩⟩
  have : vals s = s.V := by unfold vals; rw [if_pos h4]
  rw [this] at hvl
  have := hT.total
  omega
 ·refine ⟨hok, .inr ⟨h4, ?_⟩⟩
  unfold segB at g
  rw [if_neg h4] at g
  simp only [lineOk, Bool.and_eq_true] at g
  exact g.2.2.2.1.2.1
theorem rightS_is (s : Sg) (h1 : s.R.length ≤ 1000000) (h2 : s.V.length ≤ 1000000) : ∀ v u W, ReadsR W v s.R → Reads .i64 W u s.V → Calls Tryz.prog 16 #[sgOf s v u] W (Ret W (.bool (segB s))) := fun v u W hr hu => refRightS_any s h1 h2 v u W hr hu
theorem pointsR_is (s : Sg) (g : segB s = true) : ∀ v u W, ReadsR W v s.R → Reads .i64 W u s.V → Calls Tryz.prog 21 #[sgOf s v u] W (fun e w' => ∃ A n c, e = .returned (.tuple #[.slice A n c, .bool true]) ∧ Below W.heap.size W w' ∧ RowP w' W.heap.size (.slice A n c) (ptsS s)) := by
 intro v u W hr hu
 obtain ⟨hok, _, _, hk, hb⟩ := (segB_iff s).1 g
 have hbk : backs (vals s) = true := (backs_iff _).2 hb
 have key : ∀ e w', PointsD W s e w' → ∃ A n c, e = .returned (.tuple #[.slice A n c, .bool true]) ∧ Below W.heap.size W w' ∧ RowP w' W.heap.size (.slice A n c) (ptsS s) := by
  intro e w' h
  unfold PointsD at h
  rw [hbk] at h
  simpa using h
 have hA : AskOk s := ask_of2 g
 by_cases h4 : s.k = 4
 ·exact (refPoints_raw s hA h4 v u W hr hu).mono key
 ·exact (refPoints_line s hA h4 v u W hr hu).mono key
end Go.Proofs.YtcfidimnbamnkaaGreat.P11

/-
 Layer 11: how far a segment is from points (far), point by point. Conditions: those written at each fact.
-/
namespace Go.Proofs.YtcfidimnbamnkaaGreat.P11
open Go.RowKit Go.Shelf Go.Proofs.YtcfidimnbamnkaaGreat.P7
attribute [local go_sem] Oper.semAt_some fieldK0 fieldK1 fieldK2

def ptN (l : List Pn) (z : Nat) : Pn := l.getD (z % l.length) ⟨0, 0, 0⟩
def encN (l : List Pn) (z : Nat) : Array Value := #[Value.int .i64 (ptN l z).i, Value.agg #[.int .i64 (ptN l z).t, .int .i64 (ptN l z).v]]
theorem ptN_at {l : List Pn} {k : Nat} {p : Pn} (h : l[k]? = some p) : ptN l k = p := by
 have hk := (List.getElem?_eq_some_iff.1 h).1
 unfold ptN
 rw [Nat.mod_eq_of_lt hk, List.getD_eq_getElem?_getD, h]
 rfl
theorem encN_at {l : List Pn} {k : Nat} {i t x : Int} (h : l[k]? = some ⟨i, t, x⟩) : encN l k = #[Value.int .i64 i, Value.agg #[.int .i64 t, .int .i64 x]] := by
 unfold encN
 rw [ptN_at h]
theorem range_pre {k n : Nat} (h : k ≤ n) : List.range k <+: List.range n := by
 have : List.range k = (List.range n).take k := by rw [List.take_range, Nat.min_eq_left h]
 rw [this]
 exact List.take_prefix _ _
def distP (p : Int × Int) (q : Pn) : Int := if q.v < p.2 then wrap64 (p.2 - q.v) else wrap64 (q.v - p.2)
def goodP (p : Int × Int) (q : Pn) : Bool := decide (p.1 = q.t) && backB p.2
def maxP (m d : Int) : Int := max m d
def farL (P : List (Int × Int)) (l : List Pn) (ks : List Nat) : Int := ks.foldl (fun m k => maxP m (distP (P.getD (k % l.length) (0, 0)) (ptN l k))) 0
def goodL (P : List (Int × Int)) (l : List Pn) (ks : List Nat) : Prop := ∀ k ∈ ks, goodP (P.getD (k % l.length) (0, 0)) (ptN l k) = true
def farsB (P : List (Int × Int)) (l : List Pn) : Bool := decide (P.length = l.length) && (List.range l.length).all (fun k => goodP (P.getD (k % l.length) (0, 0)) (ptN l k))
def farX (P : List (Int × Int)) (l : List Pn) : Int := if farsB P l then farL P l (List.range l.length) else 0
def farC (P : List (Int × Int)) (l : List Pn) : Int := if farsB P l then 0 else 2
theorem farL_snoc (P : List (Int × Int)) (l : List Pn) (ks : List Nat) (k : Nat) : farL P l (ks ++ [k]) = maxP (farL P l ks) (distP (P.getD (k % l.length) (0, 0)) (ptN l k)) := by
 unfold farL
 rw [List.foldl_append]
 rfl
theorem goodL_snoc {P : List (Int × Int)} {l : List Pn} {ks : List Nat} {k : Nat} (h : goodL P l ks) (hk : goodP (P.getD (k % l.length) (0, 0)) (ptN l k) = true) : goodL P l (ks ++ [k]) := by
 intro j hj
 rcases List.mem_append.1 hj with hj | hj
 ·exact h j hj
 ·rw [List.mem_singleton.1 hj]; exact hk
set_option maxRecDepth 100000 in
set_option maxHeartbeats 4000000 in
theorem points2_stops (s : Sg) (hs : segB s = true) (X : World → Nat → Prop) (b : Nat) (hX : Hangs X b) (n0 Bs : Nat) (v u : Value) (w : World) (hb : b < w.heap.size) (hst : StandS X n0 Bs s v u w) :
  SeqStopsK Fence.wide 8 Tryz.prog 131 #[.pointer (some ⟨Bs, 0, none⟩)] (encN (ptsS s)) (KeepsC X) (fun ys => ys = List.range (ptsS s).length) (fun pre => pre <+: List.range (ptsS s).length) (ptsS s).length w := by
 intro g J Jx W hW hJa hJxa hY h0
 have hbW : b < W.heap.size := Nat.lt_of_lt_of_le hb hW.size
 have hst' := hst.next (KeepsC.of_below hX hb hW)
 clear hst hW
 have hok := ((segB_iff s).1 hs).1
 have hT := times_ok hok
 have hvl := vals_length hs
 have hR1 : s.R.length ≤ 1000000 := by have := hT.runs; omega
 have SY := Lib.hid (fun W => says_any s hs v u W)
 have TM := Lib.hid (fun W (h : ReadsR W v s.R) => timesA_any s.R hR1 v W h)
 have VF := Lib.hid (fun (q : Nat) (t x : Int) W (hq : (timesR s.R)[q]? = some t) (hx : (vals s)[q]? = some x) (h : StandS X n0 Bs s v u W) => value_any s hs q t x hq hx v u W h.reads h.raws)
 have eK := val_enters s.k
 have PG := Lib.hid (fun (q : Nat) (t x : Int) (hq : (timesR s.R)[q]? = some t) (hx : (vals s)[q]? = some x) => ptsF_get 0 _ _ q t x hq hx)
 have PL := ptsF_length 0 _ _ hvl
 have HTL := Lib.hid hT.few
 have HVL := Lib.hid hvl
 have HT0 := Lib.hid hT.one
 refine callsIn_of_wp Tryz.func131 rfl trivial ?_ rfl
 simp only [Tryz.ntmps131, List.size_toArray, List.length_cons, List.length_nil, Nat.reduceAdd, Nat.reduceSub, Array.replicate_succ, Array.replicate_zero, List.push_toArray, List.append_toArray, List.nil_append, List.cons_append]
 have HY := Lib.hid hY
 have HJA := Lib.hid hJa
 have HJX := Lib.hid hJxa
 clear hY hJa hJxa hT
 obtain ⟨⟨kz0,kc0,kf0⟩,⟨kz1,kc1,kf1⟩,⟨kz2,kc2,kf2⟩,⟨kz3,kc3,kf3⟩,⟨kz4,kc4,kf4⟩,⟨kz5,kc5,kf5⟩,⟨kz6,kc6,kf6⟩,⟨kz7,kc7,kf7⟩,_⟩ := hst'.box.cells
 gi_wp2_with fail
 refine ⟨trivial, ?_⟩
 refine (callsIn_wide.2 (SY.out _)).mono ?_
 rintro en w1 ⟨rfl, hb1⟩
 have hst1 := hst'.next (KeepsC.of_below hX hbW hb1)
 have hb1s : b < w1.heap.size := Nat.lt_of_lt_of_le hbW hb1.size
 have hJ1 := abides_below HJA.out h0 hb1
 (try clear kz0 kc0 kf0); (try clear kz1 kc1 kf1); (try clear kz2 kc2 kf2); (try clear kz3 kc3 kf3); (try clear kz4 kc4 kf4); (try clear kz5 kc5 kf5); (try clear kz6 kc6 kf6); (try clear kz7 kc7 kf7)
 clear hst' h0
 obtain ⟨⟨kz0,kc0,kf0⟩,⟨kz1,kc1,kf1⟩,⟨kz2,kc2,kf2⟩,⟨kz3,kc3,kf3⟩,⟨kz4,kc4,kf4⟩,⟨kz5,kc5,kf5⟩,⟨kz6,kc6,kf6⟩,⟨kz7,kc7,kf7⟩,_⟩ := hst1.box.cells
 gi_wp2_with fail
 refine ⟨trivial, ?_⟩
 refine (callsIn_wide.2 (TM.out _ hst1.reads)).mono ?_
 rintro en w2 htm
 have htm2 : GotI w1 (timesR s.R) en w2 := by
  unfold TimesRes at htm
  rw [hok] at htm
  simpa using htm
 clear htm
 obtain ⟨v2, rfl, hb2, hrow⟩ := htm2
 have hrd := reads_own (k := .i64) hrow
 obtain ⟨g2, c2, rfl, hg2⟩ : ∃ g2 c2, v2 = .slice (some ⟨g2, 0, none⟩) (timesR s.R).length c2 ∧ w1.heap.size ≤ g2 := by
  rcases hrow.2 with ⟨_, h0⟩ | ⟨g2, cap2, cur2, rfl, hB2, _⟩
  ·have := HT0.out; omega
  ·exact ⟨g2, cap2, rfl, hB2⟩
 have hst2 := hst1.next (KeepsC.of_below hX hb1s hb2)
 have hxg : ¬ X w2 g2 := fun h => by
  have := hst1.small _ (hX w1 w2 g2 (hb2.block b hb1s) h)
  omega
 have hJ2 := abides_below HJA.out hJ1 hb2
 obtain ⟨A2, cc2, e2, hc2, hk2⟩ := hrd
 cases e2
 have HC : Hid (∀ (W : World), KeepsC X w2 W → ∀ (q : Nat) (t : Int), (timesR s.R)[q]? = some t → W.cell? ⟨g2, q, none⟩ = some (.int .i64 t)) := Lib.hid (fun W hk q t hq => by
  obtain ⟨b', off', e1, _, e3⟩ := hk2 q t hq
  cases e1
  rw [Nat.zero_add] at e3
  exact cell_kept hk hxg e3)
 have HS := Lib.hid (fun (W : World) (hk : KeepsC X w2 W) => hst2.next hk)
 have hgl : g2 < w2.heap.size := by
  obtain ⟨t0, h0⟩ : ∃ t0, (timesR s.R)[0]? = some t0 := ⟨_, List.getElem?_eq_getElem HT0.out⟩
  obtain ⟨b', off', e1, e2, _⟩ := hk2 0 t0 h0
  cases e1
  exact e2
 have HG := Lib.hid hgl
 clear hst1 hst2 hb1 hJ1 hk2 hrow hxg hgl hg2
 generalize hN : (timesR s.R).length = N at *
 have HN := Lib.hid hN
 clear hN
 (try clear kz0 kc0 kf0); (try clear kz1 kc1 kf1); (try clear kz2 kc2 kf2); (try clear kz3 kc3 kf3); (try clear kz4 kc4 kf4); (try clear kz5 kc5 kf5); (try clear kz6 kc6 kf6); (try clear kz7 kc7 kf7)
 gi_wp2_with fail
 gi_loopw [20] (fun i wr => ∃ (k : Nat) (pre : List Nat), i = .int .i64 k ∧ k ≤ N ∧ Hid (pre = List.range k) ∧ J pre wr ∧ Hid (KeepsC X w2 wr))
  (fun i _ => N - (intOf i).toNat)
 case atStart => exact ⟨0, [], rfl, Nat.zero_le _, Lib.hid rfl, hJ2, Lib.hid ⟨Nat.le_refl _, fun _ h => .inl h, fun _ _ h _ _ => h⟩⟩
 case round =>
  obtain ⟨k, pre, rfl, hkl, hp, hJ, hk⟩ := hrel
  clear hJ2
  by_cases gk : k < N
  ·obtain ⟨t, ht⟩ : ∃ t, (timesR s.R)[k]? = some t := ⟨_, List.getElem?_eq_getElem (by rw [HN.out]; exact gk)⟩
   obtain ⟨x, hx⟩ : ∃ x, (vals s)[k]? = some x := ⟨_, List.getElem?_eq_getElem (by rw [HVL.out]; exact gk)⟩
   have cc := HC.out wr hk.out k t ht
   have hSt := HS.out wr hk.out
   have hpt := PG.out k t x ht hx
   rw [Nat.zero_add] at hpt
   have hpl : pre.length < (ptsS s).length := by rw [hp.out, List.length_range]; exact (List.getElem?_eq_some_iff.1 hpt).1
   have hpn : Hid (pre ++ [k] = List.range (k + 1)) := Lib.hid (by rw [hp.out, List.range_succ])
   have HEN := Lib.hid (encN_at (l := ptsS s) hpt)
   have HKL : Hid (k + 1 ≤ (ptsS s).length) := Lib.hid (List.getElem?_eq_some_iff.1 hpt).1
   have HPL := Lib.hid hpl
   have i1 : (k : Int) < (N : Int) := by omega
   have i0 : (0 : Int) ≤ (k : Int) := by omega
   have wk := one_moreV gk (show N ≤ 1000000 by have := HTL.out; omega)
   have tl := Lib.hid (turn_lessV gk)
   have VC := VF.out k t x wr ht hx hSt
   obtain ⟨⟨kz0,kc0,kf0⟩,⟨kz1,kc1,kf1⟩,⟨kz2,kc2,kf2⟩,⟨kz3,kc3,kf3⟩,⟨kz4,kc4,kf4⟩,⟨kz5,kc5,kf5⟩,⟨kz6,kc6,kf6⟩,⟨kz7,kc7,kf7⟩,_⟩ := hSt.box.cells
   have hglr : g2 < wr.heap.size := Nat.lt_of_lt_of_le HG.out hk.out.1
   have HST := Lib.hid hSt
   clear hpl hpt ht hx hSt
   gi_wp2_with fail
   refine ⟨trivial, ?_⟩
   refine (callsIn_wide.2 VC).mono ?_
   rintro en w3 ⟨rfl, hb3⟩
   have hbr : b < wr.heap.size := Nat.lt_of_lt_of_le hb1s (Nat.le_trans hb2.size hk.out.1)
   have hkc := KeepsC.of_below hX hbr hb3
   have hJ3 := abides_below HJA.out hJ hb3
   have HK3 := Lib.hid (hk.out.trans hkc)
   have hy0 := HY.out pre k w3 hJ3 HPL.out
   rw [HEN.out] at hy0
   obtain ⟨fn, tmps, assign, body, hyl, hR⟩ := hy0
   clear hJ3 hJ hb3 hkc VC cc
   (try clear kz0 kc0 kf0); (try clear kz1 kc1 kf1); (try clear kz2 kc2 kf2); (try clear kz3 kc3 kf3); (try clear kz4 kc4 kf4); (try clear kz5 kc5 kf5); (try clear kz6 kc6 kf6); (try clear kz7 kc7 kf7)
   gi_wp2
   refine hR.mono ?_
   rintro e W3 (⟨rfl, hJ4, hk4⟩ | ⟨rfl, hJx4⟩)
   ·have HK4 := Lib.hid (HK3.out.trans hk4)
    clear hk4
    gi_wp2
    go_roundw
    case rel => exact ⟨k + 1, _, by simp [wk], gk, hpn, hJ4, HK4⟩
    case measure => rw [wk]; exact tl.out
   ·gi_wp2
    refine bodyPost_ret (results_none rfl _ _ _) rfl ?_
    exact ⟨⟨_, rfl⟩, .inr ⟨_, by rw [hpn.out]; exact range_pre HKL.out, hJx4⟩⟩
  ·have hkk : k = N := by omega
   have E : Hid (pre = List.range (ptsS s).length) := Lib.hid (by
    rw [hp.out, hkk]
    unfold ptsS
    rw [PL])
   have i1 : ¬ (k : Int) < (N : Int) := by omega
   clear hp HY
   gi_wp2
   go_end0
   exact ⟨⟨_, rfl⟩, .inl (E.out ▸ hJ)⟩
theorem ptsF_idx : ∀ (k : Nat) (T V : List Int) (q : Nat) (p : Pn), (ptsF k T V)[q]? = some p → p.i = ((k + q : Nat) : Int)
 | _, [], _, q, p, h => by simp [ptsF] at h
 | _, _ :: _, [], q, p, h => by simp [ptsF] at h
 | k, t :: T, v :: V, 0, p, h => by
  simp [ptsF] at h
  subst h
  simp
 | k, t :: T, v :: V, q + 1, p, h => by
  have := ptsF_idx (k + 1) T V q p (by simpa [ptsF] using h)
  rw [this]
  omega
def X2 (B : Nat) (_ : World) (k : Nat) : Prop := k = B ∨ k = B + 1
theorem X2_hangs (B b : Nat) : Hangs (X2 B) b := fun _ _ _ _ h => h
theorem keeps_of_below {W W' : World} (hb : Below W.heap.size W W') : KeepsOthers W W' := ⟨hb.size, fun k _ h _ => (hb.block k (Array.getElem?_eq_some_iff.1 h).1).trans h⟩
theorem boxed_below {W W' : World} {B : Nat} {t : TypeId} {v : Value} (h : Boxed W B t v) (hb : Below W.heap.size W W') : Boxed W' B t v := (hb.block _ h.lt).trans h
theorem far_turn {w W W5 : World} {B : Nat} {m n : Int} {v : Value} (hw : w.heap.size + 1 < B) (h1 : Boxed W B 2 (.int .i64 m)) (h2 : Boxed W (B + 1) 3 (.int .i64 n)) (h3 : Below w.heap.size w W) (h4 : Boxed W (w.heap.size + 1) 35 v) (hb : Below W.heap.size W W5) (x y : Int) :
  KeepsOthers W ((W5.setCell ⟨B, 0, none⟩ (.int .i64 x)).setCell ⟨B + 1, 0, none⟩ (.int .i64 y)) ∧ KeepsC (X2 B) W ((W5.setCell ⟨B, 0, none⟩ (.int .i64 x)).setCell ⟨B + 1, 0, none⟩ (.int .i64 y)) ∧
   Boxed ((W5.setCell ⟨B, 0, none⟩ (.int .i64 x)).setCell ⟨B + 1, 0, none⟩ (.int .i64 y)) B 2 (.int .i64 x) ∧ Boxed ((W5.setCell ⟨B, 0, none⟩ (.int .i64 x)).setCell ⟨B + 1, 0, none⟩ (.int .i64 y)) (B + 1) 3 (.int .i64 y) ∧
   Below w.heap.size w ((W5.setCell ⟨B, 0, none⟩ (.int .i64 x)).setCell ⟨B + 1, 0, none⟩ (.int .i64 y)) ∧ Boxed ((W5.setCell ⟨B, 0, none⟩ (.int .i64 x)).setCell ⟨B + 1, 0, none⟩ (.int .i64 y)) (w.heap.size + 1) 35 v := by
 have b1 := boxed_below h1 hb
 have b2 := boxed_below h2 hb
 have b4 := boxed_below h4 hb
 refine ⟨((keeps_of_below hb).trans (KeepsOthers.setCell _ _ _)).trans (KeepsOthers.setCell _ _ _), ?_, (b1.set _).other (by omega) _, (b2.other (by omega) _).set _, ((under h3 hb).setCell (by simp; omega) _).setCell (by simp; omega) _, (b4.other (by omega) _).other (by omega) _⟩
 refine ⟨by simpa [World.setCell] using hb.size, fun k hk => .inl hk, fun k o ho _ hx => ?_⟩
 have hne : k ≠ B ∧ k ≠ B + 1 := by unfold X2 at hx; omega
 have hlt := (Array.getElem?_eq_some_iff.1 ho).1
 rw [Below.heap_setCell _ ⟨B + 1, 0, none⟩ _ k hne.2, Below.heap_setCell _ ⟨B, 0, none⟩ _ k hne.1]
 exact (hb.block k hlt).trans ho
set_option maxRecDepth 100000 in
set_option maxHeartbeats 8000000 in
theorem far1_any (s : Sg) (hs : segB s = true) (P : List (Int × Int)) (hlen : P.length = (ptsS s).length) (v u : Value) (pv : Value) (w : World) (h : ReadsR w v s.R) (hu : Reads .i64 w u s.V) (hp : ReadsP w pv P) :
  Calls Tryz.prog 87 #[sgV s.k v s.a s.r s.n s.d u s.e, pv] w (Ret w (.tuple #[.int .i64 (farX P (ptsS s)), .int .i64 (farC P (ptsS s))])) := by
 have hok := ((segB_iff s).1 hs).1
 have hT := times_ok hok
 have hvl := vals_length hs
 have hPL : (ptsS s).length ≤ 256 := by unfold ptsS; rw [ptsF_length 0 _ _ hvl]; exact hT.few
 have hPT : ((ptsS s).length : Int) = totalR s.R := by unfold ptsS; rw [ptsF_length 0 _ _ hvl]; exact hT.total
 have CN := fun W (hb : Below w.heap.size w W) => cntA_any s.R (by have := hT.runs; omega) v W (h.below hb)
 rw [hok, if_pos rfl, ← hPT, ← hlen] at CN
 replace CN := Lib.hid CN
 have IB := Lib.hid (fun v W => isBack_any v W)
 have HB := Lib.hid (show ∀ q ∈ ptsS s, backB q.v = true from fun q hq => ((segB_iff s).1 hs).2.2.2.2 _ (ptsF_mem 0 _ _ q hq).1)
 obtain ⟨A, c, rfl, hc, hk⟩ := hp
 have HK := Lib.hid hk
 have hlow : ∀ C a, A = some ⟨C, a, none⟩ → P ≠ [] → C < w.heap.size := by
  intro C a e hne
  obtain ⟨p, l', rfl⟩ := List.exists_cons_of_ne_nil hne
  obtain ⟨b, off, e1, e2, _⟩ := hk 0 p rfl
  rw [e] at e1
  cases e1
  exact e2
 have HL := Lib.hid hlow
 clear hk hlow
 have HPl := Lib.hid (show ∀ k, P.length = k → k = P.length from fun k h => h.symm)
 obtain ⟨N, hN⟩ : ∃ N, N = P.length := ⟨_, rfl⟩
 rw [← hN] at CN hlen hc ⊢
 have HN := Lib.hid hN
 have HLn := Lib.hid hlen
 clear hN hlen HPl hPT
 obtain ⟨fx, hfx⟩ : ∃ x : Int, x = farX P (ptsS s) := ⟨_, rfl⟩
 obtain ⟨fc, hfc⟩ : ∃ x : Int, x = farC P (ptsS s) := ⟨_, rfl⟩
 rw [← hfx, ← hfc]
 have HR := Lib.hid (And.intro hfx hfc)
 clear hfx hfc
 have hK0 : Keeps w [(w.heap.size, 0, .int .i64 s.k), (w.heap.size, 1, v), (w.heap.size, 2, .int .i64 s.a), (w.heap.size, 3, .int .i64 s.r), (w.heap.size, 4, .int .i64 s.n), (w.heap.size, 5, .int .i64 s.d), (w.heap.size, 6, u), (w.heap.size, 7, .int .i64 s.e), (w.heap.size + 1, 0, .slice A N c)] ((w.alloc (sgO 94 s.k v s.a s.r s.n s.d u s.e)).alloc (.cells #[.slice A N c] 35)) := by
  refine ⟨by go_grown, ?_⟩
  simp [Cells, go_sem]
 refine calls_marks Tryz.func87 rfl ?_
 simp only [Tryz.ntmps87, List.size_toArray, List.length_cons, List.length_nil, Nat.reduceAdd, Nat.reduceSub, Array.replicate_succ, Array.replicate_zero, List.push_toArray, List.append_toArray, List.nil_append, List.cons_append]
 have HX : Boxed ((w.alloc (sgO 94 s.k v s.a s.r s.n s.d u s.e)).alloc (.cells #[.slice A N c] 35)) (w.heap.size + 1) 35 (.slice A N c) := by
  have := Boxed.new (w.alloc (sgO 94 s.k v s.a s.r s.n s.d u s.e)) 35 (.slice A N c)
  rwa [World.size_alloc] at this
 go_wp2_with fail
 go_step3
 go_upto_region 1 with (fail)
 generalize ((w.alloc (sgO 94 s.k v s.a s.r s.n s.d u s.e)).alloc (.cells #[.slice A N c] 35)) = w0 at *
 refine wp_calmQ ?_
 refine region_keeps (w0 := w) (L := [(w.heap.size, 0, .int .i64 s.k), (w.heap.size, 1, v), (w.heap.size, 2, .int .i64 s.a), (w.heap.size, 3, .int .i64 s.r), (w.heap.size, 4, .int .i64 s.n), (w.heap.size, 5, .int .i64 s.d), (w.heap.size, 6, u), (w.heap.size, 7, .int .i64 s.e), (w.heap.size + 1, 0, .slice A N c)]) (by kernel_rfl) hK0 (fun hHeld0 => ?_)
 refine tk 0 11 rfl rfl ?_ ?_ ?_
 rotate_left
 ·intro wq hSw; obtain ⟨⟨_,_,_⟩,⟨_,_,_⟩,⟨_,_,_⟩,⟨_,_,_⟩,⟨_,_,_⟩,⟨_,_,_⟩,⟨_,_,_⟩,⟨_,_,_⟩,⟨_,_,_⟩,_⟩ := hSw.2; go_simp; (try with_reducible rfl)
 try go_frame
 refine tv 1 12 rfl rfl ?_
 try go_frame
 refine tv 2 13 rfl rfl ?_
 try go_frame
 refine tv 3 14 rfl rfl ?_
 try go_frame
 refine tk 4 15 rfl rfl ?_ ?_ ?_
 rotate_left
 ·intro wq hSw; obtain ⟨⟨_,_,_⟩,⟨_,_,_⟩,⟨_,_,_⟩,⟨_,_,_⟩,⟨_,_,_⟩,⟨_,_,_⟩,⟨_,_,_⟩,⟨_,_,_⟩,⟨_,_,_⟩,_⟩ := hSw.2; go_simp; (try with_reducible rfl)
 try go_frame
 refine ty [5] ?_
 refine AllReadyH.cons rfl (fun K hK => ?_) AllReadyH.nil
 go_simp
 ((with_reducible refine (CN.out _ (by first | with_reducible exact kbel hHeld0 | with_reducible exact kbel hHeld1 | with_reducible exact kbel hHeld2 | with_reducible exact kbel hHeld3 | with_reducible exact kbel hHeld4 | with_reducible exact kbel hHeld5 | with_reducible exact kbel hHeld6 | with_reducible exact kbel hHeld7 | with_reducible exact kbel hHeld8 | with_reducible exact kbel hHeld9 | with_reducible exact kbel hHeld10 | with_reducible exact kbel hHeld11 | with_reducible exact kbel hHeld12 | with_reducible exact kbel hHeld13)).mono ?_); rintro e w1 ⟨rfl, hb⟩; have HX1 : Boxed w1 (w.heap.size + 1) 35 (.slice A N c) := (hb.block (w.heap.size + 1) (Boxed.lt HX)).trans HX)
 refine hK.out _ _ (hHeld0.next hb) (fun hHeld1 => ?_)
 clear hK K; try clear hb
 try go_frame
 refine tv 6 17 rfl rfl ?_
 try go_frame
 refine wpAnyH_done (by kernel_rfl) ?_ _
 have hHeld := hHeld1
 obtain ⟨⟨kz0,kc0,kf0⟩,⟨kz1,kc1,kf1⟩,⟨kz2,kc2,kf2⟩,⟨kz3,kc3,kf3⟩,⟨kz4,kc4,kf4⟩,⟨kz5,kc5,kf5⟩,⟨kz6,kc6,kf6⟩,⟨kz7,kc7,kf7⟩,⟨kz8,kc8,kf8⟩,_⟩ := hHeld.2
 all_goals
  have hN1 := hHeld
  (try clear hHeld); (try clear hHeld0); (try clear hHeld1); (try clear hHeld2); (try clear hHeld3); (try clear hHeld4); (try clear hHeld5); (try clear hHeld6); (try clear hHeld7); (try clear hHeld8); (try clear hHeld9); (try clear hHeld10); (try clear hHeld11); (try clear hHeld12); (try clear hHeld13); (try clear kz0 kc0 kf0) ; (try clear kz1 kc1 kf1) ; (try clear kz2 kc2 kf2) ; (try clear kz3 kc3 kf3) ; (try clear kz4 kc4 kf4) ; (try clear kz5 kc5 kf5)
  obtain ⟨⟨kz0,kc0,kf0⟩,⟨kz1,kc1,kf1⟩,⟨kz2,kc2,kf2⟩,⟨kz3,kc3,kf3⟩,⟨kz4,kc4,kf4⟩,⟨kz5,kc5,kf5⟩,⟨kz6,kc6,kf6⟩,⟨kz7,kc7,kf7⟩,⟨kz8,kc8,kf8⟩,_⟩ := hN1.2
  go_wp2_with fail
  go_step3
  go_wp2_with (go_at_call 79; refine (pointsV_any s v u _).mono ?_; rintro e w' ⟨rfl, rfl⟩)
  obtain ⟨B, hB⟩ : ∃ B, B = w1.heap.size := ⟨_, rfl⟩
  obtain ⟨W2, hW2⟩ : ∃ W2, W2 = (((w1.alloc (.cells #[.int .i64 0] 2)).alloc (.cells #[.int .i64 0] 3)).alloc (sgO 94 s.k v s.a s.r s.n s.d u s.e)) := ⟨_, rfl⟩
  rw [← hW2, ← hB]
  have hs2 : W2.heap.size = B + 3 := by rw [hW2, hB]; simp
  have b6 : Boxed W2 B 2 (.int .i64 0) := by
   rw [hW2, hB]
   exact ((Boxed.new w1 2 (.int .i64 0)).alloc _).alloc _
  have b7 : Boxed W2 (B + 1) 3 (.int .i64 0) := by
   rw [hW2, hB]
   have := (Boxed.new (w1.alloc (.cells #[.int .i64 0] 2)) 3 (.int .i64 0)).alloc (sgO 94 s.k v s.a s.r s.n s.d u s.e)
   rwa [World.size_alloc] at this
  have b8 : BoxS W2 (B + 1 + 1) s v u := by
   rw [hW2, hB]
   have := World.alloc_heap_new ((w1.alloc (.cells #[.int .i64 0] 2)).alloc (.cells #[.int .i64 0] 3)) (sgO 94 s.k v s.a s.r s.n s.d u s.e)
   rwa [World.size_alloc, World.size_alloc] at this
  have b9 : Below w1.heap.size w1 W2 := by rw [hW2]; exact (((Below.refl _ w1).alloc (Nat.le_refl _) _).alloc (by simp) _).alloc (by simp; omega) _
  have b4 : Below w.heap.size w W2 := under hN1.1 b9
  have hwB : w.heap.size + 1 < B := by rw [hB]; exact kz8
  have b3 := boxed_below HX1 b9
  have hst : StandS (X2 B) w.heap.size (B + 1 + 1) s v u W2 :=
   ⟨h.below b4, hu.below b4, readsR_low h, readsI_low hu, by omega, b8, fun hx => by unfold X2 at hx; omega, fun k hk hx => by unfold X2 at hx; omega, fun k hx => by unfold X2 at hx; omega⟩
  have hseq := points2_stops s hs (X2 B) B (X2_hangs B B) w.heap.size (B + 1 + 1) v u W2 (by omega) hst
  clear hN1 hW2 hst b8 b9 h hu hT hok hvl hK0 hB
  (try clear hHeld0); (try clear hHeld1); (try clear hHeld2); (try clear hHeld3); (try clear hHeld4); (try clear hHeld5); (try clear hHeld6); (try clear hHeld7); (try clear hHeld8); (try clear hHeld9); (try clear hHeld10); (try clear hHeld11); (try clear hHeld12); (try clear hHeld13); (try clear kz0 kc0 kf0); (try clear kz1 kc1 kf1); (try clear kz2 kc2 kf2); (try clear kz3 kc3 kf3); (try clear kz4 kc4 kf4); (try clear kz5 kc5 kf5); (try clear kz6 kc6 kf6); (try clear kz7 kc7 kf7); (try clear kz8 kc8 kf8)
  (try clear kz6 kc6 kf6); (try clear kz7 kc7 kf7); (try clear kz8 kc8 kf8)
  have HI := Lib.hid (show ∀ (q : Nat) (p : Pn), (ptsS s)[q]? = some p → p.i = (q : Int) from fun q p hp => by have := ptsF_idx 0 _ _ q p hp; rwa [Nat.zero_add] at this)
  generalize ptsS s = full at *
  obtain ⟨k, R, a, r, n, d, V, e⟩ := s
  simp only
  have HM := Lib.hid (show ∀ z : Nat, 0 < N → ∃ p : Int × Int, P[z % full.length]? = some p ∧ P.getD (z % full.length) (0, 0) = p ∧ (ptN full z).i = ((z % full.length : Nat) : Int) ∧ ((z % full.length : Nat) : Int) < (N : Int) from fun z hz => by
   have h1 : z % full.length < N := Nat.lt_of_lt_of_eq (Nat.mod_lt _ (Nat.lt_of_lt_of_eq hz HLn.out)) HLn.out.symm
   obtain ⟨p, hp⟩ : ∃ p, P[z % full.length]? = some p := ⟨_, List.getElem?_eq_getElem (Nat.lt_of_lt_of_eq h1 HN.out)⟩
   refine ⟨p, hp, by rw [List.getD_eq_getElem?_getD, hp]; rfl, ?_, by omega⟩
   obtain ⟨q, hq⟩ : ∃ q, full[z % full.length]? = some q := ⟨_, List.getElem?_eq_getElem (Nat.lt_of_lt_of_eq h1 HLn.out)⟩
   have := HI.out _ _ hq
   unfold ptN
   rw [List.getD_eq_getElem?_getD, hq]
   exact this)
  refine wp_rangeH (X := X2 B) (b := B) (X2_hangs B B) (by omega) (gf := 131) (lb := #[.pointer (some ⟨B + 1 + 1, 0, none⟩)]) rfl (enters_of Tryz.func131 (by kernel_rfl) rfl)
   hseq (fun _ => rfl)
   (fun pre W' => (Boxed W' B 2 (.int .i64 (farL P full pre)) ∧ Boxed W' (B + 1) 3 (.int .i64 pre.length) ∧ Below w.heap.size w W' ∧ Boxed W' (w.heap.size + 1) 35 (.slice A N c)) ∧ goodL P full pre ∧ B + 3 ≤ W'.heap.size)
   (fun cd pre W' => cd = .exit 0 ∧ (∃ m : Int, Boxed W' (B + 1) 3 (.int .i64 m) ∧ m + 1 = pre.length) ∧ Below w.heap.size w W' ∧ Boxed W' (w.heap.size + 1) 35 (.slice A N c) ∧ ¬ goodL P full pre)
   ?oI ?oIx ⟨⟨b6, b7, b4, b3⟩, (fun q hq => nomatch hq), by omega⟩
   (fun x a' W' => ∃ Bo, a' = { tmps := #[sgV k v a r n d u e, .slice A N c, .pointer (some ⟨w.heap.size, 0, none⟩), .pointer (some ⟨w.heap.size + 1, 0, none⟩), .int .i64 0, .int .i64 0, .pointer (some ⟨B, 0, none⟩), .pointer (some ⟨B + 1, 0, none⟩), .int .i64 (ptN full x).i, .pointer (some ⟨Bo, 0, none⟩), undef, .slice A N c, .int .i64 N, .pointer (some ⟨w.heap.size, 0, none⟩), .pointer (some ⟨w.heap.size, 1, none⟩), v, .int .i64 N, .bool false, sgV k v a r n d u e, .func (.func 131) #[] #[.pointer (some ⟨B + 1 + 1, 0, none⟩)], .int .i64 (ptN full x).i, .agg #[.int .i64 (ptN full x).t, .int .i64 (ptN full x).v], undef, undef, undef, undef, undef, undef, undef, undef, undef, undef, undef, undef, undef, undef, undef, undef, undef, undef, undef, undef, undef, undef, undef, undef, undef, undef, undef, undef, undef, undef, undef, undef, undef, undef, undef, undef, undef, undef, undef, undef, undef, undef, undef], defers := [] } ∧ PointAt W' Bo (ptN full x).t (ptN full x).v ∧ B + 3 ≤ Bo)
   ?oA ?assign ?body ?done ?stop
  case oI =>
   rintro pre W1 W1' row ⟨⟨h1, h2, h3, h4⟩, h5, h6⟩ hgr hr
   have hr2 : ∀ r, row = some r → ∃ o : Obj, W1.heap[r]? = some o ∧ o.isCells = false := fun r e => (hr r e).2
   exact ⟨⟨cells_kept hgr hr2 h1 rfl, cells_kept hgr hr2 h2 rfl, below_grown (C := W2.heap.size) b4.size h3 hgr (fun r e => (hr r e).1), cells_kept hgr hr2 h4 rfl⟩, h5, Nat.le_trans h6 hgr.size⟩
  case oIx =>
   rintro cd pre W1 W1' row ⟨h1, ⟨m, h2, h3⟩, h4, h5, h6⟩ hgr hr
   have hr2 : ∀ r, row = some r → ∃ o : Obj, W1.heap[r]? = some o ∧ o.isCells = false := fun r e => (hr r e).2
   exact ⟨h1, ⟨m, cells_kept hgr hr2 h2 rfl, h3⟩, below_grown (C := W2.heap.size) b4.size h4 hgr (fun r e => (hr r e).1), cells_kept hgr hr2 h5 rfl, h6⟩
  case oA =>
   rintro x a' _ W1 W1' row ⟨Bo, h1, h2, h3⟩ hgr hr
   exact ⟨Bo, h1, point_grown h2 hgr (fun r e => (hr r e).2), h3⟩
  case assign =>
   rintro l' pre z W K ⟨⟨h1, h2, h3, h4⟩, h5, h6⟩ hK
   have H1 := Lib.hid (And.intro h1 (And.intro h2 (And.intro h3 (And.intro h4 h5))))
   clear hseq b6 b7 h1 h2 h3 h4 h5
   unfold encN
   generalize (ptN full z).i = qi at *
   generalize (ptN full z).t = qt at *
   generalize (ptN full z).v = qv at *
   gi_wp2
   have hb := below_alloc W (.cells #[.int .i64 qt, .int .i64 qv] 53)
   exact hK _ _ ((KeepsOthers.alloc W _).from _) (KeepsC.of_below (X2_hangs B B) H1.out.1.lt hb) ⟨⟨H1.out.1.alloc _, H1.out.2.1.alloc _, under H1.out.2.2.1 hb, H1.out.2.2.2.1.alloc _⟩, H1.out.2.2.2.2, Nat.le_trans h6 hb.size⟩ ⟨W.heap.size, rfl, World.alloc_heap_new W _, h6⟩
  case body =>
   rintro l' pre z a' W1 ⟨⟨h1, h2, h3, h4⟩, h5, h6⟩ ⟨Bo, rfl, hBo, hBl⟩ hlt
   have hN0 : 0 < N := by have := HLn.out; omega
   obtain ⟨p, hp, hpd, hpi, hpl⟩ := HM.out z hN0
   obtain ⟨bb, off, rfl, hbw, hc7, hc8⟩ := HK.out _ p hp
   have c7 := (h3.cell (p := ⟨bb, off + z % full.length * 2, none⟩) hbw).trans hc7
   have c8 := (h3.cell (p := ⟨bb, off + z % full.length * 2 + 1, none⟩) hbw).trans hc8
   have hS : farL P full (pre ++ [z]) = maxP (farL P full pre) (distP p (ptN full z)) := by rw [farL_snoc, hpd]
   have hG : goodP p (ptN full z) = true → goodL P full (pre ++ [z]) := fun hg => goodL_snoc h5 (by rw [hpd]; exact hg)
   have hG2 : goodP p (ptN full z) = false → ¬ goodL P full (pre ++ [z]) := fun hg hh => by
    have := hh z (List.mem_append_right _ (List.mem_singleton.2 rfl))
    rw [hpd, hg] at this
    cases this
   have HS := Lib.hid hS
   have HG := Lib.hid hG
   have HG2 := Lib.hid hG2
   have hpre : pre.length < 256 := by omega
   obtain ⟨e0, e1, e2⟩ := hBo.cells
   have c3 := h4.cell
   have g1 := h1.cell
   have g2 := h1.frozen
   have g3 := h2.cell
   have g4 := h2.frozen
   have H1 := Lib.hid (And.intro h1 (And.intro h2 (And.intro h3 h4)))
   have hj0 : (0 : Int) ≤ ((z % full.length : Nat) : Int) := by omega
   have pl : ((pre ++ [z]).length : Int) = (pre.length : Int) + 1 := by simp
   have PLN := Lib.hid pl
   have ip : wrap64 ((pre.length : Int) + 1) = (pre.length : Int) + 1 := i64_keeps (by omega) (by omega)
   have HB0 := Lib.hid (below_alloc W1 (.cells #[.int .i64 p.1, .int .i64 p.2] 53))
   have hwz : W1.heap.size < (W1.alloc (.cells #[.int .i64 p.1, .int .i64 p.2] 53)).heap.size := by simp
   have d1 : (W1.alloc (.cells #[.int .i64 p.1, .int .i64 p.2] 53)).cell? ⟨W1.heap.size, 0, none⟩ = some (.int .i64 p.1) := by simp [go_sem]
   have d2 : (W1.alloc (.cells #[.int .i64 p.1, .int .i64 p.2] 53)).cell? ⟨W1.heap.size, 1, none⟩ = some (.int .i64 p.2) := by simp [go_sem]
   obtain ⟨F, hF⟩ : ∃ F, F = farL P full pre := ⟨_, rfl⟩
   rw [← hF] at H1 HS g1
   have IB1 := fun W => IB.out p.2 W
   obtain ⟨pt, pv⟩ := p
   unfold goodP distP at *
   generalize (ptN full z).i = qi at *
   generalize (ptN full z).t = qt at *
   generalize (ptN full z).v = qv at *
   subst hpi
   generalize (z % full.length) = zi at *
   simp only at *
   clear h1 h2 h3 h4 h5 hS hG hG2 hp hpd hc7 hc8 hBo hlt hseq b6 b7 b3 IB hF pl
   by_cases gt : pt = qt
   rotate_left
   ·have t1 : (pt != qt) = true := by simpa using gt
    have HBad := Lib.hid (HG2.out (by simp [gt]))
    clear IB1 HG HS gt hc
    gi_wp2
    refine ⟨trivial, ?_⟩
    gi_wp2
    exact ⟨(KeepsOthers.alloc _ _).from _, rfl, ⟨pre.length, H1.out.2.1.alloc _, by rw [PLN.out]⟩, under H1.out.2.2.1 HB0.out, H1.out.2.2.2.alloc _, HBad.out⟩
   subst gt
   cases gb : backB pv
   ·rw [gb] at IB1
    have IB2 := Lib.hid IB1
    have HBad := Lib.hid (HG2.out (by simp [gb]))
    clear IB1 HG HS gb hc
    gi_wp2_with (refine ⟨trivial, ?_⟩; gi_at_call 142; refine (CallsIn.inRound l' (callsIn_wide.2 (IB2.out _))).mono ?_; rintro e w' ⟨rfl, hb5⟩; have hb6 := under HB0.out hb5; have hx1 := boxed_below H1.out.1 hb6; have hx2 := boxed_below H1.out.2.1 hb6; have hc1 := hx1.cell; have hf1 := hx1.frozen; have hc2 := hx2.cell; have hf2 := hx2.frozen; have hc3 := (hb5.cell (p := ⟨W1.heap.size, 0, none⟩) hwz).trans d1; have hc4 := (hb5.cell (p := ⟨W1.heap.size, 1, none⟩) hwz).trans d2; have hc5 := (hb6.cell (p := ⟨Bo, 0, none⟩) e2).trans e0; have hc6 := (hb6.cell (p := ⟨Bo, 1, none⟩) e2).trans e1; have HB5 := Lib.hid hb6; clear hb5 hb6 hx1 hx2 d1 d2 e0 e1 IB2)
    exact ⟨(keeps_of_below HB5.out).from _, rfl, ⟨pre.length, boxed_below H1.out.2.1 HB5.out, by rw [PLN.out]⟩, under H1.out.2.2.1 HB5.out, boxed_below H1.out.2.2.2 HB5.out, HBad.out⟩
   rw [gb] at IB1
   have IB2 := Lib.hid IB1
   have HGood := Lib.hid (HG.out (by simp [gb]))
   clear IB1 HG HG2 gb hc
   by_cases gv : qv < pv
   ·have HE : Hid (farL P full (pre ++ [z]) = max F (wrap64 (pv - qv))) := Lib.hid (by rw [HS.out, if_pos gv, maxP])
    clear HS
    gi_wp2_with (refine ⟨trivial, ?_⟩; gi_at_call 142; refine (CallsIn.inRound l' (callsIn_wide.2 (IB2.out _))).mono ?_; rintro e w' ⟨rfl, hb5⟩; have hb6 := under HB0.out hb5; have hx1 := boxed_below H1.out.1 hb6; have hx2 := boxed_below H1.out.2.1 hb6; have hc1 := hx1.cell; have hf1 := hx1.frozen; have hc2 := hx2.cell; have hf2 := hx2.frozen; have hc3 := (hb5.cell (p := ⟨W1.heap.size, 0, none⟩) hwz).trans d1; have hc4 := (hb5.cell (p := ⟨W1.heap.size, 1, none⟩) hwz).trans d2; have hc5 := (hb6.cell (p := ⟨Bo, 0, none⟩) e2).trans e0; have hc6 := (hb6.cell (p := ⟨Bo, 1, none⟩) e2).trans e1; have HB5 := Lib.hid hb6; clear hb5 hb6 hx1 hx2 d1 d2 e0 e1 IB2)
    obtain ⟨q1, q2, q3, q4, q5, q6⟩ := far_turn hwB H1.out.1 H1.out.2.1 H1.out.2.2.1 H1.out.2.2.2 HB5.out (max F (wrap64 (pv - qv))) ((pre.length : Int) + 1)
    exact ⟨q1.from _, q2, ⟨by rw [HE.out]; exact q3, by rw [PLN.out]; exact q4, q5, q6⟩, HGood.out, Nat.le_trans h6 q2.1⟩
   ·have HE : Hid (farL P full (pre ++ [z]) = max F (wrap64 (qv - pv))) := Lib.hid (by rw [HS.out, if_neg gv, maxP])
    clear HS
    gi_wp2_with (refine ⟨trivial, ?_⟩; gi_at_call 142; refine (CallsIn.inRound l' (callsIn_wide.2 (IB2.out _))).mono ?_; rintro e w' ⟨rfl, hb5⟩; have hb6 := under HB0.out hb5; have hx1 := boxed_below H1.out.1 hb6; have hx2 := boxed_below H1.out.2.1 hb6; have hc1 := hx1.cell; have hf1 := hx1.frozen; have hc2 := hx2.cell; have hf2 := hx2.frozen; have hc3 := (hb5.cell (p := ⟨W1.heap.size, 0, none⟩) hwz).trans d1; have hc4 := (hb5.cell (p := ⟨W1.heap.size, 1, none⟩) hwz).trans d2; have hc5 := (hb6.cell (p := ⟨Bo, 0, none⟩) e2).trans e0; have hc6 := (hb6.cell (p := ⟨Bo, 1, none⟩) e2).trans e1; have HB5 := Lib.hid hb6; clear hb5 hb6 hx1 hx2 d1 d2 e0 e1 IB2)
    obtain ⟨q1, q2, q3, q4, q5, q6⟩ := far_turn hwB H1.out.1 H1.out.2.1 H1.out.2.2.1 H1.out.2.2.2 HB5.out (max F (wrap64 (qv - pv))) ((pre.length : Int) + 1)
    exact ⟨q1.from _, q2, ⟨by rw [HE.out]; exact q3, by rw [PLN.out]; exact q4, q5, q6⟩, HGood.out, Nat.le_trans h6 q2.1⟩
  case done =>
   rintro D ys W1 hD rfl ⟨⟨h1, h2, h3, h4⟩, h5, h6⟩ hK
   have hx : farsB P full = true := by
    unfold farsB
    rw [Bool.and_eq_true]
    exact ⟨by have := HLn.out; have := HN.out; simp; omega, by rw [List.all_eq_true]; exact h5⟩
   have e1 : fx = farL P full (List.range full.length) := by rw [HR.out.1, farX, if_pos hx]
   have e2 : fc = 0 := by rw [HR.out.2, farC, if_pos hx]
   rw [← e1] at h1
   rw [List.length_range, ← HLn.out] at h2
   subst e2
   have hc1 := h1.cell
   have hc2 := h2.cell
   have hc3 := h4.cell
   have H3 := Lib.hid h3
   clear h1 h2 h3 h4 h5 hseq b6 b7 b3 e1 hx
   go_wp2_with fail
   rw [Exit.noGoto_ret]
   refine ⟨by simp, .inl ⟨_, _, rfl, run_takeDeferred hK, ?_⟩⟩
   exact ⟨.tuple #[.int .i64 fx, .int .i64 0], by simp [results, Tryz.results87, go_sem], rfl, below_grown (C := W2.heap.size) b4.size H3.out (grownBy_putObj' W1 D _) (fun r e => by cases e; exact hD)⟩
  case stop =>
   rintro D cd pre W1 hD hpre ⟨rfl, ⟨m, h2, h3⟩, h4, h5, h6⟩ hK
   have hx : farsB P full = false := by
    rw [← Bool.not_eq_true]
    intro hh
    unfold farsB at hh
    rw [Bool.and_eq_true, List.all_eq_true] at hh
    exact h6 (fun q hq => hh.2 q (hpre.subset hq))
   have e1 : fx = 0 := by rw [HR.out.1, farX, hx]; rfl
   have e2 : fc = 2 := by rw [HR.out.2, farC, hx]; rfl
   subst e1
   subst e2
   have hml : m < (N : Int) := by
    have := hpre.length_le
    rw [List.length_range, ← HLn.out] at this
    omega
   have hc2 := h2.cell
   have hc3 := h5.cell
   have H3 := Lib.hid h4
   clear h2 h3 h4 h5 h6 hseq b6 b7 b3 hpre hx
   go_wp2_with fail
   rw [Exit.noGoto_ret]
   refine ⟨by simp, .inl ⟨_, _, rfl, run_takeDeferred hK, ?_⟩⟩
   exact ⟨.tuple #[.int .i64 0, .int .i64 2], by simp [results, Tryz.results87, go_sem], rfl, below_grown (C := W2.heap.size) b4.size H3.out (grownBy_putObj' W1 D _) (fun r e => by cases e; exact hD)⟩
end Go.Proofs.YtcfidimnbamnkaaGreat.P11

/-
 Layer 11: how far a segment is from points (Far), and whether it holds them (Holds). Conditions: those written at each fact.
-/
namespace Go.Proofs.YtcfidimnbamnkaaGreat.P11
open Go.RowKit Go.Shelf Go.Proofs.YtcfidimnbamnkaaGreat.P7

set_option maxRecDepth 100000 in
set_option maxHeartbeats 2000000 in
theorem farA_any (s : Sg) (hs : segB s = true) (P : List (Int × Int)) (v u : Value) (pv : Value) (w : World) (h : ReadsR w v s.R) (hu : Reads .i64 w u s.V) (hp : ReadsP w pv P) :
  Calls Tryz.prog 87 #[sgV s.k v s.a s.r s.n s.d u s.e, pv] w (Ret w (.tuple #[.int .i64 (farX P (ptsS s)), .int .i64 (farC P (ptsS s))])) := by
 by_cases hlen : P.length = (ptsS s).length
 ·exact far1_any s hs P hlen v u pv w h hu hp
 have hx : farsB P (ptsS s) = false := by unfold farsB; rw [decide_eq_false hlen]; rfl
 have e1 : farX P (ptsS s) = 0 := by unfold farX; rw [hx]; rfl
 have e2 : farC P (ptsS s) = 2 := by unfold farC; rw [hx]; rfl
 rw [e1, e2]
 have hok := ((segB_iff s).1 hs).1
 have hT := times_ok hok
 have hvl := vals_length hs
 have hPT : ((ptsS s).length : Int) = totalR s.R := by unfold ptsS; rw [ptsF_length 0 _ _ hvl]; exact hT.total
 have CN := fun W (hb : Below w.heap.size w W) => cntA_any s.R (by have := hT.runs; omega) v W (h.below hb)
 rw [hok, if_pos rfl, ← hPT] at CN
 replace CN := Lib.hid CN
 obtain ⟨A, c, rfl, hc, _⟩ := hp
 generalize P.length = N at *
 generalize (ptsS s).length = M at *
 have t1 : ((N : Int) != (M : Int)) = true := by simp; omega
 have hK0 : Keeps w [(w.heap.size, 0, .int .i64 s.k), (w.heap.size, 1, v), (w.heap.size, 2, .int .i64 s.a), (w.heap.size, 3, .int .i64 s.r), (w.heap.size, 4, .int .i64 s.n), (w.heap.size, 5, .int .i64 s.d), (w.heap.size, 6, u), (w.heap.size, 7, .int .i64 s.e), (w.heap.size + 1, 0, .slice A N c)] ((w.alloc (sgO 94 s.k v s.a s.r s.n s.d u s.e)).alloc (.cells #[.slice A N c] 35)) := by
  refine ⟨by go_grown, ?_⟩
  simp [Cells, go_sem]
 clear hx e1 e2 hok hT hvl hPT h hu hs hc hlen
 refine calls_marks Tryz.func87 rfl ?_
 simp only [Tryz.ntmps87, List.size_toArray, List.length_cons, List.length_nil, Nat.reduceAdd, Nat.reduceSub, Array.replicate_succ, Array.replicate_zero, List.push_toArray, List.append_toArray, List.nil_append, List.cons_append]
 go_wp2_with fail
 go_step3
 go_upto_region 1 with (fail)
 generalize ((w.alloc (sgO 94 s.k v s.a s.r s.n s.d u s.e)).alloc (.cells #[.slice A N c] 35)) = w0 at *
 refine wp_calmQ ?_
 refine region_keeps (w0 := w) (L := [(w.heap.size, 0, .int .i64 s.k), (w.heap.size, 1, v), (w.heap.size, 2, .int .i64 s.a), (w.heap.size, 3, .int .i64 s.r), (w.heap.size, 4, .int .i64 s.n), (w.heap.size, 5, .int .i64 s.d), (w.heap.size, 6, u), (w.heap.size, 7, .int .i64 s.e), (w.heap.size + 1, 0, .slice A N c)]) (by kernel_rfl) hK0 (fun hHeld0 => ?_)
 refine tk 0 11 rfl rfl ?_ ?_ ?_
 rotate_left
 ·intro wq hSw; obtain ⟨⟨_,_,_⟩,⟨_,_,_⟩,⟨_,_,_⟩,⟨_,_,_⟩,⟨_,_,_⟩,⟨_,_,_⟩,⟨_,_,_⟩,⟨_,_,_⟩,⟨_,_,_⟩,_⟩ := hSw.2; go_simp; (try with_reducible rfl)
 try go_frame
 refine tv 1 12 rfl rfl ?_
 try go_frame
 refine tv 2 13 rfl rfl ?_
 try go_frame
 refine tv 3 14 rfl rfl ?_
 try go_frame
 refine tk 4 15 rfl rfl ?_ ?_ ?_
 rotate_left
 ·intro wq hSw; obtain ⟨⟨_,_,_⟩,⟨_,_,_⟩,⟨_,_,_⟩,⟨_,_,_⟩,⟨_,_,_⟩,⟨_,_,_⟩,⟨_,_,_⟩,⟨_,_,_⟩,⟨_,_,_⟩,_⟩ := hSw.2; go_simp; (try with_reducible rfl)
 try go_frame
 refine ty [5] ?_
 refine AllReadyH.cons rfl (fun K hK => ?_) AllReadyH.nil
 go_simp
 ((with_reducible refine (CN.out _ (by first | with_reducible exact kbel hHeld0 | with_reducible exact kbel hHeld1 | with_reducible exact kbel hHeld2 | with_reducible exact kbel hHeld3 | with_reducible exact kbel hHeld4 | with_reducible exact kbel hHeld5 | with_reducible exact kbel hHeld6 | with_reducible exact kbel hHeld7 | with_reducible exact kbel hHeld8 | with_reducible exact kbel hHeld9 | with_reducible exact kbel hHeld10 | with_reducible exact kbel hHeld11 | with_reducible exact kbel hHeld12 | with_reducible exact kbel hHeld13)).mono ?_); rintro e w1 ⟨rfl, hb⟩)
 refine hK.out _ _ (hHeld0.next hb) (fun hHeld1 => ?_)
 clear hK K; try clear hb
 try go_frame
 refine tv 6 17 rfl rfl ?_
 try go_frame
 refine wpAnyH_done (by kernel_rfl) ?_ _
 have hHeld := hHeld1
 obtain ⟨⟨kz0,kc0,kf0⟩,⟨kz1,kc1,kf1⟩,⟨kz2,kc2,kf2⟩,⟨kz3,kc3,kf3⟩,⟨kz4,kc4,kf4⟩,⟨kz5,kc5,kf5⟩,⟨_,_,_⟩,⟨_,_,_⟩,⟨_,_,_⟩,_⟩ := hHeld.2
 all_goals
  have hN1 := hHeld
  (try clear hHeld); (try clear hHeld0); (try clear hHeld1); (try clear hHeld2); (try clear hHeld3); (try clear hHeld4); (try clear hHeld5); (try clear hHeld6); (try clear hHeld7); (try clear hHeld8); (try clear hHeld9); (try clear hHeld10); (try clear hHeld11); (try clear hHeld12); (try clear hHeld13); (try clear kz0 kc0 kf0) ; (try clear kz1 kc1 kf1) ; (try clear kz2 kc2 kf2) ; (try clear kz3 kc3 kf3) ; (try clear kz4 kc4 kf4) ; (try clear kz5 kc5 kf5)
  obtain ⟨⟨kz0,kc0,kf0⟩,⟨kz1,kc1,kf1⟩,⟨kz2,kc2,kf2⟩,⟨kz3,kc3,kf3⟩,⟨kz4,kc4,kf4⟩,⟨kz5,kc5,kf5⟩,⟨_,_,_⟩,⟨_,_,_⟩,⟨_,_,_⟩,_⟩ := hN1.2
  go_wp2_with fail
  rw [Exit.noGoto_ret]
  exact ⟨.tuple #[.int .i64 0, .int .i64 2], by simp [results, Tryz.results87, go_sem], rfl, hN1.1⟩
def farSX (s : Sg) (P : List (Int × Int)) : Int := if segB s then farX P (ptsS s) else 0
def farSC (s : Sg) (P : List (Int × Int)) : Int := if segB s then farC P (ptsS s) else 210
set_option maxRecDepth 100000 in
theorem far_walk (k a r n d e x c : Int) (v u pv : Value) (B : Nat) (w : World) (hc : Cells [(B, 0, pv)] w) (FA : ∀ W, Below w.heap.size w W → Calls Tryz.prog 87 #[sgV k v a r n d u e, pv] W (Ret W (.tuple #[.int .i64 x, .int .i64 c]))) :
  Calls Tryz.prog 86 #[sgV k v a r n d u e, .pointer (some ⟨B, 0, none⟩)] w (Ret w (.tuple #[.int .i64 x, .int .i64 c])) := by
 replace FA := Lib.hid FA
 have hW := below_alloc w (sgO 94 k v a r n d u e)
 obtain ⟨⟨kz0, kc0, kf0⟩, _⟩ := hc
 go_enter Tryz.func86, Tryz.ntmps86
 go_wp2_with fail
 refine (FA.out _ hW).mono ?_
 rintro e w1 ⟨rfl, hb⟩
 go_wp2_with fail
 go_returns
 exact ⟨rfl, under hW hb⟩
set_option maxRecDepth 100000 in
theorem far_seg (s : Sg) (hR : s.R.length ≤ 1000000) (hV : s.V.length ≤ 1000000) (P : List (Int × Int)) (v u pv : Value) (w : World) (h : ReadsR w v s.R) (hu : Reads .i64 w u s.V) (hp : ReadsP w pv P) :
  Calls Tryz.prog 33 #[sgV s.k v s.a s.r s.n s.d u s.e, pv] w (Ret w (.tuple #[.int .i64 (farSX s P), .int .i64 (farSC s P)])) := by
 have CK := fun W (hb : Below w.heap.size w W) => check_any s hR hV v u W (h.below hb) (hu.below hb)
 have hW : Below w.heap.size w ((w.alloc (sgO 27 s.k v s.a s.r s.n s.d u s.e)).alloc (.cells #[pv] 35)) := by go_grown
 have hcl : Cells [(w.heap.size + 1, 0, pv)] ((w.alloc (sgO 27 s.k v s.a s.r s.n s.d u s.e)).alloc (.cells #[pv] 35)) := by simp [Cells, go_sem]
 have OF : Hid (Calls Tryz.prog 71 #[sgV s.k v s.a s.r s.n s.d u s.e, .func (.func 86) #[] #[.pointer (some ⟨w.heap.size + 1, 0, none⟩)]] ((w.alloc (sgO 27 s.k v s.a s.r s.n s.d u s.e)).alloc (.cells #[pv] 35)) (Ret ((w.alloc (sgO 27 s.k v s.a s.r s.n s.d u s.e)).alloc (.cells #[pv] 35)) (.tuple #[.int .i64 (farSX s P), .int .i64 (farSC s P)]))) := by
  refine Lib.hid ?_
  generalize ((w.alloc (sgO 27 s.k v s.a s.r s.n s.d u s.e)).alloc (.cells #[pv] 35)) = w1 at *
  cases g : segB s
  ·rw [g] at CK
   have e1 : farSX s P = 0 := by unfold farSX; rw [g]; rfl
   have e2 : farSC s P = 210 := by unfold farSC; rw [g]; rfl
   rw [e1, e2]
   exact ofI_bad _ _ _ _ _ _ _ _ _ _ (fun W hb => CK W (under hW hb))
  ·rw [g] at CK
   have e1 : farSX s P = farX P (ptsS s) := by unfold farSX; rw [g]; rfl
   have e2 : farSC s P = farC P (ptsS s) := by unfold farSC; rw [g]; rfl
   rw [e1, e2]
   refine ofI_good _ _ _ _ _ _ _ _ _ _ _ (enters_of Tryz.func86 (by kernel_rfl) rfl) _ _ (fun W hb => CK W (under hW hb)) (fun W hb => ?_)
   have hbw := under hW hb
   exact far_walk s.k s.a s.r s.n s.d s.e _ _ v u pv (w.heap.size + 1) W (hcl.next hb) (fun W' hb' => farA_any s g P v u pv W' (h.below (under hbw hb')) (hu.below (under hbw hb')) (hp.below (under hbw hb')))
 obtain ⟨Ap, cp, rfl, _, _⟩ := hp
 clear CK h hu hR hV hcl
 generalize farSX s P = x at *
 generalize farSC s P = c at *
 generalize P.length = N at *
 generalize s.k = k at *
 generalize s.a = a at *
 generalize s.r = r at *
 generalize s.n = n at *
 generalize s.d = d at *
 generalize s.e = e at *
 have hmf := makes_func
 go_enter Tryz.func33, Tryz.ntmps33
 go_wp2_with fail
 refine OF.out.mono ?_
 rintro e w1 ⟨rfl, hb⟩
 go_wp2_with fail
 go_returns
 exact ⟨rfl, under hW hb⟩
set_option maxRecDepth 100000 in
theorem holds_seg (s : Sg) (hR : s.R.length ≤ 1000000) (hV : s.V.length ≤ 1000000) (P : List (Int × Int)) (v u pv : Value) (w : World) (h : ReadsR w v s.R) (hu : Reads .i64 w u s.V) (hp : ReadsP w pv P) :
  Calls Tryz.prog 34 #[sgV s.k v s.a s.r s.n s.d u s.e, pv] w (Ret w (.bool (decide (farSC s P = 0) && decide (farSX s P ≤ s.e)))) := by
 have FA := Lib.hid (fun W (hb : Below w.heap.size w W) => far_seg s hR hV P v u pv W (h.below hb) (hu.below hb) (hp.below hb))
 obtain ⟨Ap, cp, rfl, _, _⟩ := hp
 clear h hu hR hV
 generalize farSX s P = x at *
 generalize farSC s P = c at *
 generalize P.length = N at *
 generalize s.k = k at *
 generalize s.a = a at *
 generalize s.r = r at *
 generalize s.n = n at *
 generalize s.d = d at *
 generalize s.e = e at *
 have hK := new_seg (Below.refl w.heap.size w) 27 k v a r n d u e
 by_cases gc : c = 0
 ·subst gc
  rw [decide_eq_true (rfl : (0 : Int) = 0), Bool.true_and]
  go_enter Tryz.func34, Tryz.ntmps34
  go_wp2_with fail
  refine (FA.out _ hK.1).mono ?_
  rintro e' w1 ⟨rfl, hb⟩
  replace hK := hK.next hb
  clear hb
  obtain ⟨⟨_,_,_⟩,⟨_,_,_⟩,⟨_,_,_⟩,⟨_,_,_⟩,⟨_,_,_⟩,⟨_,_,_⟩,⟨_,_,_⟩,⟨_,_,_⟩,_⟩ := hK.2
  go_wp2_with fail
  go_ret
  exact ⟨rfl, hK.1⟩
 ·have t1 : (c == 0) = false := by simpa using gc
  rw [decide_eq_false gc, Bool.false_and]
  go_enter Tryz.func34, Tryz.ntmps34
  go_wp2_with fail
  refine (FA.out _ hK.1).mono ?_
  rintro e' w1 ⟨rfl, hb⟩
  replace hK := hK.next hb
  clear hb
  obtain ⟨⟨_,_,_⟩,⟨_,_,_⟩,⟨_,_,_⟩,⟨_,_,_⟩,⟨_,_,_⟩,⟨_,_,_⟩,⟨_,_,_⟩,⟨_,_,_⟩,_⟩ := hK.2
  go_wp2_with fail
  go_ret
  exact ⟨rfl, hK.1⟩
end Go.Proofs.YtcfidimnbamnkaaGreat.P11

/-
 Layer 11: the document's own distance of a segment from points. Conditions: those written at each fact.
-/
namespace Go.Proofs.YtcfidimnbamnkaaGreat.P11
open Go.RowKit Go.Shelf Go.Proofs.YtcfidimnbamnkaaGreat.P7

theorem far_nums {pv qv D : Int} (hD : D = pv - qv) (hp : backB pv = true) (hq : backB qv = true) : IntKind.i64.wrap (pv - qv) = D ∧ wrap64 (pv - qv) = D ∧ wrap64 (-D) = -D ∧ wrap64 (qv - pv) = -D := by
 have h1 := (backB_iff _).1 hp
 have h2 := (backB_iff _).1 hq
 subst hD
 refine ⟨iwrap (by omega) (by omega), i64_keeps (by omega) (by omega), i64_keeps (by omega) (by omega), ?_⟩
 rw [i64_keeps (by omega) (by omega)]
 omega
theorem far_next {P : List (Int × Int)} {l : List Pn} {k : Nat} {p : Int × Int} {q : Pn} (hp : P[k]? = some p) (hq : l[k]? = some q) : farL P l (List.range (k + 1)) = max (farL P l (List.range k)) (distP p q) ∧ P.getD (k % l.length) (0, 0) = p ∧ ptN l k = q := by
 have hk := (List.getElem?_eq_some_iff.1 hq).1
 have e1 : P.getD (k % l.length) (0, 0) = p := by rw [Nat.mod_eq_of_lt hk, List.getD_eq_getElem?_getD, hp]; rfl
 have e2 := ptN_at hq
 refine ⟨?_, e1, e2⟩
 rw [List.range_succ, farL_snoc, e1, e2]
 rfl
set_option maxRecDepth 100000 in
set_option maxHeartbeats 4000000 in
theorem refFar_any (s : Sg) (hs : segB s = true) (P : List (Int × Int)) (hP : P.length ≤ 1000000) (v u : Value) (pv : Value) (w : World) (h : ReadsR w v s.R) (hu : Reads .i64 w u s.V) (hp : ReadsP w pv P) :
  Calls Tryz.prog 35 #[sgOf s v u, pv] w (Ret w (.tuple #[.int .i64 (farX P (ptsS s)), .bool (farsB P (ptsS s))])) := by
 have hok := ((segB_iff s).1 hs).1
 have hT := times_ok hok
 have hvl := vals_length hs
 have hPL : (ptsS s).length ≤ 256 := by unfold ptsS; rw [ptsF_length 0 _ _ hvl]; exact hT.few
 have PT := Lib.hid (fun W (hb : Below w.heap.size w W) => pointsR_is s hs v u W (h.below hb) (hu.below hb))
 have BK := Lib.hid (fun v W => refBack_any v W)
 have HB := Lib.hid (show ∀ q ∈ ptsS s, backB q.v = true from fun q hq => ((segB_iff s).1 hs).2.2.2.2 _ (ptsF_mem 0 _ _ q hq).1)
 obtain ⟨A, c, rfl, hc, hk⟩ := hp
 have HK := Lib.hid hk
 clear hk h hu hT hok hvl hs
 obtain ⟨fx, hfx⟩ : ∃ x : Int, x = farX P (ptsS s) := ⟨_, rfl⟩
 obtain ⟨fc, hfc⟩ : ∃ x : Bool, x = farsB P (ptsS s) := ⟨_, rfl⟩
 rw [← hfx, ← hfc]
 have HR := Lib.hid (And.intro hfx hfc)
 clear hfx hfc
 generalize ptsS s = full at *
 obtain ⟨sk, R, sa, sr, sn, sd, V, se⟩ := s
 simp only [sgOf] at PT ⊢
 obtain ⟨N, hN⟩ : ∃ N, N = P.length := ⟨_, rfl⟩
 rw [← hN] at hc hP ⊢
 have HN := Lib.hid hN
 obtain ⟨M, hM⟩ : ∃ M, M = full.length := ⟨_, rfl⟩
 rw [← hM] at hPL
 have HM := Lib.hid hM
 clear hN hM
 have hK := new_seg (Below.refl w.heap.size w) 27 sk v sa sr sn sd u se
 go_enter Tryz.func35, Tryz.ntmps35
 go_wp2_with fail
 refine (PT.out _ hK.1).mono ?_
 rintro e w1 ⟨A3, n3, c3, rfl, hb, hpts⟩
 have rp := readsP_own (show World.ownsRow _ _ _ _ _ _ _ from hpts)
 have hB1 := under hK.1 hb
 clear hK hb hpts PT
 obtain ⟨A', c', e', hc3, hk3⟩ := rp
 cases e'
 rw [List.length_map, ← HM.out] at hc3 ⊢
 have HO : Hid (∀ k p, full[k]? = some p → ∃ bb off, A3 = some ⟨bb, off, none⟩ ∧ bb < w1.heap.size ∧ w1.cell? ⟨bb, off + k * 2, none⟩ = some (.int .i64 p.t) ∧ w1.cell? ⟨bb, off + k * 2 + 1, none⟩ = some (.int .i64 p.v)) := Lib.hid (fun k p hp => hk3 k (p.t, p.v) (by rw [List.getElem?_map, hp]; rfl))
 have HK1 : Hid (∀ k p, P[k]? = some p → ∃ bb off, A = some ⟨bb, off, none⟩ ∧ bb < w1.heap.size ∧ w1.cell? ⟨bb, off + k * 2, none⟩ = some (.int .i64 p.1) ∧ w1.cell? ⟨bb, off + k * 2 + 1, none⟩ = some (.int .i64 p.2)) := Lib.hid (fun k p hp => by
  obtain ⟨bb, off, e1, e2, e3, e4⟩ := HK.out k p hp
  exact ⟨bb, off, e1, Nat.lt_of_lt_of_le e2 hB1.size, (hB1.cell (p := ⟨bb, off + k * 2, none⟩) e2).trans e3, (hB1.cell (p := ⟨bb, off + k * 2 + 1, none⟩) e2).trans e4⟩)
 clear hk3 HK
 by_cases hlen : M = N
 rotate_left
 ·have t1 : ((M : Int) != (N : Int)) = true := by simp; omega
  have hx : farsB P full = false := by unfold farsB; rw [decide_eq_false (by have := HN.out; have := HM.out; omega)]; rfl
  have e1 : fx = 0 := by rw [HR.out.1, farX, hx]; rfl
  have e2 : fc = false := by rw [HR.out.2, hx]
  subst e1
  subst e2
  clear HO HK1 HB hx
  go_wp2_with fail
  go_returns
  exact ⟨rfl, hB1⟩
 subst hlen
 have t1 : ((M : Int) != (M : Int)) = false := by simp
 have H0 := Lib.hid (show (0 : Int) = farL P full (List.range 0) ∧ goodL P full (List.range 0) from ⟨rfl, fun q hq => by simp at hq⟩)
 have HB1 := Lib.hid hB1
 clear hB1
 go_wp2_with fail
 go_loopw [8, 9] (fun a8 i wr => ∃ (k : Nat) (F : Int), a8 = .int .i64 F ∧ i = .int .i64 k ∧ k ≤ M ∧ Hid (F = farL P full (List.range k) ∧ goodL P full (List.range k)) ∧ (0 : Int) ≤ F ∧ Below w1.heap.size w1 wr) (fun _ i => fun _ => M - (intOf i).toNat)
 case atStart => exact ⟨0, 0, rfl, rfl, Nat.zero_le _, H0, Int.le_refl _, Below.refl _ _⟩
 case round =>
  obtain ⟨k, F, rfl, rfl, hkl, HF, hF0, hBr⟩ := hrel
  clear H0
  by_cases hlt : k < M
  ·obtain ⟨p, hp⟩ : ∃ p, P[k]? = some p := ⟨_, List.getElem?_eq_getElem (by rw [← HN.out]; exact hlt)⟩
   obtain ⟨q, hq⟩ : ∃ q, full[k]? = some q := ⟨_, List.getElem?_eq_getElem (by rw [← HM.out]; exact hlt)⟩
   obtain ⟨b1, o1, rfl, hw1, c1, c2⟩ := HK1.out k p hp
   obtain ⟨b2, o2, rfl, hw2, c3, c4⟩ := HO.out k q hq
   have P1 := Lib.hid ((hBr.cell (p := ⟨b1, o1 + k * 2, none⟩) hw1).trans c1)
   have P2 := Lib.hid ((hBr.cell (p := ⟨b1, o1 + k * 2 + 1, none⟩) hw1).trans c2)
   have P3 := Lib.hid ((hBr.cell (p := ⟨b2, o2 + k * 2, none⟩) hw2).trans c3)
   have P4 := Lib.hid ((hBr.cell (p := ⟨b2, o2 + k * 2 + 1, none⟩) hw2).trans c4)
   have hr1 : b1 < wr.heap.size := Nat.lt_of_lt_of_le hw1 hBr.size
   have hr2 : b2 < wr.heap.size := Nat.lt_of_lt_of_le hw2 hBr.size
   obtain ⟨f1, f2, f3⟩ := far_next hp hq
   have hgood : goodP p q = true → goodL P full (List.range (k + 1)) := fun hg => by rw [List.range_succ]; exact goodL_snoc HF.out.2 (by rw [f2, f3]; exact hg)
   have hbad : goodP p q = false → farsB P full = false := fun hg => by
    rw [← Bool.not_eq_true]
    intro hh
    unfold farsB at hh
    rw [Bool.and_eq_true, List.all_eq_true] at hh
    have := hh.2 k (List.mem_range.2 (by have := HM.out; omega))
    rw [f2, f3, hg] at this
    cases this
   rw [← HF.out.1] at f1
   have F1 := Lib.hid f1
   have HG := Lib.hid hgood
   have HBd := Lib.hid hbad
   have hqb := HB.out q (List.mem_of_getElem? hq)
   have HBR := Lib.hid (under HB1.out hBr)
   have HBR1 := Lib.hid hBr
   have j1 : (k : Int) < (M : Int) := by omega
   have j0 : (0 : Int) ≤ (k : Int) := by omega
   have wk := one_moreV hlt (by omega)
   have tl := Lib.hid (turn_lessV hlt)
   have BK1 := fun W => BK.out p.2 W
   have hS : Keeps wr [] wr := ⟨Below.refl _ _, trivial⟩
   obtain ⟨pt, pv⟩ := p
   obtain ⟨qi, qt, qv⟩ := q
   unfold goodP distP at *
   simp only at P1 P2 P3 P4 F1 HG HBd hqb BK1
   clear hp hq c1 c2 c3 c4 hw1 hw2 f1 f2 f3 hgood hbad HF hBr HB BK
   by_cases gt : pt = qt
   rotate_left
   ·have t5 : (pt != qt) = true := by simpa using gt
    have hx := HBd.out (by simp [gt])
    have e1 : fx = 0 := by rw [HR.out.1, farX, hx]; rfl
    have e2 : fc = false := by rw [HR.out.2, hx]
    subst e1
    subst e2
    clear hx HG HBd F1 BK1 gt HR
    go_upto_region 8 with (fail)
    refine region_keeps (w0 := wr) (L := []) (by kernel_rfl) hS (fun hHeld0 => ?_)
    refine tv 0 27 rfl rfl ?_
    try go_frame
    refine tv 1 28 rfl rfl ?_
    try go_frame
    refine tv 2 29 rfl rfl ?_
    try go_frame
    refine tv 3 30 rfl rfl ?_
    try go_frame
    refine tk 4 31 rfl rfl ?_ ?_ ?_
    rotate_left
    ·intro wq hSw; obtain _ := hSw.2; have hp1 := (hSw.1.cell (p := ⟨b1, o1 + k * 2, none⟩) hr1).trans P1.out; have hp3 := (hSw.1.cell (p := ⟨b2, o2 + k * 2, none⟩) hr2).trans P3.out; go_simp; (try with_reducible rfl)
    try go_frame
    refine tv 5 32 rfl rfl ?_
    try go_frame
    refine tv 6 33 rfl rfl ?_
    try go_frame
    refine tv 7 34 rfl rfl ?_
    try go_frame
    refine tv 8 35 rfl rfl ?_
    try go_frame
    refine tk 9 36 rfl rfl ?_ ?_ ?_
    rotate_left
    ·intro wq hSw; obtain _ := hSw.2; have hp1 := (hSw.1.cell (p := ⟨b1, o1 + k * 2, none⟩) hr1).trans P1.out; have hp3 := (hSw.1.cell (p := ⟨b2, o2 + k * 2, none⟩) hr2).trans P3.out; go_simp; (try with_reducible rfl)
    try go_frame
    refine tv 10 37 rfl rfl ?_
    try go_frame
    refine tv 11 38 rfl rfl ?_
    try go_frame
    refine tu 12 39 rfl rfl ?_
    try go_frame
    refine tu 13 40 rfl rfl ?_
    try go_frame
    refine tu 14 41 rfl rfl ?_
    try go_frame
    refine tu 15 42 rfl rfl ?_
    try go_frame
    refine tu 16 43 rfl rfl ?_
    try go_frame
    refine tu 17 44 rfl rfl ?_
    try go_frame
    refine tu 18 45 rfl rfl ?_
    try go_frame
    refine tv 19 46 rfl rfl ?_
    try go_frame
    refine wpAnyH_done (by kernel_rfl) ?_ _
    have hHeld := hHeld0
    all_goals
     have hB := under HBR.out hHeld.1
     clear hHeld hHeld0
     go_wp2_with fail
     go_returns
     exact ⟨rfl, hB⟩
   subst gt
   cases gb : backB pv
   ·rw [gb] at BK1
    have BK2 := Lib.hid BK1
    have hx := HBd.out (by simp [gb])
    have e1 : fx = 0 := by rw [HR.out.1, farX, hx]; rfl
    have e2 : fc = false := by rw [HR.out.2, hx]
    subst e1
    subst e2
    clear hx HG HBd F1 BK1 gb HR
    go_upto_region 8 with (fail)
    refine region_keeps (w0 := wr) (L := []) (by kernel_rfl) hS (fun hHeld0 => ?_)
    refine tv 0 27 rfl rfl ?_
    try go_frame
    refine tv 1 28 rfl rfl ?_
    try go_frame
    refine tv 2 29 rfl rfl ?_
    try go_frame
    refine tv 3 30 rfl rfl ?_
    try go_frame
    refine tk 4 31 rfl rfl ?_ ?_ ?_
    rotate_left
    ·intro wq hSw; obtain _ := hSw.2; have hp1 := (hSw.1.cell (p := ⟨b1, o1 + k * 2, none⟩) hr1).trans P1.out; have hp2 := (hSw.1.cell (p := ⟨b1, o1 + k * 2 + 1, none⟩) hr1).trans P2.out; have hp3 := (hSw.1.cell (p := ⟨b2, o2 + k * 2, none⟩) hr2).trans P3.out; go_simp; (try with_reducible rfl)
    try go_frame
    refine tv 5 32 rfl rfl ?_
    try go_frame
    refine tv 6 33 rfl rfl ?_
    try go_frame
    refine tv 7 34 rfl rfl ?_
    try go_frame
    refine tv 8 35 rfl rfl ?_
    try go_frame
    refine tk 9 36 rfl rfl ?_ ?_ ?_
    rotate_left
    ·intro wq hSw; obtain _ := hSw.2; have hp1 := (hSw.1.cell (p := ⟨b1, o1 + k * 2, none⟩) hr1).trans P1.out; have hp2 := (hSw.1.cell (p := ⟨b1, o1 + k * 2 + 1, none⟩) hr1).trans P2.out; have hp3 := (hSw.1.cell (p := ⟨b2, o2 + k * 2, none⟩) hr2).trans P3.out; go_simp; (try with_reducible rfl)
    try go_frame
    refine tv 10 37 rfl rfl ?_
    try go_frame
    refine tv 11 38 rfl rfl ?_
    try go_frame
    refine tv 12 39 rfl rfl ?_
    try go_frame
    refine tv 13 40 rfl rfl ?_
    try go_frame
    refine tv 14 41 rfl rfl ?_
    try go_frame
    refine tv 15 42 rfl rfl ?_
    try go_frame
    refine tk 16 43 rfl rfl ?_ ?_ ?_
    rotate_left
    ·intro wq hSw; obtain _ := hSw.2; have hp1 := (hSw.1.cell (p := ⟨b1, o1 + k * 2, none⟩) hr1).trans P1.out; have hp2 := (hSw.1.cell (p := ⟨b1, o1 + k * 2 + 1, none⟩) hr1).trans P2.out; have hp3 := (hSw.1.cell (p := ⟨b2, o2 + k * 2, none⟩) hr2).trans P3.out; go_simp; (try with_reducible rfl)
    try go_frame
    refine ty [17] ?_
    refine AllReadyH.cons rfl (fun K hK => ?_) AllReadyH.nil
    go_simp
    ((with_reducible refine (BK2.out _).mono ?_); rintro e w5 ⟨rfl, hb⟩)
    refine hK.out _ _ (hHeld0.next hb) (fun hHeld1 => ?_)
    clear hK K; try clear hb
    try go_frame
    refine tv 18 45 rfl rfl ?_
    try go_frame
    refine tv 19 46 rfl rfl ?_
    try go_frame
    refine wpAnyH_done (by kernel_rfl) ?_ _
    have hHeld := hHeld1
    all_goals
     have hB := under HBR.out hHeld.1
     clear hHeld hHeld0
     (try clear hHeld); (try clear hHeld0); (try clear hHeld1)
     go_wp2_with fail
     go_returns
     exact ⟨rfl, hB⟩
   rw [gb] at BK1
   have BK2 := Lib.hid BK1
   have HGd := Lib.hid (HG.out (by simp [gb]))
   obtain ⟨D, hD⟩ : ∃ D, D = pv - qv := ⟨_, rfl⟩
   obtain ⟨n1, n2, n3, n4⟩ := far_nums hD gb hqb
   have FX : Hid (farL P full (List.range (k + 1)) = max F (if 0 < D then D else -D)) := Lib.hid (by
    rw [F1.out]
    by_cases g9 : qv < pv
    ·rw [if_pos g9, if_pos (by omega), n2]
    ·rw [if_neg g9, if_neg (by omega), n4])
   clear HG HBd F1 BK1 gb hqb n4 hD
   go_upto_region 8 with (fail)
   refine region_keeps (w0 := wr) (L := []) (by kernel_rfl) hS (fun hHeld0 => ?_)
   refine tv 0 27 rfl rfl ?_
   try go_frame
   refine tv 1 28 rfl rfl ?_
   try go_frame
   refine tv 2 29 rfl rfl ?_
   try go_frame
   refine tv 3 30 rfl rfl ?_
   try go_frame
   refine tk 4 31 rfl rfl ?_ ?_ ?_
   rotate_left
   ·intro wq hSw; obtain _ := hSw.2; have hp1 := (hSw.1.cell (p := ⟨b1, o1 + k * 2, none⟩) hr1).trans P1.out; have hp2 := (hSw.1.cell (p := ⟨b1, o1 + k * 2 + 1, none⟩) hr1).trans P2.out; have hp3 := (hSw.1.cell (p := ⟨b2, o2 + k * 2, none⟩) hr2).trans P3.out; go_simp; (try with_reducible rfl)
   try go_frame
   refine tv 5 32 rfl rfl ?_
   try go_frame
   refine tv 6 33 rfl rfl ?_
   try go_frame
   refine tv 7 34 rfl rfl ?_
   try go_frame
   refine tv 8 35 rfl rfl ?_
   try go_frame
   refine tk 9 36 rfl rfl ?_ ?_ ?_
   rotate_left
   ·intro wq hSw; obtain _ := hSw.2; have hp1 := (hSw.1.cell (p := ⟨b1, o1 + k * 2, none⟩) hr1).trans P1.out; have hp2 := (hSw.1.cell (p := ⟨b1, o1 + k * 2 + 1, none⟩) hr1).trans P2.out; have hp3 := (hSw.1.cell (p := ⟨b2, o2 + k * 2, none⟩) hr2).trans P3.out; go_simp; (try with_reducible rfl)
   try go_frame
   refine tv 10 37 rfl rfl ?_
   try go_frame
   refine tv 11 38 rfl rfl ?_
   try go_frame
   refine tv 12 39 rfl rfl ?_
   try go_frame
   refine tv 13 40 rfl rfl ?_
   try go_frame
   refine tv 14 41 rfl rfl ?_
   try go_frame
   refine tv 15 42 rfl rfl ?_
   try go_frame
   refine tk 16 43 rfl rfl ?_ ?_ ?_
   rotate_left
   ·intro wq hSw; obtain _ := hSw.2; have hp1 := (hSw.1.cell (p := ⟨b1, o1 + k * 2, none⟩) hr1).trans P1.out; have hp2 := (hSw.1.cell (p := ⟨b1, o1 + k * 2 + 1, none⟩) hr1).trans P2.out; have hp3 := (hSw.1.cell (p := ⟨b2, o2 + k * 2, none⟩) hr2).trans P3.out; go_simp; (try with_reducible rfl)
   try go_frame
   refine ty [17] ?_
   refine AllReadyH.cons rfl (fun K hK => ?_) AllReadyH.nil
   go_simp
   ((with_reducible refine (BK2.out _).mono ?_); rintro e w5 ⟨rfl, hb⟩)
   refine hK.out _ _ (hHeld0.next hb) (fun hHeld1 => ?_)
   clear hK K; try clear hb
   try go_frame
   refine tv 18 45 rfl rfl ?_
   try go_frame
   refine tv 19 46 rfl rfl ?_
   try go_frame
   refine wpAnyH_done (by kernel_rfl) ?_ _
   have hHeld := hHeld1
   all_goals
    have hS2 := hHeld
    clear hHeld hS BK2
    (try clear hHeld); (try clear hHeld0); (try clear hHeld1)
    go_upto_region 10 with (fail)
    refine region_keeps (w0 := wr) (L := []) (by kernel_rfl) hS2 (fun hHeld0 => ?_)
    refine tv 0 47 rfl rfl ?_
    try go_frame
    refine tv 1 48 rfl rfl ?_
    try go_frame
    refine tv 2 49 rfl rfl ?_
    try go_frame
    refine tv 3 50 rfl rfl ?_
    try go_frame
    refine tk 4 51 rfl rfl ?_ ?_ ?_
    rotate_left
    ·intro wq hSw; obtain _ := hSw.2; have hp2 := (hSw.1.cell (p := ⟨b1, o1 + k * 2 + 1, none⟩) hr1).trans P2.out; have hp4 := (hSw.1.cell (p := ⟨b2, o2 + k * 2 + 1, none⟩) hr2).trans P4.out; go_simp; (try with_reducible rfl)
    try go_frame
    refine tv 5 52 rfl rfl ?_
    try go_frame
    refine tv 6 53 rfl rfl ?_
    try go_frame
    refine tv 7 54 rfl rfl ?_
    try go_frame
    refine tv 8 55 rfl rfl ?_
    try go_frame
    refine tk 9 56 rfl rfl ?_ ?_ ?_
    rotate_left
    ·intro wq hSw; obtain _ := hSw.2; have hp2 := (hSw.1.cell (p := ⟨b1, o1 + k * 2 + 1, none⟩) hr1).trans P2.out; have hp4 := (hSw.1.cell (p := ⟨b2, o2 + k * 2 + 1, none⟩) hr2).trans P4.out; go_simp; (try with_reducible rfl)
    try go_frame
    refine tv 10 57 rfl rfl ?_
    try go_frame
    refine tv 11 10 rfl rfl ?_
    try go_frame
    refine wpAnyH_done (by kernel_rfl) ?_ _
    have hHeld := hHeld0
    all_goals
     have hB := HBR1.out.trans (hHeld.1.mono HBR1.out.size)
     (try rw [n1])
     (try rw [n2])
     clear hHeld hHeld0 hS2 n1 n2
     (try clear hHeld); (try clear hHeld0); (try clear hHeld1)
     by_cases g1 : D < 0
     ·have g2 : ¬ 0 < D := by omega
      by_cases g3 : F < -D
      ·have HE : Hid (-D = farL P full (List.range (k + 1)) ∧ goodL P full (List.range (k + 1))) := Lib.hid ⟨by rw [FX.out, if_neg g2]; omega, HGd.out⟩
       clear FX HGd
       go_wp2_with fail
       go_roundw
       case rel => exact ⟨k + 1, -D, by rw [n3], by first | (simp; done) | (rw [wk]; simp; done), hlt, HE, by omega, hB⟩
       case measure => first | exact tl.out | (rw [wk]; exact tl.out)
      ·have HE : Hid (F = farL P full (List.range (k + 1)) ∧ goodL P full (List.range (k + 1))) := Lib.hid ⟨by rw [FX.out, if_neg g2]; omega, HGd.out⟩
       clear FX HGd
       go_wp2_with fail
       go_roundw
       case rel => exact ⟨k + 1, F, rfl, by first | (simp; done) | (rw [wk]; simp; done), hlt, HE, by omega, hB⟩
       case measure => first | exact tl.out | (rw [wk]; exact tl.out)
     ·by_cases g3 : F < D
      ·have HE : Hid (D = farL P full (List.range (k + 1)) ∧ goodL P full (List.range (k + 1))) := Lib.hid ⟨by rw [FX.out]; split <;> omega, HGd.out⟩
       clear FX HGd
       go_wp2_with fail
       go_roundw
       case rel => exact ⟨k + 1, D, rfl, by first | (simp; done) | (rw [wk]; simp; done), hlt, HE, by omega, hB⟩
       case measure => first | exact tl.out | (rw [wk]; exact tl.out)
      ·have HE : Hid (F = farL P full (List.range (k + 1)) ∧ goodL P full (List.range (k + 1))) := Lib.hid ⟨by rw [FX.out]; split <;> omega, HGd.out⟩
       clear FX HGd
       go_wp2_with fail
       go_roundw
       case rel => exact ⟨k + 1, F, rfl, by first | (simp; done) | (rw [wk]; simp; done), hlt, HE, by omega, hB⟩
       case measure => first | exact tl.out | (rw [wk]; exact tl.out)
  ·have j1 : ¬ (k : Int) < (M : Int) := by omega
   have e : k = M := by omega
   subst e
   have hx : farsB P full = true := by
    unfold farsB
    rw [Bool.and_eq_true]
    exact ⟨by have := HM.out; have := HN.out; simp; omega, by rw [List.all_eq_true]; intro q hq; exact HF.out.2 q (by rw [HM.out]; exact hq)⟩
   have e1 : fx = F := by rw [HR.out.1, farX, if_pos hx, HF.out.1, ← HM.out]
   have e2 : fc = true := by rw [HR.out.2, hx]
   subst e1
   subst e2
   have hB := under HB1.out hBr
   clear hx HF HR
   go_wp2_with fail
   go_returns
   exact ⟨rfl, hB⟩
end Go.Proofs.YtcfidimnbamnkaaGreat.P11

namespace Go.Proofs.YtcfidimnbamnkaaGreat.P11
open Go.RowKit Go.Shelf Go.Proofs.YtcfidimnbamnkaaGreat.P7

def toPn (p : Int × Int) : Pn := ⟨0, p.1, p.2⟩
theorem toPn_pair (l : List (Int × Int)) : (l.map toPn).map pairP = l := by
 rw [List.map_map]
 have : pairP ∘ toPn = id := by funext p; rfl
 rw [this, List.map_id]
theorem flatP_get : ∀ (l : List Pn) (j : Nat) (u : Value), (flatP l)[j]? = some u → ∃ i p, l[i]? = some p ∧ (j = i * 2 ∧ u = .int .i64 p.t ∨ j = i * 2 + 1 ∧ u = .int .i64 p.v)
 | [], j, u, h => by simp [flatP] at h
 | p :: l, 0, u, h => by simp [flatP] at h; exact ⟨0, p, rfl, .inl ⟨rfl, h.symm⟩⟩
 | p :: l, 1, u, h => by simp [flatP] at h; exact ⟨0, p, rfl, .inr ⟨rfl, h.symm⟩⟩
 | p :: l, j + 2, u, h => by
  obtain ⟨i, q, h1, h2⟩ := flatP_get l j u (by simpa [flatP] using h)
  refine ⟨i + 1, q, by simpa using h1, ?_⟩
  rcases h2 with ⟨h2, h3⟩ | ⟨h2, h3⟩
  ·exact .inl ⟨by omega, h3⟩
  ·exact .inr ⟨by omega, h3⟩
theorem flatP_one : ∀ (l : List Pn), ∀ u ∈ flatP l, u.oneCell' = true
 | [], u, h => by cases h
 | p :: l, u, h => by
  simp only [flatP, List.mem_cons] at h
  rcases h with rfl | rfl | h
  ·rfl
  ·rfl
  ·exact flatP_one l u h
theorem readsP_cells {w : World} {ad : Addr} {n c : Nat} {l : List (Int × Int)} (h : ReadsP w (.slice (some ad) n c) l) : ∀ (j : Nat) (u : Value), (flatP (l.map toPn))[j]? = some u → w.cell? (ad.add j) = some u := by
 intro j u hj
 obtain ⟨A, c', e, _, hk⟩ := h
 obtain ⟨i, p, h1, h2⟩ := flatP_get _ j u hj
 rw [List.getElem?_map] at h1
 cases hq : l[i]? with
 | none => rw [hq] at h1; cases h1
 | some q =>
  rw [hq] at h1
  cases h1
  obtain ⟨b, off, e1, _, e3, e4⟩ := hk i q hq
  have e' : some ad = A := by injection e
  rw [e1] at e'
  cases e'
  rcases h2 with ⟨rfl, rfl⟩ | ⟨rfl, rfl⟩
  ·by_cases g0 : i = 0
   ·subst g0; simpa [Addr.add, toPn] using e3
   ·have g1 : ¬ i * 2 = 0 := by omega
    simpa [Addr.add, toPn, g1] using e3
  ·simpa [Addr.add, toPn, Nat.add_assoc] using e4
theorem readsP_take {w : World} {A : Option Addr} {n c : Nat} {l : List (Int × Int)} (h : ReadsP w (.slice A n c) l) (k : Nat) (hk : k ≤ l.length) : ReadsP w (.slice A k c) (l.take k) := by
 obtain ⟨A', c', e, hc, hh⟩ := h
 cases e
 refine ⟨A, c, by rw [List.length_take, Nat.min_eq_left hk], by rw [List.length_take]; omega, fun i p hi => ?_⟩
 rw [List.getElem?_take] at hi
 split at hi
 ·exact hh i p hi
 ·cases hi
theorem ownsP_reads {w : World} {B : Nat} {e : TypeId} {v : Value} {l : List (Int × Int)} (h : w.ownsRow B e 2 v l.length (flatP (l.map toPn))) : ReadsP w v l := by
 have := readsP_own (l := l.map toPn) (by rw [List.length_map]; exact h)
 rwa [toPn_pair] at this
set_option maxRecDepth 100000 in
set_option maxHeartbeats 8000000 in
theorem far_law (x : Sg) (v0 u0 : Value) (s : Sg) (P : List (Int × Int)) (pv : Value) (w : World) (hP : P.length ≤ 9223372036854775807) (hp : ReadsP w pv P) (WK : Hid (∀ W, Calls Tryz.prog 14 #[] W (Ret W (.bool true)))) (OW : Hid (∀ W, Below w.heap.size w W → Calls Tryz.prog 15 #[sgOf x v0 u0] W (OwnS W s))) (fx fc wx : Int) (hb0 wb right : Bool) (FA : Hid (∀ v u q W, ReadsR W v s.R → Reads .i64 W u s.V → ReadsP W q (P.take 300) → Calls Tryz.prog 33 #[sgOf s v u, q] W (Ret W (.tuple #[.int .i64 fx, .int .i64 fc])))) (HO : Hid (∀ v u q W, ReadsR W v s.R → Reads .i64 W u s.V → ReadsP W q (P.take 300) → Calls Tryz.prog 34 #[sgOf s v u, q] W (Ret W (.bool hb0)))) (RG : Hid (∀ v u W, ReadsR W v s.R → Reads .i64 W u s.V → Calls Tryz.prog 16 #[sgOf s v u] W (Ret W (.bool right)))) (RF : right = true → Hid (∀ v u q W, ReadsR W v s.R → Reads .i64 W u s.V → ReadsP W q (P.take 300) → Calls Tryz.prog 35 #[sgOf s v u, q] W (Ret W (.tuple #[.int .i64 wx, .bool wb])))) (H : right = false ∧ fx = 0 ∧ fc = 210 ∧ hb0 = false ∨ right = true ∧ wb = false ∧ fx = 0 ∧ fc = 2 ∧ hb0 = false ∨ right = true ∧ wb = true ∧ fx = wx ∧ fc = 0 ∧ hb0 = decide (wx ≤ s.e)) :
  Calls Tryz.prog 7 #[sgOf x v0 u0, pv] w (Ret w (.bool true)) := by
 obtain ⟨i0, hi, hz0, hz1, hz2⟩ := info_parts infoPoint
 obtain ⟨Ap, cp, rfl, hcp, hkp⟩ := hp
 have hp : ReadsP w (.slice Ap P.length cp) P := ⟨Ap, cp, rfl, hcp, hkp⟩
 go_enter Tryz.func7, Tryz.ntmps7
 go_wp2_with fail
 refine (WK.out _).mono ?_
 rintro e w1 ⟨rfl, hb⟩
 have hK := new_seg (Below.refl w.heap.size w) 27 x.k v0 x.a x.r x.n x.d u0 x.e
 replace hK := hK.next hb
 clear hb
 obtain ⟨⟨kz0,kc0,kf0⟩,⟨kz1,kc1,kf1⟩,⟨kz2,kc2,kf2⟩,⟨kz3,kc3,kf3⟩,⟨kz4,kc4,kf4⟩,⟨kz5,kc5,kf5⟩,⟨kz6,kc6,kf6⟩,⟨kz7,kc7,kf7⟩,_⟩ := hK.2
 go_wp2_with fail
 refine (OW.out _ hK.1).mono ?_
 rintro e w2 hq
 obtain ⟨B1, n1, c1, B2, n2, c2, rfl, hb, ho⟩ := own_got hq
 have hB2 := under hK.1 hb
 clear hb hK hq
 (try clear kz0 kc0 kf0); (try clear kz1 kc1 kf1); (try clear kz2 kc2 kf2); (try clear kz3 kc3 kf3); (try clear kz4 kc4 kf4); (try clear kz5 kc5 kf5); (try clear kz6 kc6 kf6); (try clear kz7 kc7 kf7)
 obtain ⟨k, R, sa, sr, sn, sd, V, se⟩ := s
 simp only [sgOf] at FA HO RG RF H ⊢
 have hN := new_seg hB2 27 k (.slice B1 n1 c1) sa sr sn sd (.slice B2 n2 c2) se
 replace ho := ho.below (below_alloc w2 (sgO 27 k (.slice B1 n1 c1) sa sr sn sd (.slice B2 n2 c2) se))
 clear hB2
 go_upto_region 4 with (fail)
 generalize hw3 : w2.alloc (sgO 27 k (.slice B1 n1 c1) sa sr sn sd (.slice B2 n2 c2) se) = w3 at *
 generalize w2.heap.size = g at *
 clear hw3
 have hP3 : ReadsP w3 (.slice Ap P.length cp) P := hp.below hN.1
 clear hp hkp
 go_cut [6] (fun s6 wx' => ∃ (A6 : Option Addr) (c6 : Nat), s6 = .slice A6 (P.take 300).length c6 ∧ Hid (ReadsP wx' (.slice A6 (P.take 300).length c6) (P.take 300)) ∧ Keeps w [(g, 0, .int .i64 k), (g, 1, .slice B1 n1 c1), (g, 2, .int .i64 sa), (g, 3, .int .i64 sr), (g, 4, .int .i64 sn), (g, 5, .int .i64 sd), (g, 6, .slice B2 n2 c2), (g, 7, .int .i64 se)] wx' ∧ Own2 wx' w1.heap.size ⟨k, R, sa, sr, sn, sd, V, se⟩ (.slice B1 n1 c1) (.slice B2 n2 c2))
 case first =>
  have hn0 : w3.heap.size < (w3.alloc (.cells #[] 53)).heap.size := by simp
  cases Ap with
  | none =>
   have e0 : P = [] := by
    cases P with
    | nil => rfl
    | cons q l =>
     obtain ⟨A', c', e, _, hh⟩ := hP3
     obtain ⟨b, off, e1, _⟩ := hh 0 q rfl
     cases e
     cases e1
   subst e0
   have hm : min (0 : Int) 300 = 0 := by decide
   have hr0 : Hid (ReadsP (w3.alloc (.cells #[] 53)) (.slice (some ⟨w3.heap.size, 0, none⟩) 0 0) []) := Lib.hid ⟨_, _, rfl, Nat.le_refl _, fun i p hi => by simp at hi⟩
   have hN2 := hN.alloc (.cells #[] 53)
   have ho2 := ho.below (below_alloc w3 (.cells #[] 53))
   go_wp2_with fail
   go_meet
   case rel => exact ⟨_, _, rfl, hr0, hN2, ho2⟩
  | some ad =>
   by_cases g3 : P.length ≤ 300
   ·have HH : Hid (ReadsP w3 (.slice (some ad) P.length cp) (P.take 300)) := Lib.hid (by rw [List.take_of_length_le g3]; exact hP3)
    have HT : Hid ((P.take 300).length = P.length) := Lib.hid (by rw [List.take_of_length_le g3])
    have hm : min (P.length : Int) 300 = (P.length : Int) := by omega
    clear hP3
    generalize P.take 300 = m at *
    have FL := Lib.hid (show (flatP (m.map toPn)).length = m.length * 2 by rw [flatP_length, List.length_map])
    go_wp2_with (at_builtin; refine wpList_append_own _ rfl _ _ 35 rfl w3.heap.size 53 i0 (.agg #[.int .i64 0, .int .i64 0]) 2 16 Tryz.underlying35 hi hz0 hz1 hz2 rfl (by decide) _ _ _ rfl (World.ownsRow_made w3 #[] 0 (Nat.le_refl _) (Nat.zero_le _) rfl) ad P.length cp (flatP (m.map toPn)) rfl ?qc1 ?qc2 ?qc3 ?qc4 ?qc5 ?qc6 ?_)
    case qc1 => rw [FL.out, HT.out]
    case qc2 => exact readsP_cells (HH.out.below (below_alloc w3 _))
    case qc3 => exact flatP_one _
    case qc4 => unfold maxLen; omega
    case qc5 => omega
    case qc6 => simp
    intro v9 w9 hown hgrow _
    obtain ⟨A9, n9, c9, rfl⟩ := own_slw hown
    have hb9 : Below w3.heap.size w3 w9 := ((Below.refl _ w3).alloc (Nat.le_refl _) _).grown hgrow (by simp) (by intro k hk; simp [Value.ownBlock] at hk; omega)
    have hq : ReadsP w9 (.slice A9 n9 c9) m := ownsP_reads (by rw [HT.out]; simpa using hown)
    have e9 : n9 = m.length := by
     obtain ⟨_, _, e, _⟩ := hq
     injection e
    subst e9
    have HQ := Lib.hid hq
    have hN2 := hN.next hb9
    have ho2 := ho.below hb9
    clear HH hown hgrow hN ho hq
    go_wp2_with fail
    go_meet
    case rel => exact ⟨_, _, rfl, HQ, hN2, ho2⟩
   ·have HH : Hid (ReadsP w3 (.slice (some ad) 300 cp) (P.take 300)) := Lib.hid (readsP_take hP3 300 (by omega))
    have HT : Hid ((P.take 300).length = 300) := Lib.hid (by rw [List.length_take]; omega)
    have hm : min (P.length : Int) 300 = 300 := by omega
    have h3 : (300 : Int) ≤ (cp : Int) := by omega
    have h4 : 300 ≤ cp := by omega
    clear hP3
    generalize P.take 300 = m at *
    have FL := Lib.hid (show (flatP (m.map toPn)).length = m.length * 2 by rw [flatP_length, List.length_map])
    go_wp2_with (at_builtin; refine wpList_append_own _ rfl _ _ 35 rfl w3.heap.size 53 i0 (.agg #[.int .i64 0, .int .i64 0]) 2 16 Tryz.underlying35 hi hz0 hz1 hz2 rfl (by decide) _ _ _ rfl (World.ownsRow_made w3 #[] 0 (Nat.le_refl _) (Nat.zero_le _) rfl) ad 300 cp (flatP (m.map toPn)) rfl ?qc1 ?qc2 ?qc3 ?qc4 ?qc5 ?qc6 ?_)
    case qc1 => rw [FL.out, HT.out]
    case qc2 => exact readsP_cells (HH.out.below (below_alloc w3 _))
    case qc3 => exact flatP_one _
    case qc4 => unfold maxLen; omega
    case qc5 => omega
    case qc6 => simp
    intro v9 w9 hown hgrow _
    obtain ⟨A9, n9, c9, rfl⟩ := own_slw hown
    have hb9 : Below w3.heap.size w3 w9 := ((Below.refl _ w3).alloc (Nat.le_refl _) _).grown hgrow (by simp) (by intro k hk; simp [Value.ownBlock] at hk; omega)
    have hq : ReadsP w9 (.slice A9 n9 c9) m := ownsP_reads (by rw [HT.out]; simpa using hown)
    have e9 : n9 = m.length := by
     obtain ⟨_, _, e, _⟩ := hq
     injection e
    subst e9
    have HQ := Lib.hid hq
    have hN2 := hN.next hb9
    have ho2 := ho.below hb9
    clear HH hown hgrow hN ho hq
    go_wp2_with fail
    go_meet
    case rel => exact ⟨_, _, rfl, HQ, hN2, ho2⟩
 case rest =>
  clear hN ho hP3 hi hz0 hz1 hz2
  obtain ⟨A6, c6, rfl, hq, hN, ho⟩ := hcut
  generalize P.take 300 = m at *
  obtain ⟨⟨kz0,kc0,kf0⟩,⟨kz1,kc1,kf1⟩,⟨kz2,kc2,kf2⟩,⟨kz3,kc3,kf3⟩,⟨kz4,kc4,kf4⟩,⟨kz5,kc5,kf5⟩,⟨kz6,kc6,kf6⟩,⟨kz7,kc7,kf7⟩,_⟩ := hN.2
  go_wp2_with fail
  refine (FA.out _ _ _ _ ho.readsR ho.reads hq.out).mono ?_
  rintro e w4 ⟨rfl, hb⟩
  replace hN := hN.next hb
  replace ho := ho.below hb
  replace hq := Lib.hid (hq.out.below hb)
  clear hb FA
  (try clear kz0 kc0 kf0); (try clear kz1 kc1 kf1); (try clear kz2 kc2 kf2); (try clear kz3 kc3 kf3); (try clear kz4 kc4 kf4); (try clear kz5 kc5 kf5); (try clear kz6 kc6 kf6); (try clear kz7 kc7 kf7)
  obtain ⟨⟨kz0,kc0,kf0⟩,⟨kz1,kc1,kf1⟩,⟨kz2,kc2,kf2⟩,⟨kz3,kc3,kf3⟩,⟨kz4,kc4,kf4⟩,⟨kz5,kc5,kf5⟩,⟨kz6,kc6,kf6⟩,⟨kz7,kc7,kf7⟩,_⟩ := hN.2
  go_wp2_with fail
  refine (HO.out _ _ _ _ ho.readsR ho.reads hq.out).mono ?_
  rintro e w5 ⟨rfl, hb⟩
  replace hN := hN.next hb
  replace ho := ho.below hb
  replace hq := Lib.hid (hq.out.below hb)
  clear hb HO
  (try clear kz0 kc0 kf0); (try clear kz1 kc1 kf1); (try clear kz2 kc2 kf2); (try clear kz3 kc3 kf3); (try clear kz4 kc4 kf4); (try clear kz5 kc5 kf5); (try clear kz6 kc6 kf6); (try clear kz7 kc7 kf7)
  obtain ⟨⟨kz0,kc0,kf0⟩,⟨kz1,kc1,kf1⟩,⟨kz2,kc2,kf2⟩,⟨kz3,kc3,kf3⟩,⟨kz4,kc4,kf4⟩,⟨kz5,kc5,kf5⟩,⟨kz6,kc6,kf6⟩,⟨kz7,kc7,kf7⟩,_⟩ := hN.2
  rcases H with ⟨rfl, rfl, rfl, rfl⟩ | ⟨rfl, rfl, rfl, rfl, rfl⟩ | ⟨rfl, rfl, rfl, rfl, rfl⟩
  ·clear RF
   go_wp2_with fail
   refine (RG.out _ _ _ ho.readsR ho.reads).mono ?_
   rintro e w6 ⟨rfl, hb⟩
   replace hN := hN.next hb
   replace ho := ho.below hb
   replace hq := Lib.hid (hq.out.below hb)
   clear hb RG
   (try clear kz0 kc0 kf0); (try clear kz1 kc1 kf1); (try clear kz2 kc2 kf2); (try clear kz3 kc3 kf3); (try clear kz4 kc4 kf4); (try clear kz5 kc5 kf5); (try clear kz6 kc6 kf6); (try clear kz7 kc7 kf7)
   obtain ⟨⟨kz0,kc0,kf0⟩,⟨kz1,kc1,kf1⟩,⟨kz2,kc2,kf2⟩,⟨kz3,kc3,kf3⟩,⟨kz4,kc4,kf4⟩,⟨kz5,kc5,kf5⟩,⟨kz6,kc6,kf6⟩,⟨kz7,kc7,kf7⟩,_⟩ := hN.2
   go_wp2_with fail
   go_ret
   exact ⟨rfl, hN.1⟩
  ·replace RF := RF rfl
   go_wp2_with fail
   refine (RG.out _ _ _ ho.readsR ho.reads).mono ?_
   rintro e w6 ⟨rfl, hb⟩
   replace hN := hN.next hb
   replace ho := ho.below hb
   replace hq := Lib.hid (hq.out.below hb)
   clear hb RG
   (try clear kz0 kc0 kf0); (try clear kz1 kc1 kf1); (try clear kz2 kc2 kf2); (try clear kz3 kc3 kf3); (try clear kz4 kc4 kf4); (try clear kz5 kc5 kf5); (try clear kz6 kc6 kf6); (try clear kz7 kc7 kf7)
   obtain ⟨⟨kz0,kc0,kf0⟩,⟨kz1,kc1,kf1⟩,⟨kz2,kc2,kf2⟩,⟨kz3,kc3,kf3⟩,⟨kz4,kc4,kf4⟩,⟨kz5,kc5,kf5⟩,⟨kz6,kc6,kf6⟩,⟨kz7,kc7,kf7⟩,_⟩ := hN.2
   go_wp2_with fail
   refine (RF.out _ _ _ _ ho.readsR ho.reads hq.out).mono ?_
   rintro e w7 ⟨rfl, hb⟩
   replace hN := hN.next hb
   clear hb ho hq RF
   (try clear kz0 kc0 kf0); (try clear kz1 kc1 kf1); (try clear kz2 kc2 kf2); (try clear kz3 kc3 kf3); (try clear kz4 kc4 kf4); (try clear kz5 kc5 kf5); (try clear kz6 kc6 kf6); (try clear kz7 kc7 kf7)
   obtain ⟨⟨kz0,kc0,kf0⟩,⟨kz1,kc1,kf1⟩,⟨kz2,kc2,kf2⟩,⟨kz3,kc3,kf3⟩,⟨kz4,kc4,kf4⟩,⟨kz5,kc5,kf5⟩,⟨kz6,kc6,kf6⟩,⟨kz7,kc7,kf7⟩,_⟩ := hN.2
   go_wp2_with fail
   go_ret
   exact ⟨rfl, hN.1⟩
  ·cases gd : decide (fx ≤ se)
   ·replace RF := RF rfl
    go_wp2_with fail
    refine (RG.out _ _ _ ho.readsR ho.reads).mono ?_
    rintro e w6 ⟨rfl, hb⟩
    replace hN := hN.next hb
    replace ho := ho.below hb
    replace hq := Lib.hid (hq.out.below hb)
    clear hb RG
    (try clear kz0 kc0 kf0); (try clear kz1 kc1 kf1); (try clear kz2 kc2 kf2); (try clear kz3 kc3 kf3); (try clear kz4 kc4 kf4); (try clear kz5 kc5 kf5); (try clear kz6 kc6 kf6); (try clear kz7 kc7 kf7)
    obtain ⟨⟨kz0,kc0,kf0⟩,⟨kz1,kc1,kf1⟩,⟨kz2,kc2,kf2⟩,⟨kz3,kc3,kf3⟩,⟨kz4,kc4,kf4⟩,⟨kz5,kc5,kf5⟩,⟨kz6,kc6,kf6⟩,⟨kz7,kc7,kf7⟩,_⟩ := hN.2
    go_wp2_with fail
    refine (RF.out _ _ _ _ ho.readsR ho.reads hq.out).mono ?_
    rintro e w7 ⟨rfl, hb⟩
    replace hN := hN.next hb
    clear hb ho hq RF
    (try clear kz0 kc0 kf0); (try clear kz1 kc1 kf1); (try clear kz2 kc2 kf2); (try clear kz3 kc3 kf3); (try clear kz4 kc4 kf4); (try clear kz5 kc5 kf5); (try clear kz6 kc6 kf6); (try clear kz7 kc7 kf7)
    obtain ⟨⟨kz0,kc0,kf0⟩,⟨kz1,kc1,kf1⟩,⟨kz2,kc2,kf2⟩,⟨kz3,kc3,kf3⟩,⟨kz4,kc4,kf4⟩,⟨kz5,kc5,kf5⟩,⟨kz6,kc6,kf6⟩,⟨kz7,kc7,kf7⟩,_⟩ := hN.2
    go_wp2_with fail
    go_ret
    exact ⟨rfl, hN.1⟩
   ·replace RF := RF rfl
    go_wp2_with fail
    refine (RG.out _ _ _ ho.readsR ho.reads).mono ?_
    rintro e w6 ⟨rfl, hb⟩
    replace hN := hN.next hb
    replace ho := ho.below hb
    replace hq := Lib.hid (hq.out.below hb)
    clear hb RG
    (try clear kz0 kc0 kf0); (try clear kz1 kc1 kf1); (try clear kz2 kc2 kf2); (try clear kz3 kc3 kf3); (try clear kz4 kc4 kf4); (try clear kz5 kc5 kf5); (try clear kz6 kc6 kf6); (try clear kz7 kc7 kf7)
    obtain ⟨⟨kz0,kc0,kf0⟩,⟨kz1,kc1,kf1⟩,⟨kz2,kc2,kf2⟩,⟨kz3,kc3,kf3⟩,⟨kz4,kc4,kf4⟩,⟨kz5,kc5,kf5⟩,⟨kz6,kc6,kf6⟩,⟨kz7,kc7,kf7⟩,_⟩ := hN.2
    go_wp2_with fail
    refine (RF.out _ _ _ _ ho.readsR ho.reads hq.out).mono ?_
    rintro e w7 ⟨rfl, hb⟩
    replace hN := hN.next hb
    clear hb ho hq RF
    (try clear kz0 kc0 kf0); (try clear kz1 kc1 kf1); (try clear kz2 kc2 kf2); (try clear kz3 kc3 kf3); (try clear kz4 kc4 kf4); (try clear kz5 kc5 kf5); (try clear kz6 kc6 kf6); (try clear kz7 kc7 kf7)
    obtain ⟨⟨kz0,kc0,kf0⟩,⟨kz1,kc1,kf1⟩,⟨kz2,kc2,kf2⟩,⟨kz3,kc3,kf3⟩,⟨kz4,kc4,kf4⟩,⟨kz5,kc5,kf5⟩,⟨kz6,kc6,kf6⟩,⟨kz7,kc7,kf7⟩,_⟩ := hN.2
    go_wp2_with fail
    go_ret
    exact ⟨rfl, hN.1⟩
theorem farLaw_any (x : Sg) (hR : x.R.length ≤ 9223372036854775807) (hV : x.V.length ≤ 9223372036854775807) (P : List (Int × Int)) (hP : P.length ≤ 9223372036854775807) (v0 u0 pv : Value) (w : World) (h : ReadsR w v0 x.R) (hu : Reads .i64 w u0 x.V) (hp : ReadsP w pv P) :
  Calls Tryz.prog 7 #[sgOf x v0 u0, pv] w (Ret w (.bool true)) := by
 have WK := Lib.hid (fun W => wakes_any W)
 have OW := Lib.hid (fun W (hb : Below w.heap.size w W) => own_any x hR hV v0 u0 W (h.below hb) (hu.below hb))
 have h1 : (takeS x).R.length ≤ 1000000 := by unfold takeS; simp only; rw [List.length_take]; omega
 have h2 : (takeS x).V.length ≤ 1000000 := by unfold takeS; simp only; rw [List.length_take]; omega
 have h3 : (P.take 300).length ≤ 1000000 := by rw [List.length_take]; omega
 generalize takeS x = s at *
 refine far_law x v0 u0 s P pv w hP hp WK OW (farSX s (P.take 300)) (farSC s (P.take 300)) (farX (P.take 300) (ptsS s)) (decide (farSC s (P.take 300) = 0) && decide (farSX s (P.take 300) ≤ s.e)) (farsB (P.take 300) (ptsS s)) (segB s) (Lib.hid (fun v u q W a b c => far_seg s h1 h2 _ v u q W a b c)) (Lib.hid (fun v u q W a b c => holds_seg s h1 h2 _ v u q W a b c)) (Lib.hid (rightS_is s h1 h2)) (fun g => Lib.hid (fun v u q W a b c => refFar_any s g _ h3 v u q W a b c)) ?_
 cases g : segB s
 ·have e1 : farSX s (P.take 300) = 0 := by unfold farSX; rw [g]; rfl
  have e2 : farSC s (P.take 300) = 210 := by unfold farSC; rw [g]; rfl
  exact .inl ⟨rfl, e1, e2, by rw [e2]; rfl⟩
 ·have e1 : farSX s (P.take 300) = farX (P.take 300) (ptsS s) := by unfold farSX; rw [g]; rfl
  have e2 : farSC s (P.take 300) = farC (P.take 300) (ptsS s) := by unfold farSC; rw [g]; rfl
  rw [e1, e2]
  cases hf : farsB (P.take 300) (ptsS s)
  ·have e3 : farX (P.take 300) (ptsS s) = 0 := by unfold farX; rw [hf]; rfl
   have e4 : farC (P.take 300) (ptsS s) = 2 := by unfold farC; rw [hf]; rfl
   exact .inr (.inl ⟨rfl, rfl, e3, e4, by rw [e4]; rfl⟩)
  ·have e4 : farC (P.take 300) (ptsS s) = 0 := by unfold farC; rw [hf]; rfl
   exact .inr (.inr ⟨rfl, rfl, rfl, e4, by rw [e4]; simp⟩)
end Go.Proofs.YtcfidimnbamnkaaGreat.P11
