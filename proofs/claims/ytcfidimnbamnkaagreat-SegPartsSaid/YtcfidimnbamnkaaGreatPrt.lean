/-
 Layer 11: the law SegParts holds of every input. Conditions: those of the law's row.
-/
import Derived.Test.YtcfidimnbamnkaaGreatSgX
import Derived.Test.YtcfidimnbamnkaaGreatSgS
import Derived.Test.YtcfidimnbamnkaaGreatEq
import Derived.Test.YtcfidimnbamnkaaGreatNE
import Derived.Test.YtcfidimnbamnkaaGreatLdC
import Derived.Test.YtcfidimnbamnkaaGreatKitV
import Derived.Test.YtcfidimnbamnkaaGreatKitW
import Derived.Maps.RangeWalk
import Derived.Test.YtcfidimnbamnkaaGreatSgO
import Derived.Test.YtcfidimnbamnkaaGreatSgT
import Derived.Test.YtcfidimnbamnkaaGreatRB
import Derived.Test.YtcfidimnbamnkaaGreatKitY
import Derived.Test.YtcfidimnbamnkaaGreatWA
import Derived.Test.YtcfidimnbamnkaaGreatRA
import Derived.Test.YtcfidimnbamnkaaGreatSgQ
/-
 Layer 11: equal rows of runs, and segments that are the same. Conditions: rows of at most a million.
-/
namespace Go.Proofs.YtcfidimnbamnkaaGreat.P11
open Go.RowKit Go.Shelf Go.Proofs.YtcfidimnbamnkaaGreat.P7
end Go.Proofs.YtcfidimnbamnkaaGreat.P11
/-
 Layer 11: segments that are the same. Conditions: rows of at most a million.
-/
namespace Go.Proofs.YtcfidimnbamnkaaGreat.P11
open Go.RowKit Go.Shelf Go.Proofs.YtcfidimnbamnkaaGreat.P7
end Go.Proofs.YtcfidimnbamnkaaGreat.P11
/-
 Layer 11: segments that are the same, by the document. Conditions: rows of at most a million.
-/
namespace Go.Proofs.YtcfidimnbamnkaaGreat.P11
open Go.RowKit Go.Shelf Go.Proofs.YtcfidimnbamnkaaGreat.P7
end Go.Proofs.YtcfidimnbamnkaaGreat.P11
/-
 Layer 11: the document's points of a segment. Conditions: its runs may be, and it has as many numbers as times, or a line that may be.
-/
namespace Go.Proofs.YtcfidimnbamnkaaGreat.P11
open Go.RowKit Go.Shelf Go.Proofs.YtcfidimnbamnkaaGreat.P7
def AskOk (s : Sg) : Prop := okB s.R = true ∧ (s.k = 4 ∧ (s.V.length : Int) = totalR s.R ∨ s.k ≠ 4 ∧ lineB s.a s.r s.n s.d = true)
theorem ask_len {s : Sg} (h : AskOk s) : (vals s).length = (timesR s.R).length := by
 obtain ⟨hok, ⟨hk, hl⟩ | ⟨hk, hl⟩⟩ := h
 ·have hT := times_ok hok
  unfold vals
  rw [if_pos hk]
  have := hT.total
  omega
 ·unfold vals
  rw [if_neg hk, List.length_map]
def RowP (W : World) (B : Nat) (u : Value) (l : List Pn) : Prop := W.ownsRow B 53 2 u l.length (flatP l)
def PointsD (w : World) (s : Sg) (e : Ending) (w' : World) : Prop := if backs (vals s) then ∃ A n c, e = .returned (.tuple #[.slice A n c, .bool true]) ∧ Below w.heap.size w w' ∧ RowP w' w.heap.size (.slice A n c) (ptsS s) else e = .returned (.tuple #[.slice none 0 0, .bool false]) ∧ Below w.heap.size w w'
theorem backs_at {s : Sg} {k : Nat} {x : Int} (hx : (vals s)[k]? = some x) (hb : backB x = false) : backs (vals s) = false := by
 rw [← Bool.not_eq_true, backs_iff]
 intro h
 have := h x (List.mem_of_getElem? hx)
 rw [hb] at this
 cases this
theorem owns_pt {W : World} {B pb i : Nat} {e : TypeId} {size n : Nat} {v : Value} {xs : List Value} (h : W.ownsRow B e size v n xs) (hpb : v.ownBlock ≠ some pb) (u : Value) : (W.setCell ⟨pb, i, none⟩ u).ownsRow B e size v n xs := by
 refine ⟨h.1, ?_⟩
 rcases h.2 with h2 | ⟨g', cap, cur, rfl, e2, e3, e4⟩
 ·exact .inl h2
 ·exact .inr ⟨g', cap, cur, rfl, e2, (Below.heap_setCell W ⟨pb, i, none⟩ u g' (fun e => hpb (by rw [show pb = g' from e.symm]; rfl))).trans e3, e4⟩
theorem take_few {α : Type} (l : List α) {j N : Nat} (h : j < N) (hN : N ≤ 256) : (l.take j).length ≤ 256 := by
 rw [List.length_take]
 omega
theorem keeps_named {w1 W : World} {L : List (Nat × Nat × Value)} (h : Keeps w1 L W) : ∃ W', W' = W ∧ Keeps w1 L W' := ⟨_, rfl, h⟩
theorem back_more {Vs : List Int} {j : Nat} {x : Int} (hx : Vs[j]? = some x) (h : ∀ (q : Nat) (y : Int), q < j → Vs[q]? = some y → backB y = true) : backB x = true → ∀ (q : Nat) (y : Int), q < j + 1 → Vs[q]? = some y → backB y = true := by
 intro hb q y hq hy
 by_cases e : q = j
 ·subst e
  rw [hx] at hy
  cases hy
  exact hb
 ·exact h q y (by omega) hy
theorem lt_of_eqV {j N M : Nat} (h : M = N) (hj : j < N) : (j : Int) < (M : Int) := by omega
end Go.Proofs.YtcfidimnbamnkaaGreat.P11
/-
 Layer 11: the document's Points. Conditions: its runs may be, and it has as many numbers as times, or a line that may be.
-/
namespace Go.Proofs.YtcfidimnbamnkaaGreat.P11
open Go.RowKit Go.Shelf Go.Proofs.YtcfidimnbamnkaaGreat.P7
set_option maxRecDepth 100000 in
set_option maxHeartbeats 8000000 in
theorem refPoints_raw (s : Sg) (hA : AskOk s) (hk : s.k = 4) (v u : Value) (w : World) (h : ReadsR w v s.R) (hu : Reads .i64 w u s.V) :
  Calls Tryz.prog 21 #[sgOf s v u] w (PointsD w s) := by
 have hok := hA.1
 have hT := times_ok hok
 have hlen := ask_len hA
 have hR1 : s.R.length ≤ 1000000 := by have := hT.runs; omega
 obtain ⟨i0, hi, hz0, hz1, hz2⟩ := info_parts infoPoint
 have TM : Hid (∀ W, Below w.heap.size w W → Calls Tryz.prog 56 #[v] W (LaidI W (timesR s.R))) := Lib.hid (fun W hb => by
  have := P7.refTimes_any s.R hR1 v W (h.below hb)
  rwa [timesD_ok hok] at this)
 have HW0 : Hid (∀ W, Below w.heap.size w W → Reads .i64 W u s.V) := Lib.hid (fun W hb => hu.below hb)
 have HP := Lib.hid (fun (q : Nat) (t x : Int) (hq : (timesR s.R)[q]? = some t) (hx : (vals s)[q]? = some x) => ptsF_get 0 _ _ q t x hq hx)
 have HPL : Hid ((ptsS s).length = (timesR s.R).length) := Lib.hid (ptsF_length 0 _ _ hlen)
 have HF := Lib.hid (fun (q : Nat) (t : Int) (hq : (timesR s.R)[q]? = some t) => since_time hT hq)
 have HF0 := Lib.hid (times_first hT)
 have HBK := Lib.hid (fun (q : Nat) (x : Int) (hx : (vals s)[q]? = some x) (hb : backB x = false) => backs_at hx hb)
 have hv4 : vals s = s.V := by unfold vals; rw [if_pos hk]
 have hu9 := hu
 have HT1 := Lib.hid hT.one
 have HT2 := Lib.hid hT.few
 have HVL := Lib.hid hlen
 unfold PointsD
 have HALL : Hid ((∀ j x, (vals s)[j]? = some x → backB x = true) → backs (vals s) = true) := Lib.hid (fun hh => (backs_iff _).2 (fun x hx => by obtain ⟨j, hj⟩ := List.getElem?_of_mem hx; exact hh j x hj))
 generalize backs (vals s) = bk at *
 obtain ⟨full, hfull⟩ : ∃ f, f = ptsS s := ⟨_, rfl⟩
 obtain ⟨T, hTT⟩ : ∃ T, T = timesR s.R := ⟨_, rfl⟩
 obtain ⟨Vs, hVs⟩ : ∃ V, V = vals s := ⟨_, rfl⟩
 have HP2 : Hid (∀ (q : Nat) (t x : Int), T[q]? = some t → Vs[q]? = some x → full[q]? = some ⟨(q : Int), t, x⟩) := Lib.hid (fun q t x h1 h2 => by
  rw [hTT] at h1
  rw [hVs] at h2
  have := HP.out q t x h1 h2
  rw [Nat.zero_add] at this
  rw [hfull]; exact this)
 rw [← hfull, ← hTT] at HPL
 rw [← hTT] at TM HF HF0 HT1 HT2 HVL
 rw [← hVs] at HBK HVL HALL hv4
 rw [← hfull]
 generalize fstT s.R = f0 at *
 clear HP hA hok hT hlen hR1 h hu hfull hTT hVs
 obtain ⟨k, R, a, r, n, d, V, e⟩ := s
 simp only at *
 subst hk
 subst hv4
 obtain ⟨A9, c9, rfl, hc9, hk9⟩ := hu9
 obtain ⟨y0, hy0⟩ : ∃ z, Vs[0]? = some z := ⟨_, List.getElem?_eq_getElem (by rw [HVL.out]; exact HT1.out)⟩
 obtain ⟨b9, o9, rfl, hb9, hy9⟩ := hk9 0 y0 hy0
 have HK9 := Lib.hid hk9
 clear hy9 hy0 hk9
 have hK := new_seg (Below.refl w.heap.size w) 27 4 v a r n d (.slice (some ⟨b9, o9, none⟩) Vs.length c9) e
 go_enter Tryz.func21, Tryz.ntmps21
 go_wp2_with fail
 refine (TM.out _ hK.1).mono ?_
 rintro e w1 ⟨vt, rfl, hb, hrow⟩
 replace hK := hK.next hb
 have hrd := reads_own (k := .i64) (show World.ownsRow _ _ _ _ _ _ _ from hrow)
 clear hb hrow TM
 obtain ⟨A2, c2, rfl, hc2, hk2⟩ := hrd
 have HK2 := Lib.hid hk2
 have HU := Lib.hid (HW0.out w1 hK.1)
 have HBW := Lib.hid hK.1
 have hBX : Cells [(w.heap.size, 0, .int .i64 4), (w.heap.size, 1, v), (w.heap.size, 2, .int .i64 a), (w.heap.size, 3, .int .i64 r), (w.heap.size, 4, .int .i64 n), (w.heap.size, 5, .int .i64 d), (w.heap.size, 6, .slice (some ⟨b9, o9, none⟩) Vs.length c9), (w.heap.size, 7, .int .i64 e)] w1 := hK.2
 have HBX := Lib.hid hBX
 clear hk2 HW0 hK hBX
 generalize hN : T.length = N at *
 have HN := Lib.hid hN
 clear hN
 go_wp2_with fail
 go_loopw [5, 6] (fun uu i wr => ∃ j : Nat, i = .int .i64 j ∧ j ≤ N ∧ Hid (∀ q x, q < j → Vs[q]? = some x → backB x = true) ∧ Hid (RowP wr w1.heap.size uu (full.take j)) ∧ Below w1.heap.size w1 wr) (fun _ i => fun _ => N - (intOf i).toNat)
 case atStart => exact ⟨0, rfl, Nat.zero_le _, Lib.hid (fun q x hq _ => by omega), Lib.hid (World.ownsRow_nil _ _ _ _), Below.refl _ _⟩
 case round =>
  obtain ⟨j, rfl, hjl, HB, HO, hB⟩ := hrel
  by_cases gj : j < N
  ·obtain ⟨t, ht⟩ : ∃ t, T[j]? = some t := ⟨_, List.getElem?_eq_getElem (by rw [HN.out]; exact gj)⟩
   obtain ⟨x, hx⟩ : ∃ x, Vs[j]? = some x := ⟨_, List.getElem?_eq_getElem (by rw [HVL.out]; exact gj)⟩
   obtain ⟨bb, off, rfl, hbw, hc1⟩ := HK2.out j _ ht
   obtain ⟨bb', off', hbe, hbw', hc0⟩ := HK2.out 0 f0 HF0.out
   cases hbe
   have hc1w := Lib.hid hc1
   have hc0w : Hid (w1.cell? ⟨bb, off, none⟩ = some (.int .i64 f0)) := Lib.hid (by simpa using hc0)
   have c1 := (hB.cell (p := ⟨bb, off + j, none⟩) hbw).trans hc1
   have c0 := (hB.cell (p := ⟨bb, off, none⟩) hbw).trans (by simpa using hc0)
   have j1 : (j : Int) < (N : Int) := by omega
   have j0 : (0 : Int) ≤ (j : Int) := by omega
   have jn : (0 : Int) < (N : Int) := by omega
   have jn2 : 0 < N := by omega
   have wk := one_moreV gj (show N ≤ 1000000 by have := HT2.out; omega)
   have tl := Lib.hid (turn_lessV gj)
   have hfp : Hid (full.take (j + 1) = full.take j ++ [⟨(j : Int), t, x⟩]) := Lib.hid (by rw [List.take_add_one, HP2.out j t x ht hx]; rfl)
   have hpl := take_few full gj HT2.out
   have HB2 : Hid (backB x = true → ∀ q y, q < j + 1 → Vs[q]? = some y → backB y = true) := Lib.hid (back_more hx HB.out)
   have hBX := HBX.out.next hB
   obtain ⟨z1, z2, z3, z4, z5, z6⟩ := HF.out j t ht
   have RB := fun W => refBack_any x W
   have HX := Lib.hid hx
   have HBN := Lib.hid (HBK.out j x hx)
   obtain ⟨b8, o8, hbe9, _, hx9⟩ := HK9.out j x hx
   cases hbe9
   have hb91 : b9 < w1.heap.size := Nat.lt_of_lt_of_le hb9 HBW.out.size
   have c5 := (hB.cell (p := ⟨b9, o9 + j, none⟩) hb91).trans ((HBW.out.cell (p := ⟨b9, o9 + j, none⟩) hb9).trans hx9)
   have hl9 : Vs.length = N := HVL.out
   have j9 := lt_of_eqV hl9 gj
   clear hl9
   clear hx9
   clear hc1 hc0 hbw' ht hx HB
   obtain ⟨A3, n3, c3, rfl⟩ := own_slw HO.out
   have hK0 : Keeps w1 [(w.heap.size, 0, .int .i64 4), (w.heap.size, 1, v), (w.heap.size, 2, .int .i64 a), (w.heap.size, 3, .int .i64 r), (w.heap.size, 4, .int .i64 n), (w.heap.size, 5, .int .i64 d), (w.heap.size, 6, .slice (some ⟨b9, o9, none⟩) Vs.length c9), (w.heap.size, 7, .int .i64 e), (wr.heap.size, 0, .int .i64 t), (wr.heap.size, 1, .int .i64 0)] (wr.alloc (.cells #[.int .i64 t, .int .i64 0] 53)) := Keeps.app (l := [(w.heap.size, 0, .int .i64 4), (w.heap.size, 1, v), (w.heap.size, 2, .int .i64 a), (w.heap.size, 3, .int .i64 r), (w.heap.size, 4, .int .i64 n), (w.heap.size, 5, .int .i64 d), (w.heap.size, 6, .slice (some ⟨b9, o9, none⟩) Vs.length c9), (w.heap.size, 7, .int .i64 e)]) ⟨under hB (below_alloc _ _), hBX.next (below_alloc _ _)⟩ (newK2 (L := []) ⟨under hB (below_alloc _ _), trivial⟩)
   have hgz : w1.heap.size ≤ wr.heap.size := hB.size
   have hpb : (Value.slice A3 n3 c3).ownBlock ≠ some wr.heap.size := fun e => by have := ((show World.ownsRow _ _ _ _ _ _ _ from HO.out).lt _ e).2; omega
   have HO2 : Hid (RowP (wr.alloc (.cells #[.int .i64 t, .int .i64 0] 53)) w1.heap.size (.slice A3 n3 c3) (full.take j)) := Lib.hid (owns_below (show World.ownsRow _ _ _ _ _ _ _ from HO.out) (below_alloc _ _))
   have c5' := ((below_alloc wr (.cells #[.int .i64 t, .int .i64 0] 53)).cell (p := ⟨b9, o9 + j, none⟩) (Nat.lt_of_lt_of_le hb91 hB.size)).trans c5
   have hb9' : b9 < wr.heap.size := Nat.lt_of_lt_of_le hb91 hB.size
   clear c5
   clear HO hBX c0
   go_upto_region 7 with (fail)
   clear c1 hB
   generalize wr.alloc (.cells #[.int .i64 t, .int .i64 0] 53) = wp at *
   generalize wr.heap.size = pb at *
   ·obtain ⟨⟨Z0,C0,kf0⟩,⟨Z1,C1,kf1⟩,⟨Z2,C2,kf2⟩,⟨Z3,C3,kf3⟩,⟨Z4,C4,kf4⟩,⟨Z5,C5,kf5⟩,⟨Z6,C6,kf6⟩,⟨Z7,C7,kf7⟩,⟨Z8,C8,kf8⟩,⟨Z9,C9,kf9⟩,_⟩ := hK0.2
    cases gb : backB x
    ·rw [gb] at RB
     replace RB := Lib.hid RB
     obtain rfl : bk = false := HBN.out gb
     have hP := hK0.1.setCell (p := ⟨pb, 1, none⟩) hgz (.int .i64 x)
     clear hK0 HO2
     go_wp2_with fail
     refine (RB.out _).mono ?_
     rintro e w6 ⟨rfl, hb⟩
     have hP2 := under hP hb
     clear hP hb
     (try clear Z0 C0 kf0); (try clear Z1 C1 kf1); (try clear Z2 C2 kf2); (try clear Z3 C3 kf3); (try clear Z4 C4 kf4); (try clear Z5 C5 kf5); (try clear Z6 C6 kf6); (try clear Z7 C7 kf7); (try clear Z8 C8 kf8); (try clear Z9 C9 kf9)
     go_wp2_with fail
     go_returns
     exact ⟨rfl, under HBW.out hP2⟩
    ·rw [gb] at RB
     replace RB := Lib.hid RB
     have hQ := kupd (M := [(pb, 0, .int .i64 t), (pb, 1, .int .i64 x)]) (hK0.sub (L' := [(pb, 0, .int .i64 t), (pb, 1, .int .i64 0)]) (by simp)) C9 hgz (.int .i64 x) (by simp [updL])
     have HQ := Lib.hid (owns_pt (i := 1) (show World.ownsRow _ _ _ _ _ _ _ from HO2.out) hpb (.int .i64 x))
     have GB := Lib.hid gb
     clear hK0 HO2 gb
     go_wp2_with fail
     refine (RB.out _).mono ?_
     rintro e w6 ⟨rfl, hb⟩
     have hQ2 := hQ.next hb
     have HQ2 := Lib.hid (owns_below (show World.ownsRow _ _ _ _ _ _ _ from HQ.out) hb)
     clear hQ HQ hb
     (try clear Z0 C0 kf0); (try clear Z1 C1 kf1); (try clear Z2 C2 kf2); (try clear Z3 C3 kf3); (try clear Z4 C4 kf4); (try clear Z5 C5 kf5); (try clear Z6 C6 kf6); (try clear Z7 C7 kf7); (try clear Z8 C8 kf8); (try clear Z9 C9 kf9)
     go_upto_region 15 with (fail)
     have hH := hQ2
     have HO3 : Hid (RowP w6 w1.heap.size (.slice A3 n3 c3) (full.take j)) := HQ2
     have HBT := GB
     clear hQ2 HQ2 GB RB HBN
     have hHs := hH.1.size
     obtain ⟨⟨Z0, C0, kf0⟩,⟨Z1, C1, kf1⟩, _⟩ := hH.2
     have hHB := Lib.hid hH.1
     skip
     go_wp2_with (at_builtin; go_loud (refine wpList_append_own _ rfl _ _ 35 rfl w1.heap.size 53 i0 (.agg #[.int .i64 0, .int .i64 0]) 2 16 Tryz.underlying35 hi hz0 hz1 hz2 rfl (by decide) _ _ _ rfl (owns_below (show World.ownsRow _ _ _ _ _ _ _ from HO3.out) (below_alloc w6 _)) ⟨w6.heap.size, 0, none⟩ 1 1 [.int .i64 t, .int .i64 x] rfl rfl ?c1 ?c2 ?c3 ?c4 ?c5 ?_))
     case c1 => exact new_cells2 rfl
     case c2 => intro u hu; simp at hu; rcases hu with rfl | rfl <;> rfl
     case c3 => unfold maxLen; omega
     case c4 => omega
     case c5 => simp; omega
     intro v' w12 hown' hgrow _
     have HO4 : Hid (RowP w12 w1.heap.size v' (full.take (j + 1))) := Lib.hid (by
      unfold RowP
      rw [hfp.out, List.length_append, flatP_app]
      simpa [flatP] using hown')
     have hB4 := own_grows hHB.out (show World.ownsRow _ _ _ _ _ _ _ from HO3.out) hgrow
     have HB3 := Lib.hid (HB2.out HBT.out)
     clear hown' hgrow hH HO3 HB2 hHB
     (try clear Z0 C0 kf0); (try clear Z1 C1 kf1); (try clear Z2 C2 kf2); (try clear Z3 C3 kf3); (try clear Z4 C4 kf4); (try clear Z5 C5 kf5); (try clear Z6 C6 kf6); (try clear Z7 C7 kf7); (try clear Z8 C8 kf8); (try clear Z9 C9 kf9)
     go_wp2_with fail
     go_roundw
     case rel => exact ⟨j + 1, by first | (simp; done) | (rw [wk]; simp; done), gj, HB3, HO4, hB4⟩
     case measure => first | exact tl.out | (rw [wk]; exact tl.out)
  ·have i1 : ¬ (j : Int) < (N : Int) := by omega
   have e : j = N := by omega
   subst e
   have EB : Hid (bk = true) := Lib.hid (HALL.out (fun q x hx => HB.out q x (by have := (List.getElem?_eq_some_iff.1 hx).1; rw [HVL.out] at this; exact this) hx))
   have HO2 := HO.out
   rw [List.take_of_length_le (by rw [HPL.out]; exact Nat.le_refl _)] at HO2
   replace HO2 := Lib.hid HO2
   obtain ⟨A3, n3, c3, rfl⟩ := own_slw HO2.out
   have hB2 := under HBW.out hB
   have HO3 := Lib.hid (owns_less (B' := w.heap.size) HO2.out (by have := HBW.out.size; omega))
   obtain rfl : bk = true := EB.out
   clear HB HO HO2 hB
   go_wp2_with fail
   go_returns
   exact ⟨A3, n3, c3, rfl, hB2, HO3.out⟩
end Go.Proofs.YtcfidimnbamnkaaGreat.P11
/-
 Layer 11: the document's Points. Conditions: its runs may be, and it has as many numbers as times, or a line that may be.
-/
namespace Go.Proofs.YtcfidimnbamnkaaGreat.P11
open Go.RowKit Go.Shelf Go.Proofs.YtcfidimnbamnkaaGreat.P7
set_option maxRecDepth 100000 in
set_option maxHeartbeats 8000000 in
theorem refPoints_line (s : Sg) (hA : AskOk s) (hk : s.k ≠ 4) (v u : Value) (w : World) (h : ReadsR w v s.R) (hu : Reads .i64 w u s.V) :
  Calls Tryz.prog 21 #[sgOf s v u] w (PointsD w s) := by
 have hok := hA.1
 have hT := times_ok hok
 have hlen := ask_len hA
 have hR1 : s.R.length ≤ 1000000 := by have := hT.runs; omega
 obtain ⟨i0, hi, hz0, hz1, hz2⟩ := info_parts infoPoint
 have TM : Hid (∀ W, Below w.heap.size w W → Calls Tryz.prog 56 #[v] W (LaidI W (timesR s.R))) := Lib.hid (fun W hb => by
  have := P7.refTimes_any s.R hR1 v W (h.below hb)
  rwa [timesD_ok hok] at this)
 have HW0 : Hid (∀ W, Below w.heap.size w W → Reads .i64 W u s.V) := Lib.hid (fun W hb => hu.below hb)
 have HP := Lib.hid (fun (q : Nat) (t x : Int) (hq : (timesR s.R)[q]? = some t) (hx : (vals s)[q]? = some x) => ptsF_get 0 _ _ q t x hq hx)
 have HPL : Hid ((ptsS s).length = (timesR s.R).length) := Lib.hid (ptsF_length 0 _ _ hlen)
 have HF := Lib.hid (fun (q : Nat) (t : Int) (hq : (timesR s.R)[q]? = some t) => since_time hT hq)
 have HF0 := Lib.hid (times_first hT)
 have HBK := Lib.hid (fun (q : Nat) (x : Int) (hx : (vals s)[q]? = some x) (hb : backB x = false) => backs_at hx hb)
 have HV4 : ∀ (q : Nat) (t : Int), (timesR s.R)[q]? = some t → (vals s)[q]? = some (exV s.a s.r s.n s.d (t - fstT s.R) / s.d) := fun q t hq => by unfold vals; rw [if_neg hk, List.getElem?_map, hq]; rfl
 have hln : lineB s.a s.r s.n s.d = true := by rcases hA.2 with ⟨h4, _⟩ | ⟨_, h⟩; exact absurd h4 hk; exact h
 have t4 : (s.k == 4) = false := by simpa using hk
 replace HV4 := Lib.hid HV4
 have HT1 := Lib.hid hT.one
 have HT2 := Lib.hid hT.few
 have HVL := Lib.hid hlen
 unfold PointsD
 have HALL : Hid ((∀ j x, (vals s)[j]? = some x → backB x = true) → backs (vals s) = true) := Lib.hid (fun hh => (backs_iff _).2 (fun x hx => by obtain ⟨j, hj⟩ := List.getElem?_of_mem hx; exact hh j x hj))
 generalize backs (vals s) = bk at *
 obtain ⟨full, hfull⟩ : ∃ f, f = ptsS s := ⟨_, rfl⟩
 obtain ⟨T, hTT⟩ : ∃ T, T = timesR s.R := ⟨_, rfl⟩
 obtain ⟨Vs, hVs⟩ : ∃ V, V = vals s := ⟨_, rfl⟩
 have HP2 : Hid (∀ (q : Nat) (t x : Int), T[q]? = some t → Vs[q]? = some x → full[q]? = some ⟨(q : Int), t, x⟩) := Lib.hid (fun q t x h1 h2 => by
  rw [hTT] at h1
  rw [hVs] at h2
  have := HP.out q t x h1 h2
  rw [Nat.zero_add] at this
  rw [hfull]; exact this)
 rw [← hfull, ← hTT] at HPL
 rw [← hTT] at TM HF HF0 HT1 HT2 HVL
 rw [← hVs] at HBK HVL HALL HV4
 rw [← hTT] at HV4
 rw [← hfull]
 generalize fstT s.R = f0 at *
 clear HP hA hok hT hlen hR1 h hu hfull hTT hVs
 obtain ⟨k, R, a, r, n, d, V, e⟩ := s
 simp only at *
 have hK := new_seg (Below.refl w.heap.size w) 27 k v a r n d (u) e
 go_enter Tryz.func21, Tryz.ntmps21
 go_wp2_with fail
 refine (TM.out _ hK.1).mono ?_
 rintro e w1 ⟨vt, rfl, hb, hrow⟩
 replace hK := hK.next hb
 have hrd := reads_own (k := .i64) (show World.ownsRow _ _ _ _ _ _ _ from hrow)
 clear hb hrow TM
 obtain ⟨A2, c2, rfl, hc2, hk2⟩ := hrd
 have HK2 := Lib.hid hk2
 have HU := Lib.hid (HW0.out w1 hK.1)
 have HBW := Lib.hid hK.1
 have hBX : Cells [(w.heap.size, 0, .int .i64 k), (w.heap.size, 1, v), (w.heap.size, 2, .int .i64 a), (w.heap.size, 3, .int .i64 r), (w.heap.size, 4, .int .i64 n), (w.heap.size, 5, .int .i64 d), (w.heap.size, 6, u), (w.heap.size, 7, .int .i64 e)] w1 := hK.2
 have HBX := Lib.hid hBX
 clear hk2 HW0 hK hBX
 generalize hN : T.length = N at *
 have HN := Lib.hid hN
 clear hN
 go_wp2_with fail
 go_loopw [5, 6] (fun uu i wr => ∃ j : Nat, i = .int .i64 j ∧ j ≤ N ∧ Hid (∀ q x, q < j → Vs[q]? = some x → backB x = true) ∧ Hid (RowP wr w1.heap.size uu (full.take j)) ∧ Below w1.heap.size w1 wr) (fun _ i => fun _ => N - (intOf i).toNat)
 case atStart => exact ⟨0, rfl, Nat.zero_le _, Lib.hid (fun q x hq _ => by omega), Lib.hid (World.ownsRow_nil _ _ _ _), Below.refl _ _⟩
 case round =>
  obtain ⟨j, rfl, hjl, HB, HO, hB⟩ := hrel
  by_cases gj : j < N
  ·obtain ⟨t, ht⟩ : ∃ t, T[j]? = some t := ⟨_, List.getElem?_eq_getElem (by rw [HN.out]; exact gj)⟩
   obtain ⟨x, hx⟩ : ∃ x, Vs[j]? = some x := ⟨_, List.getElem?_eq_getElem (by rw [HVL.out]; exact gj)⟩
   obtain ⟨bb, off, rfl, hbw, hc1⟩ := HK2.out j _ ht
   obtain ⟨bb', off', hbe, hbw', hc0⟩ := HK2.out 0 f0 HF0.out
   cases hbe
   have hc1w := Lib.hid hc1
   have hc0w : Hid (w1.cell? ⟨bb, off, none⟩ = some (.int .i64 f0)) := Lib.hid (by simpa using hc0)
   have c1 := (hB.cell (p := ⟨bb, off + j, none⟩) hbw).trans hc1
   have c0 := (hB.cell (p := ⟨bb, off, none⟩) hbw).trans (by simpa using hc0)
   have j1 : (j : Int) < (N : Int) := by omega
   have j0 : (0 : Int) ≤ (j : Int) := by omega
   have jn : (0 : Int) < (N : Int) := by omega
   have jn2 : 0 < N := by omega
   have wk := one_moreV gj (show N ≤ 1000000 by have := HT2.out; omega)
   have tl := Lib.hid (turn_lessV gj)
   have hfp : Hid (full.take (j + 1) = full.take j ++ [⟨(j : Int), t, x⟩]) := Lib.hid (by rw [List.take_add_one, HP2.out j t x ht hx]; rfl)
   have hpl := take_few full gj HT2.out
   have HB2 : Hid (backB x = true → ∀ q y, q < j + 1 → Vs[q]? = some y → backB y = true) := Lib.hid (back_more hx HB.out)
   have hBX := HBX.out.next hB
   obtain ⟨z1, z2, z3, z4, z5, z6⟩ := HF.out j t ht
   have RB := fun W => refBack_any x W
   have HX := Lib.hid hx
   have HBN := Lib.hid (HBK.out j x hx)
   have hxv : x = exV a r n d (t - f0) / d := by have := HV4.out j t ht; rw [hx] at this; injection this
   have AT' := fun W => refAt_any a r n d (t - f0) hln z3 W
   rw [← hxv] at AT'
   have HQV : Hid (backB x = true → ovQ (exV a r n d (t - f0)) d = x) := Lib.hid (fun hb => by unfold ovQ; rw [← hxv, hb, if_pos rfl])
   obtain ⟨gg, hgg⟩ : ∃ g, g = backB x := ⟨_, rfl⟩
   rw [← hgg] at AT'
   obtain ⟨qv, hqv⟩ : ∃ q, q = ovQ (exV a r n d (t - f0)) d := ⟨_, rfl⟩
   rw [← hqv] at AT' HQV
   have AT := Lib.hid AT'
   have ws : IntKind.i64.wrap (t - f0) = t - f0 := iwrap (by omega) (by omega)
   clear AT' hxv hqv RB
   clear hc1 hc0 hbw' ht hx HB
   obtain ⟨A3, n3, c3, rfl⟩ := own_slw HO.out
   have hK0 : Keeps w1 [(w.heap.size, 0, .int .i64 k), (w.heap.size, 1, v), (w.heap.size, 2, .int .i64 a), (w.heap.size, 3, .int .i64 r), (w.heap.size, 4, .int .i64 n), (w.heap.size, 5, .int .i64 d), (w.heap.size, 6, u), (w.heap.size, 7, .int .i64 e), (wr.heap.size, 0, .int .i64 t), (wr.heap.size, 1, .int .i64 0)] (wr.alloc (.cells #[.int .i64 t, .int .i64 0] 53)) := Keeps.app (l := [(w.heap.size, 0, .int .i64 k), (w.heap.size, 1, v), (w.heap.size, 2, .int .i64 a), (w.heap.size, 3, .int .i64 r), (w.heap.size, 4, .int .i64 n), (w.heap.size, 5, .int .i64 d), (w.heap.size, 6, u), (w.heap.size, 7, .int .i64 e)]) ⟨under hB (below_alloc _ _), hBX.next (below_alloc _ _)⟩ (newK2 (L := []) ⟨under hB (below_alloc _ _), trivial⟩)
   have hgz : w1.heap.size ≤ wr.heap.size := hB.size
   have hpb : (Value.slice A3 n3 c3).ownBlock ≠ some wr.heap.size := fun e => by have := ((show World.ownsRow _ _ _ _ _ _ _ from HO.out).lt _ e).2; omega
   have HO2 : Hid (RowP (wr.alloc (.cells #[.int .i64 t, .int .i64 0] 53)) w1.heap.size (.slice A3 n3 c3) (full.take j)) := Lib.hid (owns_below (show World.ownsRow _ _ _ _ _ _ _ from HO.out) (below_alloc _ _))
   clear HO hBX c0
   go_upto_region 7 with (fail)
   clear c1 hB
   generalize wr.alloc (.cells #[.int .i64 t, .int .i64 0] 53) = wp at *
   generalize wr.heap.size = pb at *
   ·obtain ⟨⟨Z0,C0,kf0⟩,⟨Z1,C1,kf1⟩,⟨Z2,C2,kf2⟩,⟨Z3,C3,kf3⟩,⟨Z4,C4,kf4⟩,⟨Z5,C5,kf5⟩,⟨Z6,C6,kf6⟩,⟨Z7,C7,kf7⟩,⟨Z8,C8,kf8⟩,⟨Z9,C9,kf9⟩,_⟩ := hK0.2
    have hL8 : Keeps w1 [(w.heap.size, 0, .int .i64 k), (w.heap.size, 1, v), (w.heap.size, 2, .int .i64 a), (w.heap.size, 3, .int .i64 r), (w.heap.size, 4, .int .i64 n), (w.heap.size, 5, .int .i64 d), (w.heap.size, 6, u), (w.heap.size, 7, .int .i64 e)] wp := hK0.sub (by simp)
    have hPB : Keeps w1 [(pb, 0, .int .i64 t), (pb, 1, .int .i64 0)] wp := hK0.sub (by simp)
    clear hK0
    go_upto_region 11 with (fail)
    (try clear hJ0); (try clear hJ1); (try clear Z0 C0 kf0); (try clear Z1 C1 kf1); (try clear Z2 C2 kf2); (try clear Z3 C3 kf3); (try clear Z4 C4 kf4); (try clear Z5 C5 kf5); (try clear Z6 C6 kf6); (try clear Z7 C7 kf7); (try clear Z8 C8 kf8); (try clear Z9 C9 kf9)
    refine region_keeps (w0 := w1) (L := [(w.heap.size, 0, .int .i64 k), (w.heap.size, 1, v), (w.heap.size, 2, .int .i64 a), (w.heap.size, 3, .int .i64 r), (w.heap.size, 4, .int .i64 n), (w.heap.size, 5, .int .i64 d), (w.heap.size, 6, u), (w.heap.size, 7, .int .i64 e)]) (by kernel_rfl) hL8 (fun hJ0 => ?_)
    refine tv 0 38 rfl rfl ?_
    try go_frame
    refine tk 1 39 rfl rfl ?_ ?_ ?_
    rotate_left
    ·intro wq hSw; have hq := hSw.2; repeat obtain ⟨⟨_,_,_⟩,hq⟩ := hq; have x1 := (hSw.1.cell (p := ⟨bb, off + j, none⟩) hbw).trans hc1w.out; have x0 := (hSw.1.cell (p := ⟨bb, off, none⟩) hbw).trans hc0w.out; go_simp; (try with_reducible rfl)
    try go_frame
    refine tv 2 40 rfl rfl ?_
    try go_frame
    refine tv 3 41 rfl rfl ?_
    try go_frame
    refine tv 4 42 rfl rfl ?_
    try go_frame
    refine tk 5 43 rfl rfl ?_ ?_ ?_
    rotate_left
    ·intro wq hSw; have hq := hSw.2; repeat obtain ⟨⟨_,_,_⟩,hq⟩ := hq; have x1 := (hSw.1.cell (p := ⟨bb, off + j, none⟩) hbw).trans hc1w.out; have x0 := (hSw.1.cell (p := ⟨bb, off, none⟩) hbw).trans hc0w.out; go_simp; (try with_reducible rfl)
    try go_frame
    refine tv 6 44 rfl rfl ?_
    try go_frame
    refine tv 7 45 rfl rfl ?_
    try go_frame
    refine tk 8 46 rfl rfl ?_ ?_ ?_
    rotate_left
    ·intro wq hSw; have hq := hSw.2; repeat obtain ⟨⟨_,_,_⟩,hq⟩ := hq; have x1 := (hSw.1.cell (p := ⟨bb, off + j, none⟩) hbw).trans hc1w.out; have x0 := (hSw.1.cell (p := ⟨bb, off, none⟩) hbw).trans hc0w.out; go_simp; (try with_reducible rfl)
    try go_frame
    refine tv 9 47 rfl rfl ?_
    try go_frame
    refine tw 10 rfl fun K hK => ?_
    go_simp
    ((with_reducible refine (AT.out _).mono ?_); rintro e w6 ⟨rfl, hb⟩; have hb6 := hb)
    refine hK.out _ _ (hJ0.next hb) (fun hJ1 => ?_)
    clear hK K; try clear hb
    try go_frame
    refine tv 11 37 rfl rfl ?_
    try go_frame
    refine tv 12 49 rfl rfl ?_
    try go_frame
    refine tv 13 50 rfl rfl ?_
    try go_frame
    refine tv 14 8 rfl rfl ?_
    try go_frame
    refine tv 15 9 rfl rfl ?_
    try go_frame
    refine wpAnyH_done (by kernel_rfl) ?_ _
    have hJ := hJ1
    obtain ⟨⟨Z0,C0,kf0⟩,⟨Z1,C1,kf1⟩,⟨Z2,C2,kf2⟩,⟨Z3,C3,kf3⟩,⟨Z4,C4,kf4⟩,⟨Z5,C5,kf5⟩,⟨Z6,C6,kf6⟩,⟨Z7,C7,kf7⟩,_⟩ := hJ.2
    all_goals
     have hPB2 := hPB.next (undrew hb6)
     have HQ := Lib.hid (owns_below (show World.ownsRow _ _ _ _ _ _ _ from HO2.out) (undrew hb6))
     (try clear hJ); (try clear hJ0); (try clear hJ1); (try clear Z0 C0 kf0) ; (try clear Z1 C1 kf1) ; (try clear Z2 C2 kf2) ; (try clear Z3 C3 kf3) ; (try clear Z4 C4 kf4) ; (try clear Z5 C5 kf5)
     (try clear hJ0); (try clear hJ1); (try clear Z0 C0 kf0); (try clear Z1 C1 kf1); (try clear Z2 C2 kf2); (try clear Z3 C3 kf3); (try clear Z4 C4 kf4); (try clear Z5 C5 kf5); (try clear Z6 C6 kf6); (try clear Z7 C7 kf7); (try clear Z8 C8 kf8); (try clear Z9 C9 kf9)
     cases gb : backB x
     ·have g2 : gg = false := hgg.trans gb
      clear hgg
      subst g2
      obtain rfl : bk = false := HBN.out gb
      have hP2 := hPB2.1
      clear hPB2 HQ HO2 hb6
      go_wp2_with fail
      go_returns
      exact ⟨rfl, under HBW.out hP2⟩
     ·have g2 : gg = true := hgg.trans gb
      clear hgg
      subst g2
      have hqv := HQV.out gb
      subst hqv
      obtain ⟨⟨Z0, C0, kf0⟩,⟨Z1, C1, kf1⟩, _⟩ := hPB2.2
      have hQ := kupd (M := [(pb, 0, .int .i64 t), (pb, 1, .int .i64 qv)]) hPB2 C1 hgz (.int .i64 qv) (by simp [updL])
      have HQ3 := Lib.hid (owns_pt (i := 1) (show World.ownsRow _ _ _ _ _ _ _ from HQ.out) hpb (.int .i64 qv))
      have GB := Lib.hid gb
      clear hPB2 HQ HO2 hb6
      go_upto_region 15 with (fail)
      obtain ⟨wc, ewc, hH⟩ := keeps_named hQ
      rw [← ewc] at HQ3 ⊢
      have HO3 : Hid (RowP wc w1.heap.size (.slice A3 n3 c3) (full.take j)) := HQ3
      have HBT := GB
      clear ewc hQ HQ3 GB HBN HQV AT
      have hHs := hH.1.size
      obtain ⟨⟨Z0, C0, kf0⟩,⟨Z1, C1, kf1⟩, _⟩ := hH.2
      have hHB := Lib.hid hH.1
      skip
      go_wp2_with (at_builtin; go_loud (refine wpList_append_own _ rfl _ _ 35 rfl w1.heap.size 53 i0 (.agg #[.int .i64 0, .int .i64 0]) 2 16 Tryz.underlying35 hi hz0 hz1 hz2 rfl (by decide) _ _ _ rfl (owns_below (show World.ownsRow _ _ _ _ _ _ _ from HO3.out) (below_alloc wc _)) ⟨wc.heap.size, 0, none⟩ 1 1 [.int .i64 t, .int .i64 qv] rfl rfl ?c1 ?c2 ?c3 ?c4 ?c5 ?_))
      case c1 => exact new_cells2 rfl
      case c2 => intro u hu; simp at hu; rcases hu with rfl | rfl <;> rfl
      case c3 => unfold maxLen; omega
      case c4 => omega
      case c5 => simp; omega
      intro v' w12 hown' hgrow _
      have HO4 : Hid (RowP w12 w1.heap.size v' (full.take (j + 1))) := Lib.hid (by
       unfold RowP
       rw [hfp.out, List.length_append, flatP_app]
       simpa [flatP] using hown')
      have hB4 := own_grows hHB.out (show World.ownsRow _ _ _ _ _ _ _ from HO3.out) hgrow
      have HB3 := Lib.hid (HB2.out HBT.out)
      clear hown' hgrow hH HO3 HB2 hHB
      (try clear hJ0); (try clear hJ1); (try clear Z0 C0 kf0); (try clear Z1 C1 kf1); (try clear Z2 C2 kf2); (try clear Z3 C3 kf3); (try clear Z4 C4 kf4); (try clear Z5 C5 kf5); (try clear Z6 C6 kf6); (try clear Z7 C7 kf7); (try clear Z8 C8 kf8); (try clear Z9 C9 kf9)
      go_wp2_with fail
      go_roundw
      case rel => exact ⟨j + 1, by first | (simp; done) | (rw [wk]; simp; done), gj, HB3, HO4, hB4⟩
      case measure => first | exact tl.out | (rw [wk]; exact tl.out)
  ·have i1 : ¬ (j : Int) < (N : Int) := by omega
   have e : j = N := by omega
   subst e
   have EB : Hid (bk = true) := Lib.hid (HALL.out (fun q x hx => HB.out q x (by have := (List.getElem?_eq_some_iff.1 hx).1; rw [HVL.out] at this; exact this) hx))
   have HO2 := HO.out
   rw [List.take_of_length_le (by rw [HPL.out]; exact Nat.le_refl _)] at HO2
   replace HO2 := Lib.hid HO2
   obtain ⟨A3, n3, c3, rfl⟩ := own_slw HO2.out
   have hB2 := under HBW.out hB
   have HO3 := Lib.hid (owns_less (B' := w.heap.size) HO2.out (by have := HBW.out.size; omega))
   obtain rfl : bk = true := EB.out
   clear HB HO HO2 hB
   go_wp2_with fail
   go_returns
   exact ⟨A3, n3, c3, rfl, hB2, HO3.out⟩
end Go.Proofs.YtcfidimnbamnkaaGreat.P11
/-
 Layer 11: the document's Kind and Right.
-/
namespace Go.Proofs.YtcfidimnbamnkaaGreat.P11
open Go.RowKit Go.Shelf Go.Proofs.YtcfidimnbamnkaaGreat.P7
set_option maxHeartbeats 2000000 in
theorem refKind_any (a r n d : Int) (w : World) : Calls Tryz.prog 23 #[lnV a r n d] w (Ret w (.int .i64 (kindL n r))) := by
 by_cases h1 : n = 0
 ·subst h1
  have e5 : kindL 0 r = 1 := rfl
  rw [e5]
  clear e5
  go_enter Tryz.func23, Tryz.ntmps23
  go_wp2_with fail
  go_returns
  exact ⟨rfl, by go_grown⟩
 ·have t1 : (n == 0) = false := by simpa using h1
  by_cases h2 : r = 0
  ·subst h2
   have e5 : kindL n 0 = 2 := by unfold kindL; rw [if_neg h1, if_pos rfl]
   rw [e5]
   clear e5 h1
   go_enter Tryz.func23, Tryz.ntmps23
   go_wp2_with fail
   go_returns
   exact ⟨rfl, by go_grown⟩
  ·have t2 : (r == 0) = false := by simpa using h2
   have e5 : kindL n r = 3 := by unfold kindL; rw [if_neg h1, if_neg h2]
   rw [e5]
   clear e5 h1 h2
   go_enter Tryz.func23, Tryz.ntmps23
   go_wp2_with fail
   go_returns
   exact ⟨rfl, by go_grown⟩
theorem points_bk {w : World} {s : Sg} {e : Ending} {w' : World} (h : PointsD w s e w') : ∃ A n c, e = .returned (.tuple #[.slice A n c, .bool (backs (vals s))]) ∧ Below w.heap.size w w' := by
 unfold PointsD at h
 cases g : backs (vals s)
 ·rw [g] at h
  simp only [Bool.false_eq_true, if_false] at h
  exact ⟨none, 0, 0, h.1, h.2⟩
 ·rw [g] at h
  simp only [if_true] at h
  obtain ⟨A, n, c, h1, h2, _⟩ := h
  exact ⟨A, n, c, h1, h2⟩
set_option maxRecDepth 100000 in
set_option maxHeartbeats 8000000 in
theorem refRightS_any (s : Sg) (hR : s.R.length ≤ 1000000) (hV : s.V.length ≤ 1000000) (v u : Value) (w : World) (h : ReadsR w v s.R) (hu : Reads .i64 w u s.V) :
  Calls Tryz.prog 16 #[sgOf s v u] w (Ret w (.bool (segB s))) := by
 have RR : Hid (∀ W, Below w.heap.size w W → Calls Tryz.prog 55 #[v] W (Ret W (.bool (okB s.R)))) := Lib.hid (fun W hb => P7.refRight_any s.R hR v W (h.below hb))
 have TM : Hid (okB s.R = true → ∀ W, Below w.heap.size w W → Calls Tryz.prog 56 #[v] W (LaidI W (timesR s.R))) := Lib.hid (fun hok W hb => by
  have := P7.refTimes_any s.R hR v W (h.below hb)
  rwa [timesD_ok hok] at this)
 have TT : Hid (okB s.R = true → ((timesR s.R).length : Int) = totalR s.R) := Lib.hid (fun hok => (times_ok hok).total)
 have PT : Hid (AskOk s → ∀ W, Below w.heap.size w W → Calls Tryz.prog 21 #[sgOf s v u] W (fun e w' => ∃ A n c, e = .returned (.tuple #[.slice A n c, .bool (backs (vals s))]) ∧ Below W.heap.size W w')) := Lib.hid (fun ha W hb => by
  by_cases g : s.k = 4
  ·exact (refPoints_raw s ha g v u W (h.below hb) (hu.below hb)).mono (fun _ _ hp => points_bk hp)
  ·exact (refPoints_line s ha g v u W (h.below hb) (hu.below hb)).mono (fun _ _ hp => points_bk hp))
 have RL : Hid (∀ W, Calls Tryz.prog 22 #[lnV s.a s.r s.n s.d] W (Ret W (.bool (lineB s.a s.r s.n s.d)))) := Lib.hid (fun W => Go.Proofs.YtcfidimnbamnkaaGreat.refRight_any s.a s.r s.n s.d W)
 have RK : Hid (∀ W, Calls Tryz.prog 23 #[lnV s.a s.r s.n s.d] W (Ret W (.int .i64 (kindL s.n s.r)))) := Lib.hid (fun W => refKind_any s.a s.r s.n s.d W)
 obtain ⟨k, R, a, r, n, d, V, e⟩ := s
 simp only at hR hV RR TM TT RL RK h hu
 obtain ⟨A9, c9, rfl, _, _⟩ := hu
 unfold sgOf
 unfold sgOf at PT
 simp only at PT ⊢
 cases g1 : okB R
 ·have e5 : segB ⟨k, R, a, r, n, d, V, e⟩ = false := by simp [segB, g1]
  rw [e5]
  rw [g1] at RR
  clear e5 TM TT PT RL RK h
  have hK := new_seg (Below.refl w.heap.size w) 27 k v a r n d (.slice A9 V.length c9) e
  go_enter Tryz.func16, Tryz.ntmps16
  go_wp2_with fail
  refine (RR.out _ hK.1).mono ?_
  rintro e' w1 ⟨rfl, hb⟩
  replace hK := hK.next hb
  clear hb RR
  obtain ⟨⟨Z0,C0,kf0⟩,⟨Z1,C1,kf1⟩,⟨Z2,C2,kf2⟩,⟨Z3,C3,kf3⟩,⟨Z4,C4,kf4⟩,⟨Z5,C5,kf5⟩,⟨Z6,C6,kf6⟩,⟨Z7,C7,kf7⟩,_⟩ := hK.2
  go_wp2_with fail
  go_returns
  exact ⟨rfl, hK.1⟩
 rw [g1] at RR
 replace TM := Lib.hid (TM.out g1)
 replace TT := TT.out g1
 by_cases g2 : e < 0
 ·have e5 : segB ⟨k, R, a, r, n, d, V, e⟩ = false := by
   have : ¬ 0 ≤ e := by omega
   simp [segB, this]
  rw [e5]
  clear e5 TM TT PT RL RK h
  have hK := new_seg (Below.refl w.heap.size w) 27 k v a r n d (.slice A9 V.length c9) e
  go_enter Tryz.func16, Tryz.ntmps16
  go_wp2_with fail
  refine (RR.out _ hK.1).mono ?_
  rintro e' w1 ⟨rfl, hb⟩
  replace hK := hK.next hb
  clear hb RR
  obtain ⟨⟨Z0,C0,kf0⟩,⟨Z1,C1,kf1⟩,⟨Z2,C2,kf2⟩,⟨Z3,C3,kf3⟩,⟨Z4,C4,kf4⟩,⟨Z5,C5,kf5⟩,⟨Z6,C6,kf6⟩,⟨Z7,C7,kf7⟩,_⟩ := hK.2
  go_wp2_with fail
  go_returns
  exact ⟨rfl, hK.1⟩
 by_cases g3 : 1099511627776 < e
 ·have e5 : segB ⟨k, R, a, r, n, d, V, e⟩ = false := by
   have : ¬ e ≤ 1099511627776 := by omega
   simp [segB, this]
  rw [e5]
  clear e5 TM TT PT RL RK h
  have hK := new_seg (Below.refl w.heap.size w) 27 k v a r n d (.slice A9 V.length c9) e
  go_enter Tryz.func16, Tryz.ntmps16
  go_wp2_with fail
  refine (RR.out _ hK.1).mono ?_
  rintro e' w1 ⟨rfl, hb⟩
  replace hK := hK.next hb
  clear hb RR
  obtain ⟨⟨Z0,C0,kf0⟩,⟨Z1,C1,kf1⟩,⟨Z2,C2,kf2⟩,⟨Z3,C3,kf3⟩,⟨Z4,C4,kf4⟩,⟨Z5,C5,kf5⟩,⟨Z6,C6,kf6⟩,⟨Z7,C7,kf7⟩,_⟩ := hK.2
  go_wp2_with fail
  go_returns
  exact ⟨rfl, hK.1⟩
 have g4 : 0 ≤ e := by omega
 have g5 : e ≤ 1099511627776 := by omega
 have SG : segB ⟨k, R, a, r, n, d, V, e⟩ = ((if k = 4 then rawOk ⟨k, R, a, r, n, d, V, e⟩ else lineOk ⟨k, R, a, r, n, d, V, e⟩) && backs (vals ⟨k, R, a, r, n, d, V, e⟩)) := by simp [segB, g1, g4, g5]
 rw [SG]
 have hRO : rawOk ⟨k, R, a, r, n, d, V, e⟩ = (decide (a = 0 ∧ r = 0 ∧ n = 0 ∧ d = 0) && decide ((V.length : Int) = totalR R)) := rfl
 have hLO : lineOk ⟨k, R, a, r, n, d, V, e⟩ = (decide (V.length = 0) && (lineB a r n d && decide (k = kindL n r))) := by
  have h0 : decide (V.length = 0) = decide (V = []) := decide_eq_decide.2 List.length_eq_zero_iff
  rw [h0]
  rfl
 rw [hRO, hLO, ← TT]
 clear SG hRO hLO g4 g5 h
 have PA1 : Hid (k = 4 → (V.length : Int) = ((timesR R).length : Int) → ∀ W, Below w.heap.size w W → Calls Tryz.prog 21 #[.agg #[.int .i64 k, v, .int .i64 a, .int .i64 r, .int .i64 n, .int .i64 d, .slice A9 V.length c9, .int .i64 e]] W (fun e' w' => ∃ A' n' c', e' = .returned (.tuple #[.slice A' n' c', .bool (backs (vals ⟨k, R, a, r, n, d, V, e⟩))]) ∧ Below W.heap.size W w')) := Lib.hid (fun hk hl => PT.out ⟨g1, .inl ⟨hk, by show (V.length : Int) = totalR R; rw [← TT]; exact hl⟩⟩)
 have PA2 : Hid (k ≠ 4 → lineB a r n d = true → ∀ W, Below w.heap.size w W → Calls Tryz.prog 21 #[.agg #[.int .i64 k, v, .int .i64 a, .int .i64 r, .int .i64 n, .int .i64 d, .slice A9 V.length c9, .int .i64 e]] W (fun e' w' => ∃ A' n' c', e' = .returned (.tuple #[.slice A' n' c', .bool (backs (vals ⟨k, R, a, r, n, d, V, e⟩))]) ∧ Below W.heap.size W w')) := Lib.hid (fun hk hl => PT.out ⟨g1, .inr ⟨hk, hl⟩⟩)
 clear PT g1 TT
 generalize backs (vals ⟨k, R, a, r, n, d, V, e⟩) = bk at *
 replace TM : Hid (∀ W, Below w.heap.size w W → Calls Tryz.prog 56 #[v] W (fun e' w' => ∃ A c, e' = .returned (.slice A (timesR R).length c) ∧ Below W.heap.size W w')) := Lib.hid (fun W hb => (TM.out W hb).mono (fun _ _ ⟨vt, h1, h2, h3⟩ => by
  obtain ⟨A2, c2, rfl, _, _⟩ := reads_own (k := .i64) (show World.ownsRow _ _ _ _ _ _ _ from h3)
  exact ⟨A2, c2, h1, h2⟩))
 generalize (timesR R).length = M at *
 generalize V.length = N at *
 generalize kindL n r = kl at *
 have q2 : ¬ e < 0 := g2
 have q3 : ¬ 1099511627776 < e := g3
 clear g2 g3 hR hV
 by_cases hk : k = 4
 ·subst hk
  rw [if_pos rfl]
  replace PA1 := Lib.hid (PA1.out rfl)
  clear PA2 RL RK
  by_cases ga : a = 0
  rotate_left
  ·have t5 : (a == 0) = false := by simpa using ga
   have e5 : (decide (a = 0 ∧ r = 0 ∧ n = 0 ∧ d = 0) && decide ((N : Int) = (M : Int)) && bk) = false := by simp [ga]
   rw [e5]
   clear e5 ga PA1 TM
   have hK := new_seg (Below.refl w.heap.size w) 27 4 v a r n d (.slice A9 N c9) e
   go_enter Tryz.func16, Tryz.ntmps16
   go_wp2_with fail
   refine (RR.out _ hK.1).mono ?_
   rintro e' w1 ⟨rfl, hb⟩
   replace hK := hK.next hb
   clear hb RR
   obtain ⟨⟨Z0,C0,kf0⟩,⟨Z1,C1,kf1⟩,⟨Z2,C2,kf2⟩,⟨Z3,C3,kf3⟩,⟨Z4,C4,kf4⟩,⟨Z5,C5,kf5⟩,⟨Z6,C6,kf6⟩,⟨Z7,C7,kf7⟩,_⟩ := hK.2
   go_upto_region 4 with (fail)
   (try clear hJ0); (try clear hJ1); (try clear hJ2); (try clear Z0 C0 kf0); (try clear Z1 C1 kf1); (try clear Z2 C2 kf2); (try clear Z3 C3 kf3); (try clear Z4 C4 kf4); (try clear Z5 C5 kf5); (try clear Z6 C6 kf6); (try clear Z7 C7 kf7)
   refine region_keeps (w0 := w) (L := [(w.heap.size, 0, .int .i64 4), (w.heap.size, 1, v), (w.heap.size, 2, .int .i64 a), (w.heap.size, 3, .int .i64 r), (w.heap.size, 4, .int .i64 n), (w.heap.size, 5, .int .i64 d), (w.heap.size, 6, .slice A9 N c9), (w.heap.size, 7, .int .i64 e)]) (by kernel_rfl) hK (fun hJ0 => ?_)
   refine tv 0 22 rfl rfl ?_
   try go_frame
   refine tk 1 23 rfl rfl ?_ ?_ ?_
   rotate_left
   ·intro wq hSw; have hq := hSw.2; repeat obtain ⟨⟨_,_,_⟩,hq⟩ := hq; go_simp; (try with_reducible rfl)
   try go_frame
   refine tv 2 24 rfl rfl ?_
   try go_frame
   refine tv 3 25 rfl rfl ?_
   try go_frame
   refine tv 4 26 rfl rfl ?_
   try go_frame
   refine tu 5 27 rfl rfl ?_
   try go_frame
   refine tu 6 28 rfl rfl ?_
   try go_frame
   refine tu 7 29 rfl rfl ?_
   try go_frame
   refine tu 8 30 rfl rfl ?_
   try go_frame
   refine tu 9 31 rfl rfl ?_
   try go_frame
   refine tu 10 32 rfl rfl ?_
   try go_frame
   refine tu 11 33 rfl rfl ?_
   try go_frame
   refine tu 12 34 rfl rfl ?_
   try go_frame
   refine tv 13 35 rfl rfl ?_
   try go_frame
   refine wpAnyH_done (by kernel_rfl) ?_ _
   have hJ := hJ0
   obtain ⟨⟨Z0,C0,kf0⟩,⟨Z1,C1,kf1⟩,⟨Z2,C2,kf2⟩,⟨Z3,C3,kf3⟩,⟨Z4,C4,kf4⟩,⟨Z5,C5,kf5⟩,⟨Z6,C6,kf6⟩,⟨Z7,C7,kf7⟩,_⟩ := hJ.2
   all_goals
    (try clear hJ0); (try clear hJ1); (try clear hJ2); (try clear Z0 C0 kf0); (try clear Z1 C1 kf1); (try clear Z2 C2 kf2); (try clear Z3 C3 kf3); (try clear Z4 C4 kf4); (try clear Z5 C5 kf5); (try clear Z6 C6 kf6); (try clear Z7 C7 kf7)
    go_wp2_with fail
    go_returns
    exact ⟨rfl, hJ.1⟩
  subst ga
  by_cases gr : r = 0
  rotate_left
  ·have t5 : (r == 0) = false := by simpa using gr
   have e5 : (decide ((0 : Int) = 0 ∧ r = 0 ∧ n = 0 ∧ d = 0) && decide ((N : Int) = (M : Int)) && bk) = false := by simp [gr]
   rw [e5]
   clear e5 gr PA1 TM
   have hK := new_seg (Below.refl w.heap.size w) 27 4 v 0 r n d (.slice A9 N c9) e
   go_enter Tryz.func16, Tryz.ntmps16
   go_wp2_with fail
   refine (RR.out _ hK.1).mono ?_
   rintro e' w1 ⟨rfl, hb⟩
   replace hK := hK.next hb
   clear hb RR
   obtain ⟨⟨Z0,C0,kf0⟩,⟨Z1,C1,kf1⟩,⟨Z2,C2,kf2⟩,⟨Z3,C3,kf3⟩,⟨Z4,C4,kf4⟩,⟨Z5,C5,kf5⟩,⟨Z6,C6,kf6⟩,⟨Z7,C7,kf7⟩,_⟩ := hK.2
   go_upto_region 4 with (fail)
   (try clear hJ0); (try clear hJ1); (try clear hJ2); (try clear Z0 C0 kf0); (try clear Z1 C1 kf1); (try clear Z2 C2 kf2); (try clear Z3 C3 kf3); (try clear Z4 C4 kf4); (try clear Z5 C5 kf5); (try clear Z6 C6 kf6); (try clear Z7 C7 kf7)
   refine region_keeps (w0 := w) (L := [(w.heap.size, 0, .int .i64 4), (w.heap.size, 1, v), (w.heap.size, 2, .int .i64 0), (w.heap.size, 3, .int .i64 r), (w.heap.size, 4, .int .i64 n), (w.heap.size, 5, .int .i64 d), (w.heap.size, 6, .slice A9 N c9), (w.heap.size, 7, .int .i64 e)]) (by kernel_rfl) hK (fun hJ0 => ?_)
   refine tv 0 22 rfl rfl ?_
   try go_frame
   refine tk 1 23 rfl rfl ?_ ?_ ?_
   rotate_left
   ·intro wq hSw; have hq := hSw.2; repeat obtain ⟨⟨_,_,_⟩,hq⟩ := hq; go_simp; (try with_reducible rfl)
   try go_frame
   refine tv 2 24 rfl rfl ?_
   try go_frame
   refine tv 3 25 rfl rfl ?_
   try go_frame
   refine tv 4 26 rfl rfl ?_
   try go_frame
   refine tu 5 27 rfl rfl ?_
   try go_frame
   refine tu 6 28 rfl rfl ?_
   try go_frame
   refine tu 7 29 rfl rfl ?_
   try go_frame
   refine tu 8 30 rfl rfl ?_
   try go_frame
   refine tu 9 31 rfl rfl ?_
   try go_frame
   refine tu 10 32 rfl rfl ?_
   try go_frame
   refine tu 11 33 rfl rfl ?_
   try go_frame
   refine tu 12 34 rfl rfl ?_
   try go_frame
   refine tv 13 35 rfl rfl ?_
   try go_frame
   refine wpAnyH_done (by kernel_rfl) ?_ _
   have hJ := hJ0
   obtain ⟨⟨Z0,C0,kf0⟩,⟨Z1,C1,kf1⟩,⟨Z2,C2,kf2⟩,⟨Z3,C3,kf3⟩,⟨Z4,C4,kf4⟩,⟨Z5,C5,kf5⟩,⟨Z6,C6,kf6⟩,⟨Z7,C7,kf7⟩,_⟩ := hJ.2
   all_goals
    (try clear hJ0); (try clear hJ1); (try clear hJ2); (try clear Z0 C0 kf0); (try clear Z1 C1 kf1); (try clear Z2 C2 kf2); (try clear Z3 C3 kf3); (try clear Z4 C4 kf4); (try clear Z5 C5 kf5); (try clear Z6 C6 kf6); (try clear Z7 C7 kf7)
    go_wp2_with fail
    go_returns
    exact ⟨rfl, hJ.1⟩
  subst gr
  by_cases gn : n = 0
  rotate_left
  ·have t5 : (n == 0) = false := by simpa using gn
   have e5 : (decide ((0 : Int) = 0 ∧ (0 : Int) = 0 ∧ n = 0 ∧ d = 0) && decide ((N : Int) = (M : Int)) && bk) = false := by simp [gn]
   rw [e5]
   clear e5 gn PA1 TM
   have hK := new_seg (Below.refl w.heap.size w) 27 4 v 0 0 n d (.slice A9 N c9) e
   go_enter Tryz.func16, Tryz.ntmps16
   go_wp2_with fail
   refine (RR.out _ hK.1).mono ?_
   rintro e' w1 ⟨rfl, hb⟩
   replace hK := hK.next hb
   clear hb RR
   obtain ⟨⟨Z0,C0,kf0⟩,⟨Z1,C1,kf1⟩,⟨Z2,C2,kf2⟩,⟨Z3,C3,kf3⟩,⟨Z4,C4,kf4⟩,⟨Z5,C5,kf5⟩,⟨Z6,C6,kf6⟩,⟨Z7,C7,kf7⟩,_⟩ := hK.2
   go_upto_region 4 with (fail)
   (try clear hJ0); (try clear hJ1); (try clear hJ2); (try clear Z0 C0 kf0); (try clear Z1 C1 kf1); (try clear Z2 C2 kf2); (try clear Z3 C3 kf3); (try clear Z4 C4 kf4); (try clear Z5 C5 kf5); (try clear Z6 C6 kf6); (try clear Z7 C7 kf7)
   refine region_keeps (w0 := w) (L := [(w.heap.size, 0, .int .i64 4), (w.heap.size, 1, v), (w.heap.size, 2, .int .i64 0), (w.heap.size, 3, .int .i64 0), (w.heap.size, 4, .int .i64 n), (w.heap.size, 5, .int .i64 d), (w.heap.size, 6, .slice A9 N c9), (w.heap.size, 7, .int .i64 e)]) (by kernel_rfl) hK (fun hJ0 => ?_)
   refine tv 0 22 rfl rfl ?_
   try go_frame
   refine tk 1 23 rfl rfl ?_ ?_ ?_
   rotate_left
   ·intro wq hSw; have hq := hSw.2; repeat obtain ⟨⟨_,_,_⟩,hq⟩ := hq; go_simp; (try with_reducible rfl)
   try go_frame
   refine tv 2 24 rfl rfl ?_
   try go_frame
   refine tv 3 25 rfl rfl ?_
   try go_frame
   refine tv 4 26 rfl rfl ?_
   try go_frame
   refine tu 5 27 rfl rfl ?_
   try go_frame
   refine tu 6 28 rfl rfl ?_
   try go_frame
   refine tu 7 29 rfl rfl ?_
   try go_frame
   refine tu 8 30 rfl rfl ?_
   try go_frame
   refine tu 9 31 rfl rfl ?_
   try go_frame
   refine tu 10 32 rfl rfl ?_
   try go_frame
   refine tu 11 33 rfl rfl ?_
   try go_frame
   refine tu 12 34 rfl rfl ?_
   try go_frame
   refine tv 13 35 rfl rfl ?_
   try go_frame
   refine wpAnyH_done (by kernel_rfl) ?_ _
   have hJ := hJ0
   obtain ⟨⟨Z0,C0,kf0⟩,⟨Z1,C1,kf1⟩,⟨Z2,C2,kf2⟩,⟨Z3,C3,kf3⟩,⟨Z4,C4,kf4⟩,⟨Z5,C5,kf5⟩,⟨Z6,C6,kf6⟩,⟨Z7,C7,kf7⟩,_⟩ := hJ.2
   all_goals
    (try clear hJ0); (try clear hJ1); (try clear hJ2); (try clear Z0 C0 kf0); (try clear Z1 C1 kf1); (try clear Z2 C2 kf2); (try clear Z3 C3 kf3); (try clear Z4 C4 kf4); (try clear Z5 C5 kf5); (try clear Z6 C6 kf6); (try clear Z7 C7 kf7)
    go_wp2_with fail
    go_returns
    exact ⟨rfl, hJ.1⟩
  subst gn
  by_cases gd : d = 0
  rotate_left
  ·have t5 : (d == 0) = false := by simpa using gd
   have e5 : (decide ((0 : Int) = 0 ∧ (0 : Int) = 0 ∧ (0 : Int) = 0 ∧ d = 0) && decide ((N : Int) = (M : Int)) && bk) = false := by simp [gd]
   rw [e5]
   clear e5 gd PA1 TM
   have hK := new_seg (Below.refl w.heap.size w) 27 4 v 0 0 0 d (.slice A9 N c9) e
   go_enter Tryz.func16, Tryz.ntmps16
   go_wp2_with fail
   refine (RR.out _ hK.1).mono ?_
   rintro e' w1 ⟨rfl, hb⟩
   replace hK := hK.next hb
   clear hb RR
   obtain ⟨⟨Z0,C0,kf0⟩,⟨Z1,C1,kf1⟩,⟨Z2,C2,kf2⟩,⟨Z3,C3,kf3⟩,⟨Z4,C4,kf4⟩,⟨Z5,C5,kf5⟩,⟨Z6,C6,kf6⟩,⟨Z7,C7,kf7⟩,_⟩ := hK.2
   go_upto_region 4 with (fail)
   (try clear hJ0); (try clear hJ1); (try clear hJ2); (try clear Z0 C0 kf0); (try clear Z1 C1 kf1); (try clear Z2 C2 kf2); (try clear Z3 C3 kf3); (try clear Z4 C4 kf4); (try clear Z5 C5 kf5); (try clear Z6 C6 kf6); (try clear Z7 C7 kf7)
   refine region_keeps (w0 := w) (L := [(w.heap.size, 0, .int .i64 4), (w.heap.size, 1, v), (w.heap.size, 2, .int .i64 0), (w.heap.size, 3, .int .i64 0), (w.heap.size, 4, .int .i64 0), (w.heap.size, 5, .int .i64 d), (w.heap.size, 6, .slice A9 N c9), (w.heap.size, 7, .int .i64 e)]) (by kernel_rfl) hK (fun hJ0 => ?_)
   refine tv 0 22 rfl rfl ?_
   try go_frame
   refine tk 1 23 rfl rfl ?_ ?_ ?_
   rotate_left
   ·intro wq hSw; have hq := hSw.2; repeat obtain ⟨⟨_,_,_⟩,hq⟩ := hq; go_simp; (try with_reducible rfl)
   try go_frame
   refine tv 2 24 rfl rfl ?_
   try go_frame
   refine tv 3 25 rfl rfl ?_
   try go_frame
   refine tv 4 26 rfl rfl ?_
   try go_frame
   refine tu 5 27 rfl rfl ?_
   try go_frame
   refine tu 6 28 rfl rfl ?_
   try go_frame
   refine tu 7 29 rfl rfl ?_
   try go_frame
   refine tu 8 30 rfl rfl ?_
   try go_frame
   refine tu 9 31 rfl rfl ?_
   try go_frame
   refine tu 10 32 rfl rfl ?_
   try go_frame
   refine tu 11 33 rfl rfl ?_
   try go_frame
   refine tu 12 34 rfl rfl ?_
   try go_frame
   refine tv 13 35 rfl rfl ?_
   try go_frame
   refine wpAnyH_done (by kernel_rfl) ?_ _
   have hJ := hJ0
   obtain ⟨⟨Z0,C0,kf0⟩,⟨Z1,C1,kf1⟩,⟨Z2,C2,kf2⟩,⟨Z3,C3,kf3⟩,⟨Z4,C4,kf4⟩,⟨Z5,C5,kf5⟩,⟨Z6,C6,kf6⟩,⟨Z7,C7,kf7⟩,_⟩ := hJ.2
   all_goals
    (try clear hJ0); (try clear hJ1); (try clear hJ2); (try clear Z0 C0 kf0); (try clear Z1 C1 kf1); (try clear Z2 C2 kf2); (try clear Z3 C3 kf3); (try clear Z4 C4 kf4); (try clear Z5 C5 kf5); (try clear Z6 C6 kf6); (try clear Z7 C7 kf7)
    go_wp2_with fail
    go_returns
    exact ⟨rfl, hJ.1⟩
  subst gd
  by_cases g6 : (N : Int) = (M : Int)
  ·have t5 : ((N : Int) == (M : Int)) = true := by simpa using g6
   have e5 : (decide ((0 : Int) = 0 ∧ (0 : Int) = 0 ∧ (0 : Int) = 0 ∧ (0 : Int) = 0) && decide ((N : Int) = (M : Int)) && bk) = bk := by simp [g6]
   rw [e5]
   replace PA1 := Lib.hid (PA1.out g6)
   clear e5 g6
   have hK := new_seg (Below.refl w.heap.size w) 27 4 v 0 0 0 0 (.slice A9 N c9) e
   go_enter Tryz.func16, Tryz.ntmps16
   go_wp2_with fail
   refine (RR.out _ hK.1).mono ?_
   rintro e' w1 ⟨rfl, hb⟩
   replace hK := hK.next hb
   clear hb RR
   obtain ⟨⟨Z0,C0,kf0⟩,⟨Z1,C1,kf1⟩,⟨Z2,C2,kf2⟩,⟨Z3,C3,kf3⟩,⟨Z4,C4,kf4⟩,⟨Z5,C5,kf5⟩,⟨Z6,C6,kf6⟩,⟨Z7,C7,kf7⟩,_⟩ := hK.2
   go_upto_region 4 with (fail)
   (try clear hJ0); (try clear hJ1); (try clear hJ2); (try clear Z0 C0 kf0); (try clear Z1 C1 kf1); (try clear Z2 C2 kf2); (try clear Z3 C3 kf3); (try clear Z4 C4 kf4); (try clear Z5 C5 kf5); (try clear Z6 C6 kf6); (try clear Z7 C7 kf7)
   refine region_keeps (w0 := w) (L := [(w.heap.size, 0, .int .i64 4), (w.heap.size, 1, v), (w.heap.size, 2, .int .i64 0), (w.heap.size, 3, .int .i64 0), (w.heap.size, 4, .int .i64 0), (w.heap.size, 5, .int .i64 0), (w.heap.size, 6, .slice A9 N c9), (w.heap.size, 7, .int .i64 e)]) (by kernel_rfl) hK (fun hJ0 => ?_)
   refine tv 0 22 rfl rfl ?_
   try go_frame
   refine tk 1 23 rfl rfl ?_ ?_ ?_
   rotate_left
   ·intro wq hSw; have hq := hSw.2; repeat obtain ⟨⟨_,_,_⟩,hq⟩ := hq; go_simp; (try with_reducible rfl)
   try go_frame
   refine tv 2 24 rfl rfl ?_
   try go_frame
   refine tv 3 25 rfl rfl ?_
   try go_frame
   refine tv 4 26 rfl rfl ?_
   try go_frame
   refine tv 5 27 rfl rfl ?_
   try go_frame
   refine tk 6 28 rfl rfl ?_ ?_ ?_
   rotate_left
   ·intro wq hSw; have hq := hSw.2; repeat obtain ⟨⟨_,_,_⟩,hq⟩ := hq; go_simp; (try with_reducible rfl)
   try go_frame
   refine tv 7 29 rfl rfl ?_
   try go_frame
   refine tv 8 30 rfl rfl ?_
   try go_frame
   refine tk 9 31 rfl rfl ?_ ?_ ?_
   rotate_left
   ·intro wq hSw; have hq := hSw.2; repeat obtain ⟨⟨_,_,_⟩,hq⟩ := hq; go_simp; (try with_reducible rfl)
   try go_frame
   refine tw 10 rfl fun K hK => ?_
   go_simp
   (have hB0 := hJ0.1; (with_reducible refine (TM.out _ hB0).mono ?_); clear hB0; rintro e w2 ⟨A2, c2, rfl, hb⟩)
   refine hK.out _ _ (hJ0.next hb) (fun hJ1 => ?_)
   clear hK K; try clear hb
   try go_frame
   refine tv 11 33 rfl rfl ?_
   try go_frame
   refine tv 12 34 rfl rfl ?_
   try go_frame
   refine tv 13 35 rfl rfl ?_
   try go_frame
   refine wpAnyH_done (by kernel_rfl) ?_ _
   have hJ := hJ1
   obtain ⟨⟨Z0,C0,kf0⟩,⟨Z1,C1,kf1⟩,⟨Z2,C2,kf2⟩,⟨Z3,C3,kf3⟩,⟨Z4,C4,kf4⟩,⟨Z5,C5,kf5⟩,⟨Z6,C6,kf6⟩,⟨Z7,C7,kf7⟩,_⟩ := hJ.2
   all_goals
    have hH9 := hJ
    (try clear hJ0); (try clear hJ1); (try clear hJ2); (try clear Z0 C0 kf0); (try clear Z1 C1 kf1); (try clear Z2 C2 kf2); (try clear Z3 C3 kf3); (try clear Z4 C4 kf4); (try clear Z5 C5 kf5); (try clear Z6 C6 kf6); (try clear Z7 C7 kf7)
    obtain ⟨⟨Z0,C0,kf0⟩,⟨Z1,C1,kf1⟩,⟨Z2,C2,kf2⟩,⟨Z3,C3,kf3⟩,⟨Z4,C4,kf4⟩,⟨Z5,C5,kf5⟩,⟨Z6,C6,kf6⟩,⟨Z7,C7,kf7⟩,_⟩ := hH9.2
    clear hJ
    go_wp2_with fail
    refine (PA1.out _ hH9.1).mono ?_
    rintro e' w5 ⟨A7, n7, c7, rfl, hb⟩
    have hB7 := under hH9.1 hb
    clear hH9 hb
    (try clear hJ0); (try clear hJ1); (try clear hJ2); (try clear Z0 C0 kf0); (try clear Z1 C1 kf1); (try clear Z2 C2 kf2); (try clear Z3 C3 kf3); (try clear Z4 C4 kf4); (try clear Z5 C5 kf5); (try clear Z6 C6 kf6); (try clear Z7 C7 kf7)
    go_wp2_with fail
    go_returns
    exact ⟨rfl, hB7⟩
  ·have t5 : ((N : Int) == (M : Int)) = false := by simpa using g6
   have e5 : (decide ((0 : Int) = 0 ∧ (0 : Int) = 0 ∧ (0 : Int) = 0 ∧ (0 : Int) = 0) && decide ((N : Int) = (M : Int)) && bk) = false := by simp [g6]
   rw [e5]
   clear e5 g6 PA1
   have hK := new_seg (Below.refl w.heap.size w) 27 4 v 0 0 0 0 (.slice A9 N c9) e
   go_enter Tryz.func16, Tryz.ntmps16
   go_wp2_with fail
   refine (RR.out _ hK.1).mono ?_
   rintro e' w1 ⟨rfl, hb⟩
   replace hK := hK.next hb
   clear hb RR
   obtain ⟨⟨Z0,C0,kf0⟩,⟨Z1,C1,kf1⟩,⟨Z2,C2,kf2⟩,⟨Z3,C3,kf3⟩,⟨Z4,C4,kf4⟩,⟨Z5,C5,kf5⟩,⟨Z6,C6,kf6⟩,⟨Z7,C7,kf7⟩,_⟩ := hK.2
   go_upto_region 4 with (fail)
   (try clear hJ0); (try clear hJ1); (try clear hJ2); (try clear Z0 C0 kf0); (try clear Z1 C1 kf1); (try clear Z2 C2 kf2); (try clear Z3 C3 kf3); (try clear Z4 C4 kf4); (try clear Z5 C5 kf5); (try clear Z6 C6 kf6); (try clear Z7 C7 kf7)
   refine region_keeps (w0 := w) (L := [(w.heap.size, 0, .int .i64 4), (w.heap.size, 1, v), (w.heap.size, 2, .int .i64 0), (w.heap.size, 3, .int .i64 0), (w.heap.size, 4, .int .i64 0), (w.heap.size, 5, .int .i64 0), (w.heap.size, 6, .slice A9 N c9), (w.heap.size, 7, .int .i64 e)]) (by kernel_rfl) hK (fun hJ0 => ?_)
   refine tv 0 22 rfl rfl ?_
   try go_frame
   refine tk 1 23 rfl rfl ?_ ?_ ?_
   rotate_left
   ·intro wq hSw; have hq := hSw.2; repeat obtain ⟨⟨_,_,_⟩,hq⟩ := hq; go_simp; (try with_reducible rfl)
   try go_frame
   refine tv 2 24 rfl rfl ?_
   try go_frame
   refine tv 3 25 rfl rfl ?_
   try go_frame
   refine tv 4 26 rfl rfl ?_
   try go_frame
   refine tv 5 27 rfl rfl ?_
   try go_frame
   refine tk 6 28 rfl rfl ?_ ?_ ?_
   rotate_left
   ·intro wq hSw; have hq := hSw.2; repeat obtain ⟨⟨_,_,_⟩,hq⟩ := hq; go_simp; (try with_reducible rfl)
   try go_frame
   refine tv 7 29 rfl rfl ?_
   try go_frame
   refine tv 8 30 rfl rfl ?_
   try go_frame
   refine tk 9 31 rfl rfl ?_ ?_ ?_
   rotate_left
   ·intro wq hSw; have hq := hSw.2; repeat obtain ⟨⟨_,_,_⟩,hq⟩ := hq; go_simp; (try with_reducible rfl)
   try go_frame
   refine tw 10 rfl fun K hK => ?_
   go_simp
   (have hB0 := hJ0.1; (with_reducible refine (TM.out _ hB0).mono ?_); clear hB0; rintro e w2 ⟨A2, c2, rfl, hb⟩)
   refine hK.out _ _ (hJ0.next hb) (fun hJ1 => ?_)
   clear hK K; try clear hb
   try go_frame
   refine tv 11 33 rfl rfl ?_
   try go_frame
   refine tv 12 34 rfl rfl ?_
   try go_frame
   refine tv 13 35 rfl rfl ?_
   try go_frame
   refine wpAnyH_done (by kernel_rfl) ?_ _
   have hJ := hJ1
   obtain ⟨⟨Z0,C0,kf0⟩,⟨Z1,C1,kf1⟩,⟨Z2,C2,kf2⟩,⟨Z3,C3,kf3⟩,⟨Z4,C4,kf4⟩,⟨Z5,C5,kf5⟩,⟨Z6,C6,kf6⟩,⟨Z7,C7,kf7⟩,_⟩ := hJ.2
   all_goals
    (try clear hJ0); (try clear hJ1); (try clear hJ2); (try clear Z0 C0 kf0); (try clear Z1 C1 kf1); (try clear Z2 C2 kf2); (try clear Z3 C3 kf3); (try clear Z4 C4 kf4); (try clear Z5 C5 kf5); (try clear Z6 C6 kf6); (try clear Z7 C7 kf7)
    go_wp2_with fail
    go_returns
    exact ⟨rfl, hJ.1⟩
 ·have t4 : (k == 4) = false := by simpa using hk
  rw [if_neg hk]
  replace PA2 := Lib.hid (PA2.out hk)
  clear PA1 TM
  by_cases g6 : N = 0
  rotate_left
  ·have t5 : (0 : Int) < (N : Int) := by omega
   have t6 : 0 < N := by omega
   have e5 : (decide (N = 0) && (lineB a r n d && decide (k = kl)) && bk) = false := by simp [g6]
   rw [e5]
   clear e5 g6 PA2 RL RK
   have hK := new_seg (Below.refl w.heap.size w) 27 k v a r n d (.slice A9 N c9) e
   go_enter Tryz.func16, Tryz.ntmps16
   go_wp2_with fail
   refine (RR.out _ hK.1).mono ?_
   rintro e' w1 ⟨rfl, hb⟩
   replace hK := hK.next hb
   clear hb RR
   obtain ⟨⟨Z0,C0,kf0⟩,⟨Z1,C1,kf1⟩,⟨Z2,C2,kf2⟩,⟨Z3,C3,kf3⟩,⟨Z4,C4,kf4⟩,⟨Z5,C5,kf5⟩,⟨Z6,C6,kf6⟩,⟨Z7,C7,kf7⟩,_⟩ := hK.2
   go_upto_region 6 with (fail)
   (try clear hJ0); (try clear hJ1); (try clear hJ2); (try clear Z0 C0 kf0); (try clear Z1 C1 kf1); (try clear Z2 C2 kf2); (try clear Z3 C3 kf3); (try clear Z4 C4 kf4); (try clear Z5 C5 kf5); (try clear Z6 C6 kf6); (try clear Z7 C7 kf7)
   refine region_keeps (w0 := w) (L := [(w.heap.size, 0, .int .i64 k), (w.heap.size, 1, v), (w.heap.size, 2, .int .i64 a), (w.heap.size, 3, .int .i64 r), (w.heap.size, 4, .int .i64 n), (w.heap.size, 5, .int .i64 d), (w.heap.size, 6, .slice A9 N c9), (w.heap.size, 7, .int .i64 e)]) (by kernel_rfl) hK (fun hJ0 => ?_)
   refine tv 0 36 rfl rfl ?_
   try go_frame
   refine tk 1 37 rfl rfl ?_ ?_ ?_
   rotate_left
   ·intro wq hSw; have hq := hSw.2; repeat obtain ⟨⟨_,_,_⟩,hq⟩ := hq; go_simp; (try with_reducible rfl)
   try go_frame
   refine tv 2 38 rfl rfl ?_
   try go_frame
   refine tv 3 39 rfl rfl ?_
   try go_frame
   refine tv 4 40 rfl rfl ?_
   try go_frame
   refine tu 5 41 rfl rfl ?_
   try go_frame
   refine tu 6 42 rfl rfl ?_
   try go_frame
   refine tu 7 43 rfl rfl ?_
   try go_frame
   refine tu 8 44 rfl rfl ?_
   try go_frame
   refine tv 9 45 rfl rfl ?_
   try go_frame
   refine tv 10 46 rfl rfl ?_
   try go_frame
   refine tu 11 47 rfl rfl ?_
   try go_frame
   refine tu 12 48 rfl rfl ?_
   try go_frame
   refine tu 13 49 rfl rfl ?_
   try go_frame
   refine tu 14 50 rfl rfl ?_
   try go_frame
   refine tu 15 51 rfl rfl ?_
   try go_frame
   refine tu 16 52 rfl rfl ?_
   try go_frame
   refine tv 17 53 rfl rfl ?_
   try go_frame
   refine wpAnyH_done (by kernel_rfl) ?_ _
   have hJ := hJ0
   obtain ⟨⟨Z0,C0,kf0⟩,⟨Z1,C1,kf1⟩,⟨Z2,C2,kf2⟩,⟨Z3,C3,kf3⟩,⟨Z4,C4,kf4⟩,⟨Z5,C5,kf5⟩,⟨Z6,C6,kf6⟩,⟨Z7,C7,kf7⟩,_⟩ := hJ.2
   all_goals
    (try clear hJ0); (try clear hJ1); (try clear hJ2); (try clear Z0 C0 kf0); (try clear Z1 C1 kf1); (try clear Z2 C2 kf2); (try clear Z3 C3 kf3); (try clear Z4 C4 kf4); (try clear Z5 C5 kf5); (try clear Z6 C6 kf6); (try clear Z7 C7 kf7)
    go_wp2_with fail
    go_returns
    exact ⟨rfl, hJ.1⟩
  subst g6
  cases gl : lineB a r n d
  ·rw [gl] at RL
   have e5 : (decide ((0 : Nat) = 0) && (false && decide (k = kl)) && bk) = false := by simp
   rw [e5]
   clear e5 gl PA2 RK
   have hK := new_seg (Below.refl w.heap.size w) 27 k v a r n d (.slice A9 0 c9) e
   go_enter Tryz.func16, Tryz.ntmps16
   go_wp2_with fail
   refine (RR.out _ hK.1).mono ?_
   rintro e' w1 ⟨rfl, hb⟩
   replace hK := hK.next hb
   clear hb RR
   obtain ⟨⟨Z0,C0,kf0⟩,⟨Z1,C1,kf1⟩,⟨Z2,C2,kf2⟩,⟨Z3,C3,kf3⟩,⟨Z4,C4,kf4⟩,⟨Z5,C5,kf5⟩,⟨Z6,C6,kf6⟩,⟨Z7,C7,kf7⟩,_⟩ := hK.2
   go_upto_region 6 with (fail)
   (try clear hJ0); (try clear hJ1); (try clear hJ2); (try clear Z0 C0 kf0); (try clear Z1 C1 kf1); (try clear Z2 C2 kf2); (try clear Z3 C3 kf3); (try clear Z4 C4 kf4); (try clear Z5 C5 kf5); (try clear Z6 C6 kf6); (try clear Z7 C7 kf7)
   refine region_keeps (w0 := w) (L := [(w.heap.size, 0, .int .i64 k), (w.heap.size, 1, v), (w.heap.size, 2, .int .i64 a), (w.heap.size, 3, .int .i64 r), (w.heap.size, 4, .int .i64 n), (w.heap.size, 5, .int .i64 d), (w.heap.size, 6, .slice A9 0 c9), (w.heap.size, 7, .int .i64 e)]) (by kernel_rfl) hK (fun hJ0 => ?_)
   refine tv 0 36 rfl rfl ?_
   try go_frame
   refine tk 1 37 rfl rfl ?_ ?_ ?_
   rotate_left
   ·intro wq hSw; have hq := hSw.2; repeat obtain ⟨⟨_,_,_⟩,hq⟩ := hq; go_simp; (try with_reducible rfl)
   try go_frame
   refine tv 2 38 rfl rfl ?_
   try go_frame
   refine tv 3 39 rfl rfl ?_
   try go_frame
   refine tv 4 40 rfl rfl ?_
   try go_frame
   refine tv 5 41 rfl rfl ?_
   try go_frame
   refine tk 6 42 rfl rfl ?_ ?_ ?_
   rotate_left
   ·intro wq hSw; have hq := hSw.2; repeat obtain ⟨⟨_,_,_⟩,hq⟩ := hq; go_simp; (try with_reducible rfl)
   try go_frame
   refine tw 7 rfl fun K hK => ?_
   go_simp
   ((with_reducible refine (RL.out _).mono ?_); rintro e w2 ⟨rfl, hb⟩)
   refine hK.out _ _ (hJ0.next hb) (fun hJ1 => ?_)
   clear hK K; try clear hb
   try go_frame
   refine tv 8 44 rfl rfl ?_
   try go_frame
   refine tv 9 45 rfl rfl ?_
   try go_frame
   refine tv 10 46 rfl rfl ?_
   try go_frame
   refine tu 11 47 rfl rfl ?_
   try go_frame
   refine tu 12 48 rfl rfl ?_
   try go_frame
   refine tu 13 49 rfl rfl ?_
   try go_frame
   refine tu 14 50 rfl rfl ?_
   try go_frame
   refine tu 15 51 rfl rfl ?_
   try go_frame
   refine tu 16 52 rfl rfl ?_
   try go_frame
   refine tv 17 53 rfl rfl ?_
   try go_frame
   refine wpAnyH_done (by kernel_rfl) ?_ _
   have hJ := hJ1
   obtain ⟨⟨Z0,C0,kf0⟩,⟨Z1,C1,kf1⟩,⟨Z2,C2,kf2⟩,⟨Z3,C3,kf3⟩,⟨Z4,C4,kf4⟩,⟨Z5,C5,kf5⟩,⟨Z6,C6,kf6⟩,⟨Z7,C7,kf7⟩,_⟩ := hJ.2
   all_goals
    (try clear hJ0); (try clear hJ1); (try clear hJ2); (try clear Z0 C0 kf0); (try clear Z1 C1 kf1); (try clear Z2 C2 kf2); (try clear Z3 C3 kf3); (try clear Z4 C4 kf4); (try clear Z5 C5 kf5); (try clear Z6 C6 kf6); (try clear Z7 C7 kf7)
    go_wp2_with fail
    go_returns
    exact ⟨rfl, hJ.1⟩
  rw [gl] at RL
  replace PA2 := Lib.hid (PA2.out gl)
  clear gl
  by_cases g7 : k = kl
  ·have t7 : (k == kl) = true := by simpa using g7
   have e5 : (decide ((0 : Nat) = 0) && (true && decide (k = kl)) && bk) = bk := by simp [g7]
   rw [e5]
   clear e5 g7
   have hK := new_seg (Below.refl w.heap.size w) 27 k v a r n d (.slice A9 0 c9) e
   go_enter Tryz.func16, Tryz.ntmps16
   go_wp2_with fail
   refine (RR.out _ hK.1).mono ?_
   rintro e' w1 ⟨rfl, hb⟩
   replace hK := hK.next hb
   clear hb RR
   obtain ⟨⟨Z0,C0,kf0⟩,⟨Z1,C1,kf1⟩,⟨Z2,C2,kf2⟩,⟨Z3,C3,kf3⟩,⟨Z4,C4,kf4⟩,⟨Z5,C5,kf5⟩,⟨Z6,C6,kf6⟩,⟨Z7,C7,kf7⟩,_⟩ := hK.2
   go_upto_region 6 with (fail)
   (try clear hJ0); (try clear hJ1); (try clear hJ2); (try clear Z0 C0 kf0); (try clear Z1 C1 kf1); (try clear Z2 C2 kf2); (try clear Z3 C3 kf3); (try clear Z4 C4 kf4); (try clear Z5 C5 kf5); (try clear Z6 C6 kf6); (try clear Z7 C7 kf7)
   refine region_keeps (w0 := w) (L := [(w.heap.size, 0, .int .i64 k), (w.heap.size, 1, v), (w.heap.size, 2, .int .i64 a), (w.heap.size, 3, .int .i64 r), (w.heap.size, 4, .int .i64 n), (w.heap.size, 5, .int .i64 d), (w.heap.size, 6, .slice A9 0 c9), (w.heap.size, 7, .int .i64 e)]) (by kernel_rfl) hK (fun hJ0 => ?_)
   refine tv 0 36 rfl rfl ?_
   try go_frame
   refine tk 1 37 rfl rfl ?_ ?_ ?_
   rotate_left
   ·intro wq hSw; have hq := hSw.2; repeat obtain ⟨⟨_,_,_⟩,hq⟩ := hq; go_simp; (try with_reducible rfl)
   try go_frame
   refine tv 2 38 rfl rfl ?_
   try go_frame
   refine tv 3 39 rfl rfl ?_
   try go_frame
   refine tv 4 40 rfl rfl ?_
   try go_frame
   refine tv 5 41 rfl rfl ?_
   try go_frame
   refine tk 6 42 rfl rfl ?_ ?_ ?_
   rotate_left
   ·intro wq hSw; have hq := hSw.2; repeat obtain ⟨⟨_,_,_⟩,hq⟩ := hq; go_simp; (try with_reducible rfl)
   try go_frame
   refine tw 7 rfl fun K hK => ?_
   go_simp
   ((with_reducible refine (RL.out _).mono ?_); rintro e w2 ⟨rfl, hb⟩)
   refine hK.out _ _ (hJ0.next hb) (fun hJ1 => ?_)
   clear hK K; try clear hb
   try go_frame
   refine tv 8 44 rfl rfl ?_
   try go_frame
   refine tv 9 45 rfl rfl ?_
   try go_frame
   refine tv 10 46 rfl rfl ?_
   try go_frame
   refine tv 11 47 rfl rfl ?_
   try go_frame
   refine tk 12 48 rfl rfl ?_ ?_ ?_
   rotate_left
   ·intro wq hSw; have hq := hSw.2; repeat obtain ⟨⟨_,_,_⟩,hq⟩ := hq; go_simp; (try with_reducible rfl)
   try go_frame
   refine tv 13 49 rfl rfl ?_
   try go_frame
   refine tk 14 50 rfl rfl ?_ ?_ ?_
   rotate_left
   ·intro wq hSw; have hq := hSw.2; repeat obtain ⟨⟨_,_,_⟩,hq⟩ := hq; go_simp; (try with_reducible rfl)
   try go_frame
   refine tw 15 rfl fun K hK => ?_
   go_simp
   ((with_reducible refine (RK.out _).mono ?_); rintro e w3 ⟨rfl, hb⟩)
   refine hK.out _ _ (hJ1.next hb) (fun hJ2 => ?_)
   clear hK K; try clear hb
   try go_frame
   refine tv 16 52 rfl rfl ?_
   try go_frame
   refine tv 17 53 rfl rfl ?_
   try go_frame
   refine wpAnyH_done (by kernel_rfl) ?_ _
   have hJ := hJ2
   obtain ⟨⟨Z0,C0,kf0⟩,⟨Z1,C1,kf1⟩,⟨Z2,C2,kf2⟩,⟨Z3,C3,kf3⟩,⟨Z4,C4,kf4⟩,⟨Z5,C5,kf5⟩,⟨Z6,C6,kf6⟩,⟨Z7,C7,kf7⟩,_⟩ := hJ.2
   all_goals
    have hH9 := hJ
    (try clear hJ0); (try clear hJ1); (try clear hJ2); (try clear Z0 C0 kf0); (try clear Z1 C1 kf1); (try clear Z2 C2 kf2); (try clear Z3 C3 kf3); (try clear Z4 C4 kf4); (try clear Z5 C5 kf5); (try clear Z6 C6 kf6); (try clear Z7 C7 kf7)
    obtain ⟨⟨Z0,C0,kf0⟩,⟨Z1,C1,kf1⟩,⟨Z2,C2,kf2⟩,⟨Z3,C3,kf3⟩,⟨Z4,C4,kf4⟩,⟨Z5,C5,kf5⟩,⟨Z6,C6,kf6⟩,⟨Z7,C7,kf7⟩,_⟩ := hH9.2
    clear hJ
    go_wp2_with fail
    refine (PA2.out _ hH9.1).mono ?_
    rintro e' w5 ⟨A7, n7, c7, rfl, hb⟩
    have hB7 := under hH9.1 hb
    clear hH9 hb
    (try clear hJ0); (try clear hJ1); (try clear hJ2); (try clear Z0 C0 kf0); (try clear Z1 C1 kf1); (try clear Z2 C2 kf2); (try clear Z3 C3 kf3); (try clear Z4 C4 kf4); (try clear Z5 C5 kf5); (try clear Z6 C6 kf6); (try clear Z7 C7 kf7)
    go_wp2_with fail
    go_returns
    exact ⟨rfl, hB7⟩
  ·have t7 : (k == kl) = false := by simpa using g7
   have e5 : (decide ((0 : Nat) = 0) && (true && decide (k = kl)) && bk) = false := by simp [g7]
   rw [e5]
   clear e5 g7 PA2
   have hK := new_seg (Below.refl w.heap.size w) 27 k v a r n d (.slice A9 0 c9) e
   go_enter Tryz.func16, Tryz.ntmps16
   go_wp2_with fail
   refine (RR.out _ hK.1).mono ?_
   rintro e' w1 ⟨rfl, hb⟩
   replace hK := hK.next hb
   clear hb RR
   obtain ⟨⟨Z0,C0,kf0⟩,⟨Z1,C1,kf1⟩,⟨Z2,C2,kf2⟩,⟨Z3,C3,kf3⟩,⟨Z4,C4,kf4⟩,⟨Z5,C5,kf5⟩,⟨Z6,C6,kf6⟩,⟨Z7,C7,kf7⟩,_⟩ := hK.2
   go_upto_region 6 with (fail)
   (try clear hJ0); (try clear hJ1); (try clear hJ2); (try clear Z0 C0 kf0); (try clear Z1 C1 kf1); (try clear Z2 C2 kf2); (try clear Z3 C3 kf3); (try clear Z4 C4 kf4); (try clear Z5 C5 kf5); (try clear Z6 C6 kf6); (try clear Z7 C7 kf7)
   refine region_keeps (w0 := w) (L := [(w.heap.size, 0, .int .i64 k), (w.heap.size, 1, v), (w.heap.size, 2, .int .i64 a), (w.heap.size, 3, .int .i64 r), (w.heap.size, 4, .int .i64 n), (w.heap.size, 5, .int .i64 d), (w.heap.size, 6, .slice A9 0 c9), (w.heap.size, 7, .int .i64 e)]) (by kernel_rfl) hK (fun hJ0 => ?_)
   refine tv 0 36 rfl rfl ?_
   try go_frame
   refine tk 1 37 rfl rfl ?_ ?_ ?_
   rotate_left
   ·intro wq hSw; have hq := hSw.2; repeat obtain ⟨⟨_,_,_⟩,hq⟩ := hq; go_simp; (try with_reducible rfl)
   try go_frame
   refine tv 2 38 rfl rfl ?_
   try go_frame
   refine tv 3 39 rfl rfl ?_
   try go_frame
   refine tv 4 40 rfl rfl ?_
   try go_frame
   refine tv 5 41 rfl rfl ?_
   try go_frame
   refine tk 6 42 rfl rfl ?_ ?_ ?_
   rotate_left
   ·intro wq hSw; have hq := hSw.2; repeat obtain ⟨⟨_,_,_⟩,hq⟩ := hq; go_simp; (try with_reducible rfl)
   try go_frame
   refine tw 7 rfl fun K hK => ?_
   go_simp
   ((with_reducible refine (RL.out _).mono ?_); rintro e w2 ⟨rfl, hb⟩)
   refine hK.out _ _ (hJ0.next hb) (fun hJ1 => ?_)
   clear hK K; try clear hb
   try go_frame
   refine tv 8 44 rfl rfl ?_
   try go_frame
   refine tv 9 45 rfl rfl ?_
   try go_frame
   refine tv 10 46 rfl rfl ?_
   try go_frame
   refine tv 11 47 rfl rfl ?_
   try go_frame
   refine tk 12 48 rfl rfl ?_ ?_ ?_
   rotate_left
   ·intro wq hSw; have hq := hSw.2; repeat obtain ⟨⟨_,_,_⟩,hq⟩ := hq; go_simp; (try with_reducible rfl)
   try go_frame
   refine tv 13 49 rfl rfl ?_
   try go_frame
   refine tk 14 50 rfl rfl ?_ ?_ ?_
   rotate_left
   ·intro wq hSw; have hq := hSw.2; repeat obtain ⟨⟨_,_,_⟩,hq⟩ := hq; go_simp; (try with_reducible rfl)
   try go_frame
   refine tw 15 rfl fun K hK => ?_
   go_simp
   ((with_reducible refine (RK.out _).mono ?_); rintro e w3 ⟨rfl, hb⟩)
   refine hK.out _ _ (hJ1.next hb) (fun hJ2 => ?_)
   clear hK K; try clear hb
   try go_frame
   refine tv 16 52 rfl rfl ?_
   try go_frame
   refine tv 17 53 rfl rfl ?_
   try go_frame
   refine wpAnyH_done (by kernel_rfl) ?_ _
   have hJ := hJ2
   obtain ⟨⟨Z0,C0,kf0⟩,⟨Z1,C1,kf1⟩,⟨Z2,C2,kf2⟩,⟨Z3,C3,kf3⟩,⟨Z4,C4,kf4⟩,⟨Z5,C5,kf5⟩,⟨Z6,C6,kf6⟩,⟨Z7,C7,kf7⟩,_⟩ := hJ.2
   all_goals
    (try clear hJ0); (try clear hJ1); (try clear hJ2); (try clear Z0 C0 kf0); (try clear Z1 C1 kf1); (try clear Z2 C2 kf2); (try clear Z3 C3 kf3); (try clear Z4 C4 kf4); (try clear Z5 C5 kf5); (try clear Z6 C6 kf6); (try clear Z7 C7 kf7)
    go_wp2_with fail
    go_returns
    exact ⟨rfl, hJ.1⟩
end Go.Proofs.YtcfidimnbamnkaaGreat.P11
/-
 Layer 11: the law SegValues holds of every input. Conditions: those of the law's row.
-/
namespace Go.Proofs.YtcfidimnbamnkaaGreat.P11
open Go.RowKit Go.Shelf Go.Proofs.YtcfidimnbamnkaaGreat.P7
end Go.Proofs.YtcfidimnbamnkaaGreat.P11
/-
 Layer 11: Part, as a law calls it; a segment of the law's own. Conditions: those written at each fact.
-/
namespace Go.Proofs.YtcfidimnbamnkaaGreat.P11
open Go.RowKit Go.Shelf Go.Proofs.YtcfidimnbamnkaaGreat.P7
abbrev CallP (s : Sg) (x y c l h z0 z1 code : Int) : Prop := ∀ v u W, ReadsR W v s.R → Reads .i64 W u s.V → Calls Tryz.prog 31 #[sgOf s v u, .int .i64 x, .int .i64 y] W (Ret W (.tuple #[fiveV c l h z0 z1, .int .i64 code]))
theorem callP (s : Sg) (hR : s.R.length ≤ 1000000) (hV : s.V.length ≤ 1000000) (x y : Int) : CallP s x y (partsOf s x y).length (minL (partsOf s x y)) (maxL (partsOf s x y)) (rhi (sumL (partsOf s x y))) (rlo (sumL (partsOf s x y))) (partC s x y) :=
 fun v u W h hu => part_any s hR hV x y v u W h hu
theorem own_got {w : World} {s : Sg} {e : Ending} {w' : World} (h : OwnS w s e w') : ∃ A1 n1 c1 A2 n2 c2, e = .returned (sgOf s (.slice A1 n1 c1) (.slice A2 n2 c2)) ∧ Below w.heap.size w w' ∧ Own2 w' w.heap.size s (.slice A1 n1 c1) (.slice A2 n2 c2) := by
 obtain ⟨v, u, he, hb, ho⟩ := h
 obtain ⟨A1, n1, c1, rfl⟩ := own_sl ho.runs
 obtain ⟨A2, n2, c2, rfl⟩ := own_sl ho.raws
 exact ⟨A1, n1, c1, A2, n2, c2, he, hb, ho⟩
end Go.Proofs.YtcfidimnbamnkaaGreat.P11
/-
 Layer 11: two blocks of eight cells that are laid and stored into, beside rows of the law's own. Conditions: those written at each fact.
-/
namespace Go.Proofs.YtcfidimnbamnkaaGreat.P11
open Go.RowKit Go.Shelf Go.Proofs.YtcfidimnbamnkaaGreat.P7
theorem Own2.less {W : World} {m m' : Nat} {s : Sg} {v u : Value} (h : Own2 W m s v u) (hm : m' ≤ m) : Own2 W m' s v u := ⟨owns_less h.runs hm, owns_less h.raws hm⟩
theorem Own2.allocAs {w W : World} {m : Nat} {s : Sg} {v u : Value} {L : List (Nat × Nat × Value)} {o : Obj} (h : Own2 W m s v u) (_ : Keeps w L (W.alloc o)) : Own2 (W.alloc o) m s v u := h.below (below_alloc W o)
theorem ask_of2 {s : Sg} (g : segB s = true) : AskOk s := by
 have hok := ((segB_iff s).1 g).1
 have hT := times_ok hok
 have hvl := vals_length g
 by_cases h4 : s.k = 4
 ·refine ⟨hok, .inl ⟨h4, ?_⟩⟩
  have : vals s = s.V := by unfold vals; rw [if_pos h4]
  rw [this] at hvl
  have := hT.total
  omega
 ·refine ⟨hok, .inr ⟨h4, ?_⟩⟩
  unfold segB at g
  rw [if_neg h4] at g
  simp only [lineOk, Bool.and_eq_true] at g
  exact g.2.2.2.1.2.1
theorem rightS_is (s : Sg) (h1 : s.R.length ≤ 1000000) (h2 : s.V.length ≤ 1000000) : ∀ v u W, ReadsR W v s.R → Reads .i64 W u s.V → Calls Tryz.prog 16 #[sgOf s v u] W (Ret W (.bool (segB s))) := fun v u W hr hu => refRightS_any s h1 h2 v u W hr hu
theorem pointsR_is (s : Sg) (g : segB s = true) : ∀ v u W, ReadsR W v s.R → Reads .i64 W u s.V → Calls Tryz.prog 21 #[sgOf s v u] W (fun e w' => ∃ A n c, e = .returned (.tuple #[.slice A n c, .bool true]) ∧ Below W.heap.size W w' ∧ RowP w' W.heap.size (.slice A n c) (ptsS s)) := by
 intro v u W hr hu
 obtain ⟨hok, _, _, hk, hb⟩ := (segB_iff s).1 g
 have hbk : backs (vals s) = true := (backs_iff _).2 hb
 have key : ∀ e w', PointsD W s e w' → ∃ A n c, e = .returned (.tuple #[.slice A n c, .bool true]) ∧ Below W.heap.size W w' ∧ RowP w' W.heap.size (.slice A n c) (ptsS s) := by
  intro e w' h
  unfold PointsD at h
  rw [hbk] at h
  simpa using h
 have hA : AskOk s := ask_of2 g
 by_cases h4 : s.k = 4
 ·exact (refPoints_raw s hA h4 v u W hr hu).mono key
 ·exact (refPoints_line s hA h4 v u W hr hu).mono key
end Go.Proofs.YtcfidimnbamnkaaGreat.P11
/-
 The document's own answers: a number of two words. Conditions: the words are of 64 bits.
-/
namespace Go.Proofs.YtcfidimnbamnkaaGreat
open Go.RowKit
end Go.Proofs.YtcfidimnbamnkaaGreat
/-
 The document's own answers: differences. Conditions: those written at each fact.
-/
namespace Go.Proofs.YtcfidimnbamnkaaGreat
open Go.RowKit
end Go.Proofs.YtcfidimnbamnkaaGreat
/-
 The document's own answer: a number as two words; whether an answer is the number. Conditions: those written at each fact.
-/
namespace Go.Proofs.YtcfidimnbamnkaaGreat
open Go.RowKit
theorem words_pos {z : Int} (h : Fits z) (h0 : 0 ≤ z) : wrap64 ((z.natAbs / 2 ^ 64 % 18446744073709551616 : Nat) : Int) = rhi z ∧ ((z.natAbs / 2 ^ 0 % 18446744073709551616 : Nat) : Int) = rlo z := by
 have e1 : rhi z = z / 18446744073709551616 := by unfold rhi; rw [if_pos h]
 have e2 : rlo z = z % 18446744073709551616 := by unfold rlo; rw [if_pos h]
 unfold Fits at h
 rw [e1, e2]
 unfold wrap64
 omega
theorem words_neg {z : Int} (h : Fits z) (h0 : z < 0) : wrap64 (((2 ^ 128 - z.natAbs) / 2 ^ 64 % 18446744073709551616 : Nat) : Int) = rhi z ∧ (((2 ^ 128 - z.natAbs) / 2 ^ 0 % 18446744073709551616 : Nat) : Int) = rlo z := by
 have e1 : rhi z = z / 18446744073709551616 := by unfold rhi; rw [if_pos h]
 have e2 : rlo z = z % 18446744073709551616 := by unfold rlo; rw [if_pos h]
 unfold Fits at h
 rw [e1, e2]
 unfold wrap64
 omega
set_option maxRecDepth 100000 in
set_option maxHeartbeats 4000000 in
theorem wide_walk (p : Bool) (A : Option Addr) (n c M : Nat) (g0 g1 u0 u1 : Int) (f : Bool) (w : World) (hw : wrap64 u0 = g0) (hv : u1 = g1) (hf : f = false → g0 = 0 ∧ g1 = 0)
  (FT : ∀ W, Below w.heap.size w W → Calls Tryz.prog 140 #[.agg #[.bool p, .slice A n c], .int .i64 128] W (Ret W (.bool f)))
  (P1 : ∀ W, Calls Tryz.prog 137 #[.int .i64 128] W (RetN W (2 ^ 128)))
  (MN : ∀ W a, Below w.heap.size w W → Num W a (2 ^ 128) → Calls Tryz.prog 136 #[a, .slice A n c] W (RetN W M))
  (D1 : ∀ W v, (if p then Num W v M else v = .slice A n c ∧ Below w.heap.size w W) → f = true → Calls Tryz.prog 141 #[v, .int .i64 64] W (Ret W (.int .u64 u0)))
  (D0 : ∀ W v, (if p then Num W v M else v = .slice A n c ∧ Below w.heap.size w W) → f = true → Calls Tryz.prog 141 #[v, .int .i64 0] W (Ret W (.int .u64 u1))) :
  Calls Tryz.prog 85 #[.agg #[.bool p, .slice A n c]] w (Ret w (.tuple #[wideV g0 g1, .bool f])) := by
 subst hv
 replace FT := Lib.hid FT
 replace P1 := Lib.hid P1
 replace MN := Lib.hid MN
 replace hw := Lib.hid hw
 cases f
 ·obtain ⟨rfl, rfl⟩ := hf rfl
  clear D1 D0 P1 MN hw
  go_enter Tryz.func85, Tryz.ntmps85
  go_wp2_with fail
  refine (FT.out _ (by go_grown)).mono ?_
  rintro e w1 ⟨rfl, hb⟩
  have hJ : Keeps w [(w.heap.size + 1, 0, .int .i64 0), (w.heap.size + 1, 1, .int .u64 0)] _ := Keeps.next (by refine ⟨by go_grown, ?_⟩; simp [Cells, go_sem]) hb
  clear hb
  obtain ⟨⟨Z0, C0, kf0⟩,⟨Z1, C1, kf1⟩, _⟩ := hJ.2
  go_wp2_with fail
  obtain ⟨d0, d1⟩ := set2 (W := w1) (B := w.heap.size + 1) (u0 := .int .i64 0) (u1 := .int .u64 0) C0 C1
  refine bodyPost_ret (v := .tuple #[wideV 0 0, .bool false]) (by simp [results, Tryz.results85, go_sem, d0, d1]) rfl ?_
  exact ⟨rfl, by first | (with_reducible exact hJ.1) | (have hB := hJ.1; have hz := hB.size; go_grown)⟩
 ·clear hf
  cases p
  ·clear P1 MN
   have E1 := Lib.hid (fun W (k : Below w.heap.size w W) => D1 W _ ⟨rfl, k⟩ rfl)
   have E0 := Lib.hid (fun W (k : Below w.heap.size w W) => D0 W _ ⟨rfl, k⟩ rfl)
   clear D1 D0
   go_enter Tryz.func85, Tryz.ntmps85
   go_wp2_with fail
   refine (FT.out _ (by go_grown)).mono ?_
   rintro e w1 ⟨rfl, hb⟩
   have hJ : Keeps w [(w.heap.size + 1, 0, .int .i64 0), (w.heap.size + 1, 1, .int .u64 0), (w.heap.size, 0, .bool false), (w.heap.size, 1, .slice A n c)] _ := Keeps.next (by refine ⟨by go_grown, ?_⟩; simp [Cells, go_sem]) hb
   clear hb
   obtain ⟨⟨Z0,C0,kf0⟩,⟨Z1,C1,kf1⟩,⟨Z2,C2,kf2⟩,⟨Z3,C3,kf3⟩,_⟩ := hJ.2
   go_wp2_with fail
   refine (E1.out _ hJ.1).mono ?_
   rintro e w2 ⟨rfl, hb⟩
   replace hJ := Keeps.next (hJ) hb
   clear hb Z0 C0 kf0 Z1 C1 kf1 Z2 C2 kf2 Z3 C3 kf3
   obtain ⟨⟨Z0,C0,kf0⟩,⟨Z1,C1,kf1⟩,⟨Z2,C2,kf2⟩,⟨Z3,C3,kf3⟩,_⟩ := hJ.2
   go_wp2_with fail
   refine (E0.out _ hJ.1).mono ?_
   rintro e w3 ⟨rfl, hb⟩
   replace hJ := Keeps.next (hJ) hb
   clear hb Z0 C0 kf0 Z1 C1 kf1 Z2 C2 kf2 Z3 C3 kf3
   obtain ⟨⟨Z0,C0,kf0⟩,⟨Z1,C1,kf1⟩,⟨Z2,C2,kf2⟩,⟨Z3,C3,kf3⟩,_⟩ := hJ.2
   go_wp2_with fail
   obtain ⟨d0, d1⟩ := set2 (W := w3) (B := w.heap.size + 1) (u0 := .int .i64 g0) (u1 := .int .u64 u1) C0 C1
   rw [← hw.out] at d0 d1 ⊢
   refine bodyPost_ret (v := .tuple #[wideV (wrap64 u0) u1, .bool true]) (by simp [results, Tryz.results85, go_sem, d0, d1]) rfl ?_
   exact ⟨rfl, by first | (with_reducible exact hJ.1) | (have hB := hJ.1; have hz := hB.size; go_grown)⟩
  ·have E1 := Lib.hid (fun W v (k : Num W v M) => D1 W v k rfl)
   have E0 := Lib.hid (fun W v (k : Num W v M) => D0 W v k rfl)
   clear D1 D0
   go_enter Tryz.func85, Tryz.ntmps85
   go_wp2_with fail
   refine (FT.out _ (by go_grown)).mono ?_
   rintro e w1 ⟨rfl, hb⟩
   have hJ : Keeps w [(w.heap.size + 1, 0, .int .i64 0), (w.heap.size + 1, 1, .int .u64 0), (w.heap.size, 0, .bool true), (w.heap.size, 1, .slice A n c)] _ := Keeps.next (by refine ⟨by go_grown, ?_⟩; simp [Cells, go_sem]) hb
   clear hb
   obtain ⟨⟨Z0,C0,kf0⟩,⟨Z1,C1,kf1⟩,⟨Z2,C2,kf2⟩,⟨Z3,C3,kf3⟩,_⟩ := hJ.2
   go_wp2_with fail
   refine (P1.out _).mono ?_
   rintro e w2 ⟨A2, n2, c2, rfl, hb, hn2⟩
   replace hJ := hJ.next hb
   replace hn2 := Lib.hid hn2
   clear hb Z0 C0 kf0 Z1 C1 kf1 Z2 C2 kf2 Z3 C3 kf3
   obtain ⟨⟨Z0,C0,kf0⟩,⟨Z1,C1,kf1⟩,⟨Z2,C2,kf2⟩,⟨Z3,C3,kf3⟩,_⟩ := hJ.2
   go_wp2_with fail
   refine (MN.out _ _ hJ.1 hn2.out).mono ?_
   rintro e w3 ⟨A3, n3, c3, rfl, hb, hn3⟩
   replace hJ := hJ.next hb
   replace hn3 := Lib.hid hn3
   clear hb hn2 Z0 C0 kf0 Z1 C1 kf1 Z2 C2 kf2 Z3 C3 kf3
   obtain ⟨⟨Z0,C0,kf0⟩,⟨Z1,C1,kf1⟩,⟨Z2,C2,kf2⟩,⟨Z3,C3,kf3⟩,_⟩ := hJ.2
   go_wp2_with fail
   refine (E1.out _ _ hn3.out).mono ?_
   rintro e w4 ⟨rfl, hb⟩
   replace hJ := hJ.next hb
   replace hn3 := Lib.hid (hn3.out.below hb)
   clear hb Z0 C0 kf0 Z1 C1 kf1 Z2 C2 kf2 Z3 C3 kf3
   obtain ⟨⟨Z0,C0,kf0⟩,⟨Z1,C1,kf1⟩,⟨Z2,C2,kf2⟩,⟨Z3,C3,kf3⟩,_⟩ := hJ.2
   go_wp2_with fail
   refine (E0.out _ _ hn3.out).mono ?_
   skip
   rintro e w5 ⟨rfl, hb⟩
   replace hJ := Keeps.next (hJ) hb
   clear hb Z0 C0 kf0 Z1 C1 kf1 Z2 C2 kf2 Z3 C3 kf3
   obtain ⟨⟨Z0,C0,kf0⟩,⟨Z1,C1,kf1⟩,⟨Z2,C2,kf2⟩,⟨Z3,C3,kf3⟩,_⟩ := hJ.2
   go_wp2_with fail
   obtain ⟨d0, d1⟩ := set2 (W := w5) (B := w.heap.size + 1) (u0 := .int .i64 g0) (u1 := .int .u64 u1) C0 C1
   rw [← hw.out] at d0 d1 ⊢
   refine bodyPost_ret (v := .tuple #[wideV (wrap64 u0) u1, .bool true]) (by simp [results, Tryz.results85, go_sem, d0, d1]) rfl ?_
   exact ⟨rfl, by first | (with_reducible exact hJ.1) | (have hB := hJ.1; have hz := hB.size; go_grown)⟩
theorem wideZ_any (z : Int) (hl : (sizeL z.natAbs).length ≤ 3990) (v : Value) (w : World) (h : NumZ w v z) : Calls Tryz.prog 85 #[v] w (Ret w (.tuple #[wideV (rhi z) (rlo z), .bool (decide (Fits z))])) := by
 obtain ⟨A, n, c, rfl, hn⟩ := h.parts
 have FT := fun W (k : Below w.heap.size w W) => fitsZ_any z 127 128 (by omega) (by omega) (by omega) _ W (h.below k)
 have eF : decide (-((2 ^ 127 : Nat) : Int) ≤ z ∧ z < ((2 ^ 127 : Nat) : Int)) = decide (Fits z) := by
  rw [decide_eq_decide]
  unfold Fits
  omega
 rw [eF] at FT
 have lp := size_pow 128
 have P1 := fun W => (show Calls Tryz.prog 137 #[.int .i64 128] W (RetN W (2 ^ 128)) from (power_any 128 (by omega) W).mono fun _ _ (h : Made W _ _ _) => retN_of h.gave)
 by_cases hf : Fits z
 ·rw [decide_eq_true hf] at FT ⊢
  have hm : z.natAbs ≤ 2 ^ 128 := by unfold Fits at hf; omega
  have MN := fun W a (k : Below w.heap.size w W) (ka : Num W a (2 ^ 128)) => (minus_any (2 ^ 128) z.natAbs (by omega) hm a _ W ka (hn.below k)).mono fun _ _ h => retN_of h
  have lm : (sizeL (2 ^ 128 - z.natAbs)).length ≤ 4000 := Nat.le_trans (size_mono (Nat.sub_le _ _)) (by omega)
  by_cases g : z < 0
  ·obtain ⟨q1, q2⟩ := words_neg hf g
   rw [decide_eq_true g] at FT ⊢
   exact wide_walk true A n c (2 ^ 128 - z.natAbs) (rhi z) (rlo z) _ _ true w q1 q2 (fun h => by cases h) FT P1 MN (fun W v k _ => word_any _ 64 (by omega) v W k lm) (fun W v k _ => word_any _ 0 (by omega) v W k lm)
  ·obtain ⟨q1, q2⟩ := words_pos hf (by omega)
   rw [decide_eq_false g] at FT ⊢
   exact wide_walk false A n c (2 ^ 128 - z.natAbs) (rhi z) (rlo z) _ _ true w q1 q2 (fun h => by cases h) FT P1 MN (fun W v k _ => by obtain ⟨rfl, k⟩ := k; exact word_any z.natAbs 64 (by omega) _ W (hn.below k) (by omega)) (fun W v k _ => by obtain ⟨rfl, k⟩ := k; exact word_any z.natAbs 0 (by omega) _ W (hn.below k) (by omega))
 ·rw [decide_eq_false hf] at FT ⊢
  have z0 : rhi z = 0 := by unfold rhi; rw [if_neg hf]
  have z1 : rlo z = 0 := by unfold rlo; rw [if_neg hf]
  rw [z0, z1]
  generalize decide (z < 0) = p at *
  clear hn h eF lp P1 z0 z1
  replace FT := Lib.hid FT
  go_enter Tryz.func85, Tryz.ntmps85
  go_wp2_with fail
  refine (FT.out _ (by go_grown)).mono ?_
  rintro e w1 ⟨rfl, hb⟩
  have hJ : Keeps w [(w.heap.size + 1, 0, .int .i64 0), (w.heap.size + 1, 1, .int .u64 0)] _ := Keeps.next (by refine ⟨by go_grown, ?_⟩; simp [Cells, go_sem]) hb
  clear hb
  obtain ⟨⟨Z0, C0, kf0⟩,⟨Z1, C1, kf1⟩, _⟩ := hJ.2
  go_wp2_with fail
  obtain ⟨d0, d1⟩ := set2 (W := w1) (B := w.heap.size + 1) (u0 := .int .i64 0) (u1 := .int .u64 0) C0 C1
  refine bodyPost_ret (v := .tuple #[wideV 0 0, .bool false]) (by simp [results, Tryz.results85, go_sem, d0, d1]) rfl ?_
  exact ⟨rfl, by first | (with_reducible exact hJ.1) | (have hB := hJ.1; have hz := hB.size; go_grown)⟩
end Go.Proofs.YtcfidimnbamnkaaGreat
/-
 The document's own numbers, once more: what a call makes has a row of its own. Conditions: those written at each fact.
-/
namespace Go.Proofs.YtcfidimnbamnkaaGreat
open Go.RowKit
def HiA (B : Nat) (A : Option Addr) : Prop := ∀ ad, A = some ad → B ≤ ad.block
theorem HiA.less {B B' : Nat} {A : Option Addr} (h : HiA B A) (hb : B' ≤ B) : HiA B' A := fun ad e => Nat.le_trans hb (h ad e)
theorem hi_own {W : World} {B : Nat} {e : TypeId} {s n : Nat} {v : Value} {xs : List Value} (h : W.ownsRow B e s v n xs) : ∀ A m c, v = .slice A m c → HiA B A := by
 intro A m c e1 ad e2
 rcases h.2 with ⟨rfl, _⟩ | ⟨g, cap, cur, rfl, hB, _⟩
 ·injection e1 with e3; rw [← e3] at e2; cases e2
 ·injection e1 with e3; rw [← e3] at e2; cases e2; exact hB
def RetNB (w W : World) (x : Nat) (e : Ending) (w' : World) : Prop := ∃ A n c, e = .returned (.slice A n c) ∧ Below W.heap.size W w' ∧ Num w' (.slice A n c) x ∧ HiA w.heap.size A
def RetZB (w : World) (z : Int) (e : Ending) (w' : World) : Prop := ∃ b A n c, e = .returned (.agg #[.bool b, .slice A n c]) ∧ Below w.heap.size w w' ∧ NumZ w' (.agg #[.bool b, .slice A n c]) z ∧ HiA w.heap.size A
theorem made_nb {w W : World} {x : Nat} {e : Ending} {w' : World} (hw : w.heap.size ≤ W.heap.size) (h : Made W (sizeL x) e w') : RetNB w W x e w' := by
 obtain ⟨v, rfl, hb, ho⟩ := h
 have hn := num_of_own ho
 have hh := hi_own ho
 have hn2 := hn
 obtain ⟨A, c, rfl, _⟩ := hn2
 exact ⟨A, _, c, rfl, hb, hn, (hh A _ c rfl).less hw⟩
theorem madeB_any (z : Int) (b : Bool) (x : Nat) (hx : z.natAbs = x) (hb : (b && decide (x ≠ 0)) = decide (z < 0)) (A : Option Addr) (n c : Nat) (w : World) (h : Num w (.slice A n c) x) :
  Calls Tryz.prog 135 #[.bool b, .slice A n c] w (fun e w' => ∃ b6, e = .returned (.agg #[.bool b6, .slice A n c]) ∧ Below w.heap.size w w' ∧ NumZ w' (.agg #[.bool b6, .slice A n c]) z) := by
 subst hx
 have h' := h
 obtain ⟨A', c', e, hc, hk⟩ := h'
 cases e
 refine (made_walk b A _ c w).mono ?_
 rintro e w' ⟨rfl, hbl⟩
 refine ⟨_, rfl, hbl, _, ?_, h.below hbl⟩
 rw [← hb, decide_eq_decide.2 (size_none (x := z.natAbs))]
set_option maxRecDepth 100000 in
set_option maxHeartbeats 1600000 in
theorem trimB_any (l : List Int) (hd : ∀ d ∈ l, d = 0 ∨ d = 1) (v : Value) (w : World) (h : RowL w v l) (hl : l.length ≤ 9000) :
  Calls Tryz.prog 182 #[v] w (fun e w' => ∃ A c n, v = .slice A l.length c ∧ e = .returned (.slice A n c) ∧ Below w.heap.size w w' ∧ Num w' (.slice A n c) (valB l)) := by
 obtain ⟨A, ca, rfl, hca, HA⟩ := h
 have HN := Lib.hid (fun n (h1 : n ≤ l.length) (h2 : l.take n = sizeL (valB l)) => trim_num (w := w) (A := A) (c := ca) h1 hca HA h2)
 have HT := Lib.hid (fun n => trim_list l n hd)
 have HD : Hid (∀ k, k < l.length → l.getD k 0 = 0 ∨ l.getD k 0 = 1) := Lib.hid fun k hk => hd _ (by rw [List.getD_eq_getElem?_getD, List.getElem?_eq_getElem hk]; exact List.getElem_mem hk)
 replace HA := Lib.hid HA
 clear hd
 generalize l.length = la at *
 go_enter Tryz.func182, Tryz.ntmps182
 go_wp2_with fail
 go_loopw [3] (fun i wr => ∃ n : Nat, i = .int .i64 n ∧ n ≤ la ∧ Hid (∀ j, n ≤ j → j < la → l.getD j 0 = 0) ∧ wr = w) (fun i _ => (intOf i).toNat)
 case atStart => exact ⟨la, rfl, Nat.le_refl _, Lib.hid (fun j h1 h2 => by omega), rfl⟩
 case round =>
  obtain ⟨n, rfl, hn, hz, rfl⟩ := hrel
  cases n with
  | zero =>
   have R := Lib.hid (HN.out 0 hn (HT.out 0 hn hz.out (Or.inl rfl)))
   clear HN HT HD HA hz
   go_wp2_with fail
   go_ret
   first | exact ⟨_, _, _, rfl, rfl, Below.refl _ _, R.out⟩ | exact ⟨_, _, ⟨rfl, rfl⟩, _, rfl, Below.refl _ _, R.out⟩
  | succ m =>
   have hm : m < la := by omega
   have h01 := HD.out m hm
   have F := HN.out (m + 1) hn
   have G := HT.out (m + 1) hn hz.out
   have Z : l.getD m 0 = 0 → Hid (∀ j, m ≤ j → j < la → l.getD j 0 = 0) := fun e => Lib.hid fun j h1 h2 => by
    by_cases g : j = m
    ·rw [g]; exact e
    ·exact hz.out j (by omega) h2
   have FG := Lib.hid (fun e : l.getD m 0 = 1 => F (G (Or.inr (by simpa using e))))
   obtain ⟨b, off, rfl, hbw, hcell⟩ := HA.out m hm
   replace Z := Lib.hid Z
   clear HN HT HD F G hz
   generalize l.getD m 0 = d at *
   rcases h01 with rfl | rfl
   ·go_wp2_with fail
    go_roundw
    case rel => exact ⟨m, by simp, by omega, Z.out (by trivial), by trivial⟩
    case measure => simp [intOf]
   ·go_wp2_with fail
    go_ret
    first | exact ⟨_, _, _, rfl, rfl, Below.refl _ _, FG.out (by trivial)⟩ | exact ⟨_, _, ⟨rfl, rfl⟩, _, rfl, Below.refl _ _, FG.out (by trivial)⟩
set_option maxRecDepth 100000 in
set_option maxHeartbeats 3200000 in
theorem minusB_any (x y : Nat) (hx : (sizeL x).length ≤ 4000) (hle : y ≤ x) (v v' : Value) (w : World) (h : Num w v x) (h' : Num w v' y) :
  Calls Tryz.prog 136 #[v, v'] w (RetNB w w (x - y)) := by
 obtain ⟨A, ca, rfl, hca, HA⟩ := h
 obtain ⟨A', cb, rfl, hcb, HB⟩ := h'
 have LA := hx
 have LB : (sizeL y).length ≤ 4000 := Nat.le_trans (size_mono hle) hx
 have EA := Lib.hid (fun k => bit_lt k x)
 have EB := Lib.hid (fun k => bit_lt k y)
 have HE := Lib.hid hle
 have hab : (sizeL y).length ≤ (sizeL x).length := by
  rcases Nat.lt_or_ge (sizeL x).length (sizeL y).length with g | g
  ·have g1 := (bit_lt (sizeL x).length y).1 g
   have g2 : x / 2 ^ (sizeL x).length = 0 := by
    rcases Nat.eq_zero_or_pos (x / 2 ^ (sizeL x).length) with e | e
    ·exact e
    ·exact absurd ((bit_lt (sizeL x).length x).2 (by omega)) (Nat.lt_irrefl _)
   exact absurd (Nat.le_zero.1 (g2 ▸ Nat.div_le_div_right hle)) g1
  ·exact g
 generalize (sizeL x).length = la at *
 generalize (sizeL y).length = lb at *
 replace HA := Lib.hid HA
 replace HB := Lib.hid HB
 clear hx hle
 obtain ⟨i0, hi, hz0, hz1, hz2⟩ := info_parts infoInt
 go_enter Tryz.func136, Tryz.ntmps136
 go_wp2_with fail
 go_loopw [5, 6, 7] (fun v c i wr => ∃ (z : Int) (K : List Int), i = .int .i64 K.length ∧ c = .int .i64 z ∧ 0 ≤ z ∧ z ≤ 1 ∧ K.length ≤ la ∧ Hid (∀ d ∈ K, d = 0 ∨ d = 1) ∧ Hid ((valB K : Int) + 2 ^ K.length * (((x / 2 ^ K.length : Nat) : Int) - (y / 2 ^ K.length : Nat) - z) = (x : Int) - y) ∧ wr.ownsRow w.heap.size 3 1 v K.length (K.map (Value.int .i64)) ∧ Below w.heap.size w wr)
  (fun _ _ i _ => la - (intOf i).toNat)
 case atStart => exact ⟨0, [], rfl, rfl, by omega, by omega, by simp, Lib.hid (by simp), Lib.hid (by simp [valB]), World.ownsRow_nil _ _ _ _, Below.refl _ _⟩
 case round =>
  obtain ⟨z, K, rfl, rfl, hz0', hz1', hk, hD, hK, hown, hnx⟩ := hrel
  by_cases ga : K.length < la
  ·obtain ⟨b, off, rfl, hbw, hcell⟩ := HA.out _ ga
   have hc1 := (hnx.cell (p := ⟨b, off + K.length, none⟩) (by exact hbw)).trans hcell
   have r1 := bit_range x K.length
   clear hcell
   have pz : z = 0 ∨ z = 1 := by omega
   have pp : bitI x K.length = 0 ∨ bitI x K.length = 1 := by omega
   clear r1 hz0' hz1'
   by_cases gb : K.length < lb
   ·obtain ⟨b', off', rfl, hbw', hcell'⟩ := HB.out _ gb
    have hc2 := (hnx.cell (p := ⟨b', off' + K.length, none⟩) (by exact hbw')).trans hcell'
    have r2 := bit_range y K.length
    have pq : bitI y K.length = 0 ∨ bitI y K.length = 1 := by omega
    clear hcell' r2
    have ST : Hid (∀ (d : Nat) (z' : Int), bitI x K.length - z - bitI y K.length = (d : Int) - 2 * z' → _) := Lib.hid (fun d z' hn => minus_step (x := x) (y := y) (k := K.length) (V := valB K) (d := d) (z := z) (z' := z') hK.out hn)
    generalize bitI x K.length = p at *
    generalize bitI y K.length = q at *
    rcases pp with rfl | rfl <;> rcases pz with rfl | rfl <;> rcases pq with rfl | rfl
    ·skip
     have hM := Lib.hid (ST.out 0 0 (by omega))
     go_wp2_with (at_builtin; refine wpList_append_own _ rfl _ _ 130 rfl w.heap.size 3 i0 (.int .i64 0) 1 8 Tryz.underlying130 hi hz0 hz1 hz2 rfl (by decide) _ _ _ rfl (hown.alloc _) ⟨wr.heap.size, 0, none⟩ 1 1 [.int .i64 0] rfl rfl one_cell one_int ?c3 ?c4 ?c5 ?_)
     case c3 => unfold maxLen; omega
     case c4 => omega
     case c5 => have := hnx.size; simp; omega
     intro v' w1 hown' hgrow _
     have R := row_more hnx.size hown hnx hown' hgrow
     have hD' : Hid (∀ d ∈ K ++ [0], d = 0 ∨ d = 1) := Lib.hid (fun d hd => (List.mem_append.1 hd).elim (hD.out d) (fun g => by rw [List.mem_singleton.1 g]; decide))
     have hK' : Hid ((valB (K ++ [0]) : Int) + 2 ^ (K ++ [0]).length * (((x / 2 ^ (K ++ [0]).length : Nat) : Int) - (y / 2 ^ (K ++ [0]).length : Nat) - 0) = (x : Int) - y) := Lib.hid (by rw [valB_more, List.length_append]; exact hM.out)
     clear hown' hgrow hown hnx hK ST hM hD
     go_wp2_with fail
     go_roundw
     case rel => exact ⟨0, K ++ [0], by simp, by simp, by omega, by omega, by simp; omega, hD', hK', R.1, R.2⟩
     case measure => simp [intOf]; omega
    ·skip
     have hM := Lib.hid (ST.out 1 1 (by omega))
     go_wp2_with (at_builtin; refine wpList_append_own _ rfl _ _ 130 rfl w.heap.size 3 i0 (.int .i64 0) 1 8 Tryz.underlying130 hi hz0 hz1 hz2 rfl (by decide) _ _ _ rfl (hown.alloc _) ⟨wr.heap.size, 0, none⟩ 1 1 [.int .i64 1] rfl rfl one_cell one_int ?c3 ?c4 ?c5 ?_)
     case c3 => unfold maxLen; omega
     case c4 => omega
     case c5 => have := hnx.size; simp; omega
     intro v' w1 hown' hgrow _
     have R := row_more hnx.size hown hnx hown' hgrow
     have hD' : Hid (∀ d ∈ K ++ [1], d = 0 ∨ d = 1) := Lib.hid (fun d hd => (List.mem_append.1 hd).elim (hD.out d) (fun g => by rw [List.mem_singleton.1 g]; decide))
     have hK' : Hid ((valB (K ++ [1]) : Int) + 2 ^ (K ++ [1]).length * (((x / 2 ^ (K ++ [1]).length : Nat) : Int) - (y / 2 ^ (K ++ [1]).length : Nat) - 1) = (x : Int) - y) := Lib.hid (by rw [valB_more, List.length_append]; exact hM.out)
     clear hown' hgrow hown hnx hK ST hM hD
     go_wp2_with fail
     go_roundw
     case rel => exact ⟨1, K ++ [1], by simp, by simp, by omega, by omega, by simp; omega, hD', hK', R.1, R.2⟩
     case measure => simp [intOf]; omega
    ·skip
     have hM := Lib.hid (ST.out 1 1 (by omega))
     go_wp2_with (at_builtin; refine wpList_append_own _ rfl _ _ 130 rfl w.heap.size 3 i0 (.int .i64 0) 1 8 Tryz.underlying130 hi hz0 hz1 hz2 rfl (by decide) _ _ _ rfl (hown.alloc _) ⟨wr.heap.size, 0, none⟩ 1 1 [.int .i64 1] rfl rfl one_cell one_int ?c3 ?c4 ?c5 ?_)
     case c3 => unfold maxLen; omega
     case c4 => omega
     case c5 => have := hnx.size; simp; omega
     intro v' w1 hown' hgrow _
     have R := row_more hnx.size hown hnx hown' hgrow
     have hD' : Hid (∀ d ∈ K ++ [1], d = 0 ∨ d = 1) := Lib.hid (fun d hd => (List.mem_append.1 hd).elim (hD.out d) (fun g => by rw [List.mem_singleton.1 g]; decide))
     have hK' : Hid ((valB (K ++ [1]) : Int) + 2 ^ (K ++ [1]).length * (((x / 2 ^ (K ++ [1]).length : Nat) : Int) - (y / 2 ^ (K ++ [1]).length : Nat) - 1) = (x : Int) - y) := Lib.hid (by rw [valB_more, List.length_append]; exact hM.out)
     clear hown' hgrow hown hnx hK ST hM hD
     go_wp2_with fail
     go_roundw
     case rel => exact ⟨1, K ++ [1], by simp, by simp, by omega, by omega, by simp; omega, hD', hK', R.1, R.2⟩
     case measure => simp [intOf]; omega
    ·skip
     have hM := Lib.hid (ST.out 0 1 (by omega))
     go_wp2_with (at_builtin; refine wpList_append_own _ rfl _ _ 130 rfl w.heap.size 3 i0 (.int .i64 0) 1 8 Tryz.underlying130 hi hz0 hz1 hz2 rfl (by decide) _ _ _ rfl (hown.alloc _) ⟨wr.heap.size, 0, none⟩ 1 1 [.int .i64 0] rfl rfl one_cell one_int ?c3 ?c4 ?c5 ?_)
     case c3 => unfold maxLen; omega
     case c4 => omega
     case c5 => have := hnx.size; simp; omega
     intro v' w1 hown' hgrow _
     have R := row_more hnx.size hown hnx hown' hgrow
     have hD' : Hid (∀ d ∈ K ++ [0], d = 0 ∨ d = 1) := Lib.hid (fun d hd => (List.mem_append.1 hd).elim (hD.out d) (fun g => by rw [List.mem_singleton.1 g]; decide))
     have hK' : Hid ((valB (K ++ [0]) : Int) + 2 ^ (K ++ [0]).length * (((x / 2 ^ (K ++ [0]).length : Nat) : Int) - (y / 2 ^ (K ++ [0]).length : Nat) - 1) = (x : Int) - y) := Lib.hid (by rw [valB_more, List.length_append]; exact hM.out)
     clear hown' hgrow hown hnx hK ST hM hD
     go_wp2_with fail
     go_roundw
     case rel => exact ⟨1, K ++ [0], by simp, by simp, by omega, by omega, by simp; omega, hD', hK', R.1, R.2⟩
     case measure => simp [intOf]; omega
    ·skip
     have hM := Lib.hid (ST.out 1 0 (by omega))
     go_wp2_with (at_builtin; refine wpList_append_own _ rfl _ _ 130 rfl w.heap.size 3 i0 (.int .i64 0) 1 8 Tryz.underlying130 hi hz0 hz1 hz2 rfl (by decide) _ _ _ rfl (hown.alloc _) ⟨wr.heap.size, 0, none⟩ 1 1 [.int .i64 1] rfl rfl one_cell one_int ?c3 ?c4 ?c5 ?_)
     case c3 => unfold maxLen; omega
     case c4 => omega
     case c5 => have := hnx.size; simp; omega
     intro v' w1 hown' hgrow _
     have R := row_more hnx.size hown hnx hown' hgrow
     have hD' : Hid (∀ d ∈ K ++ [1], d = 0 ∨ d = 1) := Lib.hid (fun d hd => (List.mem_append.1 hd).elim (hD.out d) (fun g => by rw [List.mem_singleton.1 g]; decide))
     have hK' : Hid ((valB (K ++ [1]) : Int) + 2 ^ (K ++ [1]).length * (((x / 2 ^ (K ++ [1]).length : Nat) : Int) - (y / 2 ^ (K ++ [1]).length : Nat) - 0) = (x : Int) - y) := Lib.hid (by rw [valB_more, List.length_append]; exact hM.out)
     clear hown' hgrow hown hnx hK ST hM hD
     go_wp2_with fail
     go_roundw
     case rel => exact ⟨0, K ++ [1], by simp, by simp, by omega, by omega, by simp; omega, hD', hK', R.1, R.2⟩
     case measure => simp [intOf]; omega
    ·skip
     have hM := Lib.hid (ST.out 0 0 (by omega))
     go_wp2_with (at_builtin; refine wpList_append_own _ rfl _ _ 130 rfl w.heap.size 3 i0 (.int .i64 0) 1 8 Tryz.underlying130 hi hz0 hz1 hz2 rfl (by decide) _ _ _ rfl (hown.alloc _) ⟨wr.heap.size, 0, none⟩ 1 1 [.int .i64 0] rfl rfl one_cell one_int ?c3 ?c4 ?c5 ?_)
     case c3 => unfold maxLen; omega
     case c4 => omega
     case c5 => have := hnx.size; simp; omega
     intro v' w1 hown' hgrow _
     have R := row_more hnx.size hown hnx hown' hgrow
     have hD' : Hid (∀ d ∈ K ++ [0], d = 0 ∨ d = 1) := Lib.hid (fun d hd => (List.mem_append.1 hd).elim (hD.out d) (fun g => by rw [List.mem_singleton.1 g]; decide))
     have hK' : Hid ((valB (K ++ [0]) : Int) + 2 ^ (K ++ [0]).length * (((x / 2 ^ (K ++ [0]).length : Nat) : Int) - (y / 2 ^ (K ++ [0]).length : Nat) - 0) = (x : Int) - y) := Lib.hid (by rw [valB_more, List.length_append]; exact hM.out)
     clear hown' hgrow hown hnx hK ST hM hD
     go_wp2_with fail
     go_roundw
     case rel => exact ⟨0, K ++ [0], by simp, by simp, by omega, by omega, by simp; omega, hD', hK', R.1, R.2⟩
     case measure => simp [intOf]; omega
    ·skip
     have hM := Lib.hid (ST.out 0 0 (by omega))
     go_wp2_with (at_builtin; refine wpList_append_own _ rfl _ _ 130 rfl w.heap.size 3 i0 (.int .i64 0) 1 8 Tryz.underlying130 hi hz0 hz1 hz2 rfl (by decide) _ _ _ rfl (hown.alloc _) ⟨wr.heap.size, 0, none⟩ 1 1 [.int .i64 0] rfl rfl one_cell one_int ?c3 ?c4 ?c5 ?_)
     case c3 => unfold maxLen; omega
     case c4 => omega
     case c5 => have := hnx.size; simp; omega
     intro v' w1 hown' hgrow _
     have R := row_more hnx.size hown hnx hown' hgrow
     have hD' : Hid (∀ d ∈ K ++ [0], d = 0 ∨ d = 1) := Lib.hid (fun d hd => (List.mem_append.1 hd).elim (hD.out d) (fun g => by rw [List.mem_singleton.1 g]; decide))
     have hK' : Hid ((valB (K ++ [0]) : Int) + 2 ^ (K ++ [0]).length * (((x / 2 ^ (K ++ [0]).length : Nat) : Int) - (y / 2 ^ (K ++ [0]).length : Nat) - 0) = (x : Int) - y) := Lib.hid (by rw [valB_more, List.length_append]; exact hM.out)
     clear hown' hgrow hown hnx hK ST hM hD
     go_wp2_with fail
     go_roundw
     case rel => exact ⟨0, K ++ [0], by simp, by simp, by omega, by omega, by simp; omega, hD', hK', R.1, R.2⟩
     case measure => simp [intOf]; omega
    ·skip
     have hM := Lib.hid (ST.out 1 1 (by omega))
     go_wp2_with (at_builtin; refine wpList_append_own _ rfl _ _ 130 rfl w.heap.size 3 i0 (.int .i64 0) 1 8 Tryz.underlying130 hi hz0 hz1 hz2 rfl (by decide) _ _ _ rfl (hown.alloc _) ⟨wr.heap.size, 0, none⟩ 1 1 [.int .i64 1] rfl rfl one_cell one_int ?c3 ?c4 ?c5 ?_)
     case c3 => unfold maxLen; omega
     case c4 => omega
     case c5 => have := hnx.size; simp; omega
     intro v' w1 hown' hgrow _
     have R := row_more hnx.size hown hnx hown' hgrow
     have hD' : Hid (∀ d ∈ K ++ [1], d = 0 ∨ d = 1) := Lib.hid (fun d hd => (List.mem_append.1 hd).elim (hD.out d) (fun g => by rw [List.mem_singleton.1 g]; decide))
     have hK' : Hid ((valB (K ++ [1]) : Int) + 2 ^ (K ++ [1]).length * (((x / 2 ^ (K ++ [1]).length : Nat) : Int) - (y / 2 ^ (K ++ [1]).length : Nat) - 1) = (x : Int) - y) := Lib.hid (by rw [valB_more, List.length_append]; exact hM.out)
     clear hown' hgrow hown hnx hK ST hM hD
     go_wp2_with fail
     go_roundw
     case rel => exact ⟨1, K ++ [1], by simp, by simp, by omega, by omega, by simp; omega, hD', hK', R.1, R.2⟩
     case measure => simp [intOf]; omega
   ·have sy : bitI y K.length = 0 := by
     have e : y / 2 ^ K.length = 0 := by
      rcases Nat.eq_zero_or_pos (y / 2 ^ K.length) with e | e
      ·exact e
      ·exact absurd ((EB.out K.length).2 (by omega)) gb
     unfold bitI
     rw [e]
     rfl
    have ST : Hid (∀ (d : Nat) (z' : Int), bitI x K.length - z = (d : Int) - 2 * z' → _) := Lib.hid (fun d z' hn => minus_step (x := x) (y := y) (k := K.length) (V := valB K) (d := d) (z := z) (z' := z') hK.out (by rw [sy]; omega))
    clear sy
    generalize bitI x K.length = p at *
    rcases pp with rfl | rfl <;> rcases pz with rfl | rfl
    ·skip
     have hM := Lib.hid (ST.out 0 0 (by omega))
     go_wp2_with (at_builtin; refine wpList_append_own _ rfl _ _ 130 rfl w.heap.size 3 i0 (.int .i64 0) 1 8 Tryz.underlying130 hi hz0 hz1 hz2 rfl (by decide) _ _ _ rfl (hown.alloc _) ⟨wr.heap.size, 0, none⟩ 1 1 [.int .i64 0] rfl rfl one_cell one_int ?c3 ?c4 ?c5 ?_)
     case c3 => unfold maxLen; omega
     case c4 => omega
     case c5 => have := hnx.size; simp; omega
     intro v' w1 hown' hgrow _
     have R := row_more hnx.size hown hnx hown' hgrow
     have hD' : Hid (∀ d ∈ K ++ [0], d = 0 ∨ d = 1) := Lib.hid (fun d hd => (List.mem_append.1 hd).elim (hD.out d) (fun g => by rw [List.mem_singleton.1 g]; decide))
     have hK' : Hid ((valB (K ++ [0]) : Int) + 2 ^ (K ++ [0]).length * (((x / 2 ^ (K ++ [0]).length : Nat) : Int) - (y / 2 ^ (K ++ [0]).length : Nat) - 0) = (x : Int) - y) := Lib.hid (by rw [valB_more, List.length_append]; exact hM.out)
     clear hown' hgrow hown hnx hK ST hM hD
     go_wp2_with fail
     go_roundw
     case rel => exact ⟨0, K ++ [0], by simp, by simp, by omega, by omega, by simp; omega, hD', hK', R.1, R.2⟩
     case measure => simp [intOf]; omega
    ·skip
     have hM := Lib.hid (ST.out 1 1 (by omega))
     go_wp2_with (at_builtin; refine wpList_append_own _ rfl _ _ 130 rfl w.heap.size 3 i0 (.int .i64 0) 1 8 Tryz.underlying130 hi hz0 hz1 hz2 rfl (by decide) _ _ _ rfl (hown.alloc _) ⟨wr.heap.size, 0, none⟩ 1 1 [.int .i64 1] rfl rfl one_cell one_int ?c3 ?c4 ?c5 ?_)
     case c3 => unfold maxLen; omega
     case c4 => omega
     case c5 => have := hnx.size; simp; omega
     intro v' w1 hown' hgrow _
     have R := row_more hnx.size hown hnx hown' hgrow
     have hD' : Hid (∀ d ∈ K ++ [1], d = 0 ∨ d = 1) := Lib.hid (fun d hd => (List.mem_append.1 hd).elim (hD.out d) (fun g => by rw [List.mem_singleton.1 g]; decide))
     have hK' : Hid ((valB (K ++ [1]) : Int) + 2 ^ (K ++ [1]).length * (((x / 2 ^ (K ++ [1]).length : Nat) : Int) - (y / 2 ^ (K ++ [1]).length : Nat) - 1) = (x : Int) - y) := Lib.hid (by rw [valB_more, List.length_append]; exact hM.out)
     clear hown' hgrow hown hnx hK ST hM hD
     go_wp2_with fail
     go_roundw
     case rel => exact ⟨1, K ++ [1], by simp, by simp, by omega, by omega, by simp; omega, hD', hK', R.1, R.2⟩
     case measure => simp [intOf]; omega
    ·skip
     have hM := Lib.hid (ST.out 1 0 (by omega))
     go_wp2_with (at_builtin; refine wpList_append_own _ rfl _ _ 130 rfl w.heap.size 3 i0 (.int .i64 0) 1 8 Tryz.underlying130 hi hz0 hz1 hz2 rfl (by decide) _ _ _ rfl (hown.alloc _) ⟨wr.heap.size, 0, none⟩ 1 1 [.int .i64 1] rfl rfl one_cell one_int ?c3 ?c4 ?c5 ?_)
     case c3 => unfold maxLen; omega
     case c4 => omega
     case c5 => have := hnx.size; simp; omega
     intro v' w1 hown' hgrow _
     have R := row_more hnx.size hown hnx hown' hgrow
     have hD' : Hid (∀ d ∈ K ++ [1], d = 0 ∨ d = 1) := Lib.hid (fun d hd => (List.mem_append.1 hd).elim (hD.out d) (fun g => by rw [List.mem_singleton.1 g]; decide))
     have hK' : Hid ((valB (K ++ [1]) : Int) + 2 ^ (K ++ [1]).length * (((x / 2 ^ (K ++ [1]).length : Nat) : Int) - (y / 2 ^ (K ++ [1]).length : Nat) - 0) = (x : Int) - y) := Lib.hid (by rw [valB_more, List.length_append]; exact hM.out)
     clear hown' hgrow hown hnx hK ST hM hD
     go_wp2_with fail
     go_roundw
     case rel => exact ⟨0, K ++ [1], by simp, by simp, by omega, by omega, by simp; omega, hD', hK', R.1, R.2⟩
     case measure => simp [intOf]; omega
    ·skip
     have hM := Lib.hid (ST.out 0 0 (by omega))
     go_wp2_with (at_builtin; refine wpList_append_own _ rfl _ _ 130 rfl w.heap.size 3 i0 (.int .i64 0) 1 8 Tryz.underlying130 hi hz0 hz1 hz2 rfl (by decide) _ _ _ rfl (hown.alloc _) ⟨wr.heap.size, 0, none⟩ 1 1 [.int .i64 0] rfl rfl one_cell one_int ?c3 ?c4 ?c5 ?_)
     case c3 => unfold maxLen; omega
     case c4 => omega
     case c5 => have := hnx.size; simp; omega
     intro v' w1 hown' hgrow _
     have R := row_more hnx.size hown hnx hown' hgrow
     have hD' : Hid (∀ d ∈ K ++ [0], d = 0 ∨ d = 1) := Lib.hid (fun d hd => (List.mem_append.1 hd).elim (hD.out d) (fun g => by rw [List.mem_singleton.1 g]; decide))
     have hK' : Hid ((valB (K ++ [0]) : Int) + 2 ^ (K ++ [0]).length * (((x / 2 ^ (K ++ [0]).length : Nat) : Int) - (y / 2 ^ (K ++ [0]).length : Nat) - 0) = (x : Int) - y) := Lib.hid (by rw [valB_more, List.length_append]; exact hM.out)
     clear hown' hgrow hown hnx hK ST hM hD
     go_wp2_with fail
     go_roundw
     case rel => exact ⟨0, K ++ [0], by simp, by simp, by omega, by omega, by simp; omega, hD', hK', R.1, R.2⟩
     case measure => simp [intOf]; omega
  ·have el : K.length = la := by omega
   have sx : x / 2 ^ K.length = 0 := by
    rcases Nat.eq_zero_or_pos (x / 2 ^ K.length) with e | e
    ·exact e
    ·exact absurd ((EA.out K.length).2 (by omega)) ga
   have sy : y / 2 ^ K.length = 0 := by
    rcases Nat.eq_zero_or_pos (y / 2 ^ K.length) with e | e
    ·exact e
    ·exact absurd ((EB.out K.length).2 (by omega)) (by omega)
   have e := minus_end sx sy HE.out hz0' hz1' (valB_lt K hD.out) hK.out
   have HIA := Lib.hid (hi_own hown)
   have TR := Lib.hid (trimB_any K hD.out _ wr (rowL_of_own hown) (by omega))
   rw [e] at TR
   clear e sx sy el hK hD hown
   go_wp2_with fail
   refine TR.out.mono ?_
   rintro e w1 ⟨A9, c9, n9, hv9, rfl, hb1, hnum⟩
   go_wp2_with fail
   go_ret
   exact ⟨A9, n9, c9, rfl, below_thru hnx hb1, hnum, HIA.out _ _ _ hv9⟩
set_option maxRecDepth 100000 in
set_option maxHeartbeats 4000000 in
theorem add_sameB (p : Bool) (A A' : Option Addr) (n c n' c' : Nat) (m : Nat) (z : Int) (w : World)
  (T : ∀ W L, Keeps w L W → Calls Tryz.prog 138 #[.slice A n c, .slice A' n' c'] W (RetNB w W m)) (M : ∀ A n c W, Num W (.slice A n c) m → Calls Tryz.prog 135 #[.bool p, .slice A n c] W (fun e w' => ∃ b6, e = .returned (.agg #[.bool b6, .slice A n c]) ∧ Below W.heap.size W w' ∧ NumZ w' (.agg #[.bool b6, .slice A n c]) z)) :
  Calls Tryz.prog 84 #[.agg #[.bool p, .slice A n c], .agg #[.bool p, .slice A' n' c']] w (RetZB w z) := by
 have T := Lib.hid T
 have M := Lib.hid M
 go_enter Tryz.func84, Tryz.ntmps84
 go_wp2_with fail
 refine region_keepsB (w0 := w) (L := [(w.heap.size, 0, .bool p), (w.heap.size, 1, .slice A n c), (w.heap.size + 1, 0, .bool p), (w.heap.size + 1, 1, .slice A' n' c')]) (M := [(w.heap.size + 1 + 1, 0, .bool false), (w.heap.size + 1 + 1, 1, .slice none 0 0)]) (by kernel_rfl) (by first | exact hJ | (refine ⟨by go_grown, ?_⟩; simp [Cells, go_sem]; done)) (by first | exact hJ | (refine ⟨by go_grown, ?_⟩; simp [Cells, go_sem]; done)) (fun hJ0 hT0 => ?_)
 refine tv 0 10 rfl rfl ?_
 try go_frame
 refine tk 1 11 rfl rfl ?_ ?_ ?_
 rotate_left
 ·intro wq hSw; obtain ⟨⟨_,_,_⟩,⟨_,_,_⟩,⟨_,_,_⟩,⟨_,_,_⟩,_⟩ := hSw.2; go_simp; (try with_reducible rfl)
 try go_frame
 refine tv 2 12 rfl rfl ?_
 try go_frame
 refine tk 3 13 rfl rfl ?_ ?_ ?_
 rotate_left
 ·intro wq hSw; obtain ⟨⟨_,_,_⟩,⟨_,_,_⟩,⟨_,_,_⟩,⟨_,_,_⟩,_⟩ := hSw.2; go_simp; (try with_reducible rfl)
 try go_frame
 refine tv 4 14 rfl rfl ?_
 try go_frame
 refine tk 5 15 rfl rfl ?_ ?_ ?_
 rotate_left
 ·intro wq hSw; obtain ⟨⟨_,_,_⟩,⟨_,_,_⟩,⟨_,_,_⟩,⟨_,_,_⟩,_⟩ := hSw.2; go_simp; (try with_reducible rfl)
 try go_frame
 refine tw 6 rfl fun K hK => ?_
 go_simp
 (first | ((with_reducible refine (T.out _ _ (by assumption)).mono ?_); rintro e w5 ⟨A5, n5, c5, rfl, hb, hn5, hi5⟩) | ((with_reducible refine (M.out _ _ _ _ (by assumption)).mono ?_); rintro e w6 ⟨b6, rfl, hb, hz6⟩))
 refine hK.out _ _ (hJ0.next hb) (fun hJ1 => ?_)
 replace hT0 := hT0.next hb
 clear hK K; try clear hb
 try go_frame
 refine tw 7 rfl fun K hK => ?_
 go_simp
 (first | ((with_reducible refine (T.out _ _ (by assumption)).mono ?_); rintro e w5 ⟨A5, n5, c5, rfl, hb, hn5, hi5⟩) | ((with_reducible refine (M.out _ _ _ _ (by assumption)).mono ?_); rintro e w6 ⟨b6, rfl, hb, hz6⟩))
 refine hK.out _ _ (hJ1.next hb) (fun hJ2 => ?_)
 replace hT0 := hT0.next hb
 clear hK K; try clear hb
 try go_frame
 refine tw 8 rfl fun K hK => ?_
 obtain ⟨⟨t0z0, t0c0, t0f0⟩,⟨t0z1, t0c1, t0f1⟩, _⟩ := hT0.2; (try simp at t0z0); (try simp at t0c0); (try simp at t0f0); (try simp at t0z1); (try simp at t0c1); (try simp at t0f1)
 go_simp
 refine hK.out _ _ (by first | exact hJ2.alloc _ | (repeat (first | (with_reducible exact hJ2) | (with_reducible exact (Keeps.undrewR hJ2)) | (refine Keeps.set ?_ (by simp <;> omega) (by simp <;> omega) _) | (with_reducible refine Keeps.drew ?_)))) (fun hJ3 => ?_)
 clear hK K; try clear hb
 try go_frame
 refine wpAnyH_done (by kernel_rfl) ?_ _
 have hJ := hJ3
 obtain ⟨⟨_,_,_⟩,⟨_,_,_⟩,⟨_,_,_⟩,⟨_,_,_⟩,_⟩ := hJ.2
 obtain ⟨d0, d1⟩ := set2 (W := w6) (B := w.heap.size + 1 + 1) (u0 := .bool b6) (u1 := .slice A5 n5 c5) t0c0 t0c1; go_wp2_with fail; refine bodyPost_ret (v := .agg #[.bool b6, .slice A5 n5 c5]) (by simp [results, Tryz.results84, go_sem, d0, d1]) rfl ?_; exact ⟨b6, A5, n5, c5, rfl, hJ.1, hz6.set2 t0c0 t0c1 _ _, hi5⟩
set_option maxRecDepth 100000 in
set_option maxHeartbeats 4000000 in
theorem add_ltB (p : Bool) (A A' : Option Addr) (n c n' c' : Nat) (m : Nat) (z : Int) (w : World)
  (LS : ∀ W, Below w.heap.size w W → Calls Tryz.prog 139 #[.slice A n c, .slice A' n' c'] W (Ret W (.bool true)))
  (T : ∀ W L, Keeps w L W → Calls Tryz.prog 136 #[.slice A' n' c', .slice A n c] W (RetNB w W m)) (M : ∀ A n c W, Num W (.slice A n c) m → Calls Tryz.prog 135 #[.bool (!p), .slice A n c] W (fun e w' => ∃ b6, e = .returned (.agg #[.bool b6, .slice A n c]) ∧ Below W.heap.size W w' ∧ NumZ w' (.agg #[.bool b6, .slice A n c]) z)) :
  Calls Tryz.prog 84 #[.agg #[.bool p, .slice A n c], .agg #[.bool (!p), .slice A' n' c']] w (RetZB w z) := by
 have T := Lib.hid T
 have M := Lib.hid M
 have LS := Lib.hid LS
 have hpq : (p == !p) = false := by cases p <;> rfl
 generalize (!p) = q at *
 go_enter Tryz.func84, Tryz.ntmps84
 go_wp2_with fail
 refine (LS.out _ (below_thru (below_thru (below_alloc w _) (below_alloc _ _)) (below_alloc _ _))).mono ?_
 rintro e w1 ⟨rfl, hb⟩
 have hJ : Keeps w [(w.heap.size, 0, .bool p), (w.heap.size, 1, .slice A n c), (w.heap.size + 1, 0, .bool q), (w.heap.size + 1, 1, .slice A' n' c'), (w.heap.size + 1 + 1, 0, .bool false), (w.heap.size + 1 + 1, 1, .slice none 0 0)] _ := Keeps.next (by refine ⟨by go_grown, ?_⟩; simp [Cells, go_sem]) hb
 clear hb
 obtain ⟨⟨Z0,C0,kf0⟩,⟨Z1,C1,kf1⟩,⟨Z2,C2,kf2⟩,⟨Z3,C3,kf3⟩,⟨Z4,C4,kf4⟩,⟨Z5,C5,kf5⟩,_⟩ := hJ.2
 go_wp2_with fail
 refine region_keepsB (w0 := w) (L := [(w.heap.size, 0, .bool p), (w.heap.size, 1, .slice A n c), (w.heap.size + 1, 0, .bool q), (w.heap.size + 1, 1, .slice A' n' c')]) (M := [(w.heap.size + 1 + 1, 0, .bool false), (w.heap.size + 1 + 1, 1, .slice none 0 0)]) (by kernel_rfl) ⟨hJ.1, ⟨Z0, C0, kf0⟩,⟨Z1, C1, kf1⟩,⟨Z2, C2, kf2⟩,⟨Z3, C3, kf3⟩, trivial⟩ ⟨hJ.1, ⟨Z4, C4, kf4⟩,⟨Z5, C5, kf5⟩, trivial⟩ (fun hJ0 hT0 => ?_)
 refine tv 0 23 rfl rfl ?_
 try go_frame
 refine tk 1 24 rfl rfl ?_ ?_ ?_
 rotate_left
 ·intro wq hSw; obtain ⟨⟨_,_,_⟩,⟨_,_,_⟩,⟨_,_,_⟩,⟨_,_,_⟩,_⟩ := hSw.2; go_simp; (try with_reducible rfl)
 try go_frame
 refine tv 2 25 rfl rfl ?_
 try go_frame
 refine tk 3 26 rfl rfl ?_ ?_ ?_
 rotate_left
 ·intro wq hSw; obtain ⟨⟨_,_,_⟩,⟨_,_,_⟩,⟨_,_,_⟩,⟨_,_,_⟩,_⟩ := hSw.2; go_simp; (try with_reducible rfl)
 try go_frame
 refine tv 4 27 rfl rfl ?_
 try go_frame
 refine tk 5 28 rfl rfl ?_ ?_ ?_
 rotate_left
 ·intro wq hSw; obtain ⟨⟨_,_,_⟩,⟨_,_,_⟩,⟨_,_,_⟩,⟨_,_,_⟩,_⟩ := hSw.2; go_simp; (try with_reducible rfl)
 try go_frame
 refine tw 6 rfl fun K hK => ?_
 go_simp
 (first | ((with_reducible refine (T.out _ _ (by assumption)).mono ?_); rintro e w5 ⟨A5, n5, c5, rfl, hb, hn5, hi5⟩) | ((with_reducible refine (M.out _ _ _ _ (by assumption)).mono ?_); rintro e w6 ⟨b6, rfl, hb, hz6⟩))
 refine hK.out _ _ (hJ0.next hb) (fun hJ1 => ?_)
 replace hT0 := hT0.next hb
 clear hK K; try clear hb
 try go_frame
 refine tw 7 rfl fun K hK => ?_
 go_simp
 (first | ((with_reducible refine (T.out _ _ (by assumption)).mono ?_); rintro e w5 ⟨A5, n5, c5, rfl, hb, hn5, hi5⟩) | ((with_reducible refine (M.out _ _ _ _ (by assumption)).mono ?_); rintro e w6 ⟨b6, rfl, hb, hz6⟩))
 refine hK.out _ _ (hJ1.next hb) (fun hJ2 => ?_)
 replace hT0 := hT0.next hb
 clear hK K; try clear hb
 try go_frame
 refine tw 8 rfl fun K hK => ?_
 obtain ⟨⟨t0z0, t0c0, t0f0⟩,⟨t0z1, t0c1, t0f1⟩, _⟩ := hT0.2; (try simp at t0z0); (try simp at t0c0); (try simp at t0f0); (try simp at t0z1); (try simp at t0c1); (try simp at t0f1)
 go_simp
 refine hK.out _ _ (by first | exact hJ2.alloc _ | (repeat (first | (with_reducible exact hJ2) | (with_reducible exact (Keeps.undrewR hJ2)) | (refine Keeps.set ?_ (by simp <;> omega) (by simp <;> omega) _) | (with_reducible refine Keeps.drew ?_)))) (fun hJ3 => ?_)
 clear hK K; try clear hb
 try go_frame
 refine wpAnyH_done (by kernel_rfl) ?_ _
 have hJ := hJ3
 obtain ⟨⟨Z0,C0,kf0⟩,⟨Z1,C1,kf1⟩,⟨Z2,C2,kf2⟩,⟨Z3,C3,kf3⟩,_⟩ := hJ.2
 obtain ⟨d0, d1⟩ := set2 (W := w6) (B := w.heap.size + 1 + 1) (u0 := .bool b6) (u1 := .slice A5 n5 c5) t0c0 t0c1; go_wp2_with fail; refine bodyPost_ret (v := .agg #[.bool b6, .slice A5 n5 c5]) (by simp [results, Tryz.results84, go_sem, d0, d1]) rfl ?_; exact ⟨b6, A5, n5, c5, rfl, hJ.1, hz6.set2 t0c0 t0c1 _ _, hi5⟩
set_option maxRecDepth 100000 in
set_option maxHeartbeats 4000000 in
theorem add_geB (p : Bool) (A A' : Option Addr) (n c n' c' : Nat) (m : Nat) (z : Int) (w : World)
  (LS : ∀ W, Below w.heap.size w W → Calls Tryz.prog 139 #[.slice A n c, .slice A' n' c'] W (Ret W (.bool false)))
  (T : ∀ W L, Keeps w L W → Calls Tryz.prog 136 #[.slice A n c, .slice A' n' c'] W (RetNB w W m)) (M : ∀ A n c W, Num W (.slice A n c) m → Calls Tryz.prog 135 #[.bool p, .slice A n c] W (fun e w' => ∃ b6, e = .returned (.agg #[.bool b6, .slice A n c]) ∧ Below W.heap.size W w' ∧ NumZ w' (.agg #[.bool b6, .slice A n c]) z)) :
  Calls Tryz.prog 84 #[.agg #[.bool p, .slice A n c], .agg #[.bool (!p), .slice A' n' c']] w (RetZB w z) := by
 have T := Lib.hid T
 have M := Lib.hid M
 have LS := Lib.hid LS
 have hpq : (p == !p) = false := by cases p <;> rfl
 generalize (!p) = q at *
 go_enter Tryz.func84, Tryz.ntmps84
 go_wp2_with fail
 refine (LS.out _ (below_thru (below_thru (below_alloc w _) (below_alloc _ _)) (below_alloc _ _))).mono ?_
 rintro e w1 ⟨rfl, hb⟩
 have hJ : Keeps w [(w.heap.size, 0, .bool p), (w.heap.size, 1, .slice A n c), (w.heap.size + 1, 0, .bool q), (w.heap.size + 1, 1, .slice A' n' c'), (w.heap.size + 1 + 1, 0, .bool false), (w.heap.size + 1 + 1, 1, .slice none 0 0)] _ := Keeps.next (by refine ⟨by go_grown, ?_⟩; simp [Cells, go_sem]) hb
 clear hb
 obtain ⟨⟨Z0,C0,kf0⟩,⟨Z1,C1,kf1⟩,⟨Z2,C2,kf2⟩,⟨Z3,C3,kf3⟩,⟨Z4,C4,kf4⟩,⟨Z5,C5,kf5⟩,_⟩ := hJ.2
 go_wp2_with fail
 refine region_keepsB (w0 := w) (L := [(w.heap.size, 0, .bool p), (w.heap.size, 1, .slice A n c), (w.heap.size + 1, 0, .bool q), (w.heap.size + 1, 1, .slice A' n' c')]) (M := [(w.heap.size + 1 + 1, 0, .bool false), (w.heap.size + 1 + 1, 1, .slice none 0 0)]) (by kernel_rfl) ⟨hJ.1, ⟨Z0, C0, kf0⟩,⟨Z1, C1, kf1⟩,⟨Z2, C2, kf2⟩,⟨Z3, C3, kf3⟩, trivial⟩ ⟨hJ.1, ⟨Z4, C4, kf4⟩,⟨Z5, C5, kf5⟩, trivial⟩ (fun hJ0 hT0 => ?_)
 refine tv 0 31 rfl rfl ?_
 try go_frame
 refine tk 1 32 rfl rfl ?_ ?_ ?_
 rotate_left
 ·intro wq hSw; obtain ⟨⟨_,_,_⟩,⟨_,_,_⟩,⟨_,_,_⟩,⟨_,_,_⟩,_⟩ := hSw.2; go_simp; (try with_reducible rfl)
 try go_frame
 refine tv 2 33 rfl rfl ?_
 try go_frame
 refine tk 3 34 rfl rfl ?_ ?_ ?_
 rotate_left
 ·intro wq hSw; obtain ⟨⟨_,_,_⟩,⟨_,_,_⟩,⟨_,_,_⟩,⟨_,_,_⟩,_⟩ := hSw.2; go_simp; (try with_reducible rfl)
 try go_frame
 refine tv 4 35 rfl rfl ?_
 try go_frame
 refine tk 5 36 rfl rfl ?_ ?_ ?_
 rotate_left
 ·intro wq hSw; obtain ⟨⟨_,_,_⟩,⟨_,_,_⟩,⟨_,_,_⟩,⟨_,_,_⟩,_⟩ := hSw.2; go_simp; (try with_reducible rfl)
 try go_frame
 refine tw 6 rfl fun K hK => ?_
 go_simp
 (first | ((with_reducible refine (T.out _ _ (by assumption)).mono ?_); rintro e w5 ⟨A5, n5, c5, rfl, hb, hn5, hi5⟩) | ((with_reducible refine (M.out _ _ _ _ (by assumption)).mono ?_); rintro e w6 ⟨b6, rfl, hb, hz6⟩))
 refine hK.out _ _ (hJ0.next hb) (fun hJ1 => ?_)
 replace hT0 := hT0.next hb
 clear hK K; try clear hb
 try go_frame
 refine tw 7 rfl fun K hK => ?_
 go_simp
 (first | ((with_reducible refine (T.out _ _ (by assumption)).mono ?_); rintro e w5 ⟨A5, n5, c5, rfl, hb, hn5, hi5⟩) | ((with_reducible refine (M.out _ _ _ _ (by assumption)).mono ?_); rintro e w6 ⟨b6, rfl, hb, hz6⟩))
 refine hK.out _ _ (hJ1.next hb) (fun hJ2 => ?_)
 replace hT0 := hT0.next hb
 clear hK K; try clear hb
 try go_frame
 refine tw 8 rfl fun K hK => ?_
 obtain ⟨⟨t0z0, t0c0, t0f0⟩,⟨t0z1, t0c1, t0f1⟩, _⟩ := hT0.2; (try simp at t0z0); (try simp at t0c0); (try simp at t0f0); (try simp at t0z1); (try simp at t0c1); (try simp at t0f1)
 go_simp
 refine hK.out _ _ (by first | exact hJ2.alloc _ | (repeat (first | (with_reducible exact hJ2) | (with_reducible exact (Keeps.undrewR hJ2)) | (refine Keeps.set ?_ (by simp <;> omega) (by simp <;> omega) _) | (with_reducible refine Keeps.drew ?_)))) (fun hJ3 => ?_)
 clear hK K; try clear hb
 try go_frame
 refine wpAnyH_done (by kernel_rfl) ?_ _
 have hJ := hJ3
 obtain ⟨⟨Z0,C0,kf0⟩,⟨Z1,C1,kf1⟩,⟨Z2,C2,kf2⟩,⟨Z3,C3,kf3⟩,_⟩ := hJ.2
 obtain ⟨d0, d1⟩ := set2 (W := w6) (B := w.heap.size + 1 + 1) (u0 := .bool b6) (u1 := .slice A5 n5 c5) t0c0 t0c1; go_wp2_with fail; refine bodyPost_ret (v := .agg #[.bool b6, .slice A5 n5 c5]) (by simp [results, Tryz.results84, go_sem, d0, d1]) rfl ?_; exact ⟨b6, A5, n5, c5, rfl, hJ.1, hz6.set2 t0c0 t0c1 _ _, hi5⟩
theorem addZB_any (x y : Int) (hx : (sizeL x.natAbs).length ≤ 3999) (hy : (sizeL y.natAbs).length ≤ 3999) (v v' : Value) (w : World) (h : NumZ w v x) (h' : NumZ w v' y) : Calls Tryz.prog 84 #[v, v'] w (RetZB w (x + y)) := by
 obtain ⟨A, n, c, rfl, hn⟩ := h.parts
 obtain ⟨A', n', c', rfl, hn'⟩ := h'.parts
 by_cases g : (x < 0 ↔ y < 0)
 ·have e : decide (y < 0) = decide (x < 0) := decide_eq_decide.2 g.symm
  rw [e]
  refine add_sameB _ A A' n c n' c' (x.natAbs + y.natAbs) (x + y) w (fun W L hk => (plusN_any x.natAbs y.natAbs (by omega) (by omega) _ _ W (hn.below hk.1) (hn'.below hk.1)).mono fun _ _ h => made_nb hk.1.size h) (fun A1 n1 c1 W k => madeB_any (x + y) (decide (x < 0)) _ (by omega) ?_ A1 n1 c1 W k)
  rw [Bool.eq_iff_iff]
  simp only [Bool.and_eq_true, decide_eq_true_eq]
  omega
 ·have e : decide (y < 0) = !decide (x < 0) := by rw [Bool.eq_iff_iff]; simp only [Bool.not_eq_true', decide_eq_true_eq, decide_eq_false_iff_not]; omega
  rw [e]
  have LS := fun W (hb : Below w.heap.size w W) => less_any x.natAbs y.natAbs (by omega) (by omega) _ _ W (hn.below hb) (hn'.below hb)
  by_cases gl : x.natAbs < y.natAbs
  ·rw [decide_eq_true gl] at LS
   refine add_ltB _ A A' n c n' c' (y.natAbs - x.natAbs) (x + y) w LS (fun W L hk => (minusB_any y.natAbs x.natAbs (by omega) (by omega) _ _ W (hn'.below hk.1) (hn.below hk.1)).mono fun _ _ h => by obtain ⟨A1, n1, c1, h1, h2, h3, h4⟩ := h; exact ⟨A1, n1, c1, h1, h2, h3, h4.less hk.1.size⟩) (fun A1 n1 c1 W k => madeB_any (x + y) (!decide (x < 0)) _ (by omega) ?_ A1 n1 c1 W k)
   rw [Bool.eq_iff_iff]
   simp only [Bool.and_eq_true, Bool.not_eq_true', decide_eq_true_eq, decide_eq_false_iff_not]
   omega
  ·rw [decide_eq_false gl] at LS
   refine add_geB _ A A' n c n' c' (x.natAbs - y.natAbs) (x + y) w LS (fun W L hk => (minusB_any x.natAbs y.natAbs (by omega) (by omega) _ _ W (hn.below hk.1) (hn'.below hk.1)).mono fun _ _ h => by obtain ⟨A1, n1, c1, h1, h2, h3, h4⟩ := h; exact ⟨A1, n1, c1, h1, h2, h3, h4.less hk.1.size⟩) (fun A1 n1 c1 W k => madeB_any (x + y) (decide (x < 0)) _ (by omega) ?_ A1 n1 c1 W k)
   rw [Bool.eq_iff_iff]
   simp only [Bool.and_eq_true, decide_eq_true_eq]
   omega
set_option maxRecDepth 100000 in
set_option maxHeartbeats 2000000 in
theorem int_posB (u : Nat) (hu : u ≤ 9223372036854775807) (w : World) : Calls Tryz.prog 83 #[.int .i64 u] w (RetZB w (u : Int)) := by
 have S := Lib.hid (fun W => (size_any u (by omega) W).mono fun _ _ h => made_nb (Nat.le_refl _) h)
 have M := Lib.hid (fun (A1 : Option Addr) (n1 c1 : Nat) (W : World) (k : Num W (.slice A1 n1 c1) u) => madeB_any (u : Int) false u (Int.natAbs_natCast u) (by rw [sgn_nat]; rfl) A1 n1 c1 W k)
 have g : ¬ (u : Int) < 0 := by omega
 have hu' : (u : Int) ≤ 9223372036854775807 := by omega
 generalize hz : (u : Int) = z at *
 have g0 : 0 ≤ z := by omega
 clear hz hu
 go_enter Tryz.func83, Tryz.ntmps83
 go_wp2_with fail
 refine (S.out _).mono ?_
 rintro e w1 ⟨A6, n6, c6, rfl, hb1, hn1, hi1⟩
 have HI := Lib.hid (show HiA w.heap.size A6 from hi1.less (by simp))
 clear hi1
 have c0 : w1.cell? ⟨w.heap.size, 0, none⟩ = some (.bool false) := (hb1.cell (p := ⟨w.heap.size, 0, none⟩) (by simp)).trans (by simp [go_sem])
 have c1 : w1.cell? ⟨w.heap.size, 1, none⟩ = some (.slice none 0 0) := (hb1.cell (p := ⟨w.heap.size, 1, none⟩) (by simp)).trans (by simp [go_sem])
 have f0 : w1.frozen? ⟨w.heap.size, 0, none⟩ = false := (hb1.frozen (p := ⟨w.heap.size, 0, none⟩) (by simp)).trans (by simp [go_sem])
 have f1 : w1.frozen? ⟨w.heap.size, 1, none⟩ = false := (hb1.frozen (p := ⟨w.heap.size, 1, none⟩) (by simp)).trans (by simp [go_sem])
 have z1 : w.heap.size < w1.heap.size := by have := hb1.size; simp at this; omega
 have HB := Lib.hid (below_thru (below_alloc w _) hb1)
 have HN := Lib.hid hn1
 clear hb1 hn1
 go_wp2_with fail
 refine (M.out _ _ _ _ HN.out).mono ?_
 rintro e w2 ⟨b6, rfl, hb2, hz6⟩
 have t0c0 : w2.cell? ⟨w.heap.size, 0, none⟩ = some (.bool false) := (hb2.cell (p := ⟨w.heap.size, 0, none⟩) z1).trans c0
 have t0c1 : w2.cell? ⟨w.heap.size, 1, none⟩ = some (.slice none 0 0) := (hb2.cell (p := ⟨w.heap.size, 1, none⟩) z1).trans c1
 have k0 : w2.frozen? ⟨w.heap.size, 0, none⟩ = false := (hb2.frozen (p := ⟨w.heap.size, 0, none⟩) z1).trans f0
 have k1 : w2.frozen? ⟨w.heap.size, 1, none⟩ = false := (hb2.frozen (p := ⟨w.heap.size, 1, none⟩) z1).trans f1
 have HB2 := Lib.hid (below_thru HB.out hb2)
 clear hb2 c0 c1 f0 f1
 go_wp2_with fail
 obtain ⟨d0, d1⟩ := set2 (W := w2) (B := w.heap.size) (u0 := .bool b6) (u1 := .slice A6 n6 c6) t0c0 t0c1
 refine bodyPost_ret (v := .agg #[.bool b6, .slice A6 n6 c6]) (by simp [results, Tryz.results83, go_sem, d0, d1]) rfl ?_
 exact ⟨b6, A6, n6, c6, rfl, (HB2.out.setCell (p := ⟨w.heap.size, 0, none⟩) (by simp) _).setCell (p := ⟨w.heap.size, 1, none⟩) (by simp) _, hz6.set2 t0c0 t0c1 _ _, HI.out⟩
set_option maxRecDepth 100000 in
set_option maxHeartbeats 2000000 in
theorem int_negB (z : Int) (h1 : -9223372036854775808 ≤ z) (h2 : z < 0) (w : World) : Calls Tryz.prog 83 #[.int .i64 z] w (RetZB w z) := by
 obtain ⟨u, hu⟩ : ∃ u : Nat, z + 18446744073709551616 = (u : Int) := ⟨(z + 18446744073709551616).toNat, by omega⟩
 have S := Lib.hid (fun W => (size_any u (by omega) W).mono fun _ _ h => retN_of h.gave)
 have P := Lib.hid (fun W => (power_any 64 (by decide) W).mono fun _ _ h => retN_of h.gave)
 have N := Lib.hid (fun (a b : Value) (W : World) (ka : Num W a (2 ^ 64)) (kb : Num W b u) => (minusB_any (2 ^ 64) u (by have := size_pow 64; omega) (by omega) a b W ka kb))
 have hx : z.natAbs = 2 ^ 64 - u := by omega
 have M := Lib.hid (fun (A1 : Option Addr) (n1 c1 : Nat) (W : World) (k : Num W (.slice A1 n1 c1) (2 ^ 64 - u)) => madeB_any z true (2 ^ 64 - u) hx (by rw [decide_eq_true h2, decide_eq_true (show 2 ^ 64 - u ≠ 0 by omega)]; rfl) A1 n1 c1 W k)
 have e1 : IntKind.u64.wrap z = (u : Int) := by rw [IntKind.wrap_u64]; omega
 have e2 : z % 18446744073709551616 = (u : Int) := by omega
 generalize 2 ^ 64 - u = m at *
 generalize 2 ^ 64 = pw at *
 clear hu hx
 go_enter Tryz.func83, Tryz.ntmps83
 go_wp2_with fail
 refine (S.out _).mono ?_
 rintro e w1 ⟨A, n, c, rfl, hb1, hn1⟩
 have hJ : Keeps w [(w.heap.size, 0, .bool false), (w.heap.size, 1, .slice none 0 0)] w1 := Keeps.next (by refine ⟨by go_grown, ?_⟩; simp [Cells, go_sem]) hb1
 have HN := Lib.hid hn1
 clear hb1 hn1
 obtain ⟨⟨Z0, C0, kf0⟩,⟨Z1, C1, kf1⟩, _⟩ := hJ.2
 go_wp2_with fail
 refine (P.out _).mono ?_
 rintro e w2 ⟨A2, n2, c2, rfl, hb2, hn2⟩
 have HN1 := Lib.hid (HN.out.below hb2)
 have HN2 := Lib.hid hn2
 replace hJ := hJ.next hb2
 clear hb2 hn2 Z0 C0 kf0 Z1 C1 kf1 HN
 obtain ⟨⟨Z0, C0, kf0⟩,⟨Z1, C1, kf1⟩, _⟩ := hJ.2
 go_wp2_with fail
 refine (N.out _ _ _ HN2.out HN1.out).mono ?_
 rintro e w3 ⟨A6, n6, c6, rfl, hb3, hn3, hi3⟩
 have HI := Lib.hid (show HiA w.heap.size A6 from hi3.less hJ.1.size)
 clear hi3
 have HN3 := Lib.hid hn3
 replace hJ := hJ.next hb3
 clear hb3 hn3 Z0 C0 kf0 Z1 C1 kf1 HN1 HN2
 obtain ⟨⟨Z0, C0, kf0⟩,⟨Z1, C1, kf1⟩, _⟩ := hJ.2
 go_wp2_with fail
 refine (M.out _ _ _ _ HN3.out).mono ?_
 rintro e w4 ⟨b6, rfl, hb4, hz6⟩
 replace hJ := hJ.next hb4
 clear hb4 Z0 C0 kf0 Z1 C1 kf1 HN3
 obtain ⟨⟨Z0, C0, kf0⟩,⟨Z1, C1, kf1⟩, _⟩ := hJ.2
 go_wp2_with fail
 obtain ⟨d0, d1⟩ := set2 (W := w4) (B := w.heap.size) (u0 := .bool b6) (u1 := .slice A6 n6 c6) C0 C1
 refine bodyPost_ret (v := .agg #[.bool b6, .slice A6 n6 c6]) (by simp [results, Tryz.results83, go_sem, d0, d1]) rfl ?_
 exact ⟨b6, A6, n6, c6, rfl, (hJ.1.setCell (p := ⟨w.heap.size, 0, none⟩) (by simp) _).setCell (p := ⟨w.heap.size, 1, none⟩) (by simp) _, hz6.set2 C0 C1 _ _, HI.out⟩
theorem intZB_any (z : Int) (h1 : -9223372036854775808 ≤ z) (h2 : z ≤ 9223372036854775807) (w : World) : Calls Tryz.prog 83 #[.int .i64 z] w (RetZB w z) := by
 by_cases g : z < 0
 ·exact int_negB z h1 g w
 ·obtain ⟨u, rfl⟩ := Int.eq_ofNat_of_zero_le (show 0 ≤ z by omega)
  exact int_posB u (by omega) w
theorem Num.off {W : World} {A : Option Addr} {n c x B i : Nat} (h : Num W (.slice A n c) x) (hi : ∀ ad, A = some ad → ad.block ≠ B) (u : Value) : Num (W.setCell ⟨B, i, none⟩ u) (.slice A n c) x := by
 obtain ⟨A', c', e, hc, hk⟩ := h
 cases e
 refine ⟨A, c, rfl, hc, fun k hl => ?_⟩
 obtain ⟨b, off, e1, e2, e3⟩ := hk k hl
 have hne := hi _ e1
 refine ⟨b, off, e1, by simpa [World.setCell] using e2, ?_⟩
 rw [World.cell?_setCell_other _ _ _ _ (fun hh => hne (by simpa using (congrArg Addr.block hh).symm))]
 exact e3
theorem NumZ.off {W : World} {b : Bool} {A : Option Addr} {n c B i : Nat} {z : Int} (h : NumZ W (.agg #[.bool b, .slice A n c]) z) (hi : ∀ ad, A = some ad → ad.block ≠ B) (u : Value) : NumZ (W.setCell ⟨B, i, none⟩ u) (.agg #[.bool b, .slice A n c]) z := by
 obtain ⟨s, e, k⟩ := h
 have e2 : s = .slice A n c := by
  injection e with e3
  simp at e3
  exact e3.2.symm
 subst e2
 exact ⟨_, e, k.off hi u⟩
end Go.Proofs.YtcfidimnbamnkaaGreat
/-
 Layer 11: what the document says that points come to (Fold). Conditions: those written at each fact.
-/
namespace Go.Proofs.YtcfidimnbamnkaaGreat.P11
open Go.RowKit Go.Shelf Go.Proofs.YtcfidimnbamnkaaGreat.P7
theorem minL_more {l : List Int} {y : Int} : (l = [] → minL (l ++ [y]) = y) ∧ (l ≠ [] → minL (l ++ [y]) = if y < minL l then y else minL l) := by
 refine ⟨fun h => by rw [h]; rfl, fun h => ?_⟩
 rw [minL_snoc h]
 split <;> omega
theorem maxL_more {l : List Int} {y : Int} : (l = [] → maxL (l ++ [y]) = y) ∧ (l ≠ [] → maxL (l ++ [y]) = if maxL l < y then y else maxL l) := by
 refine ⟨fun h => by rw [h]; rfl, fun h => ?_⟩
 rw [maxL_snoc h]
 split <;> omega
theorem fold_sum {l : List Int} (hl : l.length ≤ 300) (h : ∀ v ∈ l, backB v = true) : (sumL l).natAbs < 2 ^ 100 ∧ Fits (sumL l) := by
 have h3 := sumL_bound (l := l) (M := 2305844108725321728) (fun v hv => (backB_iff v).1 (h v hv))
 have h4 : (l.length : Int) * 2305844108725321728 ≤ 300 * 2305844108725321728 := Int.mul_le_mul_of_nonneg_right (by omega) (by omega)
 exact ⟨by omega, by unfold Fits; omega⟩
set_option maxRecDepth 100000 in
set_option maxHeartbeats 8000000 in
theorem refFold_walk (A : Option Addr) (N cA : Nat) (l : List Pn) (hN256 : N ≤ 256) (HNL : Hid (l.length = N)) (a b : Int) (F : Nat → List Int) (F0 : Hid (F 0 = [])) (FS : Hid (∀ k p, l[k]? = some p → F (k + 1) = if inP a b (p.t, p.v) then F k ++ [p.v] else F k)) (FB : Hid (∀ k, (F k).length ≤ 256 ∧ ∀ v ∈ F k, backB v = true)) (PB : Hid (∀ p ∈ l, backB p.v = true)) (w : World)
  (HK : Hid (∀ k p, l[k]? = some p → ∃ bb off, A = some ⟨bb, off, none⟩ ∧ bb < w.heap.size ∧ w.cell? ⟨bb, off + k * 2, none⟩ = some (.int .i64 p.t) ∧ w.cell? ⟨bb, off + k * 2 + 1, none⟩ = some (.int .i64 p.v))) :
  Calls Tryz.prog 32 #[.slice A N cA, .int .i64 a, .int .i64 b] w (fun e w' => ∃ c lo hi z0 z1, e = .returned (fiveV c lo hi z0 z1) ∧ Below w.heap.size w w' ∧ fiveV c lo hi z0 z1 = partL (F N)) := by
 have I0 := Lib.hid (fun W => intZB_any 0 (by omega) (by omega) W)
 have IZ := Lib.hid (show ∀ z, backB z = true → ∀ W, Calls Tryz.prog 83 #[.int .i64 z] W (RetZB W z) from fun z hz W => by
  have := (backB_iff z).1 hz
  exact intZB_any z (by omega) (by omega) W)
 have AD := Lib.hid (fun x y (hx : x.natAbs < 2 ^ 200) (hy : y.natAbs < 2 ^ 200) v v' W k k' => addZB_any x y (Nat.le_trans (sizeL_length 200 _ hx) (by omega)) (Nat.le_trans (sizeL_length 200 _ hy) (by omega)) v v' W k k')
 have WZ := Lib.hid (show ∀ z : Int, z.natAbs < 2 ^ 100 → Fits z → ∀ v W, NumZ W v z → Calls Tryz.prog 85 #[v] W (Ret W (.tuple #[wideV (rhi z) (rlo z), .bool true])) from fun z hz hf v W h => by
  have := wideZ_any z (Nat.le_trans (sizeL_length 200 _ (by omega)) (by omega)) v W h
  rwa [decide_eq_true hf] at this)
 have hK : Keeps w [(w.heap.size, 0, .int .i64 0), (w.heap.size, 1, .int .i64 0), (w.heap.size, 2, .int .i64 0), (w.heap.size, 3, .int .i64 0), (w.heap.size, 4, .int .u64 0), (w.heap.size + 1, 0, .int .i64 0), (w.heap.size + 1, 1, .int .i64 0), (w.heap.size + 1, 2, .int .i64 0), (w.heap.size + 1, 3, .int .i64 0), (w.heap.size + 1, 4, .int .u64 0)] ((w.alloc (.cells #[.int .i64 0, .int .i64 0, .int .i64 0, .int .i64 0, .int .u64 0] 59)).alloc (.cells #[.int .i64 0, .int .i64 0, .int .i64 0, .int .i64 0, .int .u64 0] 59)) := by
  refine ⟨by go_grown, ?_⟩
  simp [Cells, go_sem]
 go_enter Tryz.func32, Tryz.ntmps32
 go_wp2_with fail
 refine (I0.out _).mono ?_
 rintro e w1 ⟨bz, Az, nz, cz, rfl, hb, hz, hi⟩
 have hA : ∀ ad, Az = some ad → ad.block ≠ w.heap.size + 1 := fun ad e => by
  have := hi ad e
  simp at this
  omega
 replace hK := hK.next hb
 clear hb hi I0
 have hwg : w.heap.size + 1 < w1.heap.size := by obtain ⟨_, _, _, _, _, _, ⟨h1, _, _⟩, _⟩ := hK; exact h1
 have hM : Keeps w [(w1.heap.size, 0, .bool bz), (w1.heap.size, 1, .slice Az nz cz)] (w1.alloc (.cells #[.bool bz, .slice Az nz cz] 132)) := newK2 (hK.alloc _)
 replace hK := hM.app (hK.alloc (.cells #[.bool bz, .slice Az nz cz] 132))
 have HZ := Lib.hid (And.intro (hz.below (below_alloc w1 (.cells #[.bool bz, .slice Az nz cz] 132))) hA)
 clear hM hz hA
 go_wp2_with fail
 generalize w1.alloc (.cells #[.bool bz, .slice Az nz cz] 132) = wc at *
 generalize w1.heap.size = g at *
 have H0 : Hid ((0 : Int) = (F 0).length ∧ (0 : Int) = minL (F 0) ∧ (0 : Int) = maxL (F 0)) := Lib.hid (by rw [F0.out]; exact ⟨rfl, rfl, rfl⟩)
 have HZ0 : Hid (NumZ wc (.agg #[.bool bz, .slice Az nz cz]) (sumL (F 0)) ∧ ∀ ad, Az = some ad → ad.block ≠ w.heap.size + 1) := Lib.hid (by rw [F0.out]; exact HZ.out)
 go_loopw [9] (fun i wr => ∃ (k : Nat) (c lo hi : Int) (bz : Bool) (Az : Option Addr) (nz cz : Nat), i = .int .i64 k ∧ k ≤ N ∧ Hid (c = (F k).length ∧ lo = minL (F k) ∧ hi = maxL (F k)) ∧ Hid (NumZ wr (.agg #[.bool bz, .slice Az nz cz]) (sumL (F k)) ∧ ∀ ad, Az = some ad → ad.block ≠ w.heap.size + 1) ∧ Keeps w [(g, 0, .bool bz), (g, 1, .slice Az nz cz), (w.heap.size, 0, .int .i64 0), (w.heap.size, 1, .int .i64 0), (w.heap.size, 2, .int .i64 0), (w.heap.size, 3, .int .i64 0), (w.heap.size, 4, .int .u64 0), (w.heap.size + 1, 0, .int .i64 c), (w.heap.size + 1, 1, .int .i64 lo), (w.heap.size + 1, 2, .int .i64 hi), (w.heap.size + 1, 3, .int .i64 0), (w.heap.size + 1, 4, .int .u64 0)] wr) (fun i => fun _ => N - (intOf i).toNat)
 case atStart => exact ⟨0, 0, 0, 0, bz, Az, nz, cz, rfl, Nat.zero_le _, H0, HZ0, hK⟩
 case round =>
  clear hK HZ HZ0 H0
  obtain ⟨k, c, lo, hi, bz, Az, nz, cz, rfl, hkl, HF, HZ, hH⟩ := hrel
  by_cases hlt : k < N
  ·obtain ⟨p, hp⟩ : ∃ p, l[k]? = some p := ⟨_, List.getElem?_eq_getElem (by rw [HNL.out]; exact hlt)⟩
   obtain ⟨bb, off, rfl, hbw, hc1, hc2⟩ := HK.out k _ hp
   have c1 := (hH.1.cell (p := ⟨bb, off + k * 2, none⟩) hbw).trans hc1
   have P2 := Lib.hid hc2
   have j1 : (k : Int) < (N : Int) := by omega
   have j0 : (0 : Int) ≤ (k : Int) := by omega
   have wk := one_more hlt (by omega)
   have tl := Lib.hid (turn_less hlt)
   have FN := Lib.hid (FS.out k p hp)
   have PV := PB.out p (List.mem_of_getElem? hp)
   have hFk := FB.out k
   obtain ⟨pi, t, y⟩ := p
   simp only at PV c1 P2
   clear hc1 hc2 hp
   by_cases g1 : t < a
   ·have d1 : decide (t < a) = true := by simpa using g1
    have E : Hid (F (k + 1) = F k) := Lib.hid (by rw [FN.out]; unfold inP; simp; omega)
    clear FN PV hFk
    go_wp2_with fail
    go_roundw
    case rel => exact ⟨k + 1, c, lo, hi, bz, Az, nz, cz, by simp, hlt, by rw [E.out]; exact HF, by rw [E.out]; exact HZ, hH⟩
    case measure => exact tl.out
   have d1 : decide (t < a) = false := by simpa using g1
   by_cases g2 : b < t
   ·have d2 : decide (b < t) = true := by simpa using g2
    have E : Hid (F (k + 1) = F k) := Lib.hid (by rw [FN.out]; unfold inP; simp; omega)
    clear FN PV hFk
    go_wp2_with fail
    go_roundw
    case rel => exact ⟨k + 1, c, lo, hi, bz, Az, nz, cz, by simp, hlt, by rw [E.out]; exact HF, by rw [E.out]; exact HZ, hH⟩
    case measure => exact tl.out
   have d2 : decide (b < t) = false := by simpa using g2
   have E : Hid (F (k + 1) = F k ++ [y]) := Lib.hid (by rw [FN.out]; unfold inP; simp; omega)
   have IY := Lib.hid (IZ.out y PV)
   have hs1 := fold_sum (by have := hFk.1; omega) hFk.2
   have hy := (backB_iff y).1 PV
   have AX := Lib.hid (AD.out (sumL (F k)) y (by omega) (by omega))
   have ES : Hid (sumL (F (k + 1)) = sumL (F k) + y) := Lib.hid (by rw [E.out, sumL_app]; simp [sumL])
   have EC : Hid (((F (k + 1)).length : Int) = (F k).length + 1) := Lib.hid (by rw [E.out]; simp)
   have hcb : wrap64 (c + 1) = c + 1 := i64_keeps (by have := HF.out.1; omega) (by have := HF.out.1; have := hFk.1; omega)
   have hFk0 : c = 0 ↔ F k = [] := by
    have h1 := HF.out.1
    constructor
    ·intro h; exact List.eq_nil_of_length_eq_zero (by omega)
    ·intro h; rw [h1, h]; rfl
   clear FN PV hFk hs1 hy
   generalize sumL (F k) = sk at *
   by_cases gc : c = 0
   ·have EM : Hid (y = minL (F (k + 1)) ∧ y = maxL (F (k + 1))) := Lib.hid (by rw [E.out]; exact ⟨(minL_more.1 (hFk0.1 gc)).symm, (maxL_more.1 (hFk0.1 gc)).symm⟩)
    subst gc
    clear hFk0
    obtain ⟨hz, hA⟩ := HZ.out
    replace hz := hz.below (Below.refl _ _).drew
    go_upto_region 7 with (fail)
    refine region_keeps (w0 := w) (L := [(g, 0, .bool bz), (g, 1, .slice Az nz cz), (w.heap.size, 0, .int .i64 0), (w.heap.size, 1, .int .i64 0), (w.heap.size, 2, .int .i64 0), (w.heap.size, 3, .int .i64 0), (w.heap.size, 4, .int .u64 0), (w.heap.size + 1, 0, .int .i64 0), (w.heap.size + 1, 1, .int .i64 lo), (w.heap.size + 1, 2, .int .i64 hi), (w.heap.size + 1, 3, .int .i64 0), (w.heap.size + 1, 4, .int .u64 0)]) (by kernel_rfl) hH (fun hJ0 => ?_)
    refine tv 0 34 rfl rfl ?_
    try go_frame
    refine tk 1 35 rfl rfl ?_ ?_ ?_
    rotate_left
    ·intro wq hSw; have hq := hSw.2; repeat obtain ⟨⟨_,_,_⟩,hq⟩ := hq; have hp2 := (hSw.1.cell (p := ⟨bb, off + k * 2 + 1, none⟩) hbw).trans P2.out; go_simp; (try with_reducible rfl)
    try go_frame
    refine tv 2 36 rfl rfl ?_
    try go_frame
    refine tv 3 37 rfl rfl ?_
    try go_frame
    refine tu 4 38 rfl rfl ?_
    try go_frame
    refine tu 5 39 rfl rfl ?_
    try go_frame
    refine tu 6 40 rfl rfl ?_
    try go_frame
    refine tu 7 41 rfl rfl ?_
    try go_frame
    refine tu 8 42 rfl rfl ?_
    try go_frame
    refine tu 9 43 rfl rfl ?_
    try go_frame
    refine tu 10 44 rfl rfl ?_
    try go_frame
    refine tu 11 45 rfl rfl ?_
    try go_frame
    refine tv 12 46 rfl rfl ?_
    try go_frame
    refine wpAnyH_done (by kernel_rfl) ?_ _
    have hJ := hJ0
    obtain ⟨⟨Z0,C0,kf0⟩,⟨Z1,C1,kf1⟩,⟨Z2,C2,kf2⟩,⟨Z3,C3,kf3⟩,⟨Z4,C4,kf4⟩,⟨Z5,C5,kf5⟩,⟨Z6,C6,kf6⟩,⟨Z7,C7,kf7⟩,⟨Z8,C8,kf8⟩,⟨Z9,C9,kf9⟩,⟨Z10,C10,kf10⟩,⟨Z11,C11,kf11⟩,_⟩ := hJ.2
    all_goals
     obtain ⟨W7, hW7, hH7⟩ := keeps_named hJ
     rw [← hW7] at hz ⊢
     clear hW7 hJ hJ0 hH
     (try clear hJ0); (try clear hJ1); (try clear hJ2); (try clear hJ3); (try clear hJ4); (try clear hJ5); (try clear hJ6); (try clear hJ7); (try clear hJ8); (try clear hT0); (try clear Z0 C0 kf0); (try clear Z1 C1 kf1); (try clear Z2 C2 kf2); (try clear Z3 C3 kf3); (try clear Z4 C4 kf4); (try clear Z5 C5 kf5); (try clear Z6 C6 kf6); (try clear Z7 C7 kf7); (try clear Z8 C8 kf8); (try clear Z9 C9 kf9); (try clear Z10 C10 kf10); (try clear Z11 C11 kf11); (try clear t0z0 t0c0 t0f0); (try clear t0z1 t0c1 t0f1)
     (try clear Z0 C0 kf0); (try clear Z1 C1 kf1); (try clear Z2 C2 kf2); (try clear Z3 C3 kf3); (try clear Z4 C4 kf4); (try clear Z5 C5 kf5); (try clear Z6 C6 kf6); (try clear Z7 C7 kf7); (try clear Z8 C8 kf8); (try clear Z9 C9 kf9); (try clear Z10 C10 kf10); (try clear Z11 C11 kf11)
     obtain ⟨⟨Z0,C0,kf0⟩,⟨Z1,C1,kf1⟩,⟨Z2,C2,kf2⟩,⟨Z3,C3,kf3⟩,⟨Z4,C4,kf4⟩,⟨Z5,C5,kf5⟩,⟨Z6,C6,kf6⟩,⟨Z7,C7,kf7⟩,⟨Z8,C8,kf8⟩,⟨Z9,C9,kf9⟩,⟨Z10,C10,kf10⟩,⟨Z11,C11,kf11⟩,_⟩ := hH7.2
     have c2 := (hH7.1.cell (p := ⟨bb, off + k * 2 + 1, none⟩) hbw).trans P2.out
     have hH8 := kupd (M := [(g, 0, .bool bz), (g, 1, .slice Az nz cz), (w.heap.size, 0, .int .i64 0), (w.heap.size, 1, .int .i64 0), (w.heap.size, 2, .int .i64 0), (w.heap.size, 3, .int .i64 0), (w.heap.size, 4, .int .u64 0), (w.heap.size + 1, 0, .int .i64 0), (w.heap.size + 1, 1, .int .i64 y), (w.heap.size + 1, 2, .int .i64 hi), (w.heap.size + 1, 3, .int .i64 0), (w.heap.size + 1, 4, .int .u64 0)]) hH7 C8 (by omega) (.int .i64 y) (by first | (simp [updL]; done) | (simp [updL]; omega))
     replace hz := hz.off (i := 1) hA (.int .i64 y)
     go_upto_region 9 with (fail)
     generalize W7.setCell ⟨w.heap.size + 1, 1, none⟩ (.int .i64 y) = W8 at *
     clear hH7 c2
     (try clear hJ0); (try clear hJ1); (try clear hJ2); (try clear hJ3); (try clear hJ4); (try clear hJ5); (try clear hJ6); (try clear hJ7); (try clear hJ8); (try clear hT0); (try clear Z0 C0 kf0); (try clear Z1 C1 kf1); (try clear Z2 C2 kf2); (try clear Z3 C3 kf3); (try clear Z4 C4 kf4); (try clear Z5 C5 kf5); (try clear Z6 C6 kf6); (try clear Z7 C7 kf7); (try clear Z8 C8 kf8); (try clear Z9 C9 kf9); (try clear Z10 C10 kf10); (try clear Z11 C11 kf11); (try clear t0z0 t0c0 t0f0); (try clear t0z1 t0c1 t0f1)
     (try clear Z0 C0 kf0); (try clear Z1 C1 kf1); (try clear Z2 C2 kf2); (try clear Z3 C3 kf3); (try clear Z4 C4 kf4); (try clear Z5 C5 kf5); (try clear Z6 C6 kf6); (try clear Z7 C7 kf7); (try clear Z8 C8 kf8); (try clear Z9 C9 kf9); (try clear Z10 C10 kf10); (try clear Z11 C11 kf11)
     replace hz := hz.below (Below.refl _ _).drew
     refine region_keeps (w0 := w) (L := [(g, 0, .bool bz), (g, 1, .slice Az nz cz), (w.heap.size, 0, .int .i64 0), (w.heap.size, 1, .int .i64 0), (w.heap.size, 2, .int .i64 0), (w.heap.size, 3, .int .i64 0), (w.heap.size, 4, .int .u64 0), (w.heap.size + 1, 0, .int .i64 0), (w.heap.size + 1, 1, .int .i64 y), (w.heap.size + 1, 2, .int .i64 hi), (w.heap.size + 1, 3, .int .i64 0), (w.heap.size + 1, 4, .int .u64 0)]) (by kernel_rfl) hH8 (fun hJ0 => ?_)
     refine tv 0 53 rfl rfl ?_
     try go_frame
     refine tk 1 54 rfl rfl ?_ ?_ ?_
     rotate_left
     ·intro wq hSw; have hq := hSw.2; repeat obtain ⟨⟨_,_,_⟩,hq⟩ := hq; have hp2 := (hSw.1.cell (p := ⟨bb, off + k * 2 + 1, none⟩) hbw).trans P2.out; go_simp; (try with_reducible rfl)
     try go_frame
     refine tv 2 55 rfl rfl ?_
     try go_frame
     refine tv 3 56 rfl rfl ?_
     try go_frame
     refine tu 4 57 rfl rfl ?_
     try go_frame
     refine tu 5 58 rfl rfl ?_
     try go_frame
     refine tu 6 59 rfl rfl ?_
     try go_frame
     refine tu 7 60 rfl rfl ?_
     try go_frame
     refine tu 8 61 rfl rfl ?_
     try go_frame
     refine tu 9 62 rfl rfl ?_
     try go_frame
     refine tu 10 63 rfl rfl ?_
     try go_frame
     refine tu 11 64 rfl rfl ?_
     try go_frame
     refine tv 12 65 rfl rfl ?_
     try go_frame
     refine wpAnyH_done (by kernel_rfl) ?_ _
     have hJ := hJ0
     obtain ⟨⟨Z0,C0,kf0⟩,⟨Z1,C1,kf1⟩,⟨Z2,C2,kf2⟩,⟨Z3,C3,kf3⟩,⟨Z4,C4,kf4⟩,⟨Z5,C5,kf5⟩,⟨Z6,C6,kf6⟩,⟨Z7,C7,kf7⟩,⟨Z8,C8,kf8⟩,⟨Z9,C9,kf9⟩,⟨Z10,C10,kf10⟩,⟨Z11,C11,kf11⟩,_⟩ := hJ.2
     all_goals
      obtain ⟨W9, hW9, hH9⟩ := keeps_named hJ
      rw [← hW9] at hz ⊢
      clear hW9 hJ hJ0 hH8
      (try clear hJ0); (try clear hJ1); (try clear hJ2); (try clear hJ3); (try clear hJ4); (try clear hJ5); (try clear hJ6); (try clear hJ7); (try clear hJ8); (try clear hT0); (try clear Z0 C0 kf0); (try clear Z1 C1 kf1); (try clear Z2 C2 kf2); (try clear Z3 C3 kf3); (try clear Z4 C4 kf4); (try clear Z5 C5 kf5); (try clear Z6 C6 kf6); (try clear Z7 C7 kf7); (try clear Z8 C8 kf8); (try clear Z9 C9 kf9); (try clear Z10 C10 kf10); (try clear Z11 C11 kf11); (try clear t0z0 t0c0 t0f0); (try clear t0z1 t0c1 t0f1)
      (try clear Z0 C0 kf0); (try clear Z1 C1 kf1); (try clear Z2 C2 kf2); (try clear Z3 C3 kf3); (try clear Z4 C4 kf4); (try clear Z5 C5 kf5); (try clear Z6 C6 kf6); (try clear Z7 C7 kf7); (try clear Z8 C8 kf8); (try clear Z9 C9 kf9); (try clear Z10 C10 kf10); (try clear Z11 C11 kf11)
      obtain ⟨⟨Z0,C0,kf0⟩,⟨Z1,C1,kf1⟩,⟨Z2,C2,kf2⟩,⟨Z3,C3,kf3⟩,⟨Z4,C4,kf4⟩,⟨Z5,C5,kf5⟩,⟨Z6,C6,kf6⟩,⟨Z7,C7,kf7⟩,⟨Z8,C8,kf8⟩,⟨Z9,C9,kf9⟩,⟨Z10,C10,kf10⟩,⟨Z11,C11,kf11⟩,_⟩ := hH9.2
      have c2 := (hH9.1.cell (p := ⟨bb, off + k * 2 + 1, none⟩) hbw).trans P2.out
      have hH10 := kupd (M := [(g, 0, .bool bz), (g, 1, .slice Az nz cz), (w.heap.size, 0, .int .i64 0), (w.heap.size, 1, .int .i64 0), (w.heap.size, 2, .int .i64 0), (w.heap.size, 3, .int .i64 0), (w.heap.size, 4, .int .u64 0), (w.heap.size + 1, 0, .int .i64 0), (w.heap.size + 1, 1, .int .i64 y), (w.heap.size + 1, 2, .int .i64 y), (w.heap.size + 1, 3, .int .i64 0), (w.heap.size + 1, 4, .int .u64 0)]) hH9 C9 (by omega) (.int .i64 y) (by first | (simp [updL]; done) | (simp [updL]; omega))
      replace hz := hz.off (i := 2) hA (.int .i64 y)
      go_upto_region 11 with (fail)
      generalize W9.setCell ⟨w.heap.size + 1, 2, none⟩ (.int .i64 y) = W10 at *
      clear hH9 c2
      (try clear hJ0); (try clear hJ1); (try clear hJ2); (try clear hJ3); (try clear hJ4); (try clear hJ5); (try clear hJ6); (try clear hJ7); (try clear hJ8); (try clear hT0); (try clear Z0 C0 kf0); (try clear Z1 C1 kf1); (try clear Z2 C2 kf2); (try clear Z3 C3 kf3); (try clear Z4 C4 kf4); (try clear Z5 C5 kf5); (try clear Z6 C6 kf6); (try clear Z7 C7 kf7); (try clear Z8 C8 kf8); (try clear Z9 C9 kf9); (try clear Z10 C10 kf10); (try clear Z11 C11 kf11); (try clear t0z0 t0c0 t0f0); (try clear t0z1 t0c1 t0f1)
      (try clear Z0 C0 kf0); (try clear Z1 C1 kf1); (try clear Z2 C2 kf2); (try clear Z3 C3 kf3); (try clear Z4 C4 kf4); (try clear Z5 C5 kf5); (try clear Z6 C6 kf6); (try clear Z7 C7 kf7); (try clear Z8 C8 kf8); (try clear Z9 C9 kf9); (try clear Z10 C10 kf10); (try clear Z11 C11 kf11)
      obtain ⟨⟨Z0,C0,kf0⟩,⟨Z1,C1,kf1⟩,⟨Z2,C2,kf2⟩,⟨Z3,C3,kf3⟩,⟨Z4,C4,kf4⟩,⟨Z5,C5,kf5⟩,⟨Z6,C6,kf6⟩,⟨Z7,C7,kf7⟩,⟨Z8,C8,kf8⟩,⟨Z9,C9,kf9⟩,⟨Z10,C10,kf10⟩,⟨Z11,C11,kf11⟩,_⟩ := hH10.2
      have hH11 := kupd (M := [(g, 0, .bool bz), (g, 1, .slice Az nz cz), (w.heap.size, 0, .int .i64 0), (w.heap.size, 1, .int .i64 0), (w.heap.size, 2, .int .i64 0), (w.heap.size, 3, .int .i64 0), (w.heap.size, 4, .int .u64 0), (w.heap.size + 1, 0, .int .i64 (1)), (w.heap.size + 1, 1, .int .i64 y), (w.heap.size + 1, 2, .int .i64 y), (w.heap.size + 1, 3, .int .i64 0), (w.heap.size + 1, 4, .int .u64 0)]) hH10 C7 (by omega) (.int .i64 (1)) (by first | (simp [updL]; done) | (simp [updL]; omega))
      replace hz := hz.off (i := 0) hA (.int .i64 (1))
      go_upto_region 12 with (fail)
      generalize W10.setCell ⟨w.heap.size + 1, 0, none⟩ (.int .i64 (1)) = W11 at *
      clear hH10
      (try clear hJ0); (try clear hJ1); (try clear hJ2); (try clear hJ3); (try clear hJ4); (try clear hJ5); (try clear hJ6); (try clear hJ7); (try clear hJ8); (try clear hT0); (try clear Z0 C0 kf0); (try clear Z1 C1 kf1); (try clear Z2 C2 kf2); (try clear Z3 C3 kf3); (try clear Z4 C4 kf4); (try clear Z5 C5 kf5); (try clear Z6 C6 kf6); (try clear Z7 C7 kf7); (try clear Z8 C8 kf8); (try clear Z9 C9 kf9); (try clear Z10 C10 kf10); (try clear Z11 C11 kf11); (try clear t0z0 t0c0 t0f0); (try clear t0z1 t0c1 t0f1)
      (try clear Z0 C0 kf0); (try clear Z1 C1 kf1); (try clear Z2 C2 kf2); (try clear Z3 C3 kf3); (try clear Z4 C4 kf4); (try clear Z5 C5 kf5); (try clear Z6 C6 kf6); (try clear Z7 C7 kf7); (try clear Z8 C8 kf8); (try clear Z9 C9 kf9); (try clear Z10 C10 kf10); (try clear Z11 C11 kf11)
      have hKa : Keeps w [(w.heap.size, 0, .int .i64 0), (w.heap.size, 1, .int .i64 0), (w.heap.size, 2, .int .i64 0), (w.heap.size, 3, .int .i64 0), (w.heap.size, 4, .int .u64 0), (w.heap.size + 1, 0, .int .i64 (1)), (w.heap.size + 1, 1, .int .i64 y), (w.heap.size + 1, 2, .int .i64 y), (w.heap.size + 1, 3, .int .i64 0), (w.heap.size + 1, 4, .int .u64 0)] W11 := hH11.sub (by simp)
      have hKb : Keeps w [(g, 0, .bool bz), (g, 1, .slice Az nz cz)] W11 := hH11.sub (by simp)
      clear hH11
      refine region_keepsB (w0 := w) (L := [(w.heap.size, 0, .int .i64 0), (w.heap.size, 1, .int .i64 0), (w.heap.size, 2, .int .i64 0), (w.heap.size, 3, .int .i64 0), (w.heap.size, 4, .int .u64 0), (w.heap.size + 1, 0, .int .i64 (1)), (w.heap.size + 1, 1, .int .i64 y), (w.heap.size + 1, 2, .int .i64 y), (w.heap.size + 1, 3, .int .i64 0), (w.heap.size + 1, 4, .int .u64 0)]) (M := [(g, 0, .bool bz), (g, 1, .slice Az nz cz)]) (by kernel_rfl) hKa hKb (fun hJ0 hT0 => ?_)
      refine tv 1 77 rfl rfl ?_
      try go_frame
      refine tv 2 78 rfl rfl ?_
      try go_frame
      refine tv 3 79 rfl rfl ?_
      try go_frame
      refine tv 4 80 rfl rfl ?_
      try go_frame
      refine tk 5 81 rfl rfl ?_ ?_ ?_
      rotate_left
      ·intro wq hSw; have hq := hSw.2; repeat obtain ⟨⟨_,_,_⟩,hq⟩ := hq; have hp2 := (hSw.1.cell (p := ⟨bb, off + k * 2 + 1, none⟩) hbw).trans P2.out; go_simp; (try with_reducible rfl)
      try go_frame
      refine ty [0, 6] ?_
      refine AllReadyH.cons rfl (fun K hK => ?_) ?_
      obtain ⟨⟨Z0,C0,kf0⟩,⟨Z1,C1,kf1⟩,⟨Z2,C2,kf2⟩,⟨Z3,C3,kf3⟩,⟨Z4,C4,kf4⟩,⟨Z5,C5,kf5⟩,⟨Z6,C6,kf6⟩,⟨Z7,C7,kf7⟩,⟨Z8,C8,kf8⟩,⟨Z9,C9,kf9⟩,_⟩ := hJ0.2
      obtain ⟨⟨t0z0, t0c0, t0f0⟩,⟨t0z1, t0c1, t0f1⟩, _⟩ := hT0.2
      go_simp
      refine hK.out _ _ hJ0 (fun hJ1 => ?_)
      clear hK K; try clear hb
      try go_frame
      refine tw 6 rfl fun K hK => ?_
      go_simp
      ((with_reducible refine (IY.out _).mono ?_); rintro e v2 ⟨b2, A2, n2, c2, rfl, hb, z2, _⟩; have hz2 := hz.below (undrew hb))
      refine hK.out _ _ (hJ1.next hb) (fun hJ2 => ?_)
      replace hT0 := hT0.next hb
      clear hK K; try clear hb
      try go_frame
      refine tw 7 rfl fun K hK => ?_
      go_simp
      ((with_reducible refine (AX.out _ _ _ hz2 z2).mono ?_); rintro e v3 ⟨b3, A3, n3, c3, rfl, hb, z3, hi3⟩; have hA3 : ∀ ad, A3 = some ad → ad.block ≠ w.heap.size + 1 := fun ad e => by have h8 := hi3 ad e; have h9 : w.heap.size + 1 < v2.heap.size := (by first | exact hJ1.2.2.2.2.2.2.1.1 | exact hJ2.2.2.2.2.2.2.1.1 | exact hJ3.2.2.2.2.2.2.1.1 | exact hJ4.2.2.2.2.2.2.1.1 | exact hJ5.2.2.2.2.2.2.1.1 | exact hJ6.2.2.2.2.2.2.1.1 | exact hJ7.2.2.2.2.2.2.1.1 | exact hJ8.2.2.2.2.2.2.1.1); omega)
      refine hK.out _ _ (hJ2.next hb) (fun hJ3 => ?_)
      replace hT0 := hT0.next hb
      clear hK K; try clear hb
      try go_frame
      refine tw 8 rfl fun K hK => ?_
      obtain ⟨⟨t0z0, t0c0, t0f0⟩,⟨t0z1, t0c1, t0f1⟩, _⟩ := hT0.2; (try simp at t0z0); (try simp at t0c0); (try simp at t0f0); (try simp at t0z1); (try simp at t0c1); (try simp at t0f1)
      go_simp
      refine hK.out _ _ (by first | exact hJ3.alloc _ | (repeat (first | (with_reducible exact hJ3) | (with_reducible exact (Keeps.undrewR hJ3)) | (refine Keeps.set ?_ (by simp <;> omega) (by simp <;> omega) _) | (with_reducible refine Keeps.drew ?_)))) (fun hJ4 => ?_)
      clear hK K; try clear hb
      try go_frame
      refine wpAnyH_done (by kernel_rfl) ?_ _
      have hJ := hJ4
      obtain ⟨⟨Z0,C0,kf0⟩,⟨Z1,C1,kf1⟩,⟨Z2,C2,kf2⟩,⟨Z3,C3,kf3⟩,⟨Z4,C4,kf4⟩,⟨Z5,C5,kf5⟩,⟨Z6,C6,kf6⟩,⟨Z7,C7,kf7⟩,⟨Z8,C8,kf8⟩,⟨Z9,C9,kf9⟩,_⟩ := hJ.2
      rotate_left 1
      refine AllReadyH.cons rfl (fun K hK => ?_) ?_
      go_simp
      ((with_reducible refine (IY.out _).mono ?_); rintro e v2 ⟨b2, A2, n2, c2, rfl, hb, z2, _⟩; have hz2 := hz.below (undrew hb))
      refine hK.out _ _ (hJ0.next hb) (fun hJ5 => ?_)
      replace hT0 := hT0.next hb
      clear hK K; try clear hb
      try go_frame
      refine tw 0 rfl fun K hK => ?_
      obtain ⟨⟨Z0,C0,kf0⟩,⟨Z1,C1,kf1⟩,⟨Z2,C2,kf2⟩,⟨Z3,C3,kf3⟩,⟨Z4,C4,kf4⟩,⟨Z5,C5,kf5⟩,⟨Z6,C6,kf6⟩,⟨Z7,C7,kf7⟩,⟨Z8,C8,kf8⟩,⟨Z9,C9,kf9⟩,_⟩ := hJ5.2
      obtain ⟨⟨t0z0, t0c0, t0f0⟩,⟨t0z1, t0c1, t0f1⟩, _⟩ := hT0.2
      go_simp
      refine hK.out _ _ hJ5 (fun hJ6 => ?_)
      clear hK K; try clear hb
      try go_frame
      refine tw 7 rfl fun K hK => ?_
      go_simp
      ((with_reducible refine (AX.out _ _ _ hz2 z2).mono ?_); rintro e v3 ⟨b3, A3, n3, c3, rfl, hb, z3, hi3⟩; have hA3 : ∀ ad, A3 = some ad → ad.block ≠ w.heap.size + 1 := fun ad e => by have h8 := hi3 ad e; have h9 : w.heap.size + 1 < v2.heap.size := (by first | exact hJ1.2.2.2.2.2.2.1.1 | exact hJ2.2.2.2.2.2.2.1.1 | exact hJ3.2.2.2.2.2.2.1.1 | exact hJ4.2.2.2.2.2.2.1.1 | exact hJ5.2.2.2.2.2.2.1.1 | exact hJ6.2.2.2.2.2.2.1.1 | exact hJ7.2.2.2.2.2.2.1.1 | exact hJ8.2.2.2.2.2.2.1.1); omega)
      refine hK.out _ _ (hJ6.next hb) (fun hJ7 => ?_)
      replace hT0 := hT0.next hb
      clear hK K; try clear hb
      try go_frame
      refine tw 8 rfl fun K hK => ?_
      obtain ⟨⟨t0z0, t0c0, t0f0⟩,⟨t0z1, t0c1, t0f1⟩, _⟩ := hT0.2; (try simp at t0z0); (try simp at t0c0); (try simp at t0f0); (try simp at t0z1); (try simp at t0c1); (try simp at t0f1)
      go_simp
      refine hK.out _ _ (by first | exact hJ7.alloc _ | (repeat (first | (with_reducible exact hJ7) | (with_reducible exact (Keeps.undrewR hJ7)) | (refine Keeps.set ?_ (by simp <;> omega) (by simp <;> omega) _) | (with_reducible refine Keeps.drew ?_)))) (fun hJ8 => ?_)
      clear hK K; try clear hb
      try go_frame
      refine wpAnyH_done (by kernel_rfl) ?_ _
      have hJ := hJ8
      obtain ⟨⟨Z0,C0,kf0⟩,⟨Z1,C1,kf1⟩,⟨Z2,C2,kf2⟩,⟨Z3,C3,kf3⟩,⟨Z4,C4,kf4⟩,⟨Z5,C5,kf5⟩,⟨Z6,C6,kf6⟩,⟨Z7,C7,kf7⟩,⟨Z8,C8,kf8⟩,⟨Z9,C9,kf9⟩,_⟩ := hJ.2
      rotate_left 1
      exact AllReadyH.nil
      all_goals
       have hN := hJ.add2 (u0 := .bool b3) (u1 := .slice A3 n3 c3) t0z0 t0c0 t0f0 t0c1 t0f1
       have HZs : Hid (NumZ _ (.agg #[.bool b3, .slice A3 n3 c3]) (sumL (F (k + 1))) ∧ ∀ ad, A3 = some ad → ad.block ≠ w.heap.size + 1) := Lib.hid ⟨by rw [ES.out]; exact z3.set2 t0c0 t0c1 (.bool b3) (.slice A3 n3 c3), hA3⟩
       have HF5 : Hid ((1 : Int) = (F (k + 1)).length ∧ y = minL (F (k + 1)) ∧ y = maxL (F (k + 1))) := Lib.hid ⟨by have h1 := EC.out; have h2 := HF.out.1; omega, EM.out⟩
       generalize hG : World.setCell (World.setCell v3 ⟨g, 0, none⟩ (.bool b3)) ⟨g, 1, none⟩ (.slice A3 n3 c3) = v5 at *
       clear hG z2 hz2 z3 hJ hKa hKb AX IY HZ hA hA3 HF EM ES EC
       go_wp2_with fail
       go_roundw
       case rel => exact ⟨k + 1, _, _, _, b3, A3, n3, c3, by simp, hlt, HF5, HZs, hN.sub (by simp)⟩
       case measure => exact tl.out
   have gcb : (c == 0) = false := by simpa using gc
   have EM0 := Lib.hid (show minL (F (k + 1)) = (if y < lo then y else lo) ∧ maxL (F (k + 1)) = (if hi < y then y else hi) by
    have hne : F k ≠ [] := fun h => gc (hFk0.2 h)
    rw [E.out, minL_more.2 hne, maxL_more.2 hne, ← HF.out.2.1, ← HF.out.2.2]
    exact ⟨rfl, rfl⟩)
   clear hFk0
   by_cases gl : y < lo
   ·by_cases gh : hi < y
    ·have EM : Hid (y = minL (F (k + 1)) ∧ y = maxL (F (k + 1))) := Lib.hid (by have := EM0.out; rw [if_pos gl, if_pos gh] at this; exact ⟨this.1.symm, this.2.symm⟩)
     clear EM0
     obtain ⟨hz, hA⟩ := HZ.out
     replace hz := hz.below (Below.refl _ _).drew
     go_upto_region 7 with (fail)
     refine region_keeps (w0 := w) (L := [(g, 0, .bool bz), (g, 1, .slice Az nz cz), (w.heap.size, 0, .int .i64 0), (w.heap.size, 1, .int .i64 0), (w.heap.size, 2, .int .i64 0), (w.heap.size, 3, .int .i64 0), (w.heap.size, 4, .int .u64 0), (w.heap.size + 1, 0, .int .i64 c), (w.heap.size + 1, 1, .int .i64 lo), (w.heap.size + 1, 2, .int .i64 hi), (w.heap.size + 1, 3, .int .i64 0), (w.heap.size + 1, 4, .int .u64 0)]) (by kernel_rfl) hH (fun hJ0 => ?_)
     refine tv 0 34 rfl rfl ?_
     try go_frame
     refine tk 1 35 rfl rfl ?_ ?_ ?_
     rotate_left
     ·intro wq hSw; have hq := hSw.2; repeat obtain ⟨⟨_,_,_⟩,hq⟩ := hq; have hp2 := (hSw.1.cell (p := ⟨bb, off + k * 2 + 1, none⟩) hbw).trans P2.out; go_simp; (try with_reducible rfl)
     try go_frame
     refine tv 2 36 rfl rfl ?_
     try go_frame
     refine tv 3 37 rfl rfl ?_
     try go_frame
     refine tv 4 38 rfl rfl ?_
     try go_frame
     refine tv 5 39 rfl rfl ?_
     try go_frame
     refine tv 6 40 rfl rfl ?_
     try go_frame
     refine tv 7 41 rfl rfl ?_
     try go_frame
     refine tk 8 42 rfl rfl ?_ ?_ ?_
     rotate_left
     ·intro wq hSw; have hq := hSw.2; repeat obtain ⟨⟨_,_,_⟩,hq⟩ := hq; have hp2 := (hSw.1.cell (p := ⟨bb, off + k * 2 + 1, none⟩) hbw).trans P2.out; go_simp; (try with_reducible rfl)
     try go_frame
     refine tv 9 43 rfl rfl ?_
     try go_frame
     refine tk 10 44 rfl rfl ?_ ?_ ?_
     rotate_left
     ·intro wq hSw; have hq := hSw.2; repeat obtain ⟨⟨_,_,_⟩,hq⟩ := hq; have hp2 := (hSw.1.cell (p := ⟨bb, off + k * 2 + 1, none⟩) hbw).trans P2.out; go_simp; (try with_reducible rfl)
     try go_frame
     refine tv 11 45 rfl rfl ?_
     try go_frame
     refine tv 12 46 rfl rfl ?_
     try go_frame
     refine wpAnyH_done (by kernel_rfl) ?_ _
     have hJ := hJ0
     obtain ⟨⟨Z0,C0,kf0⟩,⟨Z1,C1,kf1⟩,⟨Z2,C2,kf2⟩,⟨Z3,C3,kf3⟩,⟨Z4,C4,kf4⟩,⟨Z5,C5,kf5⟩,⟨Z6,C6,kf6⟩,⟨Z7,C7,kf7⟩,⟨Z8,C8,kf8⟩,⟨Z9,C9,kf9⟩,⟨Z10,C10,kf10⟩,⟨Z11,C11,kf11⟩,_⟩ := hJ.2
     all_goals
      obtain ⟨W7, hW7, hH7⟩ := keeps_named hJ
      rw [← hW7] at hz ⊢
      clear hW7 hJ hJ0 hH
      (try clear hJ0); (try clear hJ1); (try clear hJ2); (try clear hJ3); (try clear hJ4); (try clear hJ5); (try clear hJ6); (try clear hJ7); (try clear hJ8); (try clear hT0); (try clear Z0 C0 kf0); (try clear Z1 C1 kf1); (try clear Z2 C2 kf2); (try clear Z3 C3 kf3); (try clear Z4 C4 kf4); (try clear Z5 C5 kf5); (try clear Z6 C6 kf6); (try clear Z7 C7 kf7); (try clear Z8 C8 kf8); (try clear Z9 C9 kf9); (try clear Z10 C10 kf10); (try clear Z11 C11 kf11); (try clear t0z0 t0c0 t0f0); (try clear t0z1 t0c1 t0f1)
      (try clear Z0 C0 kf0); (try clear Z1 C1 kf1); (try clear Z2 C2 kf2); (try clear Z3 C3 kf3); (try clear Z4 C4 kf4); (try clear Z5 C5 kf5); (try clear Z6 C6 kf6); (try clear Z7 C7 kf7); (try clear Z8 C8 kf8); (try clear Z9 C9 kf9); (try clear Z10 C10 kf10); (try clear Z11 C11 kf11)
      obtain ⟨⟨Z0,C0,kf0⟩,⟨Z1,C1,kf1⟩,⟨Z2,C2,kf2⟩,⟨Z3,C3,kf3⟩,⟨Z4,C4,kf4⟩,⟨Z5,C5,kf5⟩,⟨Z6,C6,kf6⟩,⟨Z7,C7,kf7⟩,⟨Z8,C8,kf8⟩,⟨Z9,C9,kf9⟩,⟨Z10,C10,kf10⟩,⟨Z11,C11,kf11⟩,_⟩ := hH7.2
      have c2 := (hH7.1.cell (p := ⟨bb, off + k * 2 + 1, none⟩) hbw).trans P2.out
      have hH8 := kupd (M := [(g, 0, .bool bz), (g, 1, .slice Az nz cz), (w.heap.size, 0, .int .i64 0), (w.heap.size, 1, .int .i64 0), (w.heap.size, 2, .int .i64 0), (w.heap.size, 3, .int .i64 0), (w.heap.size, 4, .int .u64 0), (w.heap.size + 1, 0, .int .i64 c), (w.heap.size + 1, 1, .int .i64 y), (w.heap.size + 1, 2, .int .i64 hi), (w.heap.size + 1, 3, .int .i64 0), (w.heap.size + 1, 4, .int .u64 0)]) hH7 C8 (by omega) (.int .i64 y) (by first | (simp [updL]; done) | (simp [updL]; omega))
      replace hz := hz.off (i := 1) hA (.int .i64 y)
      go_upto_region 9 with (fail)
      generalize W7.setCell ⟨w.heap.size + 1, 1, none⟩ (.int .i64 y) = W8 at *
      clear hH7 c2
      (try clear hJ0); (try clear hJ1); (try clear hJ2); (try clear hJ3); (try clear hJ4); (try clear hJ5); (try clear hJ6); (try clear hJ7); (try clear hJ8); (try clear hT0); (try clear Z0 C0 kf0); (try clear Z1 C1 kf1); (try clear Z2 C2 kf2); (try clear Z3 C3 kf3); (try clear Z4 C4 kf4); (try clear Z5 C5 kf5); (try clear Z6 C6 kf6); (try clear Z7 C7 kf7); (try clear Z8 C8 kf8); (try clear Z9 C9 kf9); (try clear Z10 C10 kf10); (try clear Z11 C11 kf11); (try clear t0z0 t0c0 t0f0); (try clear t0z1 t0c1 t0f1)
      (try clear Z0 C0 kf0); (try clear Z1 C1 kf1); (try clear Z2 C2 kf2); (try clear Z3 C3 kf3); (try clear Z4 C4 kf4); (try clear Z5 C5 kf5); (try clear Z6 C6 kf6); (try clear Z7 C7 kf7); (try clear Z8 C8 kf8); (try clear Z9 C9 kf9); (try clear Z10 C10 kf10); (try clear Z11 C11 kf11)
      replace hz := hz.below (Below.refl _ _).drew
      refine region_keeps (w0 := w) (L := [(g, 0, .bool bz), (g, 1, .slice Az nz cz), (w.heap.size, 0, .int .i64 0), (w.heap.size, 1, .int .i64 0), (w.heap.size, 2, .int .i64 0), (w.heap.size, 3, .int .i64 0), (w.heap.size, 4, .int .u64 0), (w.heap.size + 1, 0, .int .i64 c), (w.heap.size + 1, 1, .int .i64 y), (w.heap.size + 1, 2, .int .i64 hi), (w.heap.size + 1, 3, .int .i64 0), (w.heap.size + 1, 4, .int .u64 0)]) (by kernel_rfl) hH8 (fun hJ0 => ?_)
      refine tv 0 53 rfl rfl ?_
      try go_frame
      refine tk 1 54 rfl rfl ?_ ?_ ?_
      rotate_left
      ·intro wq hSw; have hq := hSw.2; repeat obtain ⟨⟨_,_,_⟩,hq⟩ := hq; have hp2 := (hSw.1.cell (p := ⟨bb, off + k * 2 + 1, none⟩) hbw).trans P2.out; go_simp; (try with_reducible rfl)
      try go_frame
      refine tv 2 55 rfl rfl ?_
      try go_frame
      refine tv 3 56 rfl rfl ?_
      try go_frame
      refine tv 4 57 rfl rfl ?_
      try go_frame
      refine tv 5 58 rfl rfl ?_
      try go_frame
      refine tv 6 59 rfl rfl ?_
      try go_frame
      refine tv 7 60 rfl rfl ?_
      try go_frame
      refine tk 8 61 rfl rfl ?_ ?_ ?_
      rotate_left
      ·intro wq hSw; have hq := hSw.2; repeat obtain ⟨⟨_,_,_⟩,hq⟩ := hq; have hp2 := (hSw.1.cell (p := ⟨bb, off + k * 2 + 1, none⟩) hbw).trans P2.out; go_simp; (try with_reducible rfl)
      try go_frame
      refine tv 9 62 rfl rfl ?_
      try go_frame
      refine tk 10 63 rfl rfl ?_ ?_ ?_
      rotate_left
      ·intro wq hSw; have hq := hSw.2; repeat obtain ⟨⟨_,_,_⟩,hq⟩ := hq; have hp2 := (hSw.1.cell (p := ⟨bb, off + k * 2 + 1, none⟩) hbw).trans P2.out; go_simp; (try with_reducible rfl)
      try go_frame
      refine tv 11 64 rfl rfl ?_
      try go_frame
      refine tv 12 65 rfl rfl ?_
      try go_frame
      refine wpAnyH_done (by kernel_rfl) ?_ _
      have hJ := hJ0
      obtain ⟨⟨Z0,C0,kf0⟩,⟨Z1,C1,kf1⟩,⟨Z2,C2,kf2⟩,⟨Z3,C3,kf3⟩,⟨Z4,C4,kf4⟩,⟨Z5,C5,kf5⟩,⟨Z6,C6,kf6⟩,⟨Z7,C7,kf7⟩,⟨Z8,C8,kf8⟩,⟨Z9,C9,kf9⟩,⟨Z10,C10,kf10⟩,⟨Z11,C11,kf11⟩,_⟩ := hJ.2
      all_goals
       obtain ⟨W9, hW9, hH9⟩ := keeps_named hJ
       rw [← hW9] at hz ⊢
       clear hW9 hJ hJ0 hH8
       (try clear hJ0); (try clear hJ1); (try clear hJ2); (try clear hJ3); (try clear hJ4); (try clear hJ5); (try clear hJ6); (try clear hJ7); (try clear hJ8); (try clear hT0); (try clear Z0 C0 kf0); (try clear Z1 C1 kf1); (try clear Z2 C2 kf2); (try clear Z3 C3 kf3); (try clear Z4 C4 kf4); (try clear Z5 C5 kf5); (try clear Z6 C6 kf6); (try clear Z7 C7 kf7); (try clear Z8 C8 kf8); (try clear Z9 C9 kf9); (try clear Z10 C10 kf10); (try clear Z11 C11 kf11); (try clear t0z0 t0c0 t0f0); (try clear t0z1 t0c1 t0f1)
       (try clear Z0 C0 kf0); (try clear Z1 C1 kf1); (try clear Z2 C2 kf2); (try clear Z3 C3 kf3); (try clear Z4 C4 kf4); (try clear Z5 C5 kf5); (try clear Z6 C6 kf6); (try clear Z7 C7 kf7); (try clear Z8 C8 kf8); (try clear Z9 C9 kf9); (try clear Z10 C10 kf10); (try clear Z11 C11 kf11)
       obtain ⟨⟨Z0,C0,kf0⟩,⟨Z1,C1,kf1⟩,⟨Z2,C2,kf2⟩,⟨Z3,C3,kf3⟩,⟨Z4,C4,kf4⟩,⟨Z5,C5,kf5⟩,⟨Z6,C6,kf6⟩,⟨Z7,C7,kf7⟩,⟨Z8,C8,kf8⟩,⟨Z9,C9,kf9⟩,⟨Z10,C10,kf10⟩,⟨Z11,C11,kf11⟩,_⟩ := hH9.2
       have c2 := (hH9.1.cell (p := ⟨bb, off + k * 2 + 1, none⟩) hbw).trans P2.out
       have hH10 := kupd (M := [(g, 0, .bool bz), (g, 1, .slice Az nz cz), (w.heap.size, 0, .int .i64 0), (w.heap.size, 1, .int .i64 0), (w.heap.size, 2, .int .i64 0), (w.heap.size, 3, .int .i64 0), (w.heap.size, 4, .int .u64 0), (w.heap.size + 1, 0, .int .i64 c), (w.heap.size + 1, 1, .int .i64 y), (w.heap.size + 1, 2, .int .i64 y), (w.heap.size + 1, 3, .int .i64 0), (w.heap.size + 1, 4, .int .u64 0)]) hH9 C9 (by omega) (.int .i64 y) (by first | (simp [updL]; done) | (simp [updL]; omega))
       replace hz := hz.off (i := 2) hA (.int .i64 y)
       go_upto_region 11 with (fail)
       generalize W9.setCell ⟨w.heap.size + 1, 2, none⟩ (.int .i64 y) = W10 at *
       clear hH9 c2
       (try clear hJ0); (try clear hJ1); (try clear hJ2); (try clear hJ3); (try clear hJ4); (try clear hJ5); (try clear hJ6); (try clear hJ7); (try clear hJ8); (try clear hT0); (try clear Z0 C0 kf0); (try clear Z1 C1 kf1); (try clear Z2 C2 kf2); (try clear Z3 C3 kf3); (try clear Z4 C4 kf4); (try clear Z5 C5 kf5); (try clear Z6 C6 kf6); (try clear Z7 C7 kf7); (try clear Z8 C8 kf8); (try clear Z9 C9 kf9); (try clear Z10 C10 kf10); (try clear Z11 C11 kf11); (try clear t0z0 t0c0 t0f0); (try clear t0z1 t0c1 t0f1)
       (try clear Z0 C0 kf0); (try clear Z1 C1 kf1); (try clear Z2 C2 kf2); (try clear Z3 C3 kf3); (try clear Z4 C4 kf4); (try clear Z5 C5 kf5); (try clear Z6 C6 kf6); (try clear Z7 C7 kf7); (try clear Z8 C8 kf8); (try clear Z9 C9 kf9); (try clear Z10 C10 kf10); (try clear Z11 C11 kf11)
       obtain ⟨⟨Z0,C0,kf0⟩,⟨Z1,C1,kf1⟩,⟨Z2,C2,kf2⟩,⟨Z3,C3,kf3⟩,⟨Z4,C4,kf4⟩,⟨Z5,C5,kf5⟩,⟨Z6,C6,kf6⟩,⟨Z7,C7,kf7⟩,⟨Z8,C8,kf8⟩,⟨Z9,C9,kf9⟩,⟨Z10,C10,kf10⟩,⟨Z11,C11,kf11⟩,_⟩ := hH10.2
       have hH11 := kupd (M := [(g, 0, .bool bz), (g, 1, .slice Az nz cz), (w.heap.size, 0, .int .i64 0), (w.heap.size, 1, .int .i64 0), (w.heap.size, 2, .int .i64 0), (w.heap.size, 3, .int .i64 0), (w.heap.size, 4, .int .u64 0), (w.heap.size + 1, 0, .int .i64 (c + 1)), (w.heap.size + 1, 1, .int .i64 y), (w.heap.size + 1, 2, .int .i64 y), (w.heap.size + 1, 3, .int .i64 0), (w.heap.size + 1, 4, .int .u64 0)]) hH10 C7 (by omega) (.int .i64 (c + 1)) (by first | (simp [updL]; done) | (simp [updL]; omega))
       replace hz := hz.off (i := 0) hA (.int .i64 (c + 1))
       go_upto_region 12 with (fail)
       generalize W10.setCell ⟨w.heap.size + 1, 0, none⟩ (.int .i64 (c + 1)) = W11 at *
       clear hH10
       (try clear hJ0); (try clear hJ1); (try clear hJ2); (try clear hJ3); (try clear hJ4); (try clear hJ5); (try clear hJ6); (try clear hJ7); (try clear hJ8); (try clear hT0); (try clear Z0 C0 kf0); (try clear Z1 C1 kf1); (try clear Z2 C2 kf2); (try clear Z3 C3 kf3); (try clear Z4 C4 kf4); (try clear Z5 C5 kf5); (try clear Z6 C6 kf6); (try clear Z7 C7 kf7); (try clear Z8 C8 kf8); (try clear Z9 C9 kf9); (try clear Z10 C10 kf10); (try clear Z11 C11 kf11); (try clear t0z0 t0c0 t0f0); (try clear t0z1 t0c1 t0f1)
       (try clear Z0 C0 kf0); (try clear Z1 C1 kf1); (try clear Z2 C2 kf2); (try clear Z3 C3 kf3); (try clear Z4 C4 kf4); (try clear Z5 C5 kf5); (try clear Z6 C6 kf6); (try clear Z7 C7 kf7); (try clear Z8 C8 kf8); (try clear Z9 C9 kf9); (try clear Z10 C10 kf10); (try clear Z11 C11 kf11)
       have hKa : Keeps w [(w.heap.size, 0, .int .i64 0), (w.heap.size, 1, .int .i64 0), (w.heap.size, 2, .int .i64 0), (w.heap.size, 3, .int .i64 0), (w.heap.size, 4, .int .u64 0), (w.heap.size + 1, 0, .int .i64 (c + 1)), (w.heap.size + 1, 1, .int .i64 y), (w.heap.size + 1, 2, .int .i64 y), (w.heap.size + 1, 3, .int .i64 0), (w.heap.size + 1, 4, .int .u64 0)] W11 := hH11.sub (by simp)
       have hKb : Keeps w [(g, 0, .bool bz), (g, 1, .slice Az nz cz)] W11 := hH11.sub (by simp)
       clear hH11
       refine region_keepsB (w0 := w) (L := [(w.heap.size, 0, .int .i64 0), (w.heap.size, 1, .int .i64 0), (w.heap.size, 2, .int .i64 0), (w.heap.size, 3, .int .i64 0), (w.heap.size, 4, .int .u64 0), (w.heap.size + 1, 0, .int .i64 (c + 1)), (w.heap.size + 1, 1, .int .i64 y), (w.heap.size + 1, 2, .int .i64 y), (w.heap.size + 1, 3, .int .i64 0), (w.heap.size + 1, 4, .int .u64 0)]) (M := [(g, 0, .bool bz), (g, 1, .slice Az nz cz)]) (by kernel_rfl) hKa hKb (fun hJ0 hT0 => ?_)
       refine tv 1 77 rfl rfl ?_
       try go_frame
       refine tv 2 78 rfl rfl ?_
       try go_frame
       refine tv 3 79 rfl rfl ?_
       try go_frame
       refine tv 4 80 rfl rfl ?_
       try go_frame
       refine tk 5 81 rfl rfl ?_ ?_ ?_
       rotate_left
       ·intro wq hSw; have hq := hSw.2; repeat obtain ⟨⟨_,_,_⟩,hq⟩ := hq; have hp2 := (hSw.1.cell (p := ⟨bb, off + k * 2 + 1, none⟩) hbw).trans P2.out; go_simp; (try with_reducible rfl)
       try go_frame
       refine ty [0, 6] ?_
       refine AllReadyH.cons rfl (fun K hK => ?_) ?_
       obtain ⟨⟨Z0,C0,kf0⟩,⟨Z1,C1,kf1⟩,⟨Z2,C2,kf2⟩,⟨Z3,C3,kf3⟩,⟨Z4,C4,kf4⟩,⟨Z5,C5,kf5⟩,⟨Z6,C6,kf6⟩,⟨Z7,C7,kf7⟩,⟨Z8,C8,kf8⟩,⟨Z9,C9,kf9⟩,_⟩ := hJ0.2
       obtain ⟨⟨t0z0, t0c0, t0f0⟩,⟨t0z1, t0c1, t0f1⟩, _⟩ := hT0.2
       go_simp
       refine hK.out _ _ hJ0 (fun hJ1 => ?_)
       clear hK K; try clear hb
       try go_frame
       refine tw 6 rfl fun K hK => ?_
       go_simp
       ((with_reducible refine (IY.out _).mono ?_); rintro e v2 ⟨b2, A2, n2, c2, rfl, hb, z2, _⟩; have hz2 := hz.below (undrew hb))
       refine hK.out _ _ (hJ1.next hb) (fun hJ2 => ?_)
       replace hT0 := hT0.next hb
       clear hK K; try clear hb
       try go_frame
       refine tw 7 rfl fun K hK => ?_
       go_simp
       ((with_reducible refine (AX.out _ _ _ hz2 z2).mono ?_); rintro e v3 ⟨b3, A3, n3, c3, rfl, hb, z3, hi3⟩; have hA3 : ∀ ad, A3 = some ad → ad.block ≠ w.heap.size + 1 := fun ad e => by have h8 := hi3 ad e; have h9 : w.heap.size + 1 < v2.heap.size := (by first | exact hJ1.2.2.2.2.2.2.1.1 | exact hJ2.2.2.2.2.2.2.1.1 | exact hJ3.2.2.2.2.2.2.1.1 | exact hJ4.2.2.2.2.2.2.1.1 | exact hJ5.2.2.2.2.2.2.1.1 | exact hJ6.2.2.2.2.2.2.1.1 | exact hJ7.2.2.2.2.2.2.1.1 | exact hJ8.2.2.2.2.2.2.1.1); omega)
       refine hK.out _ _ (hJ2.next hb) (fun hJ3 => ?_)
       replace hT0 := hT0.next hb
       clear hK K; try clear hb
       try go_frame
       refine tw 8 rfl fun K hK => ?_
       obtain ⟨⟨t0z0, t0c0, t0f0⟩,⟨t0z1, t0c1, t0f1⟩, _⟩ := hT0.2; (try simp at t0z0); (try simp at t0c0); (try simp at t0f0); (try simp at t0z1); (try simp at t0c1); (try simp at t0f1)
       go_simp
       refine hK.out _ _ (by first | exact hJ3.alloc _ | (repeat (first | (with_reducible exact hJ3) | (with_reducible exact (Keeps.undrewR hJ3)) | (refine Keeps.set ?_ (by simp <;> omega) (by simp <;> omega) _) | (with_reducible refine Keeps.drew ?_)))) (fun hJ4 => ?_)
       clear hK K; try clear hb
       try go_frame
       refine wpAnyH_done (by kernel_rfl) ?_ _
       have hJ := hJ4
       obtain ⟨⟨Z0,C0,kf0⟩,⟨Z1,C1,kf1⟩,⟨Z2,C2,kf2⟩,⟨Z3,C3,kf3⟩,⟨Z4,C4,kf4⟩,⟨Z5,C5,kf5⟩,⟨Z6,C6,kf6⟩,⟨Z7,C7,kf7⟩,⟨Z8,C8,kf8⟩,⟨Z9,C9,kf9⟩,_⟩ := hJ.2
       rotate_left 1
       refine AllReadyH.cons rfl (fun K hK => ?_) ?_
       go_simp
       ((with_reducible refine (IY.out _).mono ?_); rintro e v2 ⟨b2, A2, n2, c2, rfl, hb, z2, _⟩; have hz2 := hz.below (undrew hb))
       refine hK.out _ _ (hJ0.next hb) (fun hJ5 => ?_)
       replace hT0 := hT0.next hb
       clear hK K; try clear hb
       try go_frame
       refine tw 0 rfl fun K hK => ?_
       obtain ⟨⟨Z0,C0,kf0⟩,⟨Z1,C1,kf1⟩,⟨Z2,C2,kf2⟩,⟨Z3,C3,kf3⟩,⟨Z4,C4,kf4⟩,⟨Z5,C5,kf5⟩,⟨Z6,C6,kf6⟩,⟨Z7,C7,kf7⟩,⟨Z8,C8,kf8⟩,⟨Z9,C9,kf9⟩,_⟩ := hJ5.2
       obtain ⟨⟨t0z0, t0c0, t0f0⟩,⟨t0z1, t0c1, t0f1⟩, _⟩ := hT0.2
       go_simp
       refine hK.out _ _ hJ5 (fun hJ6 => ?_)
       clear hK K; try clear hb
       try go_frame
       refine tw 7 rfl fun K hK => ?_
       go_simp
       ((with_reducible refine (AX.out _ _ _ hz2 z2).mono ?_); rintro e v3 ⟨b3, A3, n3, c3, rfl, hb, z3, hi3⟩; have hA3 : ∀ ad, A3 = some ad → ad.block ≠ w.heap.size + 1 := fun ad e => by have h8 := hi3 ad e; have h9 : w.heap.size + 1 < v2.heap.size := (by first | exact hJ1.2.2.2.2.2.2.1.1 | exact hJ2.2.2.2.2.2.2.1.1 | exact hJ3.2.2.2.2.2.2.1.1 | exact hJ4.2.2.2.2.2.2.1.1 | exact hJ5.2.2.2.2.2.2.1.1 | exact hJ6.2.2.2.2.2.2.1.1 | exact hJ7.2.2.2.2.2.2.1.1 | exact hJ8.2.2.2.2.2.2.1.1); omega)
       refine hK.out _ _ (hJ6.next hb) (fun hJ7 => ?_)
       replace hT0 := hT0.next hb
       clear hK K; try clear hb
       try go_frame
       refine tw 8 rfl fun K hK => ?_
       obtain ⟨⟨t0z0, t0c0, t0f0⟩,⟨t0z1, t0c1, t0f1⟩, _⟩ := hT0.2; (try simp at t0z0); (try simp at t0c0); (try simp at t0f0); (try simp at t0z1); (try simp at t0c1); (try simp at t0f1)
       go_simp
       refine hK.out _ _ (by first | exact hJ7.alloc _ | (repeat (first | (with_reducible exact hJ7) | (with_reducible exact (Keeps.undrewR hJ7)) | (refine Keeps.set ?_ (by simp <;> omega) (by simp <;> omega) _) | (with_reducible refine Keeps.drew ?_)))) (fun hJ8 => ?_)
       clear hK K; try clear hb
       try go_frame
       refine wpAnyH_done (by kernel_rfl) ?_ _
       have hJ := hJ8
       obtain ⟨⟨Z0,C0,kf0⟩,⟨Z1,C1,kf1⟩,⟨Z2,C2,kf2⟩,⟨Z3,C3,kf3⟩,⟨Z4,C4,kf4⟩,⟨Z5,C5,kf5⟩,⟨Z6,C6,kf6⟩,⟨Z7,C7,kf7⟩,⟨Z8,C8,kf8⟩,⟨Z9,C9,kf9⟩,_⟩ := hJ.2
       rotate_left 1
       exact AllReadyH.nil
       all_goals
        have hN := hJ.add2 (u0 := .bool b3) (u1 := .slice A3 n3 c3) t0z0 t0c0 t0f0 t0c1 t0f1
        have HZs : Hid (NumZ _ (.agg #[.bool b3, .slice A3 n3 c3]) (sumL (F (k + 1))) ∧ ∀ ad, A3 = some ad → ad.block ≠ w.heap.size + 1) := Lib.hid ⟨by rw [ES.out]; exact z3.set2 t0c0 t0c1 (.bool b3) (.slice A3 n3 c3), hA3⟩
        have HF5 : Hid ((c + 1 : Int) = (F (k + 1)).length ∧ y = minL (F (k + 1)) ∧ y = maxL (F (k + 1))) := Lib.hid ⟨by have h1 := EC.out; have h2 := HF.out.1; omega, EM.out⟩
        generalize hG : World.setCell (World.setCell v3 ⟨g, 0, none⟩ (.bool b3)) ⟨g, 1, none⟩ (.slice A3 n3 c3) = v5 at *
        clear hG z2 hz2 z3 hJ hKa hKb AX IY HZ hA hA3 HF EM ES EC
        go_wp2_with fail
        go_roundw
        case rel => exact ⟨k + 1, _, _, _, b3, A3, n3, c3, by simp, hlt, HF5, HZs, hN.sub (by simp)⟩
        case measure => exact tl.out
    ·have EM : Hid (y = minL (F (k + 1)) ∧ hi = maxL (F (k + 1))) := Lib.hid (by have := EM0.out; rw [if_pos gl, if_neg gh] at this; exact ⟨this.1.symm, this.2.symm⟩)
     clear EM0
     obtain ⟨hz, hA⟩ := HZ.out
     replace hz := hz.below (Below.refl _ _).drew
     go_upto_region 7 with (fail)
     refine region_keeps (w0 := w) (L := [(g, 0, .bool bz), (g, 1, .slice Az nz cz), (w.heap.size, 0, .int .i64 0), (w.heap.size, 1, .int .i64 0), (w.heap.size, 2, .int .i64 0), (w.heap.size, 3, .int .i64 0), (w.heap.size, 4, .int .u64 0), (w.heap.size + 1, 0, .int .i64 c), (w.heap.size + 1, 1, .int .i64 lo), (w.heap.size + 1, 2, .int .i64 hi), (w.heap.size + 1, 3, .int .i64 0), (w.heap.size + 1, 4, .int .u64 0)]) (by kernel_rfl) hH (fun hJ0 => ?_)
     refine tv 0 34 rfl rfl ?_
     try go_frame
     refine tk 1 35 rfl rfl ?_ ?_ ?_
     rotate_left
     ·intro wq hSw; have hq := hSw.2; repeat obtain ⟨⟨_,_,_⟩,hq⟩ := hq; have hp2 := (hSw.1.cell (p := ⟨bb, off + k * 2 + 1, none⟩) hbw).trans P2.out; go_simp; (try with_reducible rfl)
     try go_frame
     refine tv 2 36 rfl rfl ?_
     try go_frame
     refine tv 3 37 rfl rfl ?_
     try go_frame
     refine tv 4 38 rfl rfl ?_
     try go_frame
     refine tv 5 39 rfl rfl ?_
     try go_frame
     refine tv 6 40 rfl rfl ?_
     try go_frame
     refine tv 7 41 rfl rfl ?_
     try go_frame
     refine tk 8 42 rfl rfl ?_ ?_ ?_
     rotate_left
     ·intro wq hSw; have hq := hSw.2; repeat obtain ⟨⟨_,_,_⟩,hq⟩ := hq; have hp2 := (hSw.1.cell (p := ⟨bb, off + k * 2 + 1, none⟩) hbw).trans P2.out; go_simp; (try with_reducible rfl)
     try go_frame
     refine tv 9 43 rfl rfl ?_
     try go_frame
     refine tk 10 44 rfl rfl ?_ ?_ ?_
     rotate_left
     ·intro wq hSw; have hq := hSw.2; repeat obtain ⟨⟨_,_,_⟩,hq⟩ := hq; have hp2 := (hSw.1.cell (p := ⟨bb, off + k * 2 + 1, none⟩) hbw).trans P2.out; go_simp; (try with_reducible rfl)
     try go_frame
     refine tv 11 45 rfl rfl ?_
     try go_frame
     refine tv 12 46 rfl rfl ?_
     try go_frame
     refine wpAnyH_done (by kernel_rfl) ?_ _
     have hJ := hJ0
     obtain ⟨⟨Z0,C0,kf0⟩,⟨Z1,C1,kf1⟩,⟨Z2,C2,kf2⟩,⟨Z3,C3,kf3⟩,⟨Z4,C4,kf4⟩,⟨Z5,C5,kf5⟩,⟨Z6,C6,kf6⟩,⟨Z7,C7,kf7⟩,⟨Z8,C8,kf8⟩,⟨Z9,C9,kf9⟩,⟨Z10,C10,kf10⟩,⟨Z11,C11,kf11⟩,_⟩ := hJ.2
     all_goals
      obtain ⟨W7, hW7, hH7⟩ := keeps_named hJ
      rw [← hW7] at hz ⊢
      clear hW7 hJ hJ0 hH
      (try clear hJ0); (try clear hJ1); (try clear hJ2); (try clear hJ3); (try clear hJ4); (try clear hJ5); (try clear hJ6); (try clear hJ7); (try clear hJ8); (try clear hT0); (try clear Z0 C0 kf0); (try clear Z1 C1 kf1); (try clear Z2 C2 kf2); (try clear Z3 C3 kf3); (try clear Z4 C4 kf4); (try clear Z5 C5 kf5); (try clear Z6 C6 kf6); (try clear Z7 C7 kf7); (try clear Z8 C8 kf8); (try clear Z9 C9 kf9); (try clear Z10 C10 kf10); (try clear Z11 C11 kf11); (try clear t0z0 t0c0 t0f0); (try clear t0z1 t0c1 t0f1)
      (try clear Z0 C0 kf0); (try clear Z1 C1 kf1); (try clear Z2 C2 kf2); (try clear Z3 C3 kf3); (try clear Z4 C4 kf4); (try clear Z5 C5 kf5); (try clear Z6 C6 kf6); (try clear Z7 C7 kf7); (try clear Z8 C8 kf8); (try clear Z9 C9 kf9); (try clear Z10 C10 kf10); (try clear Z11 C11 kf11)
      obtain ⟨⟨Z0,C0,kf0⟩,⟨Z1,C1,kf1⟩,⟨Z2,C2,kf2⟩,⟨Z3,C3,kf3⟩,⟨Z4,C4,kf4⟩,⟨Z5,C5,kf5⟩,⟨Z6,C6,kf6⟩,⟨Z7,C7,kf7⟩,⟨Z8,C8,kf8⟩,⟨Z9,C9,kf9⟩,⟨Z10,C10,kf10⟩,⟨Z11,C11,kf11⟩,_⟩ := hH7.2
      have c2 := (hH7.1.cell (p := ⟨bb, off + k * 2 + 1, none⟩) hbw).trans P2.out
      have hH8 := kupd (M := [(g, 0, .bool bz), (g, 1, .slice Az nz cz), (w.heap.size, 0, .int .i64 0), (w.heap.size, 1, .int .i64 0), (w.heap.size, 2, .int .i64 0), (w.heap.size, 3, .int .i64 0), (w.heap.size, 4, .int .u64 0), (w.heap.size + 1, 0, .int .i64 c), (w.heap.size + 1, 1, .int .i64 y), (w.heap.size + 1, 2, .int .i64 hi), (w.heap.size + 1, 3, .int .i64 0), (w.heap.size + 1, 4, .int .u64 0)]) hH7 C8 (by omega) (.int .i64 y) (by first | (simp [updL]; done) | (simp [updL]; omega))
      replace hz := hz.off (i := 1) hA (.int .i64 y)
      go_upto_region 9 with (fail)
      generalize W7.setCell ⟨w.heap.size + 1, 1, none⟩ (.int .i64 y) = W8 at *
      clear hH7 c2
      (try clear hJ0); (try clear hJ1); (try clear hJ2); (try clear hJ3); (try clear hJ4); (try clear hJ5); (try clear hJ6); (try clear hJ7); (try clear hJ8); (try clear hT0); (try clear Z0 C0 kf0); (try clear Z1 C1 kf1); (try clear Z2 C2 kf2); (try clear Z3 C3 kf3); (try clear Z4 C4 kf4); (try clear Z5 C5 kf5); (try clear Z6 C6 kf6); (try clear Z7 C7 kf7); (try clear Z8 C8 kf8); (try clear Z9 C9 kf9); (try clear Z10 C10 kf10); (try clear Z11 C11 kf11); (try clear t0z0 t0c0 t0f0); (try clear t0z1 t0c1 t0f1)
      (try clear Z0 C0 kf0); (try clear Z1 C1 kf1); (try clear Z2 C2 kf2); (try clear Z3 C3 kf3); (try clear Z4 C4 kf4); (try clear Z5 C5 kf5); (try clear Z6 C6 kf6); (try clear Z7 C7 kf7); (try clear Z8 C8 kf8); (try clear Z9 C9 kf9); (try clear Z10 C10 kf10); (try clear Z11 C11 kf11)
      replace hz := hz.below (Below.refl _ _).drew
      refine region_keeps (w0 := w) (L := [(g, 0, .bool bz), (g, 1, .slice Az nz cz), (w.heap.size, 0, .int .i64 0), (w.heap.size, 1, .int .i64 0), (w.heap.size, 2, .int .i64 0), (w.heap.size, 3, .int .i64 0), (w.heap.size, 4, .int .u64 0), (w.heap.size + 1, 0, .int .i64 c), (w.heap.size + 1, 1, .int .i64 y), (w.heap.size + 1, 2, .int .i64 hi), (w.heap.size + 1, 3, .int .i64 0), (w.heap.size + 1, 4, .int .u64 0)]) (by kernel_rfl) hH8 (fun hJ0 => ?_)
      refine tv 0 53 rfl rfl ?_
      try go_frame
      refine tk 1 54 rfl rfl ?_ ?_ ?_
      rotate_left
      ·intro wq hSw; have hq := hSw.2; repeat obtain ⟨⟨_,_,_⟩,hq⟩ := hq; have hp2 := (hSw.1.cell (p := ⟨bb, off + k * 2 + 1, none⟩) hbw).trans P2.out; go_simp; (try with_reducible rfl)
      try go_frame
      refine tv 2 55 rfl rfl ?_
      try go_frame
      refine tv 3 56 rfl rfl ?_
      try go_frame
      refine tv 4 57 rfl rfl ?_
      try go_frame
      refine tv 5 58 rfl rfl ?_
      try go_frame
      refine tv 6 59 rfl rfl ?_
      try go_frame
      refine tv 7 60 rfl rfl ?_
      try go_frame
      refine tk 8 61 rfl rfl ?_ ?_ ?_
      rotate_left
      ·intro wq hSw; have hq := hSw.2; repeat obtain ⟨⟨_,_,_⟩,hq⟩ := hq; have hp2 := (hSw.1.cell (p := ⟨bb, off + k * 2 + 1, none⟩) hbw).trans P2.out; go_simp; (try with_reducible rfl)
      try go_frame
      refine tv 9 62 rfl rfl ?_
      try go_frame
      refine tk 10 63 rfl rfl ?_ ?_ ?_
      rotate_left
      ·intro wq hSw; have hq := hSw.2; repeat obtain ⟨⟨_,_,_⟩,hq⟩ := hq; have hp2 := (hSw.1.cell (p := ⟨bb, off + k * 2 + 1, none⟩) hbw).trans P2.out; go_simp; (try with_reducible rfl)
      try go_frame
      refine tv 11 64 rfl rfl ?_
      try go_frame
      refine tv 12 65 rfl rfl ?_
      try go_frame
      refine wpAnyH_done (by kernel_rfl) ?_ _
      have hJ := hJ0
      obtain ⟨⟨Z0,C0,kf0⟩,⟨Z1,C1,kf1⟩,⟨Z2,C2,kf2⟩,⟨Z3,C3,kf3⟩,⟨Z4,C4,kf4⟩,⟨Z5,C5,kf5⟩,⟨Z6,C6,kf6⟩,⟨Z7,C7,kf7⟩,⟨Z8,C8,kf8⟩,⟨Z9,C9,kf9⟩,⟨Z10,C10,kf10⟩,⟨Z11,C11,kf11⟩,_⟩ := hJ.2
      all_goals
       obtain ⟨W9, hW9, hH9⟩ := keeps_named hJ
       rw [← hW9] at hz ⊢
       clear hW9 hJ hJ0 hH8
       (try clear hJ0); (try clear hJ1); (try clear hJ2); (try clear hJ3); (try clear hJ4); (try clear hJ5); (try clear hJ6); (try clear hJ7); (try clear hJ8); (try clear hT0); (try clear Z0 C0 kf0); (try clear Z1 C1 kf1); (try clear Z2 C2 kf2); (try clear Z3 C3 kf3); (try clear Z4 C4 kf4); (try clear Z5 C5 kf5); (try clear Z6 C6 kf6); (try clear Z7 C7 kf7); (try clear Z8 C8 kf8); (try clear Z9 C9 kf9); (try clear Z10 C10 kf10); (try clear Z11 C11 kf11); (try clear t0z0 t0c0 t0f0); (try clear t0z1 t0c1 t0f1)
       (try clear Z0 C0 kf0); (try clear Z1 C1 kf1); (try clear Z2 C2 kf2); (try clear Z3 C3 kf3); (try clear Z4 C4 kf4); (try clear Z5 C5 kf5); (try clear Z6 C6 kf6); (try clear Z7 C7 kf7); (try clear Z8 C8 kf8); (try clear Z9 C9 kf9); (try clear Z10 C10 kf10); (try clear Z11 C11 kf11)
       obtain ⟨⟨Z0,C0,kf0⟩,⟨Z1,C1,kf1⟩,⟨Z2,C2,kf2⟩,⟨Z3,C3,kf3⟩,⟨Z4,C4,kf4⟩,⟨Z5,C5,kf5⟩,⟨Z6,C6,kf6⟩,⟨Z7,C7,kf7⟩,⟨Z8,C8,kf8⟩,⟨Z9,C9,kf9⟩,⟨Z10,C10,kf10⟩,⟨Z11,C11,kf11⟩,_⟩ := hH9.2
       have c2 := (hH9.1.cell (p := ⟨bb, off + k * 2 + 1, none⟩) hbw).trans P2.out
       have hH10 := hH9
       go_upto_region 11 with (fail)
       clear hH9 c2
       (try clear hJ0); (try clear hJ1); (try clear hJ2); (try clear hJ3); (try clear hJ4); (try clear hJ5); (try clear hJ6); (try clear hJ7); (try clear hJ8); (try clear hT0); (try clear Z0 C0 kf0); (try clear Z1 C1 kf1); (try clear Z2 C2 kf2); (try clear Z3 C3 kf3); (try clear Z4 C4 kf4); (try clear Z5 C5 kf5); (try clear Z6 C6 kf6); (try clear Z7 C7 kf7); (try clear Z8 C8 kf8); (try clear Z9 C9 kf9); (try clear Z10 C10 kf10); (try clear Z11 C11 kf11); (try clear t0z0 t0c0 t0f0); (try clear t0z1 t0c1 t0f1)
       (try clear Z0 C0 kf0); (try clear Z1 C1 kf1); (try clear Z2 C2 kf2); (try clear Z3 C3 kf3); (try clear Z4 C4 kf4); (try clear Z5 C5 kf5); (try clear Z6 C6 kf6); (try clear Z7 C7 kf7); (try clear Z8 C8 kf8); (try clear Z9 C9 kf9); (try clear Z10 C10 kf10); (try clear Z11 C11 kf11)
       obtain ⟨⟨Z0,C0,kf0⟩,⟨Z1,C1,kf1⟩,⟨Z2,C2,kf2⟩,⟨Z3,C3,kf3⟩,⟨Z4,C4,kf4⟩,⟨Z5,C5,kf5⟩,⟨Z6,C6,kf6⟩,⟨Z7,C7,kf7⟩,⟨Z8,C8,kf8⟩,⟨Z9,C9,kf9⟩,⟨Z10,C10,kf10⟩,⟨Z11,C11,kf11⟩,_⟩ := hH10.2
       have hH11 := kupd (M := [(g, 0, .bool bz), (g, 1, .slice Az nz cz), (w.heap.size, 0, .int .i64 0), (w.heap.size, 1, .int .i64 0), (w.heap.size, 2, .int .i64 0), (w.heap.size, 3, .int .i64 0), (w.heap.size, 4, .int .u64 0), (w.heap.size + 1, 0, .int .i64 (c + 1)), (w.heap.size + 1, 1, .int .i64 y), (w.heap.size + 1, 2, .int .i64 hi), (w.heap.size + 1, 3, .int .i64 0), (w.heap.size + 1, 4, .int .u64 0)]) hH10 C7 (by omega) (.int .i64 (c + 1)) (by first | (simp [updL]; done) | (simp [updL]; omega))
       replace hz := hz.off (i := 0) hA (.int .i64 (c + 1))
       go_upto_region 12 with (fail)
       generalize W9.setCell ⟨w.heap.size + 1, 0, none⟩ (.int .i64 (c + 1)) = W11 at *
       clear hH10
       (try clear hJ0); (try clear hJ1); (try clear hJ2); (try clear hJ3); (try clear hJ4); (try clear hJ5); (try clear hJ6); (try clear hJ7); (try clear hJ8); (try clear hT0); (try clear Z0 C0 kf0); (try clear Z1 C1 kf1); (try clear Z2 C2 kf2); (try clear Z3 C3 kf3); (try clear Z4 C4 kf4); (try clear Z5 C5 kf5); (try clear Z6 C6 kf6); (try clear Z7 C7 kf7); (try clear Z8 C8 kf8); (try clear Z9 C9 kf9); (try clear Z10 C10 kf10); (try clear Z11 C11 kf11); (try clear t0z0 t0c0 t0f0); (try clear t0z1 t0c1 t0f1)
       (try clear Z0 C0 kf0); (try clear Z1 C1 kf1); (try clear Z2 C2 kf2); (try clear Z3 C3 kf3); (try clear Z4 C4 kf4); (try clear Z5 C5 kf5); (try clear Z6 C6 kf6); (try clear Z7 C7 kf7); (try clear Z8 C8 kf8); (try clear Z9 C9 kf9); (try clear Z10 C10 kf10); (try clear Z11 C11 kf11)
       have hKa : Keeps w [(w.heap.size, 0, .int .i64 0), (w.heap.size, 1, .int .i64 0), (w.heap.size, 2, .int .i64 0), (w.heap.size, 3, .int .i64 0), (w.heap.size, 4, .int .u64 0), (w.heap.size + 1, 0, .int .i64 (c + 1)), (w.heap.size + 1, 1, .int .i64 y), (w.heap.size + 1, 2, .int .i64 hi), (w.heap.size + 1, 3, .int .i64 0), (w.heap.size + 1, 4, .int .u64 0)] W11 := hH11.sub (by simp)
       have hKb : Keeps w [(g, 0, .bool bz), (g, 1, .slice Az nz cz)] W11 := hH11.sub (by simp)
       clear hH11
       refine region_keepsB (w0 := w) (L := [(w.heap.size, 0, .int .i64 0), (w.heap.size, 1, .int .i64 0), (w.heap.size, 2, .int .i64 0), (w.heap.size, 3, .int .i64 0), (w.heap.size, 4, .int .u64 0), (w.heap.size + 1, 0, .int .i64 (c + 1)), (w.heap.size + 1, 1, .int .i64 y), (w.heap.size + 1, 2, .int .i64 hi), (w.heap.size + 1, 3, .int .i64 0), (w.heap.size + 1, 4, .int .u64 0)]) (M := [(g, 0, .bool bz), (g, 1, .slice Az nz cz)]) (by kernel_rfl) hKa hKb (fun hJ0 hT0 => ?_)
       refine tv 1 77 rfl rfl ?_
       try go_frame
       refine tv 2 78 rfl rfl ?_
       try go_frame
       refine tv 3 79 rfl rfl ?_
       try go_frame
       refine tv 4 80 rfl rfl ?_
       try go_frame
       refine tk 5 81 rfl rfl ?_ ?_ ?_
       rotate_left
       ·intro wq hSw; have hq := hSw.2; repeat obtain ⟨⟨_,_,_⟩,hq⟩ := hq; have hp2 := (hSw.1.cell (p := ⟨bb, off + k * 2 + 1, none⟩) hbw).trans P2.out; go_simp; (try with_reducible rfl)
       try go_frame
       refine ty [0, 6] ?_
       refine AllReadyH.cons rfl (fun K hK => ?_) ?_
       obtain ⟨⟨Z0,C0,kf0⟩,⟨Z1,C1,kf1⟩,⟨Z2,C2,kf2⟩,⟨Z3,C3,kf3⟩,⟨Z4,C4,kf4⟩,⟨Z5,C5,kf5⟩,⟨Z6,C6,kf6⟩,⟨Z7,C7,kf7⟩,⟨Z8,C8,kf8⟩,⟨Z9,C9,kf9⟩,_⟩ := hJ0.2
       obtain ⟨⟨t0z0, t0c0, t0f0⟩,⟨t0z1, t0c1, t0f1⟩, _⟩ := hT0.2
       go_simp
       refine hK.out _ _ hJ0 (fun hJ1 => ?_)
       clear hK K; try clear hb
       try go_frame
       refine tw 6 rfl fun K hK => ?_
       go_simp
       ((with_reducible refine (IY.out _).mono ?_); rintro e v2 ⟨b2, A2, n2, c2, rfl, hb, z2, _⟩; have hz2 := hz.below (undrew hb))
       refine hK.out _ _ (hJ1.next hb) (fun hJ2 => ?_)
       replace hT0 := hT0.next hb
       clear hK K; try clear hb
       try go_frame
       refine tw 7 rfl fun K hK => ?_
       go_simp
       ((with_reducible refine (AX.out _ _ _ hz2 z2).mono ?_); rintro e v3 ⟨b3, A3, n3, c3, rfl, hb, z3, hi3⟩; have hA3 : ∀ ad, A3 = some ad → ad.block ≠ w.heap.size + 1 := fun ad e => by have h8 := hi3 ad e; have h9 : w.heap.size + 1 < v2.heap.size := (by first | exact hJ1.2.2.2.2.2.2.1.1 | exact hJ2.2.2.2.2.2.2.1.1 | exact hJ3.2.2.2.2.2.2.1.1 | exact hJ4.2.2.2.2.2.2.1.1 | exact hJ5.2.2.2.2.2.2.1.1 | exact hJ6.2.2.2.2.2.2.1.1 | exact hJ7.2.2.2.2.2.2.1.1 | exact hJ8.2.2.2.2.2.2.1.1); omega)
       refine hK.out _ _ (hJ2.next hb) (fun hJ3 => ?_)
       replace hT0 := hT0.next hb
       clear hK K; try clear hb
       try go_frame
       refine tw 8 rfl fun K hK => ?_
       obtain ⟨⟨t0z0, t0c0, t0f0⟩,⟨t0z1, t0c1, t0f1⟩, _⟩ := hT0.2; (try simp at t0z0); (try simp at t0c0); (try simp at t0f0); (try simp at t0z1); (try simp at t0c1); (try simp at t0f1)
       go_simp
       refine hK.out _ _ (by first | exact hJ3.alloc _ | (repeat (first | (with_reducible exact hJ3) | (with_reducible exact (Keeps.undrewR hJ3)) | (refine Keeps.set ?_ (by simp <;> omega) (by simp <;> omega) _) | (with_reducible refine Keeps.drew ?_)))) (fun hJ4 => ?_)
       clear hK K; try clear hb
       try go_frame
       refine wpAnyH_done (by kernel_rfl) ?_ _
       have hJ := hJ4
       obtain ⟨⟨Z0,C0,kf0⟩,⟨Z1,C1,kf1⟩,⟨Z2,C2,kf2⟩,⟨Z3,C3,kf3⟩,⟨Z4,C4,kf4⟩,⟨Z5,C5,kf5⟩,⟨Z6,C6,kf6⟩,⟨Z7,C7,kf7⟩,⟨Z8,C8,kf8⟩,⟨Z9,C9,kf9⟩,_⟩ := hJ.2
       rotate_left 1
       refine AllReadyH.cons rfl (fun K hK => ?_) ?_
       go_simp
       ((with_reducible refine (IY.out _).mono ?_); rintro e v2 ⟨b2, A2, n2, c2, rfl, hb, z2, _⟩; have hz2 := hz.below (undrew hb))
       refine hK.out _ _ (hJ0.next hb) (fun hJ5 => ?_)
       replace hT0 := hT0.next hb
       clear hK K; try clear hb
       try go_frame
       refine tw 0 rfl fun K hK => ?_
       obtain ⟨⟨Z0,C0,kf0⟩,⟨Z1,C1,kf1⟩,⟨Z2,C2,kf2⟩,⟨Z3,C3,kf3⟩,⟨Z4,C4,kf4⟩,⟨Z5,C5,kf5⟩,⟨Z6,C6,kf6⟩,⟨Z7,C7,kf7⟩,⟨Z8,C8,kf8⟩,⟨Z9,C9,kf9⟩,_⟩ := hJ5.2
       obtain ⟨⟨t0z0, t0c0, t0f0⟩,⟨t0z1, t0c1, t0f1⟩, _⟩ := hT0.2
       go_simp
       refine hK.out _ _ hJ5 (fun hJ6 => ?_)
       clear hK K; try clear hb
       try go_frame
       refine tw 7 rfl fun K hK => ?_
       go_simp
       ((with_reducible refine (AX.out _ _ _ hz2 z2).mono ?_); rintro e v3 ⟨b3, A3, n3, c3, rfl, hb, z3, hi3⟩; have hA3 : ∀ ad, A3 = some ad → ad.block ≠ w.heap.size + 1 := fun ad e => by have h8 := hi3 ad e; have h9 : w.heap.size + 1 < v2.heap.size := (by first | exact hJ1.2.2.2.2.2.2.1.1 | exact hJ2.2.2.2.2.2.2.1.1 | exact hJ3.2.2.2.2.2.2.1.1 | exact hJ4.2.2.2.2.2.2.1.1 | exact hJ5.2.2.2.2.2.2.1.1 | exact hJ6.2.2.2.2.2.2.1.1 | exact hJ7.2.2.2.2.2.2.1.1 | exact hJ8.2.2.2.2.2.2.1.1); omega)
       refine hK.out _ _ (hJ6.next hb) (fun hJ7 => ?_)
       replace hT0 := hT0.next hb
       clear hK K; try clear hb
       try go_frame
       refine tw 8 rfl fun K hK => ?_
       obtain ⟨⟨t0z0, t0c0, t0f0⟩,⟨t0z1, t0c1, t0f1⟩, _⟩ := hT0.2; (try simp at t0z0); (try simp at t0c0); (try simp at t0f0); (try simp at t0z1); (try simp at t0c1); (try simp at t0f1)
       go_simp
       refine hK.out _ _ (by first | exact hJ7.alloc _ | (repeat (first | (with_reducible exact hJ7) | (with_reducible exact (Keeps.undrewR hJ7)) | (refine Keeps.set ?_ (by simp <;> omega) (by simp <;> omega) _) | (with_reducible refine Keeps.drew ?_)))) (fun hJ8 => ?_)
       clear hK K; try clear hb
       try go_frame
       refine wpAnyH_done (by kernel_rfl) ?_ _
       have hJ := hJ8
       obtain ⟨⟨Z0,C0,kf0⟩,⟨Z1,C1,kf1⟩,⟨Z2,C2,kf2⟩,⟨Z3,C3,kf3⟩,⟨Z4,C4,kf4⟩,⟨Z5,C5,kf5⟩,⟨Z6,C6,kf6⟩,⟨Z7,C7,kf7⟩,⟨Z8,C8,kf8⟩,⟨Z9,C9,kf9⟩,_⟩ := hJ.2
       rotate_left 1
       exact AllReadyH.nil
       all_goals
        have hN := hJ.add2 (u0 := .bool b3) (u1 := .slice A3 n3 c3) t0z0 t0c0 t0f0 t0c1 t0f1
        have HZs : Hid (NumZ _ (.agg #[.bool b3, .slice A3 n3 c3]) (sumL (F (k + 1))) ∧ ∀ ad, A3 = some ad → ad.block ≠ w.heap.size + 1) := Lib.hid ⟨by rw [ES.out]; exact z3.set2 t0c0 t0c1 (.bool b3) (.slice A3 n3 c3), hA3⟩
        have HF5 : Hid ((c + 1 : Int) = (F (k + 1)).length ∧ y = minL (F (k + 1)) ∧ hi = maxL (F (k + 1))) := Lib.hid ⟨by have h1 := EC.out; have h2 := HF.out.1; omega, EM.out⟩
        generalize hG : World.setCell (World.setCell v3 ⟨g, 0, none⟩ (.bool b3)) ⟨g, 1, none⟩ (.slice A3 n3 c3) = v5 at *
        clear hG z2 hz2 z3 hJ hKa hKb AX IY HZ hA hA3 HF EM ES EC
        go_wp2_with fail
        go_roundw
        case rel => exact ⟨k + 1, _, _, _, b3, A3, n3, c3, by simp, hlt, HF5, HZs, hN.sub (by simp)⟩
        case measure => exact tl.out
   ·by_cases gh : hi < y
    ·have EM : Hid (lo = minL (F (k + 1)) ∧ y = maxL (F (k + 1))) := Lib.hid (by have := EM0.out; rw [if_neg gl, if_pos gh] at this; exact ⟨this.1.symm, this.2.symm⟩)
     clear EM0
     obtain ⟨hz, hA⟩ := HZ.out
     replace hz := hz.below (Below.refl _ _).drew
     go_upto_region 7 with (fail)
     refine region_keeps (w0 := w) (L := [(g, 0, .bool bz), (g, 1, .slice Az nz cz), (w.heap.size, 0, .int .i64 0), (w.heap.size, 1, .int .i64 0), (w.heap.size, 2, .int .i64 0), (w.heap.size, 3, .int .i64 0), (w.heap.size, 4, .int .u64 0), (w.heap.size + 1, 0, .int .i64 c), (w.heap.size + 1, 1, .int .i64 lo), (w.heap.size + 1, 2, .int .i64 hi), (w.heap.size + 1, 3, .int .i64 0), (w.heap.size + 1, 4, .int .u64 0)]) (by kernel_rfl) hH (fun hJ0 => ?_)
     refine tv 0 34 rfl rfl ?_
     try go_frame
     refine tk 1 35 rfl rfl ?_ ?_ ?_
     rotate_left
     ·intro wq hSw; have hq := hSw.2; repeat obtain ⟨⟨_,_,_⟩,hq⟩ := hq; have hp2 := (hSw.1.cell (p := ⟨bb, off + k * 2 + 1, none⟩) hbw).trans P2.out; go_simp; (try with_reducible rfl)
     try go_frame
     refine tv 2 36 rfl rfl ?_
     try go_frame
     refine tv 3 37 rfl rfl ?_
     try go_frame
     refine tv 4 38 rfl rfl ?_
     try go_frame
     refine tv 5 39 rfl rfl ?_
     try go_frame
     refine tv 6 40 rfl rfl ?_
     try go_frame
     refine tv 7 41 rfl rfl ?_
     try go_frame
     refine tk 8 42 rfl rfl ?_ ?_ ?_
     rotate_left
     ·intro wq hSw; have hq := hSw.2; repeat obtain ⟨⟨_,_,_⟩,hq⟩ := hq; have hp2 := (hSw.1.cell (p := ⟨bb, off + k * 2 + 1, none⟩) hbw).trans P2.out; go_simp; (try with_reducible rfl)
     try go_frame
     refine tv 9 43 rfl rfl ?_
     try go_frame
     refine tk 10 44 rfl rfl ?_ ?_ ?_
     rotate_left
     ·intro wq hSw; have hq := hSw.2; repeat obtain ⟨⟨_,_,_⟩,hq⟩ := hq; have hp2 := (hSw.1.cell (p := ⟨bb, off + k * 2 + 1, none⟩) hbw).trans P2.out; go_simp; (try with_reducible rfl)
     try go_frame
     refine tv 11 45 rfl rfl ?_
     try go_frame
     refine tv 12 46 rfl rfl ?_
     try go_frame
     refine wpAnyH_done (by kernel_rfl) ?_ _
     have hJ := hJ0
     obtain ⟨⟨Z0,C0,kf0⟩,⟨Z1,C1,kf1⟩,⟨Z2,C2,kf2⟩,⟨Z3,C3,kf3⟩,⟨Z4,C4,kf4⟩,⟨Z5,C5,kf5⟩,⟨Z6,C6,kf6⟩,⟨Z7,C7,kf7⟩,⟨Z8,C8,kf8⟩,⟨Z9,C9,kf9⟩,⟨Z10,C10,kf10⟩,⟨Z11,C11,kf11⟩,_⟩ := hJ.2
     all_goals
      obtain ⟨W7, hW7, hH7⟩ := keeps_named hJ
      rw [← hW7] at hz ⊢
      clear hW7 hJ hJ0 hH
      (try clear hJ0); (try clear hJ1); (try clear hJ2); (try clear hJ3); (try clear hJ4); (try clear hJ5); (try clear hJ6); (try clear hJ7); (try clear hJ8); (try clear hT0); (try clear Z0 C0 kf0); (try clear Z1 C1 kf1); (try clear Z2 C2 kf2); (try clear Z3 C3 kf3); (try clear Z4 C4 kf4); (try clear Z5 C5 kf5); (try clear Z6 C6 kf6); (try clear Z7 C7 kf7); (try clear Z8 C8 kf8); (try clear Z9 C9 kf9); (try clear Z10 C10 kf10); (try clear Z11 C11 kf11); (try clear t0z0 t0c0 t0f0); (try clear t0z1 t0c1 t0f1)
      (try clear Z0 C0 kf0); (try clear Z1 C1 kf1); (try clear Z2 C2 kf2); (try clear Z3 C3 kf3); (try clear Z4 C4 kf4); (try clear Z5 C5 kf5); (try clear Z6 C6 kf6); (try clear Z7 C7 kf7); (try clear Z8 C8 kf8); (try clear Z9 C9 kf9); (try clear Z10 C10 kf10); (try clear Z11 C11 kf11)
      obtain ⟨⟨Z0,C0,kf0⟩,⟨Z1,C1,kf1⟩,⟨Z2,C2,kf2⟩,⟨Z3,C3,kf3⟩,⟨Z4,C4,kf4⟩,⟨Z5,C5,kf5⟩,⟨Z6,C6,kf6⟩,⟨Z7,C7,kf7⟩,⟨Z8,C8,kf8⟩,⟨Z9,C9,kf9⟩,⟨Z10,C10,kf10⟩,⟨Z11,C11,kf11⟩,_⟩ := hH7.2
      have c2 := (hH7.1.cell (p := ⟨bb, off + k * 2 + 1, none⟩) hbw).trans P2.out
      have hH8 := hH7
      go_upto_region 9 with (fail)
      clear hH7 c2
      (try clear hJ0); (try clear hJ1); (try clear hJ2); (try clear hJ3); (try clear hJ4); (try clear hJ5); (try clear hJ6); (try clear hJ7); (try clear hJ8); (try clear hT0); (try clear Z0 C0 kf0); (try clear Z1 C1 kf1); (try clear Z2 C2 kf2); (try clear Z3 C3 kf3); (try clear Z4 C4 kf4); (try clear Z5 C5 kf5); (try clear Z6 C6 kf6); (try clear Z7 C7 kf7); (try clear Z8 C8 kf8); (try clear Z9 C9 kf9); (try clear Z10 C10 kf10); (try clear Z11 C11 kf11); (try clear t0z0 t0c0 t0f0); (try clear t0z1 t0c1 t0f1)
      (try clear Z0 C0 kf0); (try clear Z1 C1 kf1); (try clear Z2 C2 kf2); (try clear Z3 C3 kf3); (try clear Z4 C4 kf4); (try clear Z5 C5 kf5); (try clear Z6 C6 kf6); (try clear Z7 C7 kf7); (try clear Z8 C8 kf8); (try clear Z9 C9 kf9); (try clear Z10 C10 kf10); (try clear Z11 C11 kf11)
      replace hz := hz.below (Below.refl _ _).drew
      refine region_keeps (w0 := w) (L := [(g, 0, .bool bz), (g, 1, .slice Az nz cz), (w.heap.size, 0, .int .i64 0), (w.heap.size, 1, .int .i64 0), (w.heap.size, 2, .int .i64 0), (w.heap.size, 3, .int .i64 0), (w.heap.size, 4, .int .u64 0), (w.heap.size + 1, 0, .int .i64 c), (w.heap.size + 1, 1, .int .i64 lo), (w.heap.size + 1, 2, .int .i64 hi), (w.heap.size + 1, 3, .int .i64 0), (w.heap.size + 1, 4, .int .u64 0)]) (by kernel_rfl) hH8 (fun hJ0 => ?_)
      refine tv 0 53 rfl rfl ?_
      try go_frame
      refine tk 1 54 rfl rfl ?_ ?_ ?_
      rotate_left
      ·intro wq hSw; have hq := hSw.2; repeat obtain ⟨⟨_,_,_⟩,hq⟩ := hq; have hp2 := (hSw.1.cell (p := ⟨bb, off + k * 2 + 1, none⟩) hbw).trans P2.out; go_simp; (try with_reducible rfl)
      try go_frame
      refine tv 2 55 rfl rfl ?_
      try go_frame
      refine tv 3 56 rfl rfl ?_
      try go_frame
      refine tv 4 57 rfl rfl ?_
      try go_frame
      refine tv 5 58 rfl rfl ?_
      try go_frame
      refine tv 6 59 rfl rfl ?_
      try go_frame
      refine tv 7 60 rfl rfl ?_
      try go_frame
      refine tk 8 61 rfl rfl ?_ ?_ ?_
      rotate_left
      ·intro wq hSw; have hq := hSw.2; repeat obtain ⟨⟨_,_,_⟩,hq⟩ := hq; have hp2 := (hSw.1.cell (p := ⟨bb, off + k * 2 + 1, none⟩) hbw).trans P2.out; go_simp; (try with_reducible rfl)
      try go_frame
      refine tv 9 62 rfl rfl ?_
      try go_frame
      refine tk 10 63 rfl rfl ?_ ?_ ?_
      rotate_left
      ·intro wq hSw; have hq := hSw.2; repeat obtain ⟨⟨_,_,_⟩,hq⟩ := hq; have hp2 := (hSw.1.cell (p := ⟨bb, off + k * 2 + 1, none⟩) hbw).trans P2.out; go_simp; (try with_reducible rfl)
      try go_frame
      refine tv 11 64 rfl rfl ?_
      try go_frame
      refine tv 12 65 rfl rfl ?_
      try go_frame
      refine wpAnyH_done (by kernel_rfl) ?_ _
      have hJ := hJ0
      obtain ⟨⟨Z0,C0,kf0⟩,⟨Z1,C1,kf1⟩,⟨Z2,C2,kf2⟩,⟨Z3,C3,kf3⟩,⟨Z4,C4,kf4⟩,⟨Z5,C5,kf5⟩,⟨Z6,C6,kf6⟩,⟨Z7,C7,kf7⟩,⟨Z8,C8,kf8⟩,⟨Z9,C9,kf9⟩,⟨Z10,C10,kf10⟩,⟨Z11,C11,kf11⟩,_⟩ := hJ.2
      all_goals
       obtain ⟨W9, hW9, hH9⟩ := keeps_named hJ
       rw [← hW9] at hz ⊢
       clear hW9 hJ hJ0 hH8
       (try clear hJ0); (try clear hJ1); (try clear hJ2); (try clear hJ3); (try clear hJ4); (try clear hJ5); (try clear hJ6); (try clear hJ7); (try clear hJ8); (try clear hT0); (try clear Z0 C0 kf0); (try clear Z1 C1 kf1); (try clear Z2 C2 kf2); (try clear Z3 C3 kf3); (try clear Z4 C4 kf4); (try clear Z5 C5 kf5); (try clear Z6 C6 kf6); (try clear Z7 C7 kf7); (try clear Z8 C8 kf8); (try clear Z9 C9 kf9); (try clear Z10 C10 kf10); (try clear Z11 C11 kf11); (try clear t0z0 t0c0 t0f0); (try clear t0z1 t0c1 t0f1)
       (try clear Z0 C0 kf0); (try clear Z1 C1 kf1); (try clear Z2 C2 kf2); (try clear Z3 C3 kf3); (try clear Z4 C4 kf4); (try clear Z5 C5 kf5); (try clear Z6 C6 kf6); (try clear Z7 C7 kf7); (try clear Z8 C8 kf8); (try clear Z9 C9 kf9); (try clear Z10 C10 kf10); (try clear Z11 C11 kf11)
       obtain ⟨⟨Z0,C0,kf0⟩,⟨Z1,C1,kf1⟩,⟨Z2,C2,kf2⟩,⟨Z3,C3,kf3⟩,⟨Z4,C4,kf4⟩,⟨Z5,C5,kf5⟩,⟨Z6,C6,kf6⟩,⟨Z7,C7,kf7⟩,⟨Z8,C8,kf8⟩,⟨Z9,C9,kf9⟩,⟨Z10,C10,kf10⟩,⟨Z11,C11,kf11⟩,_⟩ := hH9.2
       have c2 := (hH9.1.cell (p := ⟨bb, off + k * 2 + 1, none⟩) hbw).trans P2.out
       have hH10 := kupd (M := [(g, 0, .bool bz), (g, 1, .slice Az nz cz), (w.heap.size, 0, .int .i64 0), (w.heap.size, 1, .int .i64 0), (w.heap.size, 2, .int .i64 0), (w.heap.size, 3, .int .i64 0), (w.heap.size, 4, .int .u64 0), (w.heap.size + 1, 0, .int .i64 c), (w.heap.size + 1, 1, .int .i64 lo), (w.heap.size + 1, 2, .int .i64 y), (w.heap.size + 1, 3, .int .i64 0), (w.heap.size + 1, 4, .int .u64 0)]) hH9 C9 (by omega) (.int .i64 y) (by first | (simp [updL]; done) | (simp [updL]; omega))
       replace hz := hz.off (i := 2) hA (.int .i64 y)
       go_upto_region 11 with (fail)
       generalize W9.setCell ⟨w.heap.size + 1, 2, none⟩ (.int .i64 y) = W10 at *
       clear hH9 c2
       (try clear hJ0); (try clear hJ1); (try clear hJ2); (try clear hJ3); (try clear hJ4); (try clear hJ5); (try clear hJ6); (try clear hJ7); (try clear hJ8); (try clear hT0); (try clear Z0 C0 kf0); (try clear Z1 C1 kf1); (try clear Z2 C2 kf2); (try clear Z3 C3 kf3); (try clear Z4 C4 kf4); (try clear Z5 C5 kf5); (try clear Z6 C6 kf6); (try clear Z7 C7 kf7); (try clear Z8 C8 kf8); (try clear Z9 C9 kf9); (try clear Z10 C10 kf10); (try clear Z11 C11 kf11); (try clear t0z0 t0c0 t0f0); (try clear t0z1 t0c1 t0f1)
       (try clear Z0 C0 kf0); (try clear Z1 C1 kf1); (try clear Z2 C2 kf2); (try clear Z3 C3 kf3); (try clear Z4 C4 kf4); (try clear Z5 C5 kf5); (try clear Z6 C6 kf6); (try clear Z7 C7 kf7); (try clear Z8 C8 kf8); (try clear Z9 C9 kf9); (try clear Z10 C10 kf10); (try clear Z11 C11 kf11)
       obtain ⟨⟨Z0,C0,kf0⟩,⟨Z1,C1,kf1⟩,⟨Z2,C2,kf2⟩,⟨Z3,C3,kf3⟩,⟨Z4,C4,kf4⟩,⟨Z5,C5,kf5⟩,⟨Z6,C6,kf6⟩,⟨Z7,C7,kf7⟩,⟨Z8,C8,kf8⟩,⟨Z9,C9,kf9⟩,⟨Z10,C10,kf10⟩,⟨Z11,C11,kf11⟩,_⟩ := hH10.2
       have hH11 := kupd (M := [(g, 0, .bool bz), (g, 1, .slice Az nz cz), (w.heap.size, 0, .int .i64 0), (w.heap.size, 1, .int .i64 0), (w.heap.size, 2, .int .i64 0), (w.heap.size, 3, .int .i64 0), (w.heap.size, 4, .int .u64 0), (w.heap.size + 1, 0, .int .i64 (c + 1)), (w.heap.size + 1, 1, .int .i64 lo), (w.heap.size + 1, 2, .int .i64 y), (w.heap.size + 1, 3, .int .i64 0), (w.heap.size + 1, 4, .int .u64 0)]) hH10 C7 (by omega) (.int .i64 (c + 1)) (by first | (simp [updL]; done) | (simp [updL]; omega))
       replace hz := hz.off (i := 0) hA (.int .i64 (c + 1))
       go_upto_region 12 with (fail)
       generalize W10.setCell ⟨w.heap.size + 1, 0, none⟩ (.int .i64 (c + 1)) = W11 at *
       clear hH10
       (try clear hJ0); (try clear hJ1); (try clear hJ2); (try clear hJ3); (try clear hJ4); (try clear hJ5); (try clear hJ6); (try clear hJ7); (try clear hJ8); (try clear hT0); (try clear Z0 C0 kf0); (try clear Z1 C1 kf1); (try clear Z2 C2 kf2); (try clear Z3 C3 kf3); (try clear Z4 C4 kf4); (try clear Z5 C5 kf5); (try clear Z6 C6 kf6); (try clear Z7 C7 kf7); (try clear Z8 C8 kf8); (try clear Z9 C9 kf9); (try clear Z10 C10 kf10); (try clear Z11 C11 kf11); (try clear t0z0 t0c0 t0f0); (try clear t0z1 t0c1 t0f1)
       (try clear Z0 C0 kf0); (try clear Z1 C1 kf1); (try clear Z2 C2 kf2); (try clear Z3 C3 kf3); (try clear Z4 C4 kf4); (try clear Z5 C5 kf5); (try clear Z6 C6 kf6); (try clear Z7 C7 kf7); (try clear Z8 C8 kf8); (try clear Z9 C9 kf9); (try clear Z10 C10 kf10); (try clear Z11 C11 kf11)
       have hKa : Keeps w [(w.heap.size, 0, .int .i64 0), (w.heap.size, 1, .int .i64 0), (w.heap.size, 2, .int .i64 0), (w.heap.size, 3, .int .i64 0), (w.heap.size, 4, .int .u64 0), (w.heap.size + 1, 0, .int .i64 (c + 1)), (w.heap.size + 1, 1, .int .i64 lo), (w.heap.size + 1, 2, .int .i64 y), (w.heap.size + 1, 3, .int .i64 0), (w.heap.size + 1, 4, .int .u64 0)] W11 := hH11.sub (by simp)
       have hKb : Keeps w [(g, 0, .bool bz), (g, 1, .slice Az nz cz)] W11 := hH11.sub (by simp)
       clear hH11
       refine region_keepsB (w0 := w) (L := [(w.heap.size, 0, .int .i64 0), (w.heap.size, 1, .int .i64 0), (w.heap.size, 2, .int .i64 0), (w.heap.size, 3, .int .i64 0), (w.heap.size, 4, .int .u64 0), (w.heap.size + 1, 0, .int .i64 (c + 1)), (w.heap.size + 1, 1, .int .i64 lo), (w.heap.size + 1, 2, .int .i64 y), (w.heap.size + 1, 3, .int .i64 0), (w.heap.size + 1, 4, .int .u64 0)]) (M := [(g, 0, .bool bz), (g, 1, .slice Az nz cz)]) (by kernel_rfl) hKa hKb (fun hJ0 hT0 => ?_)
       refine tv 1 77 rfl rfl ?_
       try go_frame
       refine tv 2 78 rfl rfl ?_
       try go_frame
       refine tv 3 79 rfl rfl ?_
       try go_frame
       refine tv 4 80 rfl rfl ?_
       try go_frame
       refine tk 5 81 rfl rfl ?_ ?_ ?_
       rotate_left
       ·intro wq hSw; have hq := hSw.2; repeat obtain ⟨⟨_,_,_⟩,hq⟩ := hq; have hp2 := (hSw.1.cell (p := ⟨bb, off + k * 2 + 1, none⟩) hbw).trans P2.out; go_simp; (try with_reducible rfl)
       try go_frame
       refine ty [0, 6] ?_
       refine AllReadyH.cons rfl (fun K hK => ?_) ?_
       obtain ⟨⟨Z0,C0,kf0⟩,⟨Z1,C1,kf1⟩,⟨Z2,C2,kf2⟩,⟨Z3,C3,kf3⟩,⟨Z4,C4,kf4⟩,⟨Z5,C5,kf5⟩,⟨Z6,C6,kf6⟩,⟨Z7,C7,kf7⟩,⟨Z8,C8,kf8⟩,⟨Z9,C9,kf9⟩,_⟩ := hJ0.2
       obtain ⟨⟨t0z0, t0c0, t0f0⟩,⟨t0z1, t0c1, t0f1⟩, _⟩ := hT0.2
       go_simp
       refine hK.out _ _ hJ0 (fun hJ1 => ?_)
       clear hK K; try clear hb
       try go_frame
       refine tw 6 rfl fun K hK => ?_
       go_simp
       ((with_reducible refine (IY.out _).mono ?_); rintro e v2 ⟨b2, A2, n2, c2, rfl, hb, z2, _⟩; have hz2 := hz.below (undrew hb))
       refine hK.out _ _ (hJ1.next hb) (fun hJ2 => ?_)
       replace hT0 := hT0.next hb
       clear hK K; try clear hb
       try go_frame
       refine tw 7 rfl fun K hK => ?_
       go_simp
       ((with_reducible refine (AX.out _ _ _ hz2 z2).mono ?_); rintro e v3 ⟨b3, A3, n3, c3, rfl, hb, z3, hi3⟩; have hA3 : ∀ ad, A3 = some ad → ad.block ≠ w.heap.size + 1 := fun ad e => by have h8 := hi3 ad e; have h9 : w.heap.size + 1 < v2.heap.size := (by first | exact hJ1.2.2.2.2.2.2.1.1 | exact hJ2.2.2.2.2.2.2.1.1 | exact hJ3.2.2.2.2.2.2.1.1 | exact hJ4.2.2.2.2.2.2.1.1 | exact hJ5.2.2.2.2.2.2.1.1 | exact hJ6.2.2.2.2.2.2.1.1 | exact hJ7.2.2.2.2.2.2.1.1 | exact hJ8.2.2.2.2.2.2.1.1); omega)
       refine hK.out _ _ (hJ2.next hb) (fun hJ3 => ?_)
       replace hT0 := hT0.next hb
       clear hK K; try clear hb
       try go_frame
       refine tw 8 rfl fun K hK => ?_
       obtain ⟨⟨t0z0, t0c0, t0f0⟩,⟨t0z1, t0c1, t0f1⟩, _⟩ := hT0.2; (try simp at t0z0); (try simp at t0c0); (try simp at t0f0); (try simp at t0z1); (try simp at t0c1); (try simp at t0f1)
       go_simp
       refine hK.out _ _ (by first | exact hJ3.alloc _ | (repeat (first | (with_reducible exact hJ3) | (with_reducible exact (Keeps.undrewR hJ3)) | (refine Keeps.set ?_ (by simp <;> omega) (by simp <;> omega) _) | (with_reducible refine Keeps.drew ?_)))) (fun hJ4 => ?_)
       clear hK K; try clear hb
       try go_frame
       refine wpAnyH_done (by kernel_rfl) ?_ _
       have hJ := hJ4
       obtain ⟨⟨Z0,C0,kf0⟩,⟨Z1,C1,kf1⟩,⟨Z2,C2,kf2⟩,⟨Z3,C3,kf3⟩,⟨Z4,C4,kf4⟩,⟨Z5,C5,kf5⟩,⟨Z6,C6,kf6⟩,⟨Z7,C7,kf7⟩,⟨Z8,C8,kf8⟩,⟨Z9,C9,kf9⟩,_⟩ := hJ.2
       rotate_left 1
       refine AllReadyH.cons rfl (fun K hK => ?_) ?_
       go_simp
       ((with_reducible refine (IY.out _).mono ?_); rintro e v2 ⟨b2, A2, n2, c2, rfl, hb, z2, _⟩; have hz2 := hz.below (undrew hb))
       refine hK.out _ _ (hJ0.next hb) (fun hJ5 => ?_)
       replace hT0 := hT0.next hb
       clear hK K; try clear hb
       try go_frame
       refine tw 0 rfl fun K hK => ?_
       obtain ⟨⟨Z0,C0,kf0⟩,⟨Z1,C1,kf1⟩,⟨Z2,C2,kf2⟩,⟨Z3,C3,kf3⟩,⟨Z4,C4,kf4⟩,⟨Z5,C5,kf5⟩,⟨Z6,C6,kf6⟩,⟨Z7,C7,kf7⟩,⟨Z8,C8,kf8⟩,⟨Z9,C9,kf9⟩,_⟩ := hJ5.2
       obtain ⟨⟨t0z0, t0c0, t0f0⟩,⟨t0z1, t0c1, t0f1⟩, _⟩ := hT0.2
       go_simp
       refine hK.out _ _ hJ5 (fun hJ6 => ?_)
       clear hK K; try clear hb
       try go_frame
       refine tw 7 rfl fun K hK => ?_
       go_simp
       ((with_reducible refine (AX.out _ _ _ hz2 z2).mono ?_); rintro e v3 ⟨b3, A3, n3, c3, rfl, hb, z3, hi3⟩; have hA3 : ∀ ad, A3 = some ad → ad.block ≠ w.heap.size + 1 := fun ad e => by have h8 := hi3 ad e; have h9 : w.heap.size + 1 < v2.heap.size := (by first | exact hJ1.2.2.2.2.2.2.1.1 | exact hJ2.2.2.2.2.2.2.1.1 | exact hJ3.2.2.2.2.2.2.1.1 | exact hJ4.2.2.2.2.2.2.1.1 | exact hJ5.2.2.2.2.2.2.1.1 | exact hJ6.2.2.2.2.2.2.1.1 | exact hJ7.2.2.2.2.2.2.1.1 | exact hJ8.2.2.2.2.2.2.1.1); omega)
       refine hK.out _ _ (hJ6.next hb) (fun hJ7 => ?_)
       replace hT0 := hT0.next hb
       clear hK K; try clear hb
       try go_frame
       refine tw 8 rfl fun K hK => ?_
       obtain ⟨⟨t0z0, t0c0, t0f0⟩,⟨t0z1, t0c1, t0f1⟩, _⟩ := hT0.2; (try simp at t0z0); (try simp at t0c0); (try simp at t0f0); (try simp at t0z1); (try simp at t0c1); (try simp at t0f1)
       go_simp
       refine hK.out _ _ (by first | exact hJ7.alloc _ | (repeat (first | (with_reducible exact hJ7) | (with_reducible exact (Keeps.undrewR hJ7)) | (refine Keeps.set ?_ (by simp <;> omega) (by simp <;> omega) _) | (with_reducible refine Keeps.drew ?_)))) (fun hJ8 => ?_)
       clear hK K; try clear hb
       try go_frame
       refine wpAnyH_done (by kernel_rfl) ?_ _
       have hJ := hJ8
       obtain ⟨⟨Z0,C0,kf0⟩,⟨Z1,C1,kf1⟩,⟨Z2,C2,kf2⟩,⟨Z3,C3,kf3⟩,⟨Z4,C4,kf4⟩,⟨Z5,C5,kf5⟩,⟨Z6,C6,kf6⟩,⟨Z7,C7,kf7⟩,⟨Z8,C8,kf8⟩,⟨Z9,C9,kf9⟩,_⟩ := hJ.2
       rotate_left 1
       exact AllReadyH.nil
       all_goals
        have hN := hJ.add2 (u0 := .bool b3) (u1 := .slice A3 n3 c3) t0z0 t0c0 t0f0 t0c1 t0f1
        have HZs : Hid (NumZ _ (.agg #[.bool b3, .slice A3 n3 c3]) (sumL (F (k + 1))) ∧ ∀ ad, A3 = some ad → ad.block ≠ w.heap.size + 1) := Lib.hid ⟨by rw [ES.out]; exact z3.set2 t0c0 t0c1 (.bool b3) (.slice A3 n3 c3), hA3⟩
        have HF5 : Hid ((c + 1 : Int) = (F (k + 1)).length ∧ lo = minL (F (k + 1)) ∧ y = maxL (F (k + 1))) := Lib.hid ⟨by have h1 := EC.out; have h2 := HF.out.1; omega, EM.out⟩
        generalize hG : World.setCell (World.setCell v3 ⟨g, 0, none⟩ (.bool b3)) ⟨g, 1, none⟩ (.slice A3 n3 c3) = v5 at *
        clear hG z2 hz2 z3 hJ hKa hKb AX IY HZ hA hA3 HF EM ES EC
        go_wp2_with fail
        go_roundw
        case rel => exact ⟨k + 1, _, _, _, b3, A3, n3, c3, by simp, hlt, HF5, HZs, hN.sub (by simp)⟩
        case measure => exact tl.out
    ·have EM : Hid (lo = minL (F (k + 1)) ∧ hi = maxL (F (k + 1))) := Lib.hid (by have := EM0.out; rw [if_neg gl, if_neg gh] at this; exact ⟨this.1.symm, this.2.symm⟩)
     clear EM0
     obtain ⟨hz, hA⟩ := HZ.out
     replace hz := hz.below (Below.refl _ _).drew
     go_upto_region 7 with (fail)
     refine region_keeps (w0 := w) (L := [(g, 0, .bool bz), (g, 1, .slice Az nz cz), (w.heap.size, 0, .int .i64 0), (w.heap.size, 1, .int .i64 0), (w.heap.size, 2, .int .i64 0), (w.heap.size, 3, .int .i64 0), (w.heap.size, 4, .int .u64 0), (w.heap.size + 1, 0, .int .i64 c), (w.heap.size + 1, 1, .int .i64 lo), (w.heap.size + 1, 2, .int .i64 hi), (w.heap.size + 1, 3, .int .i64 0), (w.heap.size + 1, 4, .int .u64 0)]) (by kernel_rfl) hH (fun hJ0 => ?_)
     refine tv 0 34 rfl rfl ?_
     try go_frame
     refine tk 1 35 rfl rfl ?_ ?_ ?_
     rotate_left
     ·intro wq hSw; have hq := hSw.2; repeat obtain ⟨⟨_,_,_⟩,hq⟩ := hq; have hp2 := (hSw.1.cell (p := ⟨bb, off + k * 2 + 1, none⟩) hbw).trans P2.out; go_simp; (try with_reducible rfl)
     try go_frame
     refine tv 2 36 rfl rfl ?_
     try go_frame
     refine tv 3 37 rfl rfl ?_
     try go_frame
     refine tv 4 38 rfl rfl ?_
     try go_frame
     refine tv 5 39 rfl rfl ?_
     try go_frame
     refine tv 6 40 rfl rfl ?_
     try go_frame
     refine tv 7 41 rfl rfl ?_
     try go_frame
     refine tk 8 42 rfl rfl ?_ ?_ ?_
     rotate_left
     ·intro wq hSw; have hq := hSw.2; repeat obtain ⟨⟨_,_,_⟩,hq⟩ := hq; have hp2 := (hSw.1.cell (p := ⟨bb, off + k * 2 + 1, none⟩) hbw).trans P2.out; go_simp; (try with_reducible rfl)
     try go_frame
     refine tv 9 43 rfl rfl ?_
     try go_frame
     refine tk 10 44 rfl rfl ?_ ?_ ?_
     rotate_left
     ·intro wq hSw; have hq := hSw.2; repeat obtain ⟨⟨_,_,_⟩,hq⟩ := hq; have hp2 := (hSw.1.cell (p := ⟨bb, off + k * 2 + 1, none⟩) hbw).trans P2.out; go_simp; (try with_reducible rfl)
     try go_frame
     refine tv 11 45 rfl rfl ?_
     try go_frame
     refine tv 12 46 rfl rfl ?_
     try go_frame
     refine wpAnyH_done (by kernel_rfl) ?_ _
     have hJ := hJ0
     obtain ⟨⟨Z0,C0,kf0⟩,⟨Z1,C1,kf1⟩,⟨Z2,C2,kf2⟩,⟨Z3,C3,kf3⟩,⟨Z4,C4,kf4⟩,⟨Z5,C5,kf5⟩,⟨Z6,C6,kf6⟩,⟨Z7,C7,kf7⟩,⟨Z8,C8,kf8⟩,⟨Z9,C9,kf9⟩,⟨Z10,C10,kf10⟩,⟨Z11,C11,kf11⟩,_⟩ := hJ.2
     all_goals
      obtain ⟨W7, hW7, hH7⟩ := keeps_named hJ
      rw [← hW7] at hz ⊢
      clear hW7 hJ hJ0 hH
      (try clear hJ0); (try clear hJ1); (try clear hJ2); (try clear hJ3); (try clear hJ4); (try clear hJ5); (try clear hJ6); (try clear hJ7); (try clear hJ8); (try clear hT0); (try clear Z0 C0 kf0); (try clear Z1 C1 kf1); (try clear Z2 C2 kf2); (try clear Z3 C3 kf3); (try clear Z4 C4 kf4); (try clear Z5 C5 kf5); (try clear Z6 C6 kf6); (try clear Z7 C7 kf7); (try clear Z8 C8 kf8); (try clear Z9 C9 kf9); (try clear Z10 C10 kf10); (try clear Z11 C11 kf11); (try clear t0z0 t0c0 t0f0); (try clear t0z1 t0c1 t0f1)
      (try clear Z0 C0 kf0); (try clear Z1 C1 kf1); (try clear Z2 C2 kf2); (try clear Z3 C3 kf3); (try clear Z4 C4 kf4); (try clear Z5 C5 kf5); (try clear Z6 C6 kf6); (try clear Z7 C7 kf7); (try clear Z8 C8 kf8); (try clear Z9 C9 kf9); (try clear Z10 C10 kf10); (try clear Z11 C11 kf11)
      obtain ⟨⟨Z0,C0,kf0⟩,⟨Z1,C1,kf1⟩,⟨Z2,C2,kf2⟩,⟨Z3,C3,kf3⟩,⟨Z4,C4,kf4⟩,⟨Z5,C5,kf5⟩,⟨Z6,C6,kf6⟩,⟨Z7,C7,kf7⟩,⟨Z8,C8,kf8⟩,⟨Z9,C9,kf9⟩,⟨Z10,C10,kf10⟩,⟨Z11,C11,kf11⟩,_⟩ := hH7.2
      have c2 := (hH7.1.cell (p := ⟨bb, off + k * 2 + 1, none⟩) hbw).trans P2.out
      have hH8 := hH7
      go_upto_region 9 with (fail)
      clear hH7 c2
      (try clear hJ0); (try clear hJ1); (try clear hJ2); (try clear hJ3); (try clear hJ4); (try clear hJ5); (try clear hJ6); (try clear hJ7); (try clear hJ8); (try clear hT0); (try clear Z0 C0 kf0); (try clear Z1 C1 kf1); (try clear Z2 C2 kf2); (try clear Z3 C3 kf3); (try clear Z4 C4 kf4); (try clear Z5 C5 kf5); (try clear Z6 C6 kf6); (try clear Z7 C7 kf7); (try clear Z8 C8 kf8); (try clear Z9 C9 kf9); (try clear Z10 C10 kf10); (try clear Z11 C11 kf11); (try clear t0z0 t0c0 t0f0); (try clear t0z1 t0c1 t0f1)
      (try clear Z0 C0 kf0); (try clear Z1 C1 kf1); (try clear Z2 C2 kf2); (try clear Z3 C3 kf3); (try clear Z4 C4 kf4); (try clear Z5 C5 kf5); (try clear Z6 C6 kf6); (try clear Z7 C7 kf7); (try clear Z8 C8 kf8); (try clear Z9 C9 kf9); (try clear Z10 C10 kf10); (try clear Z11 C11 kf11)
      replace hz := hz.below (Below.refl _ _).drew
      refine region_keeps (w0 := w) (L := [(g, 0, .bool bz), (g, 1, .slice Az nz cz), (w.heap.size, 0, .int .i64 0), (w.heap.size, 1, .int .i64 0), (w.heap.size, 2, .int .i64 0), (w.heap.size, 3, .int .i64 0), (w.heap.size, 4, .int .u64 0), (w.heap.size + 1, 0, .int .i64 c), (w.heap.size + 1, 1, .int .i64 lo), (w.heap.size + 1, 2, .int .i64 hi), (w.heap.size + 1, 3, .int .i64 0), (w.heap.size + 1, 4, .int .u64 0)]) (by kernel_rfl) hH8 (fun hJ0 => ?_)
      refine tv 0 53 rfl rfl ?_
      try go_frame
      refine tk 1 54 rfl rfl ?_ ?_ ?_
      rotate_left
      ·intro wq hSw; have hq := hSw.2; repeat obtain ⟨⟨_,_,_⟩,hq⟩ := hq; have hp2 := (hSw.1.cell (p := ⟨bb, off + k * 2 + 1, none⟩) hbw).trans P2.out; go_simp; (try with_reducible rfl)
      try go_frame
      refine tv 2 55 rfl rfl ?_
      try go_frame
      refine tv 3 56 rfl rfl ?_
      try go_frame
      refine tv 4 57 rfl rfl ?_
      try go_frame
      refine tv 5 58 rfl rfl ?_
      try go_frame
      refine tv 6 59 rfl rfl ?_
      try go_frame
      refine tv 7 60 rfl rfl ?_
      try go_frame
      refine tk 8 61 rfl rfl ?_ ?_ ?_
      rotate_left
      ·intro wq hSw; have hq := hSw.2; repeat obtain ⟨⟨_,_,_⟩,hq⟩ := hq; have hp2 := (hSw.1.cell (p := ⟨bb, off + k * 2 + 1, none⟩) hbw).trans P2.out; go_simp; (try with_reducible rfl)
      try go_frame
      refine tv 9 62 rfl rfl ?_
      try go_frame
      refine tk 10 63 rfl rfl ?_ ?_ ?_
      rotate_left
      ·intro wq hSw; have hq := hSw.2; repeat obtain ⟨⟨_,_,_⟩,hq⟩ := hq; have hp2 := (hSw.1.cell (p := ⟨bb, off + k * 2 + 1, none⟩) hbw).trans P2.out; go_simp; (try with_reducible rfl)
      try go_frame
      refine tv 11 64 rfl rfl ?_
      try go_frame
      refine tv 12 65 rfl rfl ?_
      try go_frame
      refine wpAnyH_done (by kernel_rfl) ?_ _
      have hJ := hJ0
      obtain ⟨⟨Z0,C0,kf0⟩,⟨Z1,C1,kf1⟩,⟨Z2,C2,kf2⟩,⟨Z3,C3,kf3⟩,⟨Z4,C4,kf4⟩,⟨Z5,C5,kf5⟩,⟨Z6,C6,kf6⟩,⟨Z7,C7,kf7⟩,⟨Z8,C8,kf8⟩,⟨Z9,C9,kf9⟩,⟨Z10,C10,kf10⟩,⟨Z11,C11,kf11⟩,_⟩ := hJ.2
      all_goals
       obtain ⟨W9, hW9, hH9⟩ := keeps_named hJ
       rw [← hW9] at hz ⊢
       clear hW9 hJ hJ0 hH8
       (try clear hJ0); (try clear hJ1); (try clear hJ2); (try clear hJ3); (try clear hJ4); (try clear hJ5); (try clear hJ6); (try clear hJ7); (try clear hJ8); (try clear hT0); (try clear Z0 C0 kf0); (try clear Z1 C1 kf1); (try clear Z2 C2 kf2); (try clear Z3 C3 kf3); (try clear Z4 C4 kf4); (try clear Z5 C5 kf5); (try clear Z6 C6 kf6); (try clear Z7 C7 kf7); (try clear Z8 C8 kf8); (try clear Z9 C9 kf9); (try clear Z10 C10 kf10); (try clear Z11 C11 kf11); (try clear t0z0 t0c0 t0f0); (try clear t0z1 t0c1 t0f1)
       (try clear Z0 C0 kf0); (try clear Z1 C1 kf1); (try clear Z2 C2 kf2); (try clear Z3 C3 kf3); (try clear Z4 C4 kf4); (try clear Z5 C5 kf5); (try clear Z6 C6 kf6); (try clear Z7 C7 kf7); (try clear Z8 C8 kf8); (try clear Z9 C9 kf9); (try clear Z10 C10 kf10); (try clear Z11 C11 kf11)
       obtain ⟨⟨Z0,C0,kf0⟩,⟨Z1,C1,kf1⟩,⟨Z2,C2,kf2⟩,⟨Z3,C3,kf3⟩,⟨Z4,C4,kf4⟩,⟨Z5,C5,kf5⟩,⟨Z6,C6,kf6⟩,⟨Z7,C7,kf7⟩,⟨Z8,C8,kf8⟩,⟨Z9,C9,kf9⟩,⟨Z10,C10,kf10⟩,⟨Z11,C11,kf11⟩,_⟩ := hH9.2
       have c2 := (hH9.1.cell (p := ⟨bb, off + k * 2 + 1, none⟩) hbw).trans P2.out
       have hH10 := hH9
       go_upto_region 11 with (fail)
       clear hH9 c2
       (try clear hJ0); (try clear hJ1); (try clear hJ2); (try clear hJ3); (try clear hJ4); (try clear hJ5); (try clear hJ6); (try clear hJ7); (try clear hJ8); (try clear hT0); (try clear Z0 C0 kf0); (try clear Z1 C1 kf1); (try clear Z2 C2 kf2); (try clear Z3 C3 kf3); (try clear Z4 C4 kf4); (try clear Z5 C5 kf5); (try clear Z6 C6 kf6); (try clear Z7 C7 kf7); (try clear Z8 C8 kf8); (try clear Z9 C9 kf9); (try clear Z10 C10 kf10); (try clear Z11 C11 kf11); (try clear t0z0 t0c0 t0f0); (try clear t0z1 t0c1 t0f1)
       (try clear Z0 C0 kf0); (try clear Z1 C1 kf1); (try clear Z2 C2 kf2); (try clear Z3 C3 kf3); (try clear Z4 C4 kf4); (try clear Z5 C5 kf5); (try clear Z6 C6 kf6); (try clear Z7 C7 kf7); (try clear Z8 C8 kf8); (try clear Z9 C9 kf9); (try clear Z10 C10 kf10); (try clear Z11 C11 kf11)
       obtain ⟨⟨Z0,C0,kf0⟩,⟨Z1,C1,kf1⟩,⟨Z2,C2,kf2⟩,⟨Z3,C3,kf3⟩,⟨Z4,C4,kf4⟩,⟨Z5,C5,kf5⟩,⟨Z6,C6,kf6⟩,⟨Z7,C7,kf7⟩,⟨Z8,C8,kf8⟩,⟨Z9,C9,kf9⟩,⟨Z10,C10,kf10⟩,⟨Z11,C11,kf11⟩,_⟩ := hH10.2
       have hH11 := kupd (M := [(g, 0, .bool bz), (g, 1, .slice Az nz cz), (w.heap.size, 0, .int .i64 0), (w.heap.size, 1, .int .i64 0), (w.heap.size, 2, .int .i64 0), (w.heap.size, 3, .int .i64 0), (w.heap.size, 4, .int .u64 0), (w.heap.size + 1, 0, .int .i64 (c + 1)), (w.heap.size + 1, 1, .int .i64 lo), (w.heap.size + 1, 2, .int .i64 hi), (w.heap.size + 1, 3, .int .i64 0), (w.heap.size + 1, 4, .int .u64 0)]) hH10 C7 (by omega) (.int .i64 (c + 1)) (by first | (simp [updL]; done) | (simp [updL]; omega))
       replace hz := hz.off (i := 0) hA (.int .i64 (c + 1))
       go_upto_region 12 with (fail)
       generalize W9.setCell ⟨w.heap.size + 1, 0, none⟩ (.int .i64 (c + 1)) = W11 at *
       clear hH10
       (try clear hJ0); (try clear hJ1); (try clear hJ2); (try clear hJ3); (try clear hJ4); (try clear hJ5); (try clear hJ6); (try clear hJ7); (try clear hJ8); (try clear hT0); (try clear Z0 C0 kf0); (try clear Z1 C1 kf1); (try clear Z2 C2 kf2); (try clear Z3 C3 kf3); (try clear Z4 C4 kf4); (try clear Z5 C5 kf5); (try clear Z6 C6 kf6); (try clear Z7 C7 kf7); (try clear Z8 C8 kf8); (try clear Z9 C9 kf9); (try clear Z10 C10 kf10); (try clear Z11 C11 kf11); (try clear t0z0 t0c0 t0f0); (try clear t0z1 t0c1 t0f1)
       (try clear Z0 C0 kf0); (try clear Z1 C1 kf1); (try clear Z2 C2 kf2); (try clear Z3 C3 kf3); (try clear Z4 C4 kf4); (try clear Z5 C5 kf5); (try clear Z6 C6 kf6); (try clear Z7 C7 kf7); (try clear Z8 C8 kf8); (try clear Z9 C9 kf9); (try clear Z10 C10 kf10); (try clear Z11 C11 kf11)
       have hKa : Keeps w [(w.heap.size, 0, .int .i64 0), (w.heap.size, 1, .int .i64 0), (w.heap.size, 2, .int .i64 0), (w.heap.size, 3, .int .i64 0), (w.heap.size, 4, .int .u64 0), (w.heap.size + 1, 0, .int .i64 (c + 1)), (w.heap.size + 1, 1, .int .i64 lo), (w.heap.size + 1, 2, .int .i64 hi), (w.heap.size + 1, 3, .int .i64 0), (w.heap.size + 1, 4, .int .u64 0)] W11 := hH11.sub (by simp)
       have hKb : Keeps w [(g, 0, .bool bz), (g, 1, .slice Az nz cz)] W11 := hH11.sub (by simp)
       clear hH11
       refine region_keepsB (w0 := w) (L := [(w.heap.size, 0, .int .i64 0), (w.heap.size, 1, .int .i64 0), (w.heap.size, 2, .int .i64 0), (w.heap.size, 3, .int .i64 0), (w.heap.size, 4, .int .u64 0), (w.heap.size + 1, 0, .int .i64 (c + 1)), (w.heap.size + 1, 1, .int .i64 lo), (w.heap.size + 1, 2, .int .i64 hi), (w.heap.size + 1, 3, .int .i64 0), (w.heap.size + 1, 4, .int .u64 0)]) (M := [(g, 0, .bool bz), (g, 1, .slice Az nz cz)]) (by kernel_rfl) hKa hKb (fun hJ0 hT0 => ?_)
       refine tv 1 77 rfl rfl ?_
       try go_frame
       refine tv 2 78 rfl rfl ?_
       try go_frame
       refine tv 3 79 rfl rfl ?_
       try go_frame
       refine tv 4 80 rfl rfl ?_
       try go_frame
       refine tk 5 81 rfl rfl ?_ ?_ ?_
       rotate_left
       ·intro wq hSw; have hq := hSw.2; repeat obtain ⟨⟨_,_,_⟩,hq⟩ := hq; have hp2 := (hSw.1.cell (p := ⟨bb, off + k * 2 + 1, none⟩) hbw).trans P2.out; go_simp; (try with_reducible rfl)
       try go_frame
       refine ty [0, 6] ?_
       refine AllReadyH.cons rfl (fun K hK => ?_) ?_
       obtain ⟨⟨Z0,C0,kf0⟩,⟨Z1,C1,kf1⟩,⟨Z2,C2,kf2⟩,⟨Z3,C3,kf3⟩,⟨Z4,C4,kf4⟩,⟨Z5,C5,kf5⟩,⟨Z6,C6,kf6⟩,⟨Z7,C7,kf7⟩,⟨Z8,C8,kf8⟩,⟨Z9,C9,kf9⟩,_⟩ := hJ0.2
       obtain ⟨⟨t0z0, t0c0, t0f0⟩,⟨t0z1, t0c1, t0f1⟩, _⟩ := hT0.2
       go_simp
       refine hK.out _ _ hJ0 (fun hJ1 => ?_)
       clear hK K; try clear hb
       try go_frame
       refine tw 6 rfl fun K hK => ?_
       go_simp
       ((with_reducible refine (IY.out _).mono ?_); rintro e v2 ⟨b2, A2, n2, c2, rfl, hb, z2, _⟩; have hz2 := hz.below (undrew hb))
       refine hK.out _ _ (hJ1.next hb) (fun hJ2 => ?_)
       replace hT0 := hT0.next hb
       clear hK K; try clear hb
       try go_frame
       refine tw 7 rfl fun K hK => ?_
       go_simp
       ((with_reducible refine (AX.out _ _ _ hz2 z2).mono ?_); rintro e v3 ⟨b3, A3, n3, c3, rfl, hb, z3, hi3⟩; have hA3 : ∀ ad, A3 = some ad → ad.block ≠ w.heap.size + 1 := fun ad e => by have h8 := hi3 ad e; have h9 : w.heap.size + 1 < v2.heap.size := (by first | exact hJ1.2.2.2.2.2.2.1.1 | exact hJ2.2.2.2.2.2.2.1.1 | exact hJ3.2.2.2.2.2.2.1.1 | exact hJ4.2.2.2.2.2.2.1.1 | exact hJ5.2.2.2.2.2.2.1.1 | exact hJ6.2.2.2.2.2.2.1.1 | exact hJ7.2.2.2.2.2.2.1.1 | exact hJ8.2.2.2.2.2.2.1.1); omega)
       refine hK.out _ _ (hJ2.next hb) (fun hJ3 => ?_)
       replace hT0 := hT0.next hb
       clear hK K; try clear hb
       try go_frame
       refine tw 8 rfl fun K hK => ?_
       obtain ⟨⟨t0z0, t0c0, t0f0⟩,⟨t0z1, t0c1, t0f1⟩, _⟩ := hT0.2; (try simp at t0z0); (try simp at t0c0); (try simp at t0f0); (try simp at t0z1); (try simp at t0c1); (try simp at t0f1)
       go_simp
       refine hK.out _ _ (by first | exact hJ3.alloc _ | (repeat (first | (with_reducible exact hJ3) | (with_reducible exact (Keeps.undrewR hJ3)) | (refine Keeps.set ?_ (by simp <;> omega) (by simp <;> omega) _) | (with_reducible refine Keeps.drew ?_)))) (fun hJ4 => ?_)
       clear hK K; try clear hb
       try go_frame
       refine wpAnyH_done (by kernel_rfl) ?_ _
       have hJ := hJ4
       obtain ⟨⟨Z0,C0,kf0⟩,⟨Z1,C1,kf1⟩,⟨Z2,C2,kf2⟩,⟨Z3,C3,kf3⟩,⟨Z4,C4,kf4⟩,⟨Z5,C5,kf5⟩,⟨Z6,C6,kf6⟩,⟨Z7,C7,kf7⟩,⟨Z8,C8,kf8⟩,⟨Z9,C9,kf9⟩,_⟩ := hJ.2
       rotate_left 1
       refine AllReadyH.cons rfl (fun K hK => ?_) ?_
       go_simp
       ((with_reducible refine (IY.out _).mono ?_); rintro e v2 ⟨b2, A2, n2, c2, rfl, hb, z2, _⟩; have hz2 := hz.below (undrew hb))
       refine hK.out _ _ (hJ0.next hb) (fun hJ5 => ?_)
       replace hT0 := hT0.next hb
       clear hK K; try clear hb
       try go_frame
       refine tw 0 rfl fun K hK => ?_
       obtain ⟨⟨Z0,C0,kf0⟩,⟨Z1,C1,kf1⟩,⟨Z2,C2,kf2⟩,⟨Z3,C3,kf3⟩,⟨Z4,C4,kf4⟩,⟨Z5,C5,kf5⟩,⟨Z6,C6,kf6⟩,⟨Z7,C7,kf7⟩,⟨Z8,C8,kf8⟩,⟨Z9,C9,kf9⟩,_⟩ := hJ5.2
       obtain ⟨⟨t0z0, t0c0, t0f0⟩,⟨t0z1, t0c1, t0f1⟩, _⟩ := hT0.2
       go_simp
       refine hK.out _ _ hJ5 (fun hJ6 => ?_)
       clear hK K; try clear hb
       try go_frame
       refine tw 7 rfl fun K hK => ?_
       go_simp
       ((with_reducible refine (AX.out _ _ _ hz2 z2).mono ?_); rintro e v3 ⟨b3, A3, n3, c3, rfl, hb, z3, hi3⟩; have hA3 : ∀ ad, A3 = some ad → ad.block ≠ w.heap.size + 1 := fun ad e => by have h8 := hi3 ad e; have h9 : w.heap.size + 1 < v2.heap.size := (by first | exact hJ1.2.2.2.2.2.2.1.1 | exact hJ2.2.2.2.2.2.2.1.1 | exact hJ3.2.2.2.2.2.2.1.1 | exact hJ4.2.2.2.2.2.2.1.1 | exact hJ5.2.2.2.2.2.2.1.1 | exact hJ6.2.2.2.2.2.2.1.1 | exact hJ7.2.2.2.2.2.2.1.1 | exact hJ8.2.2.2.2.2.2.1.1); omega)
       refine hK.out _ _ (hJ6.next hb) (fun hJ7 => ?_)
       replace hT0 := hT0.next hb
       clear hK K; try clear hb
       try go_frame
       refine tw 8 rfl fun K hK => ?_
       obtain ⟨⟨t0z0, t0c0, t0f0⟩,⟨t0z1, t0c1, t0f1⟩, _⟩ := hT0.2; (try simp at t0z0); (try simp at t0c0); (try simp at t0f0); (try simp at t0z1); (try simp at t0c1); (try simp at t0f1)
       go_simp
       refine hK.out _ _ (by first | exact hJ7.alloc _ | (repeat (first | (with_reducible exact hJ7) | (with_reducible exact (Keeps.undrewR hJ7)) | (refine Keeps.set ?_ (by simp <;> omega) (by simp <;> omega) _) | (with_reducible refine Keeps.drew ?_)))) (fun hJ8 => ?_)
       clear hK K; try clear hb
       try go_frame
       refine wpAnyH_done (by kernel_rfl) ?_ _
       have hJ := hJ8
       obtain ⟨⟨Z0,C0,kf0⟩,⟨Z1,C1,kf1⟩,⟨Z2,C2,kf2⟩,⟨Z3,C3,kf3⟩,⟨Z4,C4,kf4⟩,⟨Z5,C5,kf5⟩,⟨Z6,C6,kf6⟩,⟨Z7,C7,kf7⟩,⟨Z8,C8,kf8⟩,⟨Z9,C9,kf9⟩,_⟩ := hJ.2
       rotate_left 1
       exact AllReadyH.nil
       all_goals
        have hN := hJ.add2 (u0 := .bool b3) (u1 := .slice A3 n3 c3) t0z0 t0c0 t0f0 t0c1 t0f1
        have HZs : Hid (NumZ _ (.agg #[.bool b3, .slice A3 n3 c3]) (sumL (F (k + 1))) ∧ ∀ ad, A3 = some ad → ad.block ≠ w.heap.size + 1) := Lib.hid ⟨by rw [ES.out]; exact z3.set2 t0c0 t0c1 (.bool b3) (.slice A3 n3 c3), hA3⟩
        have HF5 : Hid ((c + 1 : Int) = (F (k + 1)).length ∧ lo = minL (F (k + 1)) ∧ hi = maxL (F (k + 1))) := Lib.hid ⟨by have h1 := EC.out; have h2 := HF.out.1; omega, EM.out⟩
        generalize hG : World.setCell (World.setCell v3 ⟨g, 0, none⟩ (.bool b3)) ⟨g, 1, none⟩ (.slice A3 n3 c3) = v5 at *
        clear hG z2 hz2 z3 hJ hKa hKb AX IY HZ hA hA3 HF EM ES EC
        go_wp2_with fail
        go_roundw
        case rel => exact ⟨k + 1, _, _, _, b3, A3, n3, c3, by simp, hlt, HF5, HZs, hN.sub (by simp)⟩
        case measure => exact tl.out
  ·have j1 : ¬ (k : Int) < (N : Int) := by omega
   have e : k = N := by omega
   subst e
   have hs1 := fold_sum (by have := (FB.out k).1; omega) (FB.out k).2
   have WX := Lib.hid (WZ.out _ hs1.1 hs1.2)
   obtain ⟨z0, hz0⟩ : ∃ x, x = rhi (sumL (F k)) := ⟨_, rfl⟩
   obtain ⟨z1, hz1⟩ : ∃ x, x = rlo (sumL (F k)) := ⟨_, rfl⟩
   rw [← hz0, ← hz1] at WX
   have HE := Lib.hid (And.intro hz0 hz1)
   obtain ⟨⟨Z0,C0,kf0⟩,⟨Z1,C1,kf1⟩,⟨Z2,C2,kf2⟩,⟨Z3,C3,kf3⟩,⟨Z4,C4,kf4⟩,⟨Z5,C5,kf5⟩,⟨Z6,C6,kf6⟩,⟨Z7,C7,kf7⟩,⟨Z8,C8,kf8⟩,⟨Z9,C9,kf9⟩,⟨Z10,C10,kf10⟩,⟨Z11,C11,kf11⟩,_⟩ := hH.2
   clear hs1 hz0 hz1 WZ
   go_wp2_with fail
   refine (WX.out _ _ HZ.out.1).mono ?_
   rintro e w9 ⟨rfl, hb⟩
   replace hH := hH.next hb
   clear hb WX HZ
   (try clear hJ0); (try clear hJ1); (try clear hJ2); (try clear hJ3); (try clear hJ4); (try clear hJ5); (try clear hJ6); (try clear hJ7); (try clear hJ8); (try clear hT0); (try clear Z0 C0 kf0); (try clear Z1 C1 kf1); (try clear Z2 C2 kf2); (try clear Z3 C3 kf3); (try clear Z4 C4 kf4); (try clear Z5 C5 kf5); (try clear Z6 C6 kf6); (try clear Z7 C7 kf7); (try clear Z8 C8 kf8); (try clear Z9 C9 kf9); (try clear Z10 C10 kf10); (try clear Z11 C11 kf11); (try clear t0z0 t0c0 t0f0); (try clear t0z1 t0c1 t0f1)
   obtain ⟨⟨Z0,C0,kf0⟩,⟨Z1,C1,kf1⟩,⟨Z2,C2,kf2⟩,⟨Z3,C3,kf3⟩,⟨Z4,C4,kf4⟩,⟨Z5,C5,kf5⟩,⟨Z6,C6,kf6⟩,⟨Z7,C7,kf7⟩,⟨Z8,C8,kf8⟩,⟨Z9,C9,kf9⟩,⟨Z10,C10,kf10⟩,⟨Z11,C11,kf11⟩,_⟩ := hH.2
   have hU := (kupd (M := [(g, 0, .bool bz), (g, 1, .slice Az nz cz), (w.heap.size, 0, .int .i64 0), (w.heap.size, 1, .int .i64 0), (w.heap.size, 2, .int .i64 0), (w.heap.size, 3, .int .i64 0), (w.heap.size, 4, .int .u64 0), (w.heap.size + 1, 0, .int .i64 c), (w.heap.size + 1, 1, .int .i64 lo), (w.heap.size + 1, 2, .int .i64 hi), (w.heap.size + 1, 3, .int .i64 z0), (w.heap.size + 1, 4, .int .u64 0)]) hH C10 (by omega) (.int .i64 z0) (by first | (simp [updL]; done) | (simp [updL]; omega)))
   have hc11 : (w9.setCell ⟨w.heap.size + 1, 3, none⟩ (.int .i64 z0)).cell? ⟨w.heap.size + 1, 4, none⟩ = some (.int .u64 0) := by obtain ⟨_, _, _, _, _, _, _, _, _, _, _, _, ⟨_, h, _⟩, _⟩ := hU; exact h
   have hU2 := (kupd (M := [(g, 0, .bool bz), (g, 1, .slice Az nz cz), (w.heap.size, 0, .int .i64 0), (w.heap.size, 1, .int .i64 0), (w.heap.size, 2, .int .i64 0), (w.heap.size, 3, .int .i64 0), (w.heap.size, 4, .int .u64 0), (w.heap.size + 1, 0, .int .i64 c), (w.heap.size + 1, 1, .int .i64 lo), (w.heap.size + 1, 2, .int .i64 hi), (w.heap.size + 1, 3, .int .i64 z0), (w.heap.size + 1, 4, .int .u64 z1)]) hU hc11 (by omega) (.int .u64 z1) (by first | (simp [updL]; done) | (simp [updL]; omega)))
   clear hU hc11 hH
   go_upto_region 14 with (fail)
   generalize (w9.setCell ⟨w.heap.size + 1, 3, none⟩ (.int .i64 z0)).setCell ⟨w.heap.size + 1, 4, none⟩ (.int .u64 z1) = w10 at *
   (try clear hJ0); (try clear hJ1); (try clear hJ2); (try clear hJ3); (try clear hJ4); (try clear hJ5); (try clear hJ6); (try clear hJ7); (try clear hJ8); (try clear hT0); (try clear Z0 C0 kf0); (try clear Z1 C1 kf1); (try clear Z2 C2 kf2); (try clear Z3 C3 kf3); (try clear Z4 C4 kf4); (try clear Z5 C5 kf5); (try clear Z6 C6 kf6); (try clear Z7 C7 kf7); (try clear Z8 C8 kf8); (try clear Z9 C9 kf9); (try clear Z10 C10 kf10); (try clear Z11 C11 kf11); (try clear t0z0 t0c0 t0f0); (try clear t0z1 t0c1 t0f1)
   (try clear Z8 C8 kf8); (try clear Z9 C9 kf9); (try clear Z10 C10 kf10); (try clear Z11 C11 kf11)
   obtain ⟨⟨Z0,C0,kf0⟩,⟨Z1,C1,kf1⟩,⟨Z2,C2,kf2⟩,⟨Z3,C3,kf3⟩,⟨Z4,C4,kf4⟩,⟨Z5,C5,kf5⟩,⟨Z6,C6,kf6⟩,⟨Z7,C7,kf7⟩,⟨Z8,C8,kf8⟩,⟨Z9,C9,kf9⟩,⟨Z10,C10,kf10⟩,⟨Z11,C11,kf11⟩,_⟩ := hU2.2
   obtain ⟨d0, d1, d2, d3, d4⟩ := set5 (u0 := .int .i64 c) (u1 := .int .i64 lo) (u2 := .int .i64 hi) (u3 := .int .i64 z0) (u4 := .int .u64 z1) C2 C3 C4 C5 C6
   have hB := Lib.hid (below5 hU2.1 (Nat.le_refl _) (.int .i64 c) (.int .i64 lo) (.int .i64 hi) (.int .i64 z0) (.int .u64 z1))
   clear hU2
   go_wp2_with fail
   refine bodyPost_ret (v := fiveV c lo hi z0 z1) (by simp [results, Tryz.results32, go_sem, d0, d1, d2, d3, d4]) rfl ?_
   refine ⟨c, lo, hi, z0, z1, rfl, hB.out, ?_⟩
   obtain ⟨r1, r2, r3⟩ := HF.out
   rw [HE.out.1, HE.out.2, r1, r2, r3]
   rfl
theorem refFold_any (l : List Pn) (hl : l.length ≤ 256) (hv : ∀ p ∈ l, backB p.v = true) (a b : Int) (pv : Value) (w : World) (h : ReadsP w pv (l.map pairP)) : Calls Tryz.prog 32 #[pv, .int .i64 a, .int .i64 b] w (Ret w (partL (seenF a b l l.length))) := by
 obtain ⟨A, c, rfl, hc, hk⟩ := h
 rw [List.length_map]
 refine (refFold_walk A l.length c l hl (Lib.hid rfl) a b (seenF a b l) (Lib.hid rfl) (Lib.hid (fun k p hp => seen_next hp)) (Lib.hid (fun k => ?_)) (Lib.hid hv) w (Lib.hid (fun k p hp => hk k (p.t, p.v) (by rw [List.getElem?_map, hp]; rfl)))).mono ?_
 ·refine ⟨?_, fun v hm => ?_⟩
  ·unfold seenF
   rw [List.length_map]
   exact Nat.le_trans (List.length_filter_le _ _) (by rw [List.length_take]; omega)
  ·unfold seenF at hm
   obtain ⟨p, hp, rfl⟩ := List.mem_map.1 hm
   exact hv p (List.mem_of_mem_take (List.mem_filter.1 hp).1)
 ·rintro e w' ⟨c', lo, hi, z0, z1, rfl, hb, he⟩
  exact ⟨by rw [he], hb⟩
end Go.Proofs.YtcfidimnbamnkaaGreat.P11
namespace Go.Proofs.YtcfidimnbamnkaaGreat.P11
open Go.RowKit Go.Shelf Go.Proofs.YtcfidimnbamnkaaGreat.P7
set_option maxRecDepth 100000 in
set_option maxHeartbeats 4000000 in
theorem parts_walk (x : Sg) (v0 u0 : Value) (s : Sg) (a b : Int) (w : World) (full : List Pn) (WK : Hid (∀ W, Calls Tryz.prog 14 #[] W (Ret W (.bool true)))) (OW : Hid (∀ W, Below w.heap.size w W → Calls Tryz.prog 15 #[sgOf x v0 u0] W (OwnS W s))) (p0 p1 p2 p3 p4 q0 q1 q2 q3 q4 code : Int) (right : Bool) (PTS : Hid (CallP s a b p0 p1 p2 p3 p4 code)) (RG : Hid (∀ v u W, ReadsR W v s.R → Reads .i64 W u s.V → Calls Tryz.prog 16 #[sgOf s v u] W (Ret W (.bool right)))) (RP : right = true → Hid (∀ v u W, ReadsR W v s.R → Reads .i64 W u s.V → Calls Tryz.prog 21 #[sgOf s v u] W (fun e w' => ∃ A n c, e = .returned (.tuple #[.slice A n c, .bool true]) ∧ Below W.heap.size W w' ∧ RowP w' W.heap.size (.slice A n c) full))) (FO : right = true → Hid (∀ v W, ReadsP W v (full.map pairP) → Calls Tryz.prog 32 #[v, .int .i64 a, .int .i64 b] W (Ret W (fiveV q0 q1 q2 q3 q4)))) (H : right = false ∧ p0 = 0 ∧ p1 = 0 ∧ p2 = 0 ∧ p3 = 0 ∧ p4 = 0 ∧ code = 210 ∨ right = true ∧ q0 = 0 ∧ p0 = 0 ∧ p1 = 0 ∧ p2 = 0 ∧ p3 = 0 ∧ p4 = 0 ∧ code = 9 ∨ right = true ∧ (q0 == 0) = false ∧ p0 = q0 ∧ p1 = q1 ∧ p2 = q2 ∧ p3 = q3 ∧ p4 = q4 ∧ code = 0) :
  Calls Tryz.prog 6 #[sgOf x v0 u0, .int .i64 a, .int .i64 b] w (Ret w (.bool true)) := by
 go_enter Tryz.func6, Tryz.ntmps6
 go_wp2_with fail
 refine (WK.out _).mono ?_
 rintro e w1 ⟨rfl, hb⟩
 have hK := new_seg (Below.refl w.heap.size w) 27 x.k v0 x.a x.r x.n x.d u0 x.e
 replace hK := hK.next hb
 clear hb
 obtain ⟨⟨Z0,C0,kf0⟩,⟨Z1,C1,kf1⟩,⟨Z2,C2,kf2⟩,⟨Z3,C3,kf3⟩,⟨Z4,C4,kf4⟩,⟨Z5,C5,kf5⟩,⟨Z6,C6,kf6⟩,⟨Z7,C7,kf7⟩,_⟩ := hK.2
 go_wp2_with fail
 refine (OW.out _ hK.1).mono ?_
 rintro e w2 hq
 obtain ⟨B1, n1, d1, B2, n2, d2, rfl, hb, ho⟩ := own_got hq
 have hB2 := under hK.1 hb
 clear hb hK hq
 (try clear Z0 C0 kf0); (try clear Z1 C1 kf1); (try clear Z2 C2 kf2); (try clear Z3 C3 kf3); (try clear Z4 C4 kf4); (try clear Z5 C5 kf5); (try clear Z6 C6 kf6); (try clear Z7 C7 kf7); (try clear Z8 C8 kf8); (try clear Z9 C9 kf9); (try clear Z10 C10 kf10); (try clear Z11 C11 kf11); (try clear Z12 C12 kf12); (try clear Z13 C13 kf13)
 obtain ⟨k, R, sa, sr, sn, sd, V, se⟩ := s
 simp only [sgOf] at PTS RG RP FO H ⊢
 have hN := new_seg hB2 27 k (.slice B1 n1 d1) sa sr sn sd (.slice B2 n2 d2) se
 replace ho := ho.below (below_alloc w2 (sgO 27 k (.slice B1 n1 d1) sa sr sn sd (.slice B2 n2 d2) se))
 clear hB2
 go_upto_region 4 with (fail)
 generalize w2.alloc (sgO 27 k (.slice B1 n1 d1) sa sr sn sd (.slice B2 n2 d2) se) = w2' at *
 generalize w2.heap.size = g at *
 obtain ⟨⟨Z0,C0,kf0⟩,⟨Z1,C1,kf1⟩,⟨Z2,C2,kf2⟩,⟨Z3,C3,kf3⟩,⟨Z4,C4,kf4⟩,⟨Z5,C5,kf5⟩,⟨Z6,C6,kf6⟩,⟨Z7,C7,kf7⟩,_⟩ := hN.2
 go_wp2_with fail
 refine (PTS.out _ _ _ ho.readsR ho.reads).mono ?_
 rintro e w3 ⟨rfl, hb⟩
 replace hN := hN.next hb
 replace ho := ho.below hb
 clear hb PTS
 (try clear Z0 C0 kf0); (try clear Z1 C1 kf1); (try clear Z2 C2 kf2); (try clear Z3 C3 kf3); (try clear Z4 C4 kf4); (try clear Z5 C5 kf5); (try clear Z6 C6 kf6); (try clear Z7 C7 kf7); (try clear Z8 C8 kf8); (try clear Z9 C9 kf9); (try clear Z10 C10 kf10); (try clear Z11 C11 kf11); (try clear Z12 C12 kf12); (try clear Z13 C13 kf13)
 have hM : Keeps w [(w3.heap.size, 0, .int .i64 p0), (w3.heap.size, 1, .int .i64 p1), (w3.heap.size, 2, .int .i64 p2), (w3.heap.size, 3, .int .i64 p3), (w3.heap.size, 4, .int .u64 p4)] (w3.alloc (.cells #[.int .i64 p0, .int .i64 p1, .int .i64 p2, .int .i64 p3, .int .u64 p4] 59)) := ⟨(hN.alloc _).1, by simp [Cells, go_sem]⟩
 replace hN := (hN.alloc (.cells #[.int .i64 p0, .int .i64 p1, .int .i64 p2, .int .i64 p3, .int .u64 p4] 59)).app hM
 replace ho := ho.below (below_alloc w3 (.cells #[.int .i64 p0, .int .i64 p1, .int .i64 p2, .int .i64 p3, .int .u64 p4] 59))
 clear hM
 go_upto_region 5 with (fail)
 generalize w3.alloc (.cells #[.int .i64 p0, .int .i64 p1, .int .i64 p2, .int .i64 p3, .int .u64 p4] 59) = w3' at *
 generalize w3.heap.size = g1 at *
 obtain ⟨⟨Z0,C0,kf0⟩,⟨Z1,C1,kf1⟩,⟨Z2,C2,kf2⟩,⟨Z3,C3,kf3⟩,⟨Z4,C4,kf4⟩,⟨Z5,C5,kf5⟩,⟨Z6,C6,kf6⟩,⟨Z7,C7,kf7⟩,⟨Z8,C8,kf8⟩,⟨Z9,C9,kf9⟩,⟨Z10,C10,kf10⟩,⟨Z11,C11,kf11⟩,⟨Z12,C12,kf12⟩,_⟩ := hN.2
 go_wp2_with fail
 refine (RG.out _ _ _ ho.readsR ho.reads).mono ?_
 rintro e w4 ⟨rfl, hb⟩
 replace hN := hN.next hb
 replace ho := ho.below hb
 clear hb RG
 (try clear Z0 C0 kf0); (try clear Z1 C1 kf1); (try clear Z2 C2 kf2); (try clear Z3 C3 kf3); (try clear Z4 C4 kf4); (try clear Z5 C5 kf5); (try clear Z6 C6 kf6); (try clear Z7 C7 kf7); (try clear Z8 C8 kf8); (try clear Z9 C9 kf9); (try clear Z10 C10 kf10); (try clear Z11 C11 kf11); (try clear Z12 C12 kf12); (try clear Z13 C13 kf13)
 obtain ⟨⟨Z0,C0,kf0⟩,⟨Z1,C1,kf1⟩,⟨Z2,C2,kf2⟩,⟨Z3,C3,kf3⟩,⟨Z4,C4,kf4⟩,⟨Z5,C5,kf5⟩,⟨Z6,C6,kf6⟩,⟨Z7,C7,kf7⟩,⟨Z8,C8,kf8⟩,⟨Z9,C9,kf9⟩,⟨Z10,C10,kf10⟩,⟨Z11,C11,kf11⟩,⟨Z12,C12,kf12⟩,_⟩ := hN.2
 rcases H with ⟨rfl, rfl, rfl, rfl, rfl, rfl, rfl⟩ | ⟨rfl, rfl, rfl, rfl, rfl, rfl, rfl, rfl⟩ | ⟨rfl, hq0, rfl, rfl, rfl, rfl, rfl, rfl⟩
 ·clear RP FO
  go_wp2_with fail
  go_ret
  exact ⟨rfl, hN.1⟩
 ·skip
  have RP2 := Lib.hid (RP rfl).out
  have FO2 := Lib.hid (FO rfl).out
  go_wp2_with fail
  refine (RP2.out _ _ _ ho.readsR ho.reads).mono ?_
  rintro e w5 ⟨A4, n4, c4, rfl, hb, hpts⟩
  have rp := readsP_own (show World.ownsRow _ _ _ _ _ _ _ from hpts)
  replace hN := hN.next hb
  clear hb ho RP2 RP hpts
  (try clear Z0 C0 kf0); (try clear Z1 C1 kf1); (try clear Z2 C2 kf2); (try clear Z3 C3 kf3); (try clear Z4 C4 kf4); (try clear Z5 C5 kf5); (try clear Z6 C6 kf6); (try clear Z7 C7 kf7); (try clear Z8 C8 kf8); (try clear Z9 C9 kf9); (try clear Z10 C10 kf10); (try clear Z11 C11 kf11); (try clear Z12 C12 kf12); (try clear Z13 C13 kf13)
  obtain ⟨⟨Z0,C0,kf0⟩,⟨Z1,C1,kf1⟩,⟨Z2,C2,kf2⟩,⟨Z3,C3,kf3⟩,⟨Z4,C4,kf4⟩,⟨Z5,C5,kf5⟩,⟨Z6,C6,kf6⟩,⟨Z7,C7,kf7⟩,⟨Z8,C8,kf8⟩,⟨Z9,C9,kf9⟩,⟨Z10,C10,kf10⟩,⟨Z11,C11,kf11⟩,⟨Z12,C12,kf12⟩,_⟩ := hN.2
  go_wp2_with fail
  refine (FO2.out _ _ rp).mono ?_
  rintro e w6 ⟨rfl, hb⟩
  replace hN := hN.next hb
  clear hb FO2 FO rp
  (try clear Z0 C0 kf0); (try clear Z1 C1 kf1); (try clear Z2 C2 kf2); (try clear Z3 C3 kf3); (try clear Z4 C4 kf4); (try clear Z5 C5 kf5); (try clear Z6 C6 kf6); (try clear Z7 C7 kf7); (try clear Z8 C8 kf8); (try clear Z9 C9 kf9); (try clear Z10 C10 kf10); (try clear Z11 C11 kf11); (try clear Z12 C12 kf12); (try clear Z13 C13 kf13)
  have hM : Keeps w [(w6.heap.size, 0, .int .i64 0), (w6.heap.size, 1, .int .i64 q1), (w6.heap.size, 2, .int .i64 q2), (w6.heap.size, 3, .int .i64 q3), (w6.heap.size, 4, .int .u64 q4)] (w6.alloc (.cells #[.int .i64 0, .int .i64 q1, .int .i64 q2, .int .i64 q3, .int .u64 q4] 59)) := ⟨(hN.alloc _).1, by simp [Cells, go_sem]⟩
  replace hN := (hN.alloc (.cells #[.int .i64 0, .int .i64 q1, .int .i64 q2, .int .i64 q3, .int .u64 q4] 59)).app hM
  clear hM
  go_upto_region 9 with (fail)
  generalize w6.alloc (.cells #[.int .i64 0, .int .i64 q1, .int .i64 q2, .int .i64 q3, .int .u64 q4] 59) = w7 at *
  generalize w6.heap.size = g2 at *
  obtain ⟨⟨Z0,C0,kf0⟩,⟨Z1,C1,kf1⟩,⟨Z2,C2,kf2⟩,⟨Z3,C3,kf3⟩,⟨Z4,C4,kf4⟩,⟨Z5,C5,kf5⟩,⟨Z6,C6,kf6⟩,⟨Z7,C7,kf7⟩,⟨Z8,C8,kf8⟩,⟨Z9,C9,kf9⟩,⟨Z10,C10,kf10⟩,⟨Z11,C11,kf11⟩,⟨Z12,C12,kf12⟩,⟨Z13,C13,kf13⟩,⟨_,_,_⟩,⟨_,_,_⟩,⟨_,_,_⟩,⟨_,_,_⟩,_⟩ := hN.2
  go_wp2_with fail
  go_ret
  exact ⟨rfl, hN.1⟩
 ·skip
  have RP2 := Lib.hid (RP rfl).out
  have FO2 := Lib.hid (FO rfl).out
  go_wp2_with fail
  refine (RP2.out _ _ _ ho.readsR ho.reads).mono ?_
  rintro e w5 ⟨A4, n4, c4, rfl, hb, hpts⟩
  have rp := readsP_own (show World.ownsRow _ _ _ _ _ _ _ from hpts)
  replace hN := hN.next hb
  clear hb ho RP2 RP hpts
  (try clear Z0 C0 kf0); (try clear Z1 C1 kf1); (try clear Z2 C2 kf2); (try clear Z3 C3 kf3); (try clear Z4 C4 kf4); (try clear Z5 C5 kf5); (try clear Z6 C6 kf6); (try clear Z7 C7 kf7); (try clear Z8 C8 kf8); (try clear Z9 C9 kf9); (try clear Z10 C10 kf10); (try clear Z11 C11 kf11); (try clear Z12 C12 kf12); (try clear Z13 C13 kf13)
  obtain ⟨⟨Z0,C0,kf0⟩,⟨Z1,C1,kf1⟩,⟨Z2,C2,kf2⟩,⟨Z3,C3,kf3⟩,⟨Z4,C4,kf4⟩,⟨Z5,C5,kf5⟩,⟨Z6,C6,kf6⟩,⟨Z7,C7,kf7⟩,⟨Z8,C8,kf8⟩,⟨Z9,C9,kf9⟩,⟨Z10,C10,kf10⟩,⟨Z11,C11,kf11⟩,⟨Z12,C12,kf12⟩,_⟩ := hN.2
  go_wp2_with fail
  refine (FO2.out _ _ rp).mono ?_
  rintro e w6 ⟨rfl, hb⟩
  replace hN := hN.next hb
  clear hb FO2 FO rp
  (try clear Z0 C0 kf0); (try clear Z1 C1 kf1); (try clear Z2 C2 kf2); (try clear Z3 C3 kf3); (try clear Z4 C4 kf4); (try clear Z5 C5 kf5); (try clear Z6 C6 kf6); (try clear Z7 C7 kf7); (try clear Z8 C8 kf8); (try clear Z9 C9 kf9); (try clear Z10 C10 kf10); (try clear Z11 C11 kf11); (try clear Z12 C12 kf12); (try clear Z13 C13 kf13)
  have hM : Keeps w [(w6.heap.size, 0, .int .i64 p0), (w6.heap.size, 1, .int .i64 p1), (w6.heap.size, 2, .int .i64 p2), (w6.heap.size, 3, .int .i64 p3), (w6.heap.size, 4, .int .u64 p4)] (w6.alloc (.cells #[.int .i64 p0, .int .i64 p1, .int .i64 p2, .int .i64 p3, .int .u64 p4] 59)) := ⟨(hN.alloc _).1, by simp [Cells, go_sem]⟩
  replace hN := (hN.alloc (.cells #[.int .i64 p0, .int .i64 p1, .int .i64 p2, .int .i64 p3, .int .u64 p4] 59)).app hM
  clear hM
  go_upto_region 9 with (fail)
  generalize w6.alloc (.cells #[.int .i64 p0, .int .i64 p1, .int .i64 p2, .int .i64 p3, .int .u64 p4] 59) = w7 at *
  generalize w6.heap.size = g2 at *
  obtain ⟨⟨Z0,C0,kf0⟩,⟨Z1,C1,kf1⟩,⟨Z2,C2,kf2⟩,⟨Z3,C3,kf3⟩,⟨Z4,C4,kf4⟩,⟨Z5,C5,kf5⟩,⟨Z6,C6,kf6⟩,⟨Z7,C7,kf7⟩,⟨Z8,C8,kf8⟩,⟨Z9,C9,kf9⟩,⟨Z10,C10,kf10⟩,⟨Z11,C11,kf11⟩,⟨Z12,C12,kf12⟩,⟨Z13,C13,kf13⟩,⟨_,_,_⟩,⟨_,_,_⟩,⟨_,_,_⟩,⟨_,_,_⟩,_⟩ := hN.2
  go_wp2_with fail
  go_ret
  exact ⟨rfl, hN.1⟩
theorem partsLaw_any (x : Sg) (hR : x.R.length ≤ 9223372036854775807) (hV : x.V.length ≤ 9223372036854775807) (a b : Int) (v0 u0 : Value) (w : World) (h : ReadsR w v0 x.R) (hu : Reads .i64 w u0 x.V) :
  Calls Tryz.prog 6 #[sgOf x v0 u0, .int .i64 a, .int .i64 b] w (Ret w (.bool true)) := by
 have WK := Lib.hid (fun W => wakes_any W)
 have OW := Lib.hid (fun W (hb : Below w.heap.size w W) => own_any x hR hV v0 u0 W (h.below hb) (hu.below hb))
 have h1 : (takeS x).R.length ≤ 1000000 := by unfold takeS; simp only; rw [List.length_take]; omega
 have h2 : (takeS x).V.length ≤ 1000000 := by unfold takeS; simp only; rw [List.length_take]; omega
 generalize takeS x = s at *
 have hfew : segB s = true → (ptsS s).length ≤ 256 := fun g => by
  have hT := times_ok ((segB_iff s).1 g).1
  unfold ptsS
  rw [ptsF_length 0 _ _ (vals_length g)]
  exact hT.few
 have hback : segB s = true → ∀ p ∈ ptsS s, backB p.v = true := fun g p hp => ((segB_iff s).1 g).2.2.2.2 _ (ptsF_mem 0 _ _ p hp).1
 refine parts_walk x v0 u0 s a b w (ptsS s) WK OW _ _ _ _ _ (valsIn s a b).length (minL (valsIn s a b)) (maxL (valsIn s a b)) (rhi (sumL (valsIn s a b))) (rlo (sumL (valsIn s a b))) _ (segB s) (Lib.hid (callP s h1 h2 a b)) (Lib.hid (rightS_is s h1 h2)) (fun g => Lib.hid (pointsR_is s g)) (fun g => Lib.hid (fun v W hp => ?_)) ?_
 ·have := refFold_any (ptsS s) (hfew g) (hback g) a b v W hp
  rwa [seen_all s g a b] at this
 ·have z0 := zero_words.1
  have z1 := zero_words.2
  have e0 : partsOf s a b = [] → ((partsOf s a b).length : Int) = 0 ∧ minL (partsOf s a b) = 0 ∧ maxL (partsOf s a b) = 0 ∧ rhi (sumL (partsOf s a b)) = 0 ∧ rlo (sumL (partsOf s a b)) = 0 := fun e => by
   rw [e]
   exact ⟨rfl, rfl, rfl, z0, z1⟩
  cases g : segB s
  ·have e1 : partsOf s a b = [] := by unfold partsOf; rw [g]; rfl
   obtain ⟨a1, a2, a3, a4, a5⟩ := e0 e1
   exact .inl ⟨rfl, a1, a2, a3, a4, a5, by unfold partC; rw [g]; rfl⟩
  ·have e1 : partsOf s a b = valsIn s a b := by unfold partsOf; rw [g]; rfl
   by_cases hv : valsIn s a b = []
   ·obtain ⟨a1, a2, a3, a4, a5⟩ := e0 (e1.trans hv)
    exact .inr (.inl ⟨rfl, by rw [hv]; rfl, a1, a2, a3, a4, a5, by unfold partC; rw [g, if_pos rfl, if_pos hv]⟩)
   ·refine .inr (.inr ⟨rfl, ?_, by rw [e1], by rw [e1], by rw [e1], by rw [e1], by rw [e1], by unfold partC; rw [g, if_pos rfl, if_neg hv]⟩)
    have : (valsIn s a b).length ≠ 0 := fun h => hv (List.eq_nil_of_length_eq_zero h)
    simp
    omega
end Go.Proofs.YtcfidimnbamnkaaGreat.P11
