/-
  Layer 11: the law SegValues holds of every input. Conditions: those of the law's row.
-/
import Derived.Test.YtcfidimnbamnkaaGreatSgT
import Derived.Test.YtcfidimnbamnkaaGreatSgX
import Derived.Test.YtcfidimnbamnkaaGreatSgS
import Derived.Test.YtcfidimnbamnkaaGreatLdC
import Derived.Test.YtcfidimnbamnkaaGreatNE
import Derived.Test.YtcfidimnbamnkaaGreatKitW
import Derived.Maps.RangeWalk
import Derived.Test.YtcfidimnbamnkaaGreatSgO
/-
  Layer 11: Part, as a law calls it; a segment of the law's own. Conditions: those written at each fact.
-/
namespace Go.Proofs.YtcfidimnbamnkaaGreat.P11
open Go.RowKit Go.Shelf Go.Proofs.YtcfidimnbamnkaaGreat.P7

theorem own_got {w : World} {s : Sg} {e : Ending} {w' : World} (h : OwnS w s e w') : ∃ A1 n1 c1 A2 n2 c2, e = .returned (sgOf s (.slice A1 n1 c1) (.slice A2 n2 c2)) ∧ Below w.heap.size w w' ∧ Own2 w' w.heap.size s (.slice A1 n1 c1) (.slice A2 n2 c2) := by
  obtain ⟨v, u, he, hb, ho⟩ := h
  obtain ⟨A1, n1, c1, rfl⟩ := own_sl ho.runs
  obtain ⟨A2, n2, c2, rfl⟩ := own_sl ho.raws
  exact ⟨A1, n1, c1, A2, n2, c2, he, hb, ho⟩
end Go.Proofs.YtcfidimnbamnkaaGreat.P11

/-
  Layer 11: the document's points of a segment. Conditions: its runs may be, and it has as many numbers as times, or a line that may be.
-/
namespace Go.Proofs.YtcfidimnbamnkaaGreat.P11
open Go.RowKit Go.Shelf Go.Proofs.YtcfidimnbamnkaaGreat.P7

def AskOk (s : Sg) : Prop := okB s.R = true ∧ (s.k = 4 ∧ (s.V.length : Int) = totalR s.R ∨ s.k ≠ 4 ∧ lineB s.a s.r s.n s.d = true)
theorem ask_len {s : Sg} (h : AskOk s) : (vals s).length = (timesR s.R).length := by
  obtain ⟨hok, ⟨hk, hl⟩ | ⟨hk, hl⟩⟩ := h
  · have hT := times_ok hok
    unfold vals
    rw [if_pos hk]
    have := hT.total
    omega
  · unfold vals
    rw [if_neg hk, List.length_map]
def RowP (W : World) (B : Nat) (u : Value) (l : List Pn) : Prop := W.ownsRow B 53 2 u l.length (flatP l)
def PointsD (w : World) (s : Sg) (e : Ending) (w' : World) : Prop := if backs (vals s) then ∃ A n c, e = .returned (.tuple #[.slice A n c, .bool true]) ∧ Below w.heap.size w w' ∧ RowP w' w.heap.size (.slice A n c) (ptsS s) else e = .returned (.tuple #[.slice none 0 0, .bool false]) ∧ Below w.heap.size w w'
theorem backs_at {s : Sg} {k : Nat} {x : Int} (hx : (vals s)[k]? = some x) (hb : backB x = false) : backs (vals s) = false := by
  rw [← Bool.not_eq_true, backs_iff]
  intro h
  have := h x (List.mem_of_getElem? hx)
  rw [hb] at this
  cases this
theorem owns_pt {W : World} {B pb i : Nat} {e : TypeId} {size n : Nat} {v : Value} {xs : List Value} (h : W.ownsRow B e size v n xs) (hpb : v.ownBlock ≠ some pb) (u : Value) : (W.setCell ⟨pb, i, none⟩ u).ownsRow B e size v n xs := by
  refine ⟨h.1, ?_⟩
  rcases h.2 with h2 | ⟨g', cap, cur, rfl, e2, e3, e4⟩
  · exact .inl h2
  · exact .inr ⟨g', cap, cur, rfl, e2, (Below.heap_setCell W ⟨pb, i, none⟩ u g' (fun e => hpb (by rw [show pb = g' from e.symm]; rfl))).trans e3, e4⟩
theorem take_few {α : Type} (l : List α) {j N : Nat} (h : j < N) (hN : N ≤ 256) : (l.take j).length ≤ 256 := by
  rw [List.length_take]
  omega
theorem keeps_named {w1 W : World} {L : List (Nat × Nat × Value)} (h : Keeps w1 L W) : ∃ W', W' = W ∧ Keeps w1 L W' := ⟨_, rfl, h⟩
theorem back_more {Vs : List Int} {j : Nat} {x : Int} (hx : Vs[j]? = some x) (h : ∀ (q : Nat) (y : Int), q < j → Vs[q]? = some y → backB y = true) : backB x = true → ∀ (q : Nat) (y : Int), q < j + 1 → Vs[q]? = some y → backB y = true := by
  intro hb q y hq hy
  by_cases e : q = j
  · subst e
    rw [hx] at hy
    cases hy
    exact hb
  · exact h q y (by omega) hy
theorem lt_of_eqV {j N M : Nat} (h : M = N) (hj : j < N) : (j : Int) < (M : Int) := by omega
end Go.Proofs.YtcfidimnbamnkaaGreat.P11

/-
  Layer 11: the document's Points. Conditions: its runs may be, and it has as many numbers as times, or a line that may be.
-/
namespace Go.Proofs.YtcfidimnbamnkaaGreat.P11
open Go.RowKit Go.Shelf Go.Proofs.YtcfidimnbamnkaaGreat.P7

set_option maxRecDepth 100000 in
set_option maxHeartbeats 8000000 in
theorem refPoints_raw (s : Sg) (hA : AskOk s) (hk : s.k = 4) (v u : Value) (w : World) (h : ReadsR w v s.R) (hu : Reads .i64 w u s.V) :
    Calls Tryz.prog 21 #[sgOf s v u] w (PointsD w s) := by
  have hok := hA.1
  have hT := times_ok hok
  have hlen := ask_len hA
  have hR1 : s.R.length ≤ 1000000 := by have := hT.runs; omega
  obtain ⟨i0, hi, hz0, hz1, hz2⟩ := info_parts infoPoint
  have TM : Hid (∀ W, Below w.heap.size w W → Calls Tryz.prog 56 #[v] W (LaidI W (timesR s.R))) := Lib.hid (fun W hb => by
    have := P7.refTimes_any s.R hR1 v W (h.below hb)
    rwa [timesD_ok hok] at this)
  have HW0 : Hid (∀ W, Below w.heap.size w W → Reads .i64 W u s.V) := Lib.hid (fun W hb => hu.below hb)
  have HP := Lib.hid (fun (q : Nat) (t x : Int) (hq : (timesR s.R)[q]? = some t) (hx : (vals s)[q]? = some x) => ptsF_get 0 _ _ q t x hq hx)
  have HPL : Hid ((ptsS s).length = (timesR s.R).length) := Lib.hid (ptsF_length 0 _ _ hlen)
  have HF := Lib.hid (fun (q : Nat) (t : Int) (hq : (timesR s.R)[q]? = some t) => since_time hT hq)
  have HF0 := Lib.hid (times_first hT)
  have HBK := Lib.hid (fun (q : Nat) (x : Int) (hx : (vals s)[q]? = some x) (hb : backB x = false) => backs_at hx hb)
  have hv4 : vals s = s.V := by unfold vals; rw [if_pos hk]
  have hu9 := hu
  have HT1 := Lib.hid hT.one
  have HT2 := Lib.hid hT.few
  have HVL := Lib.hid hlen
  unfold PointsD
  have HALL : Hid ((∀ j x, (vals s)[j]? = some x → backB x = true) → backs (vals s) = true) := Lib.hid (fun hh => (backs_iff _).2 (fun x hx => by obtain ⟨j, hj⟩ := List.getElem?_of_mem hx; exact hh j x hj))
  generalize backs (vals s) = bk at *
  obtain ⟨full, hfull⟩ : ∃ f, f = ptsS s := ⟨_, rfl⟩
  obtain ⟨T, hTT⟩ : ∃ T, T = timesR s.R := ⟨_, rfl⟩
  obtain ⟨Vs, hVs⟩ : ∃ V, V = vals s := ⟨_, rfl⟩
  have HP2 : Hid (∀ (q : Nat) (t x : Int), T[q]? = some t → Vs[q]? = some x → full[q]? = some ⟨(q : Int), t, x⟩) := Lib.hid (fun q t x h1 h2 => by
    rw [hTT] at h1
    rw [hVs] at h2
    have := HP.out q t x h1 h2
    rw [Nat.zero_add] at this
    rw [hfull]; exact this)
  rw [← hfull, ← hTT] at HPL
  rw [← hTT] at TM HF HF0 HT1 HT2 HVL
  rw [← hVs] at HBK HVL HALL hv4
  rw [← hfull]
  generalize fstT s.R = f0 at *
  clear HP hA hok hT hlen hR1 h hu hfull hTT hVs
  obtain ⟨k, R, a, r, n, d, V, e⟩ := s
  simp only at *
  subst hk
  subst hv4
  obtain ⟨A9, c9, rfl, hc9, hk9⟩ := hu9
  obtain ⟨y0, hy0⟩ : ∃ z, Vs[0]? = some z := ⟨_, List.getElem?_eq_getElem (by rw [HVL.out]; exact HT1.out)⟩
  obtain ⟨b9, o9, rfl, hb9, hy9⟩ := hk9 0 y0 hy0
  have HK9 := Lib.hid hk9
  clear hy9 hy0 hk9
  have hK := new_seg (Below.refl w.heap.size w) 27 4 v a r n d (.slice (some ⟨b9, o9, none⟩) Vs.length c9) e
  go_enter Tryz.func21, Tryz.ntmps21
  go_wp2_with fail
  refine (TM.out _ hK.1).mono ?_
  rintro e w1 ⟨vt, rfl, hb, hrow⟩
  replace hK := hK.next hb
  have hrd := reads_own (k := .i64) (show World.ownsRow _ _ _ _ _ _ _ from hrow)
  clear hb hrow TM
  obtain ⟨A2, c2, rfl, hc2, hk2⟩ := hrd
  have HK2 := Lib.hid hk2
  have HU := Lib.hid (HW0.out w1 hK.1)
  have HBW := Lib.hid hK.1
  have hBX : Cells [(w.heap.size, 0, .int .i64 4), (w.heap.size, 1, v), (w.heap.size, 2, .int .i64 a), (w.heap.size, 3, .int .i64 r), (w.heap.size, 4, .int .i64 n), (w.heap.size, 5, .int .i64 d), (w.heap.size, 6, .slice (some ⟨b9, o9, none⟩) Vs.length c9), (w.heap.size, 7, .int .i64 e)] w1 := hK.2
  have HBX := Lib.hid hBX
  clear hk2 HW0 hK hBX
  generalize hN : T.length = N at *
  have HN := Lib.hid hN
  clear hN
  go_wp2_with fail
  go_loopw [5, 6] (fun uu i wr => ∃ j : Nat, i = .int .i64 j ∧ j ≤ N ∧ Hid (∀ q x, q < j → Vs[q]? = some x → backB x = true) ∧ Hid (RowP wr w1.heap.size uu (full.take j)) ∧ Below w1.heap.size w1 wr) (fun _ i => fun _ => N - (intOf i).toNat)
  case atStart => exact ⟨0, rfl, Nat.zero_le _, Lib.hid (fun q x hq _ => by omega), Lib.hid (World.ownsRow_nil _ _ _ _), Below.refl _ _⟩
  case round =>
    obtain ⟨j, rfl, hjl, HB, HO, hB⟩ := hrel
    by_cases gj : j < N
    · obtain ⟨t, ht⟩ : ∃ t, T[j]? = some t := ⟨_, List.getElem?_eq_getElem (by rw [HN.out]; exact gj)⟩
      obtain ⟨x, hx⟩ : ∃ x, Vs[j]? = some x := ⟨_, List.getElem?_eq_getElem (by rw [HVL.out]; exact gj)⟩
      obtain ⟨bb, off, rfl, hbw, hc1⟩ := HK2.out j _ ht
      obtain ⟨bb', off', hbe, hbw', hc0⟩ := HK2.out 0 f0 HF0.out
      cases hbe
      have hc1w := Lib.hid hc1
      have hc0w : Hid (w1.cell? ⟨bb, off, none⟩ = some (.int .i64 f0)) := Lib.hid (by simpa using hc0)
      have c1 := (hB.cell (p := ⟨bb, off + j, none⟩) hbw).trans hc1
      have c0 := (hB.cell (p := ⟨bb, off, none⟩) hbw).trans (by simpa using hc0)
      have j1 : (j : Int) < (N : Int) := by omega
      have j0 : (0 : Int) ≤ (j : Int) := by omega
      have jn : (0 : Int) < (N : Int) := by omega
      have jn2 : 0 < N := by omega
      have wk := one_moreV gj (show N ≤ 1000000 by have := HT2.out; omega)
      have tl := Lib.hid (turn_lessV gj)
      have hfp : Hid (full.take (j + 1) = full.take j ++ [⟨(j : Int), t, x⟩]) := Lib.hid (by rw [List.take_add_one, HP2.out j t x ht hx]; rfl)
      have hpl := take_few full gj HT2.out
      have HB2 : Hid (backB x = true → ∀ q y, q < j + 1 → Vs[q]? = some y → backB y = true) := Lib.hid (back_more hx HB.out)
      have hBX := HBX.out.next hB
      obtain ⟨z1, z2, z3, z4, z5, z6⟩ := HF.out j t ht
      have RB := fun W => refBack_any x W
      have HX := Lib.hid hx
      have HBN := Lib.hid (HBK.out j x hx)
      obtain ⟨b8, o8, hbe9, _, hx9⟩ := HK9.out j x hx
      cases hbe9
      have hb91 : b9 < w1.heap.size := Nat.lt_of_lt_of_le hb9 HBW.out.size
      have c5 := (hB.cell (p := ⟨b9, o9 + j, none⟩) hb91).trans ((HBW.out.cell (p := ⟨b9, o9 + j, none⟩) hb9).trans hx9)
      have hl9 : Vs.length = N := HVL.out
      have j9 := lt_of_eqV hl9 gj
      clear hl9
      clear hx9
      clear hc1 hc0 hbw' ht hx HB
      obtain ⟨A3, n3, c3, rfl⟩ := own_slw HO.out
      have hK0 : Keeps w1 [(w.heap.size, 0, .int .i64 4), (w.heap.size, 1, v), (w.heap.size, 2, .int .i64 a), (w.heap.size, 3, .int .i64 r), (w.heap.size, 4, .int .i64 n), (w.heap.size, 5, .int .i64 d), (w.heap.size, 6, .slice (some ⟨b9, o9, none⟩) Vs.length c9), (w.heap.size, 7, .int .i64 e), (wr.heap.size, 0, .int .i64 t), (wr.heap.size, 1, .int .i64 0)] (wr.alloc (.cells #[.int .i64 t, .int .i64 0] 53)) := Keeps.app (l := [(w.heap.size, 0, .int .i64 4), (w.heap.size, 1, v), (w.heap.size, 2, .int .i64 a), (w.heap.size, 3, .int .i64 r), (w.heap.size, 4, .int .i64 n), (w.heap.size, 5, .int .i64 d), (w.heap.size, 6, .slice (some ⟨b9, o9, none⟩) Vs.length c9), (w.heap.size, 7, .int .i64 e)]) ⟨under hB (below_alloc _ _), hBX.next (below_alloc _ _)⟩ (newK2 (L := []) ⟨under hB (below_alloc _ _), trivial⟩)
      have hgz : w1.heap.size ≤ wr.heap.size := hB.size
      have hpb : (Value.slice A3 n3 c3).ownBlock ≠ some wr.heap.size := fun e => by have := ((show World.ownsRow _ _ _ _ _ _ _ from HO.out).lt _ e).2; omega
      have HO2 : Hid (RowP (wr.alloc (.cells #[.int .i64 t, .int .i64 0] 53)) w1.heap.size (.slice A3 n3 c3) (full.take j)) := Lib.hid (owns_below (show World.ownsRow _ _ _ _ _ _ _ from HO.out) (below_alloc _ _))
      have c5' := ((below_alloc wr (.cells #[.int .i64 t, .int .i64 0] 53)).cell (p := ⟨b9, o9 + j, none⟩) (Nat.lt_of_lt_of_le hb91 hB.size)).trans c5
      have hb9' : b9 < wr.heap.size := Nat.lt_of_lt_of_le hb91 hB.size
      clear c5
      clear HO hBX c0
      go_upto_region 7 with (fail)
      clear c1 hB
      generalize wr.alloc (.cells #[.int .i64 t, .int .i64 0] 53) = wp at *
      generalize wr.heap.size = pb at *
      · obtain ⟨⟨kz0,kc0,kf0⟩,⟨kz1,kc1,kf1⟩,⟨kz2,kc2,kf2⟩,⟨kz3,kc3,kf3⟩,⟨kz4,kc4,kf4⟩,⟨kz5,kc5,kf5⟩,⟨kz6,kc6,kf6⟩,⟨kz7,kc7,kf7⟩,⟨kz8,kc8,kf8⟩,⟨kz9,kc9,kf9⟩,_⟩ := hK0.2
        cases gb : backB x
        · rw [gb] at RB
          replace RB := Lib.hid RB
          obtain rfl : bk = false := HBN.out gb
          have hP := hK0.1.setCell (p := ⟨pb, 1, none⟩) hgz (.int .i64 x)
          clear hK0 HO2
          go_wp2_with fail
          refine (RB.out _).mono ?_
          rintro e w6 ⟨rfl, hb⟩
          have hP2 := under hP hb
          clear hP hb
          (try clear kz0 kc0 kf0); (try clear kz1 kc1 kf1); (try clear kz2 kc2 kf2); (try clear kz3 kc3 kf3); (try clear kz4 kc4 kf4); (try clear kz5 kc5 kf5); (try clear kz6 kc6 kf6); (try clear kz7 kc7 kf7); (try clear kz8 kc8 kf8); (try clear kz9 kc9 kf9)
          go_wp2_with fail
          go_returns
          exact ⟨rfl, under HBW.out hP2⟩
        · rw [gb] at RB
          replace RB := Lib.hid RB
          have hQ := kupd (M := [(pb, 0, .int .i64 t), (pb, 1, .int .i64 x)]) (hK0.sub (L' := [(pb, 0, .int .i64 t), (pb, 1, .int .i64 0)]) (by simp)) kc9 hgz (.int .i64 x) (by simp [updL])
          have HQ := Lib.hid (owns_pt (i := 1) (show World.ownsRow _ _ _ _ _ _ _ from HO2.out) hpb (.int .i64 x))
          have GB := Lib.hid gb
          clear hK0 HO2 gb
          go_wp2_with fail
          refine (RB.out _).mono ?_
          rintro e w6 ⟨rfl, hb⟩
          have hQ2 := hQ.next hb
          have HQ2 := Lib.hid (owns_below (show World.ownsRow _ _ _ _ _ _ _ from HQ.out) hb)
          clear hQ HQ hb
          (try clear kz0 kc0 kf0); (try clear kz1 kc1 kf1); (try clear kz2 kc2 kf2); (try clear kz3 kc3 kf3); (try clear kz4 kc4 kf4); (try clear kz5 kc5 kf5); (try clear kz6 kc6 kf6); (try clear kz7 kc7 kf7); (try clear kz8 kc8 kf8); (try clear kz9 kc9 kf9)
          go_upto_region 15 with (fail)
          have hH := hQ2
          have HO3 : Hid (RowP w6 w1.heap.size (.slice A3 n3 c3) (full.take j)) := HQ2
          have HBT := GB
          clear hQ2 HQ2 GB RB HBN
          have hHs := hH.1.size
          obtain ⟨⟨kz0, kc0, kf0⟩, ⟨kz1, kc1, kf1⟩, _⟩ := hH.2
          have hHB := Lib.hid hH.1
          skip
          go_wp2_with (at_builtin; go_loud (refine wpList_append_own _ rfl _ _ 35 rfl w1.heap.size 53 i0 (.agg #[.int .i64 0, .int .i64 0]) 2 16 Tryz.underlying35 hi hz0 hz1 hz2 rfl (by decide) _ _ _ rfl (owns_below (show World.ownsRow _ _ _ _ _ _ _ from HO3.out) (below_alloc w6 _)) ⟨w6.heap.size, 0, none⟩ 1 1 [.int .i64 t, .int .i64 x] rfl rfl ?c1 ?c2 ?c3 ?c4 ?c5 ?_))
          case c1 => exact new_cells2 rfl
          case c2 => intro u hu; simp at hu; rcases hu with rfl | rfl <;> rfl
          case c3 => unfold maxLen; omega
          case c4 => omega
          case c5 => simp; omega
          intro v' w12 hown' hgrow _
          have HO4 : Hid (RowP w12 w1.heap.size v' (full.take (j + 1))) := Lib.hid (by
            unfold RowP
            rw [hfp.out, List.length_append, flatP_app]
            simpa [flatP] using hown')
          have hB4 := own_grows hHB.out (show World.ownsRow _ _ _ _ _ _ _ from HO3.out) hgrow
          have HB3 := Lib.hid (HB2.out HBT.out)
          clear hown' hgrow hH HO3 HB2 hHB
          (try clear kz0 kc0 kf0); (try clear kz1 kc1 kf1); (try clear kz2 kc2 kf2); (try clear kz3 kc3 kf3); (try clear kz4 kc4 kf4); (try clear kz5 kc5 kf5); (try clear kz6 kc6 kf6); (try clear kz7 kc7 kf7); (try clear kz8 kc8 kf8); (try clear kz9 kc9 kf9)
          go_wp2_with fail
          go_roundw
          case rel => exact ⟨j + 1, by first | (simp; done) | (rw [wk]; simp; done), gj, HB3, HO4, hB4⟩
          case measure => first | exact tl.out | (rw [wk]; exact tl.out)
    · have i1 : ¬ (j : Int) < (N : Int) := by omega
      have e : j = N := by omega
      subst e
      have EB : Hid (bk = true) := Lib.hid (HALL.out (fun q x hx => HB.out q x (by have := (List.getElem?_eq_some_iff.1 hx).1; rw [HVL.out] at this; exact this) hx))
      have HO2 := HO.out
      rw [List.take_of_length_le (by rw [HPL.out]; exact Nat.le_refl _)] at HO2
      replace HO2 := Lib.hid HO2
      obtain ⟨A3, n3, c3, rfl⟩ := own_slw HO2.out
      have hB2 := under HBW.out hB
      have HO3 := Lib.hid (owns_less (B' := w.heap.size) HO2.out (by have := HBW.out.size; omega))
      obtain rfl : bk = true := EB.out
      clear HB HO HO2 hB
      go_wp2_with fail
      go_returns
      exact ⟨A3, n3, c3, rfl, hB2, HO3.out⟩
end Go.Proofs.YtcfidimnbamnkaaGreat.P11

/-
  Layer 11: the document's Points. Conditions: its runs may be, and it has as many numbers as times, or a line that may be.
-/
namespace Go.Proofs.YtcfidimnbamnkaaGreat.P11
open Go.RowKit Go.Shelf Go.Proofs.YtcfidimnbamnkaaGreat.P7

set_option maxRecDepth 100000 in
set_option maxHeartbeats 8000000 in
theorem refPoints_line (s : Sg) (hA : AskOk s) (hk : s.k ≠ 4) (v u : Value) (w : World) (h : ReadsR w v s.R) (hu : Reads .i64 w u s.V) :
    Calls Tryz.prog 21 #[sgOf s v u] w (PointsD w s) := by
  have hok := hA.1
  have hT := times_ok hok
  have hlen := ask_len hA
  have hR1 : s.R.length ≤ 1000000 := by have := hT.runs; omega
  obtain ⟨i0, hi, hz0, hz1, hz2⟩ := info_parts infoPoint
  have TM : Hid (∀ W, Below w.heap.size w W → Calls Tryz.prog 56 #[v] W (LaidI W (timesR s.R))) := Lib.hid (fun W hb => by
    have := P7.refTimes_any s.R hR1 v W (h.below hb)
    rwa [timesD_ok hok] at this)
  have HW0 : Hid (∀ W, Below w.heap.size w W → Reads .i64 W u s.V) := Lib.hid (fun W hb => hu.below hb)
  have HP := Lib.hid (fun (q : Nat) (t x : Int) (hq : (timesR s.R)[q]? = some t) (hx : (vals s)[q]? = some x) => ptsF_get 0 _ _ q t x hq hx)
  have HPL : Hid ((ptsS s).length = (timesR s.R).length) := Lib.hid (ptsF_length 0 _ _ hlen)
  have HF := Lib.hid (fun (q : Nat) (t : Int) (hq : (timesR s.R)[q]? = some t) => since_time hT hq)
  have HF0 := Lib.hid (times_first hT)
  have HBK := Lib.hid (fun (q : Nat) (x : Int) (hx : (vals s)[q]? = some x) (hb : backB x = false) => backs_at hx hb)
  have HV4 : ∀ (q : Nat) (t : Int), (timesR s.R)[q]? = some t → (vals s)[q]? = some (exV s.a s.r s.n s.d (t - fstT s.R) / s.d) := fun q t hq => by unfold vals; rw [if_neg hk, List.getElem?_map, hq]; rfl
  have hln : lineB s.a s.r s.n s.d = true := by rcases hA.2 with ⟨h4, _⟩ | ⟨_, h⟩; exact absurd h4 hk; exact h
  have t4 : (s.k == 4) = false := by simpa using hk
  replace HV4 := Lib.hid HV4
  have HT1 := Lib.hid hT.one
  have HT2 := Lib.hid hT.few
  have HVL := Lib.hid hlen
  unfold PointsD
  have HALL : Hid ((∀ j x, (vals s)[j]? = some x → backB x = true) → backs (vals s) = true) := Lib.hid (fun hh => (backs_iff _).2 (fun x hx => by obtain ⟨j, hj⟩ := List.getElem?_of_mem hx; exact hh j x hj))
  generalize backs (vals s) = bk at *
  obtain ⟨full, hfull⟩ : ∃ f, f = ptsS s := ⟨_, rfl⟩
  obtain ⟨T, hTT⟩ : ∃ T, T = timesR s.R := ⟨_, rfl⟩
  obtain ⟨Vs, hVs⟩ : ∃ V, V = vals s := ⟨_, rfl⟩
  have HP2 : Hid (∀ (q : Nat) (t x : Int), T[q]? = some t → Vs[q]? = some x → full[q]? = some ⟨(q : Int), t, x⟩) := Lib.hid (fun q t x h1 h2 => by
    rw [hTT] at h1
    rw [hVs] at h2
    have := HP.out q t x h1 h2
    rw [Nat.zero_add] at this
    rw [hfull]; exact this)
  rw [← hfull, ← hTT] at HPL
  rw [← hTT] at TM HF HF0 HT1 HT2 HVL
  rw [← hVs] at HBK HVL HALL HV4
  rw [← hTT] at HV4
  rw [← hfull]
  generalize fstT s.R = f0 at *
  clear HP hA hok hT hlen hR1 h hu hfull hTT hVs
  obtain ⟨k, R, a, r, n, d, V, e⟩ := s
  simp only at *
  have hK := new_seg (Below.refl w.heap.size w) 27 k v a r n d (u) e
  go_enter Tryz.func21, Tryz.ntmps21
  go_wp2_with fail
  refine (TM.out _ hK.1).mono ?_
  rintro e w1 ⟨vt, rfl, hb, hrow⟩
  replace hK := hK.next hb
  have hrd := reads_own (k := .i64) (show World.ownsRow _ _ _ _ _ _ _ from hrow)
  clear hb hrow TM
  obtain ⟨A2, c2, rfl, hc2, hk2⟩ := hrd
  have HK2 := Lib.hid hk2
  have HU := Lib.hid (HW0.out w1 hK.1)
  have HBW := Lib.hid hK.1
  have hBX : Cells [(w.heap.size, 0, .int .i64 k), (w.heap.size, 1, v), (w.heap.size, 2, .int .i64 a), (w.heap.size, 3, .int .i64 r), (w.heap.size, 4, .int .i64 n), (w.heap.size, 5, .int .i64 d), (w.heap.size, 6, u), (w.heap.size, 7, .int .i64 e)] w1 := hK.2
  have HBX := Lib.hid hBX
  clear hk2 HW0 hK hBX
  generalize hN : T.length = N at *
  have HN := Lib.hid hN
  clear hN
  go_wp2_with fail
  go_loopw [5, 6] (fun uu i wr => ∃ j : Nat, i = .int .i64 j ∧ j ≤ N ∧ Hid (∀ q x, q < j → Vs[q]? = some x → backB x = true) ∧ Hid (RowP wr w1.heap.size uu (full.take j)) ∧ Below w1.heap.size w1 wr) (fun _ i => fun _ => N - (intOf i).toNat)
  case atStart => exact ⟨0, rfl, Nat.zero_le _, Lib.hid (fun q x hq _ => by omega), Lib.hid (World.ownsRow_nil _ _ _ _), Below.refl _ _⟩
  case round =>
    obtain ⟨j, rfl, hjl, HB, HO, hB⟩ := hrel
    by_cases gj : j < N
    · obtain ⟨t, ht⟩ : ∃ t, T[j]? = some t := ⟨_, List.getElem?_eq_getElem (by rw [HN.out]; exact gj)⟩
      obtain ⟨x, hx⟩ : ∃ x, Vs[j]? = some x := ⟨_, List.getElem?_eq_getElem (by rw [HVL.out]; exact gj)⟩
      obtain ⟨bb, off, rfl, hbw, hc1⟩ := HK2.out j _ ht
      obtain ⟨bb', off', hbe, hbw', hc0⟩ := HK2.out 0 f0 HF0.out
      cases hbe
      have hc1w := Lib.hid hc1
      have hc0w : Hid (w1.cell? ⟨bb, off, none⟩ = some (.int .i64 f0)) := Lib.hid (by simpa using hc0)
      have c1 := (hB.cell (p := ⟨bb, off + j, none⟩) hbw).trans hc1
      have c0 := (hB.cell (p := ⟨bb, off, none⟩) hbw).trans (by simpa using hc0)
      have j1 : (j : Int) < (N : Int) := by omega
      have j0 : (0 : Int) ≤ (j : Int) := by omega
      have jn : (0 : Int) < (N : Int) := by omega
      have jn2 : 0 < N := by omega
      have wk := one_moreV gj (show N ≤ 1000000 by have := HT2.out; omega)
      have tl := Lib.hid (turn_lessV gj)
      have hfp : Hid (full.take (j + 1) = full.take j ++ [⟨(j : Int), t, x⟩]) := Lib.hid (by rw [List.take_add_one, HP2.out j t x ht hx]; rfl)
      have hpl := take_few full gj HT2.out
      have HB2 : Hid (backB x = true → ∀ q y, q < j + 1 → Vs[q]? = some y → backB y = true) := Lib.hid (back_more hx HB.out)
      have hBX := HBX.out.next hB
      obtain ⟨z1, z2, z3, z4, z5, z6⟩ := HF.out j t ht
      have RB := fun W => refBack_any x W
      have HX := Lib.hid hx
      have HBN := Lib.hid (HBK.out j x hx)
      have hxv : x = exV a r n d (t - f0) / d := by have := HV4.out j t ht; rw [hx] at this; injection this
      have AT' := fun W => refAt_any a r n d (t - f0) hln z3 W
      rw [← hxv] at AT'
      have HQV : Hid (backB x = true → ovQ (exV a r n d (t - f0)) d = x) := Lib.hid (fun hb => by unfold ovQ; rw [← hxv, hb, if_pos rfl])
      obtain ⟨gg, hgg⟩ : ∃ g, g = backB x := ⟨_, rfl⟩
      rw [← hgg] at AT'
      obtain ⟨qv, hqv⟩ : ∃ q, q = ovQ (exV a r n d (t - f0)) d := ⟨_, rfl⟩
      rw [← hqv] at AT' HQV
      have AT := Lib.hid AT'
      have ws : IntKind.i64.wrap (t - f0) = t - f0 := iwrap (by omega) (by omega)
      clear AT' hxv hqv RB
      clear hc1 hc0 hbw' ht hx HB
      obtain ⟨A3, n3, c3, rfl⟩ := own_slw HO.out
      have hK0 : Keeps w1 [(w.heap.size, 0, .int .i64 k), (w.heap.size, 1, v), (w.heap.size, 2, .int .i64 a), (w.heap.size, 3, .int .i64 r), (w.heap.size, 4, .int .i64 n), (w.heap.size, 5, .int .i64 d), (w.heap.size, 6, u), (w.heap.size, 7, .int .i64 e), (wr.heap.size, 0, .int .i64 t), (wr.heap.size, 1, .int .i64 0)] (wr.alloc (.cells #[.int .i64 t, .int .i64 0] 53)) := Keeps.app (l := [(w.heap.size, 0, .int .i64 k), (w.heap.size, 1, v), (w.heap.size, 2, .int .i64 a), (w.heap.size, 3, .int .i64 r), (w.heap.size, 4, .int .i64 n), (w.heap.size, 5, .int .i64 d), (w.heap.size, 6, u), (w.heap.size, 7, .int .i64 e)]) ⟨under hB (below_alloc _ _), hBX.next (below_alloc _ _)⟩ (newK2 (L := []) ⟨under hB (below_alloc _ _), trivial⟩)
      have hgz : w1.heap.size ≤ wr.heap.size := hB.size
      have hpb : (Value.slice A3 n3 c3).ownBlock ≠ some wr.heap.size := fun e => by have := ((show World.ownsRow _ _ _ _ _ _ _ from HO.out).lt _ e).2; omega
      have HO2 : Hid (RowP (wr.alloc (.cells #[.int .i64 t, .int .i64 0] 53)) w1.heap.size (.slice A3 n3 c3) (full.take j)) := Lib.hid (owns_below (show World.ownsRow _ _ _ _ _ _ _ from HO.out) (below_alloc _ _))
      clear HO hBX c0
      go_upto_region 7 with (fail)
      clear c1 hB
      generalize wr.alloc (.cells #[.int .i64 t, .int .i64 0] 53) = wp at *
      generalize wr.heap.size = pb at *
      · obtain ⟨⟨kz0,kc0,kf0⟩,⟨kz1,kc1,kf1⟩,⟨kz2,kc2,kf2⟩,⟨kz3,kc3,kf3⟩,⟨kz4,kc4,kf4⟩,⟨kz5,kc5,kf5⟩,⟨kz6,kc6,kf6⟩,⟨kz7,kc7,kf7⟩,⟨kz8,kc8,kf8⟩,⟨kz9,kc9,kf9⟩,_⟩ := hK0.2
        have hL8 : Keeps w1 [(w.heap.size, 0, .int .i64 k), (w.heap.size, 1, v), (w.heap.size, 2, .int .i64 a), (w.heap.size, 3, .int .i64 r), (w.heap.size, 4, .int .i64 n), (w.heap.size, 5, .int .i64 d), (w.heap.size, 6, u), (w.heap.size, 7, .int .i64 e)] wp := hK0.sub (by simp)
        have hPB : Keeps w1 [(pb, 0, .int .i64 t), (pb, 1, .int .i64 0)] wp := hK0.sub (by simp)
        clear hK0
        go_upto_region 11 with (fail)
        (try clear hHeld0); (try clear hHeld1); (try clear kz0 kc0 kf0); (try clear kz1 kc1 kf1); (try clear kz2 kc2 kf2); (try clear kz3 kc3 kf3); (try clear kz4 kc4 kf4); (try clear kz5 kc5 kf5); (try clear kz6 kc6 kf6); (try clear kz7 kc7 kf7); (try clear kz8 kc8 kf8); (try clear kz9 kc9 kf9)
        refine region_keeps (w0 := w1) (L := [(w.heap.size, 0, .int .i64 k), (w.heap.size, 1, v), (w.heap.size, 2, .int .i64 a), (w.heap.size, 3, .int .i64 r), (w.heap.size, 4, .int .i64 n), (w.heap.size, 5, .int .i64 d), (w.heap.size, 6, u), (w.heap.size, 7, .int .i64 e)]) (by kernel_rfl) hL8 (fun hHeld0 => ?_)
        refine tv 0 38 rfl rfl ?_
        try go_frame
        refine tk 1 39 rfl rfl ?_ ?_ ?_
        rotate_left
        · intro wq hSw; obtain ⟨⟨_,_,_⟩,⟨_,_,_⟩,⟨_,_,_⟩,⟨_,_,_⟩,⟨_,_,_⟩,⟨_,_,_⟩,⟨_,_,_⟩,⟨_,_,_⟩,_⟩ := hSw.2; have x1 := (hSw.1.cell (p := ⟨bb, off + j, none⟩) hbw).trans hc1w.out; have x0 := (hSw.1.cell (p := ⟨bb, off, none⟩) hbw).trans hc0w.out; go_simp; (try with_reducible rfl)
        try go_frame
        refine tv 2 40 rfl rfl ?_
        try go_frame
        refine tv 3 41 rfl rfl ?_
        try go_frame
        refine tv 4 42 rfl rfl ?_
        try go_frame
        refine tk 5 43 rfl rfl ?_ ?_ ?_
        rotate_left
        · intro wq hSw; obtain ⟨⟨_,_,_⟩,⟨_,_,_⟩,⟨_,_,_⟩,⟨_,_,_⟩,⟨_,_,_⟩,⟨_,_,_⟩,⟨_,_,_⟩,⟨_,_,_⟩,_⟩ := hSw.2; have x1 := (hSw.1.cell (p := ⟨bb, off + j, none⟩) hbw).trans hc1w.out; have x0 := (hSw.1.cell (p := ⟨bb, off, none⟩) hbw).trans hc0w.out; go_simp; (try with_reducible rfl)
        try go_frame
        refine tv 6 44 rfl rfl ?_
        try go_frame
        refine tv 7 45 rfl rfl ?_
        try go_frame
        refine tk 8 46 rfl rfl ?_ ?_ ?_
        rotate_left
        · intro wq hSw; obtain ⟨⟨_,_,_⟩,⟨_,_,_⟩,⟨_,_,_⟩,⟨_,_,_⟩,⟨_,_,_⟩,⟨_,_,_⟩,⟨_,_,_⟩,⟨_,_,_⟩,_⟩ := hSw.2; have x1 := (hSw.1.cell (p := ⟨bb, off + j, none⟩) hbw).trans hc1w.out; have x0 := (hSw.1.cell (p := ⟨bb, off, none⟩) hbw).trans hc0w.out; go_simp; (try with_reducible rfl)
        try go_frame
        refine tv 9 47 rfl rfl ?_
        try go_frame
        refine ty [10] ?_
        refine AllReadyH.cons rfl (fun K hK => ?_) AllReadyH.nil
        go_simp
        ((with_reducible refine (AT.out _).mono ?_); rintro e w6 ⟨rfl, hb⟩; have hb6 := hb)
        refine hK.out _ _ (hHeld0.next hb) (fun hHeld1 => ?_)
        clear hK K; try clear hb
        try go_frame
        refine tv 11 37 rfl rfl ?_
        try go_frame
        refine tv 12 49 rfl rfl ?_
        try go_frame
        refine tv 13 50 rfl rfl ?_
        try go_frame
        refine tv 14 8 rfl rfl ?_
        try go_frame
        refine tv 15 9 rfl rfl ?_
        try go_frame
        refine wpAnyH_done (by kernel_rfl) ?_ _
        have hHeld := hHeld1
        obtain ⟨⟨kz0,kc0,kf0⟩,⟨kz1,kc1,kf1⟩,⟨kz2,kc2,kf2⟩,⟨kz3,kc3,kf3⟩,⟨kz4,kc4,kf4⟩,⟨kz5,kc5,kf5⟩,⟨kz6,kc6,kf6⟩,⟨kz7,kc7,kf7⟩,_⟩ := hHeld.2
        all_goals
          have hPB2 := hPB.next (undrew hb6)
          have HQ := Lib.hid (owns_below (show World.ownsRow _ _ _ _ _ _ _ from HO2.out) (undrew hb6))
          (try clear hHeld); (try clear hHeld0); (try clear hHeld1); (try clear kz0 kc0 kf0) ; (try clear kz1 kc1 kf1) ; (try clear kz2 kc2 kf2) ; (try clear kz3 kc3 kf3) ; (try clear kz4 kc4 kf4) ; (try clear kz5 kc5 kf5)
          (try clear hHeld0); (try clear hHeld1); (try clear kz0 kc0 kf0); (try clear kz1 kc1 kf1); (try clear kz2 kc2 kf2); (try clear kz3 kc3 kf3); (try clear kz4 kc4 kf4); (try clear kz5 kc5 kf5); (try clear kz6 kc6 kf6); (try clear kz7 kc7 kf7); (try clear kz8 kc8 kf8); (try clear kz9 kc9 kf9)
          cases gb : backB x
          · have g2 : gg = false := hgg.trans gb
            clear hgg
            subst g2
            obtain rfl : bk = false := HBN.out gb
            have hP2 := hPB2.1
            clear hPB2 HQ HO2 hb6
            go_wp2_with fail
            go_returns
            exact ⟨rfl, under HBW.out hP2⟩
          · have g2 : gg = true := hgg.trans gb
            clear hgg
            subst g2
            have hqv := HQV.out gb
            subst hqv
            obtain ⟨⟨kz0, kc0, kf0⟩, ⟨kz1, kc1, kf1⟩, _⟩ := hPB2.2
            have hQ := kupd (M := [(pb, 0, .int .i64 t), (pb, 1, .int .i64 qv)]) hPB2 kc1 hgz (.int .i64 qv) (by simp [updL])
            have HQ3 := Lib.hid (owns_pt (i := 1) (show World.ownsRow _ _ _ _ _ _ _ from HQ.out) hpb (.int .i64 qv))
            have GB := Lib.hid gb
            clear hPB2 HQ HO2 hb6
            go_upto_region 15 with (fail)
            obtain ⟨wc, ewc, hH⟩ := keeps_named hQ
            rw [← ewc] at HQ3 ⊢
            have HO3 : Hid (RowP wc w1.heap.size (.slice A3 n3 c3) (full.take j)) := HQ3
            have HBT := GB
            clear ewc hQ HQ3 GB HBN HQV AT
            have hHs := hH.1.size
            obtain ⟨⟨kz0, kc0, kf0⟩, ⟨kz1, kc1, kf1⟩, _⟩ := hH.2
            have hHB := Lib.hid hH.1
            skip
            go_wp2_with (at_builtin; go_loud (refine wpList_append_own _ rfl _ _ 35 rfl w1.heap.size 53 i0 (.agg #[.int .i64 0, .int .i64 0]) 2 16 Tryz.underlying35 hi hz0 hz1 hz2 rfl (by decide) _ _ _ rfl (owns_below (show World.ownsRow _ _ _ _ _ _ _ from HO3.out) (below_alloc wc _)) ⟨wc.heap.size, 0, none⟩ 1 1 [.int .i64 t, .int .i64 qv] rfl rfl ?c1 ?c2 ?c3 ?c4 ?c5 ?_))
            case c1 => exact new_cells2 rfl
            case c2 => intro u hu; simp at hu; rcases hu with rfl | rfl <;> rfl
            case c3 => unfold maxLen; omega
            case c4 => omega
            case c5 => simp; omega
            intro v' w12 hown' hgrow _
            have HO4 : Hid (RowP w12 w1.heap.size v' (full.take (j + 1))) := Lib.hid (by
              unfold RowP
              rw [hfp.out, List.length_append, flatP_app]
              simpa [flatP] using hown')
            have hB4 := own_grows hHB.out (show World.ownsRow _ _ _ _ _ _ _ from HO3.out) hgrow
            have HB3 := Lib.hid (HB2.out HBT.out)
            clear hown' hgrow hH HO3 HB2 hHB
            (try clear hHeld0); (try clear hHeld1); (try clear kz0 kc0 kf0); (try clear kz1 kc1 kf1); (try clear kz2 kc2 kf2); (try clear kz3 kc3 kf3); (try clear kz4 kc4 kf4); (try clear kz5 kc5 kf5); (try clear kz6 kc6 kf6); (try clear kz7 kc7 kf7); (try clear kz8 kc8 kf8); (try clear kz9 kc9 kf9)
            go_wp2_with fail
            go_roundw
            case rel => exact ⟨j + 1, by first | (simp; done) | (rw [wk]; simp; done), gj, HB3, HO4, hB4⟩
            case measure => first | exact tl.out | (rw [wk]; exact tl.out)
    · have i1 : ¬ (j : Int) < (N : Int) := by omega
      have e : j = N := by omega
      subst e
      have EB : Hid (bk = true) := Lib.hid (HALL.out (fun q x hx => HB.out q x (by have := (List.getElem?_eq_some_iff.1 hx).1; rw [HVL.out] at this; exact this) hx))
      have HO2 := HO.out
      rw [List.take_of_length_le (by rw [HPL.out]; exact Nat.le_refl _)] at HO2
      replace HO2 := Lib.hid HO2
      obtain ⟨A3, n3, c3, rfl⟩ := own_slw HO2.out
      have hB2 := under HBW.out hB
      have HO3 := Lib.hid (owns_less (B' := w.heap.size) HO2.out (by have := HBW.out.size; omega))
      obtain rfl : bk = true := EB.out
      clear HB HO HO2 hB
      go_wp2_with fail
      go_returns
      exact ⟨A3, n3, c3, rfl, hB2, HO3.out⟩
end Go.Proofs.YtcfidimnbamnkaaGreat.P11

/-
  Layer 11: the document's Kind and Right.
-/
namespace Go.Proofs.YtcfidimnbamnkaaGreat.P11
open Go.RowKit Go.Shelf Go.Proofs.YtcfidimnbamnkaaGreat.P7

set_option maxHeartbeats 2000000 in
theorem refKind_any (a r n d : Int) (w : World) : Calls Tryz.prog 23 #[lnV a r n d] w (Ret w (.int .i64 (kindL n r))) := by
  by_cases h1 : n = 0
  · subst h1
    have e5 : kindL 0 r = 1 := rfl
    rw [e5]
    clear e5
    go_enter Tryz.func23, Tryz.ntmps23
    go_wp2_with fail
    go_returns
    exact ⟨rfl, by go_grown⟩
  · have t1 : (n == 0) = false := by simpa using h1
    by_cases h2 : r = 0
    · subst h2
      have e5 : kindL n 0 = 2 := by unfold kindL; rw [if_neg h1, if_pos rfl]
      rw [e5]
      clear e5 h1
      go_enter Tryz.func23, Tryz.ntmps23
      go_wp2_with fail
      go_returns
      exact ⟨rfl, by go_grown⟩
    · have t2 : (r == 0) = false := by simpa using h2
      have e5 : kindL n r = 3 := by unfold kindL; rw [if_neg h1, if_neg h2]
      rw [e5]
      clear e5 h1 h2
      go_enter Tryz.func23, Tryz.ntmps23
      go_wp2_with fail
      go_returns
      exact ⟨rfl, by go_grown⟩
theorem points_bk {w : World} {s : Sg} {e : Ending} {w' : World} (h : PointsD w s e w') : ∃ A n c, e = .returned (.tuple #[.slice A n c, .bool (backs (vals s))]) ∧ Below w.heap.size w w' := by
  unfold PointsD at h
  cases g : backs (vals s)
  · rw [g] at h
    simp only [Bool.false_eq_true, if_false] at h
    exact ⟨none, 0, 0, h.1, h.2⟩
  · rw [g] at h
    simp only [if_true] at h
    obtain ⟨A, n, c, h1, h2, _⟩ := h
    exact ⟨A, n, c, h1, h2⟩
set_option maxRecDepth 100000 in
set_option maxHeartbeats 8000000 in
theorem refRightS_any (s : Sg) (hR : s.R.length ≤ 1000000) (hV : s.V.length ≤ 1000000) (v u : Value) (w : World) (h : ReadsR w v s.R) (hu : Reads .i64 w u s.V) :
    Calls Tryz.prog 16 #[sgOf s v u] w (Ret w (.bool (segB s))) := by
  have RR : Hid (∀ W, Below w.heap.size w W → Calls Tryz.prog 55 #[v] W (Ret W (.bool (okB s.R)))) := Lib.hid (fun W hb => P7.refRight_any s.R hR v W (h.below hb))
  have TM : Hid (okB s.R = true → ∀ W, Below w.heap.size w W → Calls Tryz.prog 56 #[v] W (LaidI W (timesR s.R))) := Lib.hid (fun hok W hb => by
    have := P7.refTimes_any s.R hR v W (h.below hb)
    rwa [timesD_ok hok] at this)
  have TT : Hid (okB s.R = true → ((timesR s.R).length : Int) = totalR s.R) := Lib.hid (fun hok => (times_ok hok).total)
  have PT : Hid (AskOk s → ∀ W, Below w.heap.size w W → Calls Tryz.prog 21 #[sgOf s v u] W (fun e w' => ∃ A n c, e = .returned (.tuple #[.slice A n c, .bool (backs (vals s))]) ∧ Below W.heap.size W w')) := Lib.hid (fun ha W hb => by
    by_cases g : s.k = 4
    · exact (refPoints_raw s ha g v u W (h.below hb) (hu.below hb)).mono (fun _ _ hp => points_bk hp)
    · exact (refPoints_line s ha g v u W (h.below hb) (hu.below hb)).mono (fun _ _ hp => points_bk hp))
  have RL : Hid (∀ W, Calls Tryz.prog 22 #[lnV s.a s.r s.n s.d] W (Ret W (.bool (lineB s.a s.r s.n s.d)))) := Lib.hid (fun W => Go.Proofs.YtcfidimnbamnkaaGreat.refRight_any s.a s.r s.n s.d W)
  have RK : Hid (∀ W, Calls Tryz.prog 23 #[lnV s.a s.r s.n s.d] W (Ret W (.int .i64 (kindL s.n s.r)))) := Lib.hid (fun W => refKind_any s.a s.r s.n s.d W)
  obtain ⟨k, R, a, r, n, d, V, e⟩ := s
  simp only at hR hV RR TM TT RL RK h hu
  obtain ⟨A9, c9, rfl, _, _⟩ := hu
  unfold sgOf
  unfold sgOf at PT
  simp only at PT ⊢
  cases g1 : okB R
  · have e5 : segB ⟨k, R, a, r, n, d, V, e⟩ = false := by simp [segB, g1]
    rw [e5]
    rw [g1] at RR
    clear e5 TM TT PT RL RK h
    have hK := new_seg (Below.refl w.heap.size w) 27 k v a r n d (.slice A9 V.length c9) e
    go_enter Tryz.func16, Tryz.ntmps16
    go_wp2_with fail
    refine (RR.out _ hK.1).mono ?_
    rintro e' w1 ⟨rfl, hb⟩
    replace hK := hK.next hb
    clear hb RR
    obtain ⟨⟨kz0,kc0,kf0⟩,⟨kz1,kc1,kf1⟩,⟨kz2,kc2,kf2⟩,⟨kz3,kc3,kf3⟩,⟨kz4,kc4,kf4⟩,⟨kz5,kc5,kf5⟩,⟨kz6,kc6,kf6⟩,⟨kz7,kc7,kf7⟩,_⟩ := hK.2
    go_wp2_with fail
    go_returns
    exact ⟨rfl, hK.1⟩
  rw [g1] at RR
  replace TM := Lib.hid (TM.out g1)
  replace TT := TT.out g1
  by_cases g2 : e < 0
  · have e5 : segB ⟨k, R, a, r, n, d, V, e⟩ = false := by
      have : ¬ 0 ≤ e := by omega
      simp [segB, this]
    rw [e5]
    clear e5 TM TT PT RL RK h
    have hK := new_seg (Below.refl w.heap.size w) 27 k v a r n d (.slice A9 V.length c9) e
    go_enter Tryz.func16, Tryz.ntmps16
    go_wp2_with fail
    refine (RR.out _ hK.1).mono ?_
    rintro e' w1 ⟨rfl, hb⟩
    replace hK := hK.next hb
    clear hb RR
    obtain ⟨⟨kz0,kc0,kf0⟩,⟨kz1,kc1,kf1⟩,⟨kz2,kc2,kf2⟩,⟨kz3,kc3,kf3⟩,⟨kz4,kc4,kf4⟩,⟨kz5,kc5,kf5⟩,⟨kz6,kc6,kf6⟩,⟨kz7,kc7,kf7⟩,_⟩ := hK.2
    go_wp2_with fail
    go_returns
    exact ⟨rfl, hK.1⟩
  by_cases g3 : 1099511627776 < e
  · have e5 : segB ⟨k, R, a, r, n, d, V, e⟩ = false := by
      have : ¬ e ≤ 1099511627776 := by omega
      simp [segB, this]
    rw [e5]
    clear e5 TM TT PT RL RK h
    have hK := new_seg (Below.refl w.heap.size w) 27 k v a r n d (.slice A9 V.length c9) e
    go_enter Tryz.func16, Tryz.ntmps16
    go_wp2_with fail
    refine (RR.out _ hK.1).mono ?_
    rintro e' w1 ⟨rfl, hb⟩
    replace hK := hK.next hb
    clear hb RR
    obtain ⟨⟨kz0,kc0,kf0⟩,⟨kz1,kc1,kf1⟩,⟨kz2,kc2,kf2⟩,⟨kz3,kc3,kf3⟩,⟨kz4,kc4,kf4⟩,⟨kz5,kc5,kf5⟩,⟨kz6,kc6,kf6⟩,⟨kz7,kc7,kf7⟩,_⟩ := hK.2
    go_wp2_with fail
    go_returns
    exact ⟨rfl, hK.1⟩
  have g4 : 0 ≤ e := by omega
  have g5 : e ≤ 1099511627776 := by omega
  have SG : segB ⟨k, R, a, r, n, d, V, e⟩ = ((if k = 4 then rawOk ⟨k, R, a, r, n, d, V, e⟩ else lineOk ⟨k, R, a, r, n, d, V, e⟩) && backs (vals ⟨k, R, a, r, n, d, V, e⟩)) := by simp [segB, g1, g4, g5]
  rw [SG]
  have hRO : rawOk ⟨k, R, a, r, n, d, V, e⟩ = (decide (a = 0 ∧ r = 0 ∧ n = 0 ∧ d = 0) && decide ((V.length : Int) = totalR R)) := rfl
  have hLO : lineOk ⟨k, R, a, r, n, d, V, e⟩ = (decide (V.length = 0) && (lineB a r n d && decide (k = kindL n r))) := by
    have h0 : decide (V.length = 0) = decide (V = []) := decide_eq_decide.2 List.length_eq_zero_iff
    rw [h0]
    rfl
  rw [hRO, hLO, ← TT]
  clear SG hRO hLO g4 g5 h
  have PA1 : Hid (k = 4 → (V.length : Int) = ((timesR R).length : Int) → ∀ W, Below w.heap.size w W → Calls Tryz.prog 21 #[.agg #[.int .i64 k, v, .int .i64 a, .int .i64 r, .int .i64 n, .int .i64 d, .slice A9 V.length c9, .int .i64 e]] W (fun e' w' => ∃ A' n' c', e' = .returned (.tuple #[.slice A' n' c', .bool (backs (vals ⟨k, R, a, r, n, d, V, e⟩))]) ∧ Below W.heap.size W w')) := Lib.hid (fun hk hl => PT.out ⟨g1, .inl ⟨hk, by show (V.length : Int) = totalR R; rw [← TT]; exact hl⟩⟩)
  have PA2 : Hid (k ≠ 4 → lineB a r n d = true → ∀ W, Below w.heap.size w W → Calls Tryz.prog 21 #[.agg #[.int .i64 k, v, .int .i64 a, .int .i64 r, .int .i64 n, .int .i64 d, .slice A9 V.length c9, .int .i64 e]] W (fun e' w' => ∃ A' n' c', e' = .returned (.tuple #[.slice A' n' c', .bool (backs (vals ⟨k, R, a, r, n, d, V, e⟩))]) ∧ Below W.heap.size W w')) := Lib.hid (fun hk hl => PT.out ⟨g1, .inr ⟨hk, hl⟩⟩)
  clear PT g1 TT
  generalize backs (vals ⟨k, R, a, r, n, d, V, e⟩) = bk at *
  replace TM : Hid (∀ W, Below w.heap.size w W → Calls Tryz.prog 56 #[v] W (fun e' w' => ∃ A c, e' = .returned (.slice A (timesR R).length c) ∧ Below W.heap.size W w')) := Lib.hid (fun W hb => (TM.out W hb).mono (fun _ _ ⟨vt, h1, h2, h3⟩ => by
    obtain ⟨A2, c2, rfl, _, _⟩ := reads_own (k := .i64) (show World.ownsRow _ _ _ _ _ _ _ from h3)
    exact ⟨A2, c2, h1, h2⟩))
  generalize (timesR R).length = M at *
  generalize V.length = N at *
  generalize kindL n r = kl at *
  have q2 : ¬ e < 0 := g2
  have q3 : ¬ 1099511627776 < e := g3
  clear g2 g3 hR hV
  by_cases hk : k = 4
  · subst hk
    rw [if_pos rfl]
    replace PA1 := Lib.hid (PA1.out rfl)
    clear PA2 RL RK
    by_cases ga : a = 0
    rotate_left
    · have t5 : (a == 0) = false := by simpa using ga
      have e5 : (decide (a = 0 ∧ r = 0 ∧ n = 0 ∧ d = 0) && decide ((N : Int) = (M : Int)) && bk) = false := by simp [ga]
      rw [e5]
      clear e5 ga PA1 TM
      have hK := new_seg (Below.refl w.heap.size w) 27 4 v a r n d (.slice A9 N c9) e
      go_enter Tryz.func16, Tryz.ntmps16
      go_wp2_with fail
      refine (RR.out _ hK.1).mono ?_
      rintro e' w1 ⟨rfl, hb⟩
      replace hK := hK.next hb
      clear hb RR
      obtain ⟨⟨kz0,kc0,kf0⟩,⟨kz1,kc1,kf1⟩,⟨kz2,kc2,kf2⟩,⟨kz3,kc3,kf3⟩,⟨kz4,kc4,kf4⟩,⟨kz5,kc5,kf5⟩,⟨kz6,kc6,kf6⟩,⟨kz7,kc7,kf7⟩,_⟩ := hK.2
      go_upto_region 4 with (fail)
      (try clear hHeld0); (try clear hHeld1); (try clear hHeld2); (try clear kz0 kc0 kf0); (try clear kz1 kc1 kf1); (try clear kz2 kc2 kf2); (try clear kz3 kc3 kf3); (try clear kz4 kc4 kf4); (try clear kz5 kc5 kf5); (try clear kz6 kc6 kf6); (try clear kz7 kc7 kf7)
      refine region_keeps (w0 := w) (L := [(w.heap.size, 0, .int .i64 4), (w.heap.size, 1, v), (w.heap.size, 2, .int .i64 a), (w.heap.size, 3, .int .i64 r), (w.heap.size, 4, .int .i64 n), (w.heap.size, 5, .int .i64 d), (w.heap.size, 6, .slice A9 N c9), (w.heap.size, 7, .int .i64 e)]) (by kernel_rfl) hK (fun hHeld0 => ?_)
      refine tv 0 22 rfl rfl ?_
      try go_frame
      refine tk 1 23 rfl rfl ?_ ?_ ?_
      rotate_left
      · intro wq hSw; obtain ⟨⟨_,_,_⟩,⟨_,_,_⟩,⟨_,_,_⟩,⟨_,_,_⟩,⟨_,_,_⟩,⟨_,_,_⟩,⟨_,_,_⟩,⟨_,_,_⟩,_⟩ := hSw.2; go_simp; (try with_reducible rfl)
      try go_frame
      refine tv 2 24 rfl rfl ?_
      try go_frame
      refine tv 3 25 rfl rfl ?_
      try go_frame
      refine tv 4 26 rfl rfl ?_
      try go_frame
      refine tu 5 27 rfl rfl ?_
      try go_frame
      refine tu 6 28 rfl rfl ?_
      try go_frame
      refine tu 7 29 rfl rfl ?_
      try go_frame
      refine tu 8 30 rfl rfl ?_
      try go_frame
      refine tu 9 31 rfl rfl ?_
      try go_frame
      refine tu 10 32 rfl rfl ?_
      try go_frame
      refine tu 11 33 rfl rfl ?_
      try go_frame
      refine tu 12 34 rfl rfl ?_
      try go_frame
      refine tv 13 35 rfl rfl ?_
      try go_frame
      refine wpAnyH_done (by kernel_rfl) ?_ _
      have hHeld := hHeld0
      obtain ⟨⟨kz0,kc0,kf0⟩,⟨kz1,kc1,kf1⟩,⟨kz2,kc2,kf2⟩,⟨kz3,kc3,kf3⟩,⟨kz4,kc4,kf4⟩,⟨kz5,kc5,kf5⟩,⟨kz6,kc6,kf6⟩,⟨kz7,kc7,kf7⟩,_⟩ := hHeld.2
      all_goals
        (try clear hHeld0); (try clear hHeld1); (try clear hHeld2); (try clear kz0 kc0 kf0); (try clear kz1 kc1 kf1); (try clear kz2 kc2 kf2); (try clear kz3 kc3 kf3); (try clear kz4 kc4 kf4); (try clear kz5 kc5 kf5); (try clear kz6 kc6 kf6); (try clear kz7 kc7 kf7)
        go_wp2_with fail
        go_returns
        exact ⟨rfl, hHeld.1⟩
    subst ga
    by_cases gr : r = 0
    rotate_left
    · have t5 : (r == 0) = false := by simpa using gr
      have e5 : (decide ((0 : Int) = 0 ∧ r = 0 ∧ n = 0 ∧ d = 0) && decide ((N : Int) = (M : Int)) && bk) = false := by simp [gr]
      rw [e5]
      clear e5 gr PA1 TM
      have hK := new_seg (Below.refl w.heap.size w) 27 4 v 0 r n d (.slice A9 N c9) e
      go_enter Tryz.func16, Tryz.ntmps16
      go_wp2_with fail
      refine (RR.out _ hK.1).mono ?_
      rintro e' w1 ⟨rfl, hb⟩
      replace hK := hK.next hb
      clear hb RR
      obtain ⟨⟨kz0,kc0,kf0⟩,⟨kz1,kc1,kf1⟩,⟨kz2,kc2,kf2⟩,⟨kz3,kc3,kf3⟩,⟨kz4,kc4,kf4⟩,⟨kz5,kc5,kf5⟩,⟨kz6,kc6,kf6⟩,⟨kz7,kc7,kf7⟩,_⟩ := hK.2
      go_upto_region 4 with (fail)
      (try clear hHeld0); (try clear hHeld1); (try clear hHeld2); (try clear kz0 kc0 kf0); (try clear kz1 kc1 kf1); (try clear kz2 kc2 kf2); (try clear kz3 kc3 kf3); (try clear kz4 kc4 kf4); (try clear kz5 kc5 kf5); (try clear kz6 kc6 kf6); (try clear kz7 kc7 kf7)
      refine region_keeps (w0 := w) (L := [(w.heap.size, 0, .int .i64 4), (w.heap.size, 1, v), (w.heap.size, 2, .int .i64 0), (w.heap.size, 3, .int .i64 r), (w.heap.size, 4, .int .i64 n), (w.heap.size, 5, .int .i64 d), (w.heap.size, 6, .slice A9 N c9), (w.heap.size, 7, .int .i64 e)]) (by kernel_rfl) hK (fun hHeld0 => ?_)
      refine tv 0 22 rfl rfl ?_
      try go_frame
      refine tk 1 23 rfl rfl ?_ ?_ ?_
      rotate_left
      · intro wq hSw; obtain ⟨⟨_,_,_⟩,⟨_,_,_⟩,⟨_,_,_⟩,⟨_,_,_⟩,⟨_,_,_⟩,⟨_,_,_⟩,⟨_,_,_⟩,⟨_,_,_⟩,_⟩ := hSw.2; go_simp; (try with_reducible rfl)
      try go_frame
      refine tv 2 24 rfl rfl ?_
      try go_frame
      refine tv 3 25 rfl rfl ?_
      try go_frame
      refine tv 4 26 rfl rfl ?_
      try go_frame
      refine tu 5 27 rfl rfl ?_
      try go_frame
      refine tu 6 28 rfl rfl ?_
      try go_frame
      refine tu 7 29 rfl rfl ?_
      try go_frame
      refine tu 8 30 rfl rfl ?_
      try go_frame
      refine tu 9 31 rfl rfl ?_
      try go_frame
      refine tu 10 32 rfl rfl ?_
      try go_frame
      refine tu 11 33 rfl rfl ?_
      try go_frame
      refine tu 12 34 rfl rfl ?_
      try go_frame
      refine tv 13 35 rfl rfl ?_
      try go_frame
      refine wpAnyH_done (by kernel_rfl) ?_ _
      have hHeld := hHeld0
      obtain ⟨⟨kz0,kc0,kf0⟩,⟨kz1,kc1,kf1⟩,⟨kz2,kc2,kf2⟩,⟨kz3,kc3,kf3⟩,⟨kz4,kc4,kf4⟩,⟨kz5,kc5,kf5⟩,⟨kz6,kc6,kf6⟩,⟨kz7,kc7,kf7⟩,_⟩ := hHeld.2
      all_goals
        (try clear hHeld0); (try clear hHeld1); (try clear hHeld2); (try clear kz0 kc0 kf0); (try clear kz1 kc1 kf1); (try clear kz2 kc2 kf2); (try clear kz3 kc3 kf3); (try clear kz4 kc4 kf4); (try clear kz5 kc5 kf5); (try clear kz6 kc6 kf6); (try clear kz7 kc7 kf7)
        go_wp2_with fail
        go_returns
        exact ⟨rfl, hHeld.1⟩
    subst gr
    by_cases gn : n = 0
    rotate_left
    · have t5 : (n == 0) = false := by simpa using gn
      have e5 : (decide ((0 : Int) = 0 ∧ (0 : Int) = 0 ∧ n = 0 ∧ d = 0) && decide ((N : Int) = (M : Int)) && bk) = false := by simp [gn]
      rw [e5]
      clear e5 gn PA1 TM
      have hK := new_seg (Below.refl w.heap.size w) 27 4 v 0 0 n d (.slice A9 N c9) e
      go_enter Tryz.func16, Tryz.ntmps16
      go_wp2_with fail
      refine (RR.out _ hK.1).mono ?_
      rintro e' w1 ⟨rfl, hb⟩
      replace hK := hK.next hb
      clear hb RR
      obtain ⟨⟨kz0,kc0,kf0⟩,⟨kz1,kc1,kf1⟩,⟨kz2,kc2,kf2⟩,⟨kz3,kc3,kf3⟩,⟨kz4,kc4,kf4⟩,⟨kz5,kc5,kf5⟩,⟨kz6,kc6,kf6⟩,⟨kz7,kc7,kf7⟩,_⟩ := hK.2
      go_upto_region 4 with (fail)
      (try clear hHeld0); (try clear hHeld1); (try clear hHeld2); (try clear kz0 kc0 kf0); (try clear kz1 kc1 kf1); (try clear kz2 kc2 kf2); (try clear kz3 kc3 kf3); (try clear kz4 kc4 kf4); (try clear kz5 kc5 kf5); (try clear kz6 kc6 kf6); (try clear kz7 kc7 kf7)
      refine region_keeps (w0 := w) (L := [(w.heap.size, 0, .int .i64 4), (w.heap.size, 1, v), (w.heap.size, 2, .int .i64 0), (w.heap.size, 3, .int .i64 0), (w.heap.size, 4, .int .i64 n), (w.heap.size, 5, .int .i64 d), (w.heap.size, 6, .slice A9 N c9), (w.heap.size, 7, .int .i64 e)]) (by kernel_rfl) hK (fun hHeld0 => ?_)
      refine tv 0 22 rfl rfl ?_
      try go_frame
      refine tk 1 23 rfl rfl ?_ ?_ ?_
      rotate_left
      · intro wq hSw; obtain ⟨⟨_,_,_⟩,⟨_,_,_⟩,⟨_,_,_⟩,⟨_,_,_⟩,⟨_,_,_⟩,⟨_,_,_⟩,⟨_,_,_⟩,⟨_,_,_⟩,_⟩ := hSw.2; go_simp; (try with_reducible rfl)
      try go_frame
      refine tv 2 24 rfl rfl ?_
      try go_frame
      refine tv 3 25 rfl rfl ?_
      try go_frame
      refine tv 4 26 rfl rfl ?_
      try go_frame
      refine tu 5 27 rfl rfl ?_
      try go_frame
      refine tu 6 28 rfl rfl ?_
      try go_frame
      refine tu 7 29 rfl rfl ?_
      try go_frame
      refine tu 8 30 rfl rfl ?_
      try go_frame
      refine tu 9 31 rfl rfl ?_
      try go_frame
      refine tu 10 32 rfl rfl ?_
      try go_frame
      refine tu 11 33 rfl rfl ?_
      try go_frame
      refine tu 12 34 rfl rfl ?_
      try go_frame
      refine tv 13 35 rfl rfl ?_
      try go_frame
      refine wpAnyH_done (by kernel_rfl) ?_ _
      have hHeld := hHeld0
      obtain ⟨⟨kz0,kc0,kf0⟩,⟨kz1,kc1,kf1⟩,⟨kz2,kc2,kf2⟩,⟨kz3,kc3,kf3⟩,⟨kz4,kc4,kf4⟩,⟨kz5,kc5,kf5⟩,⟨kz6,kc6,kf6⟩,⟨kz7,kc7,kf7⟩,_⟩ := hHeld.2
      all_goals
        (try clear hHeld0); (try clear hHeld1); (try clear hHeld2); (try clear kz0 kc0 kf0); (try clear kz1 kc1 kf1); (try clear kz2 kc2 kf2); (try clear kz3 kc3 kf3); (try clear kz4 kc4 kf4); (try clear kz5 kc5 kf5); (try clear kz6 kc6 kf6); (try clear kz7 kc7 kf7)
        go_wp2_with fail
        go_returns
        exact ⟨rfl, hHeld.1⟩
    subst gn
    by_cases gd : d = 0
    rotate_left
    · have t5 : (d == 0) = false := by simpa using gd
      have e5 : (decide ((0 : Int) = 0 ∧ (0 : Int) = 0 ∧ (0 : Int) = 0 ∧ d = 0) && decide ((N : Int) = (M : Int)) && bk) = false := by simp [gd]
      rw [e5]
      clear e5 gd PA1 TM
      have hK := new_seg (Below.refl w.heap.size w) 27 4 v 0 0 0 d (.slice A9 N c9) e
      go_enter Tryz.func16, Tryz.ntmps16
      go_wp2_with fail
      refine (RR.out _ hK.1).mono ?_
      rintro e' w1 ⟨rfl, hb⟩
      replace hK := hK.next hb
      clear hb RR
      obtain ⟨⟨kz0,kc0,kf0⟩,⟨kz1,kc1,kf1⟩,⟨kz2,kc2,kf2⟩,⟨kz3,kc3,kf3⟩,⟨kz4,kc4,kf4⟩,⟨kz5,kc5,kf5⟩,⟨kz6,kc6,kf6⟩,⟨kz7,kc7,kf7⟩,_⟩ := hK.2
      go_upto_region 4 with (fail)
      (try clear hHeld0); (try clear hHeld1); (try clear hHeld2); (try clear kz0 kc0 kf0); (try clear kz1 kc1 kf1); (try clear kz2 kc2 kf2); (try clear kz3 kc3 kf3); (try clear kz4 kc4 kf4); (try clear kz5 kc5 kf5); (try clear kz6 kc6 kf6); (try clear kz7 kc7 kf7)
      refine region_keeps (w0 := w) (L := [(w.heap.size, 0, .int .i64 4), (w.heap.size, 1, v), (w.heap.size, 2, .int .i64 0), (w.heap.size, 3, .int .i64 0), (w.heap.size, 4, .int .i64 0), (w.heap.size, 5, .int .i64 d), (w.heap.size, 6, .slice A9 N c9), (w.heap.size, 7, .int .i64 e)]) (by kernel_rfl) hK (fun hHeld0 => ?_)
      refine tv 0 22 rfl rfl ?_
      try go_frame
      refine tk 1 23 rfl rfl ?_ ?_ ?_
      rotate_left
      · intro wq hSw; obtain ⟨⟨_,_,_⟩,⟨_,_,_⟩,⟨_,_,_⟩,⟨_,_,_⟩,⟨_,_,_⟩,⟨_,_,_⟩,⟨_,_,_⟩,⟨_,_,_⟩,_⟩ := hSw.2; go_simp; (try with_reducible rfl)
      try go_frame
      refine tv 2 24 rfl rfl ?_
      try go_frame
      refine tv 3 25 rfl rfl ?_
      try go_frame
      refine tv 4 26 rfl rfl ?_
      try go_frame
      refine tu 5 27 rfl rfl ?_
      try go_frame
      refine tu 6 28 rfl rfl ?_
      try go_frame
      refine tu 7 29 rfl rfl ?_
      try go_frame
      refine tu 8 30 rfl rfl ?_
      try go_frame
      refine tu 9 31 rfl rfl ?_
      try go_frame
      refine tu 10 32 rfl rfl ?_
      try go_frame
      refine tu 11 33 rfl rfl ?_
      try go_frame
      refine tu 12 34 rfl rfl ?_
      try go_frame
      refine tv 13 35 rfl rfl ?_
      try go_frame
      refine wpAnyH_done (by kernel_rfl) ?_ _
      have hHeld := hHeld0
      obtain ⟨⟨kz0,kc0,kf0⟩,⟨kz1,kc1,kf1⟩,⟨kz2,kc2,kf2⟩,⟨kz3,kc3,kf3⟩,⟨kz4,kc4,kf4⟩,⟨kz5,kc5,kf5⟩,⟨kz6,kc6,kf6⟩,⟨kz7,kc7,kf7⟩,_⟩ := hHeld.2
      all_goals
        (try clear hHeld0); (try clear hHeld1); (try clear hHeld2); (try clear kz0 kc0 kf0); (try clear kz1 kc1 kf1); (try clear kz2 kc2 kf2); (try clear kz3 kc3 kf3); (try clear kz4 kc4 kf4); (try clear kz5 kc5 kf5); (try clear kz6 kc6 kf6); (try clear kz7 kc7 kf7)
        go_wp2_with fail
        go_returns
        exact ⟨rfl, hHeld.1⟩
    subst gd
    by_cases g6 : (N : Int) = (M : Int)
    · have t5 : ((N : Int) == (M : Int)) = true := by simpa using g6
      have e5 : (decide ((0 : Int) = 0 ∧ (0 : Int) = 0 ∧ (0 : Int) = 0 ∧ (0 : Int) = 0) && decide ((N : Int) = (M : Int)) && bk) = bk := by simp [g6]
      rw [e5]
      replace PA1 := Lib.hid (PA1.out g6)
      clear e5 g6
      have hK := new_seg (Below.refl w.heap.size w) 27 4 v 0 0 0 0 (.slice A9 N c9) e
      go_enter Tryz.func16, Tryz.ntmps16
      go_wp2_with fail
      refine (RR.out _ hK.1).mono ?_
      rintro e' w1 ⟨rfl, hb⟩
      replace hK := hK.next hb
      clear hb RR
      obtain ⟨⟨kz0,kc0,kf0⟩,⟨kz1,kc1,kf1⟩,⟨kz2,kc2,kf2⟩,⟨kz3,kc3,kf3⟩,⟨kz4,kc4,kf4⟩,⟨kz5,kc5,kf5⟩,⟨kz6,kc6,kf6⟩,⟨kz7,kc7,kf7⟩,_⟩ := hK.2
      go_upto_region 4 with (fail)
      (try clear hHeld0); (try clear hHeld1); (try clear hHeld2); (try clear kz0 kc0 kf0); (try clear kz1 kc1 kf1); (try clear kz2 kc2 kf2); (try clear kz3 kc3 kf3); (try clear kz4 kc4 kf4); (try clear kz5 kc5 kf5); (try clear kz6 kc6 kf6); (try clear kz7 kc7 kf7)
      refine region_keeps (w0 := w) (L := [(w.heap.size, 0, .int .i64 4), (w.heap.size, 1, v), (w.heap.size, 2, .int .i64 0), (w.heap.size, 3, .int .i64 0), (w.heap.size, 4, .int .i64 0), (w.heap.size, 5, .int .i64 0), (w.heap.size, 6, .slice A9 N c9), (w.heap.size, 7, .int .i64 e)]) (by kernel_rfl) hK (fun hHeld0 => ?_)
      refine tv 0 22 rfl rfl ?_
      try go_frame
      refine tk 1 23 rfl rfl ?_ ?_ ?_
      rotate_left
      · intro wq hSw; obtain ⟨⟨_,_,_⟩,⟨_,_,_⟩,⟨_,_,_⟩,⟨_,_,_⟩,⟨_,_,_⟩,⟨_,_,_⟩,⟨_,_,_⟩,⟨_,_,_⟩,_⟩ := hSw.2; go_simp; (try with_reducible rfl)
      try go_frame
      refine tv 2 24 rfl rfl ?_
      try go_frame
      refine tv 3 25 rfl rfl ?_
      try go_frame
      refine tv 4 26 rfl rfl ?_
      try go_frame
      refine tv 5 27 rfl rfl ?_
      try go_frame
      refine tk 6 28 rfl rfl ?_ ?_ ?_
      rotate_left
      · intro wq hSw; obtain ⟨⟨_,_,_⟩,⟨_,_,_⟩,⟨_,_,_⟩,⟨_,_,_⟩,⟨_,_,_⟩,⟨_,_,_⟩,⟨_,_,_⟩,⟨_,_,_⟩,_⟩ := hSw.2; go_simp; (try with_reducible rfl)
      try go_frame
      refine tv 7 29 rfl rfl ?_
      try go_frame
      refine tv 8 30 rfl rfl ?_
      try go_frame
      refine tk 9 31 rfl rfl ?_ ?_ ?_
      rotate_left
      · intro wq hSw; obtain ⟨⟨_,_,_⟩,⟨_,_,_⟩,⟨_,_,_⟩,⟨_,_,_⟩,⟨_,_,_⟩,⟨_,_,_⟩,⟨_,_,_⟩,⟨_,_,_⟩,_⟩ := hSw.2; go_simp; (try with_reducible rfl)
      try go_frame
      refine ty [10] ?_
      refine AllReadyH.cons rfl (fun K hK => ?_) AllReadyH.nil
      go_simp
      (have hB0 := hHeld0.1; (with_reducible refine (TM.out _ hB0).mono ?_); clear hB0; rintro e w2 ⟨A2, c2, rfl, hb⟩)
      refine hK.out _ _ (hHeld0.next hb) (fun hHeld1 => ?_)
      clear hK K; try clear hb
      try go_frame
      refine tv 11 33 rfl rfl ?_
      try go_frame
      refine tv 12 34 rfl rfl ?_
      try go_frame
      refine tv 13 35 rfl rfl ?_
      try go_frame
      refine wpAnyH_done (by kernel_rfl) ?_ _
      have hHeld := hHeld1
      obtain ⟨⟨kz0,kc0,kf0⟩,⟨kz1,kc1,kf1⟩,⟨kz2,kc2,kf2⟩,⟨kz3,kc3,kf3⟩,⟨kz4,kc4,kf4⟩,⟨kz5,kc5,kf5⟩,⟨kz6,kc6,kf6⟩,⟨kz7,kc7,kf7⟩,_⟩ := hHeld.2
      all_goals
        have hH9 := hHeld
        (try clear hHeld0); (try clear hHeld1); (try clear hHeld2); (try clear kz0 kc0 kf0); (try clear kz1 kc1 kf1); (try clear kz2 kc2 kf2); (try clear kz3 kc3 kf3); (try clear kz4 kc4 kf4); (try clear kz5 kc5 kf5); (try clear kz6 kc6 kf6); (try clear kz7 kc7 kf7)
        obtain ⟨⟨kz0,kc0,kf0⟩,⟨kz1,kc1,kf1⟩,⟨kz2,kc2,kf2⟩,⟨kz3,kc3,kf3⟩,⟨kz4,kc4,kf4⟩,⟨kz5,kc5,kf5⟩,⟨kz6,kc6,kf6⟩,⟨kz7,kc7,kf7⟩,_⟩ := hH9.2
        clear hHeld
        go_wp2_with fail
        refine (PA1.out _ hH9.1).mono ?_
        rintro e' w5 ⟨A7, n7, c7, rfl, hb⟩
        have hB7 := under hH9.1 hb
        clear hH9 hb
        (try clear hHeld0); (try clear hHeld1); (try clear hHeld2); (try clear kz0 kc0 kf0); (try clear kz1 kc1 kf1); (try clear kz2 kc2 kf2); (try clear kz3 kc3 kf3); (try clear kz4 kc4 kf4); (try clear kz5 kc5 kf5); (try clear kz6 kc6 kf6); (try clear kz7 kc7 kf7)
        go_wp2_with fail
        go_returns
        exact ⟨rfl, hB7⟩
    · have t5 : ((N : Int) == (M : Int)) = false := by simpa using g6
      have e5 : (decide ((0 : Int) = 0 ∧ (0 : Int) = 0 ∧ (0 : Int) = 0 ∧ (0 : Int) = 0) && decide ((N : Int) = (M : Int)) && bk) = false := by simp [g6]
      rw [e5]
      clear e5 g6 PA1
      have hK := new_seg (Below.refl w.heap.size w) 27 4 v 0 0 0 0 (.slice A9 N c9) e
      go_enter Tryz.func16, Tryz.ntmps16
      go_wp2_with fail
      refine (RR.out _ hK.1).mono ?_
      rintro e' w1 ⟨rfl, hb⟩
      replace hK := hK.next hb
      clear hb RR
      obtain ⟨⟨kz0,kc0,kf0⟩,⟨kz1,kc1,kf1⟩,⟨kz2,kc2,kf2⟩,⟨kz3,kc3,kf3⟩,⟨kz4,kc4,kf4⟩,⟨kz5,kc5,kf5⟩,⟨kz6,kc6,kf6⟩,⟨kz7,kc7,kf7⟩,_⟩ := hK.2
      go_upto_region 4 with (fail)
      (try clear hHeld0); (try clear hHeld1); (try clear hHeld2); (try clear kz0 kc0 kf0); (try clear kz1 kc1 kf1); (try clear kz2 kc2 kf2); (try clear kz3 kc3 kf3); (try clear kz4 kc4 kf4); (try clear kz5 kc5 kf5); (try clear kz6 kc6 kf6); (try clear kz7 kc7 kf7)
      refine region_keeps (w0 := w) (L := [(w.heap.size, 0, .int .i64 4), (w.heap.size, 1, v), (w.heap.size, 2, .int .i64 0), (w.heap.size, 3, .int .i64 0), (w.heap.size, 4, .int .i64 0), (w.heap.size, 5, .int .i64 0), (w.heap.size, 6, .slice A9 N c9), (w.heap.size, 7, .int .i64 e)]) (by kernel_rfl) hK (fun hHeld0 => ?_)
      refine tv 0 22 rfl rfl ?_
      try go_frame
      refine tk 1 23 rfl rfl ?_ ?_ ?_
      rotate_left
      · intro wq hSw; obtain ⟨⟨_,_,_⟩,⟨_,_,_⟩,⟨_,_,_⟩,⟨_,_,_⟩,⟨_,_,_⟩,⟨_,_,_⟩,⟨_,_,_⟩,⟨_,_,_⟩,_⟩ := hSw.2; go_simp; (try with_reducible rfl)
      try go_frame
      refine tv 2 24 rfl rfl ?_
      try go_frame
      refine tv 3 25 rfl rfl ?_
      try go_frame
      refine tv 4 26 rfl rfl ?_
      try go_frame
      refine tv 5 27 rfl rfl ?_
      try go_frame
      refine tk 6 28 rfl rfl ?_ ?_ ?_
      rotate_left
      · intro wq hSw; obtain ⟨⟨_,_,_⟩,⟨_,_,_⟩,⟨_,_,_⟩,⟨_,_,_⟩,⟨_,_,_⟩,⟨_,_,_⟩,⟨_,_,_⟩,⟨_,_,_⟩,_⟩ := hSw.2; go_simp; (try with_reducible rfl)
      try go_frame
      refine tv 7 29 rfl rfl ?_
      try go_frame
      refine tv 8 30 rfl rfl ?_
      try go_frame
      refine tk 9 31 rfl rfl ?_ ?_ ?_
      rotate_left
      · intro wq hSw; obtain ⟨⟨_,_,_⟩,⟨_,_,_⟩,⟨_,_,_⟩,⟨_,_,_⟩,⟨_,_,_⟩,⟨_,_,_⟩,⟨_,_,_⟩,⟨_,_,_⟩,_⟩ := hSw.2; go_simp; (try with_reducible rfl)
      try go_frame
      refine ty [10] ?_
      refine AllReadyH.cons rfl (fun K hK => ?_) AllReadyH.nil
      go_simp
      (have hB0 := hHeld0.1; (with_reducible refine (TM.out _ hB0).mono ?_); clear hB0; rintro e w2 ⟨A2, c2, rfl, hb⟩)
      refine hK.out _ _ (hHeld0.next hb) (fun hHeld1 => ?_)
      clear hK K; try clear hb
      try go_frame
      refine tv 11 33 rfl rfl ?_
      try go_frame
      refine tv 12 34 rfl rfl ?_
      try go_frame
      refine tv 13 35 rfl rfl ?_
      try go_frame
      refine wpAnyH_done (by kernel_rfl) ?_ _
      have hHeld := hHeld1
      obtain ⟨⟨kz0,kc0,kf0⟩,⟨kz1,kc1,kf1⟩,⟨kz2,kc2,kf2⟩,⟨kz3,kc3,kf3⟩,⟨kz4,kc4,kf4⟩,⟨kz5,kc5,kf5⟩,⟨kz6,kc6,kf6⟩,⟨kz7,kc7,kf7⟩,_⟩ := hHeld.2
      all_goals
        (try clear hHeld0); (try clear hHeld1); (try clear hHeld2); (try clear kz0 kc0 kf0); (try clear kz1 kc1 kf1); (try clear kz2 kc2 kf2); (try clear kz3 kc3 kf3); (try clear kz4 kc4 kf4); (try clear kz5 kc5 kf5); (try clear kz6 kc6 kf6); (try clear kz7 kc7 kf7)
        go_wp2_with fail
        go_returns
        exact ⟨rfl, hHeld.1⟩
  · have t4 : (k == 4) = false := by simpa using hk
    rw [if_neg hk]
    replace PA2 := Lib.hid (PA2.out hk)
    clear PA1 TM
    by_cases g6 : N = 0
    rotate_left
    · have t5 : (0 : Int) < (N : Int) := by omega
      have t6 : 0 < N := by omega
      have e5 : (decide (N = 0) && (lineB a r n d && decide (k = kl)) && bk) = false := by simp [g6]
      rw [e5]
      clear e5 g6 PA2 RL RK
      have hK := new_seg (Below.refl w.heap.size w) 27 k v a r n d (.slice A9 N c9) e
      go_enter Tryz.func16, Tryz.ntmps16
      go_wp2_with fail
      refine (RR.out _ hK.1).mono ?_
      rintro e' w1 ⟨rfl, hb⟩
      replace hK := hK.next hb
      clear hb RR
      obtain ⟨⟨kz0,kc0,kf0⟩,⟨kz1,kc1,kf1⟩,⟨kz2,kc2,kf2⟩,⟨kz3,kc3,kf3⟩,⟨kz4,kc4,kf4⟩,⟨kz5,kc5,kf5⟩,⟨kz6,kc6,kf6⟩,⟨kz7,kc7,kf7⟩,_⟩ := hK.2
      go_upto_region 6 with (fail)
      (try clear hHeld0); (try clear hHeld1); (try clear hHeld2); (try clear kz0 kc0 kf0); (try clear kz1 kc1 kf1); (try clear kz2 kc2 kf2); (try clear kz3 kc3 kf3); (try clear kz4 kc4 kf4); (try clear kz5 kc5 kf5); (try clear kz6 kc6 kf6); (try clear kz7 kc7 kf7)
      refine region_keeps (w0 := w) (L := [(w.heap.size, 0, .int .i64 k), (w.heap.size, 1, v), (w.heap.size, 2, .int .i64 a), (w.heap.size, 3, .int .i64 r), (w.heap.size, 4, .int .i64 n), (w.heap.size, 5, .int .i64 d), (w.heap.size, 6, .slice A9 N c9), (w.heap.size, 7, .int .i64 e)]) (by kernel_rfl) hK (fun hHeld0 => ?_)
      refine tv 0 36 rfl rfl ?_
      try go_frame
      refine tk 1 37 rfl rfl ?_ ?_ ?_
      rotate_left
      · intro wq hSw; obtain ⟨⟨_,_,_⟩,⟨_,_,_⟩,⟨_,_,_⟩,⟨_,_,_⟩,⟨_,_,_⟩,⟨_,_,_⟩,⟨_,_,_⟩,⟨_,_,_⟩,_⟩ := hSw.2; go_simp; (try with_reducible rfl)
      try go_frame
      refine tv 2 38 rfl rfl ?_
      try go_frame
      refine tv 3 39 rfl rfl ?_
      try go_frame
      refine tv 4 40 rfl rfl ?_
      try go_frame
      refine tu 5 41 rfl rfl ?_
      try go_frame
      refine tu 6 42 rfl rfl ?_
      try go_frame
      refine tu 7 43 rfl rfl ?_
      try go_frame
      refine tu 8 44 rfl rfl ?_
      try go_frame
      refine tv 9 45 rfl rfl ?_
      try go_frame
      refine tv 10 46 rfl rfl ?_
      try go_frame
      refine tu 11 47 rfl rfl ?_
      try go_frame
      refine tu 12 48 rfl rfl ?_
      try go_frame
      refine tu 13 49 rfl rfl ?_
      try go_frame
      refine tu 14 50 rfl rfl ?_
      try go_frame
      refine tu 15 51 rfl rfl ?_
      try go_frame
      refine tu 16 52 rfl rfl ?_
      try go_frame
      refine tv 17 53 rfl rfl ?_
      try go_frame
      refine wpAnyH_done (by kernel_rfl) ?_ _
      have hHeld := hHeld0
      obtain ⟨⟨kz0,kc0,kf0⟩,⟨kz1,kc1,kf1⟩,⟨kz2,kc2,kf2⟩,⟨kz3,kc3,kf3⟩,⟨kz4,kc4,kf4⟩,⟨kz5,kc5,kf5⟩,⟨kz6,kc6,kf6⟩,⟨kz7,kc7,kf7⟩,_⟩ := hHeld.2
      all_goals
        (try clear hHeld0); (try clear hHeld1); (try clear hHeld2); (try clear kz0 kc0 kf0); (try clear kz1 kc1 kf1); (try clear kz2 kc2 kf2); (try clear kz3 kc3 kf3); (try clear kz4 kc4 kf4); (try clear kz5 kc5 kf5); (try clear kz6 kc6 kf6); (try clear kz7 kc7 kf7)
        go_wp2_with fail
        go_returns
        exact ⟨rfl, hHeld.1⟩
    subst g6
    cases gl : lineB a r n d
    · rw [gl] at RL
      have e5 : (decide ((0 : Nat) = 0) && (false && decide (k = kl)) && bk) = false := by simp
      rw [e5]
      clear e5 gl PA2 RK
      have hK := new_seg (Below.refl w.heap.size w) 27 k v a r n d (.slice A9 0 c9) e
      go_enter Tryz.func16, Tryz.ntmps16
      go_wp2_with fail
      refine (RR.out _ hK.1).mono ?_
      rintro e' w1 ⟨rfl, hb⟩
      replace hK := hK.next hb
      clear hb RR
      obtain ⟨⟨kz0,kc0,kf0⟩,⟨kz1,kc1,kf1⟩,⟨kz2,kc2,kf2⟩,⟨kz3,kc3,kf3⟩,⟨kz4,kc4,kf4⟩,⟨kz5,kc5,kf5⟩,⟨kz6,kc6,kf6⟩,⟨kz7,kc7,kf7⟩,_⟩ := hK.2
      go_upto_region 6 with (fail)
      (try clear hHeld0); (try clear hHeld1); (try clear hHeld2); (try clear kz0 kc0 kf0); (try clear kz1 kc1 kf1); (try clear kz2 kc2 kf2); (try clear kz3 kc3 kf3); (try clear kz4 kc4 kf4); (try clear kz5 kc5 kf5); (try clear kz6 kc6 kf6); (try clear kz7 kc7 kf7)
      refine region_keeps (w0 := w) (L := [(w.heap.size, 0, .int .i64 k), (w.heap.size, 1, v), (w.heap.size, 2, .int .i64 a), (w.heap.size, 3, .int .i64 r), (w.heap.size, 4, .int .i64 n), (w.heap.size, 5, .int .i64 d), (w.heap.size, 6, .slice A9 0 c9), (w.heap.size, 7, .int .i64 e)]) (by kernel_rfl) hK (fun hHeld0 => ?_)
      refine tv 0 36 rfl rfl ?_
      try go_frame
      refine tk 1 37 rfl rfl ?_ ?_ ?_
      rotate_left
      · intro wq hSw; obtain ⟨⟨_,_,_⟩,⟨_,_,_⟩,⟨_,_,_⟩,⟨_,_,_⟩,⟨_,_,_⟩,⟨_,_,_⟩,⟨_,_,_⟩,⟨_,_,_⟩,_⟩ := hSw.2; go_simp; (try with_reducible rfl)
      try go_frame
      refine tv 2 38 rfl rfl ?_
      try go_frame
      refine tv 3 39 rfl rfl ?_
      try go_frame
      refine tv 4 40 rfl rfl ?_
      try go_frame
      refine tv 5 41 rfl rfl ?_
      try go_frame
      refine tk 6 42 rfl rfl ?_ ?_ ?_
      rotate_left
      · intro wq hSw; obtain ⟨⟨_,_,_⟩,⟨_,_,_⟩,⟨_,_,_⟩,⟨_,_,_⟩,⟨_,_,_⟩,⟨_,_,_⟩,⟨_,_,_⟩,⟨_,_,_⟩,_⟩ := hSw.2; go_simp; (try with_reducible rfl)
      try go_frame
      refine ty [7] ?_
      refine AllReadyH.cons rfl (fun K hK => ?_) AllReadyH.nil
      go_simp
      ((with_reducible refine (RL.out _).mono ?_); rintro e w2 ⟨rfl, hb⟩)
      refine hK.out _ _ (hHeld0.next hb) (fun hHeld1 => ?_)
      clear hK K; try clear hb
      try go_frame
      refine tv 8 44 rfl rfl ?_
      try go_frame
      refine tv 9 45 rfl rfl ?_
      try go_frame
      refine tv 10 46 rfl rfl ?_
      try go_frame
      refine tu 11 47 rfl rfl ?_
      try go_frame
      refine tu 12 48 rfl rfl ?_
      try go_frame
      refine tu 13 49 rfl rfl ?_
      try go_frame
      refine tu 14 50 rfl rfl ?_
      try go_frame
      refine tu 15 51 rfl rfl ?_
      try go_frame
      refine tu 16 52 rfl rfl ?_
      try go_frame
      refine tv 17 53 rfl rfl ?_
      try go_frame
      refine wpAnyH_done (by kernel_rfl) ?_ _
      have hHeld := hHeld1
      obtain ⟨⟨kz0,kc0,kf0⟩,⟨kz1,kc1,kf1⟩,⟨kz2,kc2,kf2⟩,⟨kz3,kc3,kf3⟩,⟨kz4,kc4,kf4⟩,⟨kz5,kc5,kf5⟩,⟨kz6,kc6,kf6⟩,⟨kz7,kc7,kf7⟩,_⟩ := hHeld.2
      all_goals
        (try clear hHeld0); (try clear hHeld1); (try clear hHeld2); (try clear kz0 kc0 kf0); (try clear kz1 kc1 kf1); (try clear kz2 kc2 kf2); (try clear kz3 kc3 kf3); (try clear kz4 kc4 kf4); (try clear kz5 kc5 kf5); (try clear kz6 kc6 kf6); (try clear kz7 kc7 kf7)
        go_wp2_with fail
        go_returns
        exact ⟨rfl, hHeld.1⟩
    rw [gl] at RL
    replace PA2 := Lib.hid (PA2.out gl)
    clear gl
    by_cases g7 : k = kl
    · have t7 : (k == kl) = true := by simpa using g7
      have e5 : (decide ((0 : Nat) = 0) && (true && decide (k = kl)) && bk) = bk := by simp [g7]
      rw [e5]
      clear e5 g7
      have hK := new_seg (Below.refl w.heap.size w) 27 k v a r n d (.slice A9 0 c9) e
      go_enter Tryz.func16, Tryz.ntmps16
      go_wp2_with fail
      refine (RR.out _ hK.1).mono ?_
      rintro e' w1 ⟨rfl, hb⟩
      replace hK := hK.next hb
      clear hb RR
      obtain ⟨⟨kz0,kc0,kf0⟩,⟨kz1,kc1,kf1⟩,⟨kz2,kc2,kf2⟩,⟨kz3,kc3,kf3⟩,⟨kz4,kc4,kf4⟩,⟨kz5,kc5,kf5⟩,⟨kz6,kc6,kf6⟩,⟨kz7,kc7,kf7⟩,_⟩ := hK.2
      go_upto_region 6 with (fail)
      (try clear hHeld0); (try clear hHeld1); (try clear hHeld2); (try clear kz0 kc0 kf0); (try clear kz1 kc1 kf1); (try clear kz2 kc2 kf2); (try clear kz3 kc3 kf3); (try clear kz4 kc4 kf4); (try clear kz5 kc5 kf5); (try clear kz6 kc6 kf6); (try clear kz7 kc7 kf7)
      refine region_keeps (w0 := w) (L := [(w.heap.size, 0, .int .i64 k), (w.heap.size, 1, v), (w.heap.size, 2, .int .i64 a), (w.heap.size, 3, .int .i64 r), (w.heap.size, 4, .int .i64 n), (w.heap.size, 5, .int .i64 d), (w.heap.size, 6, .slice A9 0 c9), (w.heap.size, 7, .int .i64 e)]) (by kernel_rfl) hK (fun hHeld0 => ?_)
      refine tv 0 36 rfl rfl ?_
      try go_frame
      refine tk 1 37 rfl rfl ?_ ?_ ?_
      rotate_left
      · intro wq hSw; obtain ⟨⟨_,_,_⟩,⟨_,_,_⟩,⟨_,_,_⟩,⟨_,_,_⟩,⟨_,_,_⟩,⟨_,_,_⟩,⟨_,_,_⟩,⟨_,_,_⟩,_⟩ := hSw.2; go_simp; (try with_reducible rfl)
      try go_frame
      refine tv 2 38 rfl rfl ?_
      try go_frame
      refine tv 3 39 rfl rfl ?_
      try go_frame
      refine tv 4 40 rfl rfl ?_
      try go_frame
      refine tv 5 41 rfl rfl ?_
      try go_frame
      refine tk 6 42 rfl rfl ?_ ?_ ?_
      rotate_left
      · intro wq hSw; obtain ⟨⟨_,_,_⟩,⟨_,_,_⟩,⟨_,_,_⟩,⟨_,_,_⟩,⟨_,_,_⟩,⟨_,_,_⟩,⟨_,_,_⟩,⟨_,_,_⟩,_⟩ := hSw.2; go_simp; (try with_reducible rfl)
      try go_frame
      refine ty [7] ?_
      refine AllReadyH.cons rfl (fun K hK => ?_) AllReadyH.nil
      go_simp
      ((with_reducible refine (RL.out _).mono ?_); rintro e w2 ⟨rfl, hb⟩)
      refine hK.out _ _ (hHeld0.next hb) (fun hHeld1 => ?_)
      clear hK K; try clear hb
      try go_frame
      refine tv 8 44 rfl rfl ?_
      try go_frame
      refine tv 9 45 rfl rfl ?_
      try go_frame
      refine tv 10 46 rfl rfl ?_
      try go_frame
      refine tv 11 47 rfl rfl ?_
      try go_frame
      refine tk 12 48 rfl rfl ?_ ?_ ?_
      rotate_left
      · intro wq hSw; obtain ⟨⟨_,_,_⟩,⟨_,_,_⟩,⟨_,_,_⟩,⟨_,_,_⟩,⟨_,_,_⟩,⟨_,_,_⟩,⟨_,_,_⟩,⟨_,_,_⟩,_⟩ := hSw.2; go_simp; (try with_reducible rfl)
      try go_frame
      refine tv 13 49 rfl rfl ?_
      try go_frame
      refine tk 14 50 rfl rfl ?_ ?_ ?_
      rotate_left
      · intro wq hSw; obtain ⟨⟨_,_,_⟩,⟨_,_,_⟩,⟨_,_,_⟩,⟨_,_,_⟩,⟨_,_,_⟩,⟨_,_,_⟩,⟨_,_,_⟩,⟨_,_,_⟩,_⟩ := hSw.2; go_simp; (try with_reducible rfl)
      try go_frame
      refine ty [15] ?_
      refine AllReadyH.cons rfl (fun K hK => ?_) AllReadyH.nil
      go_simp
      ((with_reducible refine (RK.out _).mono ?_); rintro e w3 ⟨rfl, hb⟩)
      refine hK.out _ _ (hHeld1.next hb) (fun hHeld2 => ?_)
      clear hK K; try clear hb
      try go_frame
      refine tv 16 52 rfl rfl ?_
      try go_frame
      refine tv 17 53 rfl rfl ?_
      try go_frame
      refine wpAnyH_done (by kernel_rfl) ?_ _
      have hHeld := hHeld2
      obtain ⟨⟨kz0,kc0,kf0⟩,⟨kz1,kc1,kf1⟩,⟨kz2,kc2,kf2⟩,⟨kz3,kc3,kf3⟩,⟨kz4,kc4,kf4⟩,⟨kz5,kc5,kf5⟩,⟨kz6,kc6,kf6⟩,⟨kz7,kc7,kf7⟩,_⟩ := hHeld.2
      all_goals
        have hH9 := hHeld
        (try clear hHeld0); (try clear hHeld1); (try clear hHeld2); (try clear kz0 kc0 kf0); (try clear kz1 kc1 kf1); (try clear kz2 kc2 kf2); (try clear kz3 kc3 kf3); (try clear kz4 kc4 kf4); (try clear kz5 kc5 kf5); (try clear kz6 kc6 kf6); (try clear kz7 kc7 kf7)
        obtain ⟨⟨kz0,kc0,kf0⟩,⟨kz1,kc1,kf1⟩,⟨kz2,kc2,kf2⟩,⟨kz3,kc3,kf3⟩,⟨kz4,kc4,kf4⟩,⟨kz5,kc5,kf5⟩,⟨kz6,kc6,kf6⟩,⟨kz7,kc7,kf7⟩,_⟩ := hH9.2
        clear hHeld
        go_wp2_with fail
        refine (PA2.out _ hH9.1).mono ?_
        rintro e' w5 ⟨A7, n7, c7, rfl, hb⟩
        have hB7 := under hH9.1 hb
        clear hH9 hb
        (try clear hHeld0); (try clear hHeld1); (try clear hHeld2); (try clear kz0 kc0 kf0); (try clear kz1 kc1 kf1); (try clear kz2 kc2 kf2); (try clear kz3 kc3 kf3); (try clear kz4 kc4 kf4); (try clear kz5 kc5 kf5); (try clear kz6 kc6 kf6); (try clear kz7 kc7 kf7)
        go_wp2_with fail
        go_returns
        exact ⟨rfl, hB7⟩
    · have t7 : (k == kl) = false := by simpa using g7
      have e5 : (decide ((0 : Nat) = 0) && (true && decide (k = kl)) && bk) = false := by simp [g7]
      rw [e5]
      clear e5 g7 PA2
      have hK := new_seg (Below.refl w.heap.size w) 27 k v a r n d (.slice A9 0 c9) e
      go_enter Tryz.func16, Tryz.ntmps16
      go_wp2_with fail
      refine (RR.out _ hK.1).mono ?_
      rintro e' w1 ⟨rfl, hb⟩
      replace hK := hK.next hb
      clear hb RR
      obtain ⟨⟨kz0,kc0,kf0⟩,⟨kz1,kc1,kf1⟩,⟨kz2,kc2,kf2⟩,⟨kz3,kc3,kf3⟩,⟨kz4,kc4,kf4⟩,⟨kz5,kc5,kf5⟩,⟨kz6,kc6,kf6⟩,⟨kz7,kc7,kf7⟩,_⟩ := hK.2
      go_upto_region 6 with (fail)
      (try clear hHeld0); (try clear hHeld1); (try clear hHeld2); (try clear kz0 kc0 kf0); (try clear kz1 kc1 kf1); (try clear kz2 kc2 kf2); (try clear kz3 kc3 kf3); (try clear kz4 kc4 kf4); (try clear kz5 kc5 kf5); (try clear kz6 kc6 kf6); (try clear kz7 kc7 kf7)
      refine region_keeps (w0 := w) (L := [(w.heap.size, 0, .int .i64 k), (w.heap.size, 1, v), (w.heap.size, 2, .int .i64 a), (w.heap.size, 3, .int .i64 r), (w.heap.size, 4, .int .i64 n), (w.heap.size, 5, .int .i64 d), (w.heap.size, 6, .slice A9 0 c9), (w.heap.size, 7, .int .i64 e)]) (by kernel_rfl) hK (fun hHeld0 => ?_)
      refine tv 0 36 rfl rfl ?_
      try go_frame
      refine tk 1 37 rfl rfl ?_ ?_ ?_
      rotate_left
      · intro wq hSw; obtain ⟨⟨_,_,_⟩,⟨_,_,_⟩,⟨_,_,_⟩,⟨_,_,_⟩,⟨_,_,_⟩,⟨_,_,_⟩,⟨_,_,_⟩,⟨_,_,_⟩,_⟩ := hSw.2; go_simp; (try with_reducible rfl)
      try go_frame
      refine tv 2 38 rfl rfl ?_
      try go_frame
      refine tv 3 39 rfl rfl ?_
      try go_frame
      refine tv 4 40 rfl rfl ?_
      try go_frame
      refine tv 5 41 rfl rfl ?_
      try go_frame
      refine tk 6 42 rfl rfl ?_ ?_ ?_
      rotate_left
      · intro wq hSw; obtain ⟨⟨_,_,_⟩,⟨_,_,_⟩,⟨_,_,_⟩,⟨_,_,_⟩,⟨_,_,_⟩,⟨_,_,_⟩,⟨_,_,_⟩,⟨_,_,_⟩,_⟩ := hSw.2; go_simp; (try with_reducible rfl)
      try go_frame
      refine ty [7] ?_
      refine AllReadyH.cons rfl (fun K hK => ?_) AllReadyH.nil
      go_simp
      ((with_reducible refine (RL.out _).mono ?_); rintro e w2 ⟨rfl, hb⟩)
      refine hK.out _ _ (hHeld0.next hb) (fun hHeld1 => ?_)
      clear hK K; try clear hb
      try go_frame
      refine tv 8 44 rfl rfl ?_
      try go_frame
      refine tv 9 45 rfl rfl ?_
      try go_frame
      refine tv 10 46 rfl rfl ?_
      try go_frame
      refine tv 11 47 rfl rfl ?_
      try go_frame
      refine tk 12 48 rfl rfl ?_ ?_ ?_
      rotate_left
      · intro wq hSw; obtain ⟨⟨_,_,_⟩,⟨_,_,_⟩,⟨_,_,_⟩,⟨_,_,_⟩,⟨_,_,_⟩,⟨_,_,_⟩,⟨_,_,_⟩,⟨_,_,_⟩,_⟩ := hSw.2; go_simp; (try with_reducible rfl)
      try go_frame
      refine tv 13 49 rfl rfl ?_
      try go_frame
      refine tk 14 50 rfl rfl ?_ ?_ ?_
      rotate_left
      · intro wq hSw; obtain ⟨⟨_,_,_⟩,⟨_,_,_⟩,⟨_,_,_⟩,⟨_,_,_⟩,⟨_,_,_⟩,⟨_,_,_⟩,⟨_,_,_⟩,⟨_,_,_⟩,_⟩ := hSw.2; go_simp; (try with_reducible rfl)
      try go_frame
      refine ty [15] ?_
      refine AllReadyH.cons rfl (fun K hK => ?_) AllReadyH.nil
      go_simp
      ((with_reducible refine (RK.out _).mono ?_); rintro e w3 ⟨rfl, hb⟩)
      refine hK.out _ _ (hHeld1.next hb) (fun hHeld2 => ?_)
      clear hK K; try clear hb
      try go_frame
      refine tv 16 52 rfl rfl ?_
      try go_frame
      refine tv 17 53 rfl rfl ?_
      try go_frame
      refine wpAnyH_done (by kernel_rfl) ?_ _
      have hHeld := hHeld2
      obtain ⟨⟨kz0,kc0,kf0⟩,⟨kz1,kc1,kf1⟩,⟨kz2,kc2,kf2⟩,⟨kz3,kc3,kf3⟩,⟨kz4,kc4,kf4⟩,⟨kz5,kc5,kf5⟩,⟨kz6,kc6,kf6⟩,⟨kz7,kc7,kf7⟩,_⟩ := hHeld.2
      all_goals
        (try clear hHeld0); (try clear hHeld1); (try clear hHeld2); (try clear kz0 kc0 kf0); (try clear kz1 kc1 kf1); (try clear kz2 kc2 kf2); (try clear kz3 kc3 kf3); (try clear kz4 kc4 kf4); (try clear kz5 kc5 kf5); (try clear kz6 kc6 kf6); (try clear kz7 kc7 kf7)
        go_wp2_with fail
        go_returns
        exact ⟨rfl, hHeld.1⟩
end Go.Proofs.YtcfidimnbamnkaaGreat.P11

/-
  Layer 11: the law SegValues holds of every input. Conditions: those of the law's row.
-/
namespace Go.Proofs.YtcfidimnbamnkaaGreat.P11
open Go.RowKit Go.Shelf Go.Proofs.YtcfidimnbamnkaaGreat.P7

set_option maxRecDepth 100000 in
set_option maxHeartbeats 2000000 in
theorem eqPts_any (l : List (Int × Int)) (hl : l.length ≤ 10000000) (v v2 : Value) (w : World) (h : ReadsP w v l) (h2 : ReadsP w v2 l) : Calls Tryz.prog 30 #[v, v2] w (Ret w (.bool true)) := by
  obtain ⟨A, c, rfl, _, hk⟩ := h
  obtain ⟨A2, c2, rfl, _, hk2⟩ := h2
  have HK := Lib.hid hk
  have HK2 := Lib.hid hk2
  clear hk hk2
  have t' : ((l.length : Int) != (l.length : Int)) = false := by simp
  go_enter Tryz.func30, Tryz.ntmps30
  go_wp2_with fail
  go_loopw [13] (fun i wr => ∃ k : Nat, i = .int .i64 k ∧ k ≤ l.length ∧ Below w.heap.size w wr) (fun i _ => l.length - (intOf i).toNat)
  case atStart => exact ⟨0, rfl, by omega, Below.refl _ _⟩
  case round =>
    obtain ⟨k, rfl, hkl, hB⟩ := hrel
    by_cases gk : k < l.length
    · obtain ⟨⟨x, y⟩, hx⟩ : ∃ s, l[k]? = some s := ⟨_, List.getElem?_eq_getElem gk⟩
      obtain ⟨b, off, rfl, hbw, d1, d2⟩ := HK.out k _ hx
      obtain ⟨b2, off2, rfl, hbw2, d3, d4⟩ := HK2.out k _ hx
      have c1 := (hB.cell (p := ⟨b, off + k * 2, none⟩) hbw).trans d1
      have c2 := (hB.cell (p := ⟨b, off + k * 2 + 1, none⟩) hbw).trans d2
      have c3 := (hB.cell (p := ⟨b2, off2 + k * 2, none⟩) hbw2).trans d3
      have c4 := (hB.cell (p := ⟨b2, off2 + k * 2 + 1, none⟩) hbw2).trans d4
      simp only at c1 c2 c3 c4
      have i1 : (k : Int) < (l.length : Int) := by omega
      have i0 : (0 : Int) ≤ (k : Int) := by omega
      clear d1 d2 d3 d4 hx
      go_wp2_with fail
      go_quiet (fail)
      go_wp2_with fail
      go_roundw
      case rel => exact ⟨k + 1, by simp, by omega, below_drewN hB _⟩
      case measure => simp [intOf]; omega
    · have i1 : ¬ (k : Int) < (l.length : Int) := by omega
      go_wp2_with fail
      go_ret
      exact ⟨rfl, hB⟩
end Go.Proofs.YtcfidimnbamnkaaGreat.P11

namespace Go.Proofs.YtcfidimnbamnkaaGreat.P11
open Go.RowKit Go.Shelf Go.Proofs.YtcfidimnbamnkaaGreat.P7

theorem miss_more {full : List Pn} {j : Nat} {p9 : Pn} {t : Int} (hp : full[j]? = some p9) (hn : p9.t ≠ t) (h : ∀ (q : Nat) (p : Pn), q < j → full[q]? = some p → p.t ≠ t) : ∀ (q : Nat) (p : Pn), q < j + 1 → full[q]? = some p → p.t ≠ t := by
  intro q p hq hp2
  by_cases e : q = j
  · subst e
    rw [hp] at hp2
    cases hp2
    exact hn
  · exact h q p (by omega) hp2
theorem ask_of {s : Sg} (g : segB s = true) : AskOk s := by
  have hok := ((segB_iff s).1 g).1
  have hT := times_ok hok
  have hvl := vals_length g
  by_cases h4 : s.k = 4
  · refine ⟨hok, .inl ⟨h4, ?_⟩⟩
    have : vals s = s.V := by unfold vals; rw [if_pos h4]
    rw [this] at hvl
    have := hT.total
    omega
  · refine ⟨hok, .inr ⟨h4, ?_⟩⟩
    unfold segB at g
    rw [if_neg h4] at g
    simp only [lineOk, Bool.and_eq_true] at g
    exact g.2.2.2.1.2.1
theorem up_same {T : List Int} (h : T.Pairwise (· < ·)) {q q' : Nat} {t : Int} (h1 : T[q]? = some t) (h2 : T[q']? = some t) : q = q' := by
  obtain ⟨a1, e1⟩ := List.getElem?_eq_some_iff.1 h1
  obtain ⟨a2, e2⟩ := List.getElem?_eq_some_iff.1 h2
  have hp := List.pairwise_iff_getElem.1 h
  rcases Nat.lt_trichotomy q q' with h3 | h3 | h3
  · have := hp q q' a1 a2 h3
    omega
  · exact h3
  · have := hp q' q a2 a1 h3
    omega
set_option maxRecDepth 100000 in
set_option maxHeartbeats 4000000 in
theorem values_bad (x : Sg) (v0 u0 : Value) (s : Sg) (i t : Int) (w : World) (WK : Hid (∀ W, Calls Tryz.prog 14 #[] W (Ret W (.bool true)))) (OW : Hid (∀ W, Below w.heap.size w W → Calls Tryz.prog 15 #[sgOf x v0 u0] W (OwnS W s))) (VA : Hid (∀ v u W, ReadsR W v s.R → Reads .i64 W u s.V → Calls Tryz.prog 27 #[sgOf s v u, .int .i64 i] W (Ret W (.tuple #[.int .i64 0, .int .i64 210])))) (AT : Hid (∀ v u W, ReadsR W v s.R → Reads .i64 W u s.V → Calls Tryz.prog 28 #[sgOf s v u, .int .i64 t] W (Ret W (.tuple #[.int .i64 0, .int .i64 210])))) (PTX : Hid (∀ v u W, ReadsR W v s.R → Reads .i64 W u s.V → Calls Tryz.prog 29 #[sgOf s v u] W (Ret W (.tuple #[.slice none 0 0, .int .i64 210])))) (RG : Hid (∀ v u W, ReadsR W v s.R → Reads .i64 W u s.V → Calls Tryz.prog 16 #[sgOf s v u] W (Ret W (.bool false)))) :
    Calls Tryz.prog 5 #[sgOf x v0 u0, .int .i64 i, .int .i64 t] w (Ret w (.bool true)) := by
  go_enter Tryz.func5, Tryz.ntmps5
  go_wp2_with fail
  refine (WK.out _).mono ?_
  rintro e w1 ⟨rfl, hb⟩
  have hK := new_seg (Below.refl w.heap.size w) 27 x.k v0 x.a x.r x.n x.d u0 x.e
  replace hK := hK.next hb
  clear hb
  obtain ⟨⟨kz0,kc0,kf0⟩,⟨kz1,kc1,kf1⟩,⟨kz2,kc2,kf2⟩,⟨kz3,kc3,kf3⟩,⟨kz4,kc4,kf4⟩,⟨kz5,kc5,kf5⟩,⟨kz6,kc6,kf6⟩,⟨kz7,kc7,kf7⟩,_⟩ := hK.2
  go_wp2_with fail
  refine (OW.out _ hK.1).mono ?_
  rintro e w2 hq
  obtain ⟨B1, n1, d1, B2, n2, d2, rfl, hb, ho⟩ := own_got hq
  have hB2 := under hK.1 hb
  clear hb hK hq
  (try clear kz0 kc0 kf0); (try clear kz1 kc1 kf1); (try clear kz2 kc2 kf2); (try clear kz3 kc3 kf3); (try clear kz4 kc4 kf4); (try clear kz5 kc5 kf5); (try clear kz6 kc6 kf6); (try clear kz7 kc7 kf7)
  obtain ⟨k, R, sa, sr, sn, sd, V, se⟩ := s
  simp only [sgOf] at VA AT PTX RG ⊢
  have hN := new_seg hB2 27 k (.slice B1 n1 d1) sa sr sn sd (.slice B2 n2 d2) se
  replace ho := ho.below (below_alloc w2 (sgO 27 k (.slice B1 n1 d1) sa sr sn sd (.slice B2 n2 d2) se))
  clear hB2
  go_upto_region 4 with (fail)
  generalize w2.alloc (sgO 27 k (.slice B1 n1 d1) sa sr sn sd (.slice B2 n2 d2) se) = w2' at *
  generalize w2.heap.size = g at *
  obtain ⟨⟨kz0,kc0,kf0⟩,⟨kz1,kc1,kf1⟩,⟨kz2,kc2,kf2⟩,⟨kz3,kc3,kf3⟩,⟨kz4,kc4,kf4⟩,⟨kz5,kc5,kf5⟩,⟨kz6,kc6,kf6⟩,⟨kz7,kc7,kf7⟩,_⟩ := hN.2
  go_wp2_with fail
  refine (VA.out _ _ _ ho.readsR ho.reads).mono ?_
  rintro e w3 ⟨rfl, hb⟩
  replace hN := hN.next hb
  replace ho := ho.below hb
  clear hb VA
  (try clear kz0 kc0 kf0); (try clear kz1 kc1 kf1); (try clear kz2 kc2 kf2); (try clear kz3 kc3 kf3); (try clear kz4 kc4 kf4); (try clear kz5 kc5 kf5); (try clear kz6 kc6 kf6); (try clear kz7 kc7 kf7)
  obtain ⟨⟨kz0,kc0,kf0⟩,⟨kz1,kc1,kf1⟩,⟨kz2,kc2,kf2⟩,⟨kz3,kc3,kf3⟩,⟨kz4,kc4,kf4⟩,⟨kz5,kc5,kf5⟩,⟨kz6,kc6,kf6⟩,⟨kz7,kc7,kf7⟩,_⟩ := hN.2
  go_wp2_with fail
  refine (AT.out _ _ _ ho.readsR ho.reads).mono ?_
  rintro e w4 ⟨rfl, hb⟩
  replace hN := hN.next hb
  replace ho := ho.below hb
  clear hb AT
  (try clear kz0 kc0 kf0); (try clear kz1 kc1 kf1); (try clear kz2 kc2 kf2); (try clear kz3 kc3 kf3); (try clear kz4 kc4 kf4); (try clear kz5 kc5 kf5); (try clear kz6 kc6 kf6); (try clear kz7 kc7 kf7)
  obtain ⟨⟨kz0,kc0,kf0⟩,⟨kz1,kc1,kf1⟩,⟨kz2,kc2,kf2⟩,⟨kz3,kc3,kf3⟩,⟨kz4,kc4,kf4⟩,⟨kz5,kc5,kf5⟩,⟨kz6,kc6,kf6⟩,⟨kz7,kc7,kf7⟩,_⟩ := hN.2
  go_wp2_with fail
  refine (PTX.out _ _ _ ho.readsR ho.reads).mono ?_
  rintro e w5 ⟨rfl, hb⟩
  replace hN := hN.next hb
  replace ho := ho.below hb
  clear hb PTX
  (try clear kz0 kc0 kf0); (try clear kz1 kc1 kf1); (try clear kz2 kc2 kf2); (try clear kz3 kc3 kf3); (try clear kz4 kc4 kf4); (try clear kz5 kc5 kf5); (try clear kz6 kc6 kf6); (try clear kz7 kc7 kf7)
  obtain ⟨⟨kz0,kc0,kf0⟩,⟨kz1,kc1,kf1⟩,⟨kz2,kc2,kf2⟩,⟨kz3,kc3,kf3⟩,⟨kz4,kc4,kf4⟩,⟨kz5,kc5,kf5⟩,⟨kz6,kc6,kf6⟩,⟨kz7,kc7,kf7⟩,_⟩ := hN.2
  go_wp2_with fail
  refine (RG.out _ _ _ ho.readsR ho.reads).mono ?_
  rintro e w6 ⟨rfl, hb⟩
  have hB := under hN.1 hb
  clear hb hN ho RG
  (try clear kz0 kc0 kf0); (try clear kz1 kc1 kf1); (try clear kz2 kc2 kf2); (try clear kz3 kc3 kf3); (try clear kz4 kc4 kf4); (try clear kz5 kc5 kf5); (try clear kz6 kc6 kf6); (try clear kz7 kc7 kf7)
  go_wp2_with fail
  go_ret
  exact ⟨rfl, hB⟩
set_option maxRecDepth 100000 in
set_option maxHeartbeats 8000000 in
theorem values_good (x : Sg) (v0 u0 : Value) (s : Sg) (i t : Int) (w : World) (WK : Hid (∀ W, Calls Tryz.prog 14 #[] W (Ret W (.bool true)))) (OW : Hid (∀ W, Below w.heap.size w W → Calls Tryz.prog 15 #[sgOf x v0 u0] W (OwnS W s))) (full : List Pn) (N : Nat) (hN256 : N ≤ 256) (HNL : Hid (full.length = N)) (vx vc ax ac : Int) (VA : Hid (∀ v u W, ReadsR W v s.R → Reads .i64 W u s.V → Calls Tryz.prog 27 #[sgOf s v u, .int .i64 i] W (Ret W (.tuple #[.int .i64 vx, .int .i64 vc])))) (AT : Hid (∀ v u W, ReadsR W v s.R → Reads .i64 W u s.V → Calls Tryz.prog 28 #[sgOf s v u, .int .i64 t] W (Ret W (.tuple #[.int .i64 ax, .int .i64 ac])))) (PTX : Hid (∀ v u W, ReadsR W v s.R → Reads .i64 W u s.V → Calls Tryz.prog 29 #[sgOf s v u] W (GotP W full))) (RG : Hid (∀ v u W, ReadsR W v s.R → Reads .i64 W u s.V → Calls Tryz.prog 16 #[sgOf s v u] W (Ret W (.bool true)))) (RP : Hid (∀ v u W, ReadsR W v s.R → Reads .i64 W u s.V → Calls Tryz.prog 21 #[sgOf s v u] W (fun e w' => ∃ A n c, e = .returned (.tuple #[.slice A n c, .bool true]) ∧ Below W.heap.size W w' ∧ RowP w' W.heap.size (.slice A n c) full)))
    (HI : Hid (i < 0 ∧ vx = 0 ∧ vc = 4 ∨ ¬ i < 0 ∧ (N : Int) ≤ i ∧ vx = 0 ∧ vc = 4 ∨ ∃ (q : Nat) (p : Pn), i = q ∧ full[q]? = some p ∧ vx = p.v ∧ vc = 0)) (HA : Hid (∀ p ∈ full, p.t = t → ax = p.v ∧ ac = 0)) (HM : Hid ((∀ p ∈ full, p.t ≠ t) → ax = 0 ∧ ac = 4)) :
    Calls Tryz.prog 5 #[sgOf x v0 u0, .int .i64 i, .int .i64 t] w (Ret w (.bool true)) := by
  have EQP := Lib.hid (fun v u W h1 h2 => eqPts_any (full.map pairP) (by rw [List.length_map, HNL.out]; omega) v u W h1 h2)
  go_enter Tryz.func5, Tryz.ntmps5
  go_wp2_with fail
  refine (WK.out _).mono ?_
  rintro e w1 ⟨rfl, hb⟩
  have hK := new_seg (Below.refl w.heap.size w) 27 x.k v0 x.a x.r x.n x.d u0 x.e
  replace hK := hK.next hb
  clear hb
  obtain ⟨⟨kz0,kc0,kf0⟩,⟨kz1,kc1,kf1⟩,⟨kz2,kc2,kf2⟩,⟨kz3,kc3,kf3⟩,⟨kz4,kc4,kf4⟩,⟨kz5,kc5,kf5⟩,⟨kz6,kc6,kf6⟩,⟨kz7,kc7,kf7⟩,_⟩ := hK.2
  go_wp2_with fail
  refine (OW.out _ hK.1).mono ?_
  rintro e w2 hq
  obtain ⟨B1, n1, d1, B2, n2, d2, rfl, hb, ho⟩ := own_got hq
  have hB2 := under hK.1 hb
  clear hb hK hq
  (try clear kz0 kc0 kf0); (try clear kz1 kc1 kf1); (try clear kz2 kc2 kf2); (try clear kz3 kc3 kf3); (try clear kz4 kc4 kf4); (try clear kz5 kc5 kf5); (try clear kz6 kc6 kf6); (try clear kz7 kc7 kf7)
  obtain ⟨k, R, sa, sr, sn, sd, V, se⟩ := s
  simp only [sgOf] at VA AT PTX RG RP ⊢
  have hN := new_seg hB2 27 k (.slice B1 n1 d1) sa sr sn sd (.slice B2 n2 d2) se
  replace ho := ho.below (below_alloc w2 (sgO 27 k (.slice B1 n1 d1) sa sr sn sd (.slice B2 n2 d2) se))
  clear hB2
  go_upto_region 4 with (fail)
  generalize w2.alloc (sgO 27 k (.slice B1 n1 d1) sa sr sn sd (.slice B2 n2 d2) se) = w2' at *
  generalize w2.heap.size = g at *
  obtain ⟨⟨kz0,kc0,kf0⟩,⟨kz1,kc1,kf1⟩,⟨kz2,kc2,kf2⟩,⟨kz3,kc3,kf3⟩,⟨kz4,kc4,kf4⟩,⟨kz5,kc5,kf5⟩,⟨kz6,kc6,kf6⟩,⟨kz7,kc7,kf7⟩,_⟩ := hN.2
  go_wp2_with fail
  refine (VA.out _ _ _ ho.readsR ho.reads).mono ?_
  rintro e w3 ⟨rfl, hb⟩
  replace hN := hN.next hb
  replace ho := ho.below hb
  clear hb VA
  (try clear kz0 kc0 kf0); (try clear kz1 kc1 kf1); (try clear kz2 kc2 kf2); (try clear kz3 kc3 kf3); (try clear kz4 kc4 kf4); (try clear kz5 kc5 kf5); (try clear kz6 kc6 kf6); (try clear kz7 kc7 kf7)
  obtain ⟨⟨kz0,kc0,kf0⟩,⟨kz1,kc1,kf1⟩,⟨kz2,kc2,kf2⟩,⟨kz3,kc3,kf3⟩,⟨kz4,kc4,kf4⟩,⟨kz5,kc5,kf5⟩,⟨kz6,kc6,kf6⟩,⟨kz7,kc7,kf7⟩,_⟩ := hN.2
  go_wp2_with fail
  refine (AT.out _ _ _ ho.readsR ho.reads).mono ?_
  rintro e w4 ⟨rfl, hb⟩
  replace hN := hN.next hb
  replace ho := ho.below hb
  clear hb AT
  (try clear kz0 kc0 kf0); (try clear kz1 kc1 kf1); (try clear kz2 kc2 kf2); (try clear kz3 kc3 kf3); (try clear kz4 kc4 kf4); (try clear kz5 kc5 kf5); (try clear kz6 kc6 kf6); (try clear kz7 kc7 kf7)
  obtain ⟨⟨kz0,kc0,kf0⟩,⟨kz1,kc1,kf1⟩,⟨kz2,kc2,kf2⟩,⟨kz3,kc3,kf3⟩,⟨kz4,kc4,kf4⟩,⟨kz5,kc5,kf5⟩,⟨kz6,kc6,kf6⟩,⟨kz7,kc7,kf7⟩,_⟩ := hN.2
  go_wp2_with fail
  refine (PTX.out _ _ _ ho.readsR ho.reads).mono ?_
  rintro e w5 ⟨A3, n3, c3, rfl, hb, hpts⟩
  replace hN := hN.next hb
  replace ho := ho.below hb
  have rp := readsP_own hpts
  clear hpts
  obtain ⟨A', c', e', hc3, hk3⟩ := rp
  cases e'
  rw [List.length_map, HNL.out] at hc3 ⊢
  have RP3 : Hid (ReadsP w5 (.slice A3 N c3) (full.map pairP)) := Lib.hid ⟨A3, c3, by rw [List.length_map, HNL.out], by rw [List.length_map, HNL.out]; exact hc3, hk3⟩
  clear hk3 hc3
  clear hb PTX
  (try clear kz0 kc0 kf0); (try clear kz1 kc1 kf1); (try clear kz2 kc2 kf2); (try clear kz3 kc3 kf3); (try clear kz4 kc4 kf4); (try clear kz5 kc5 kf5); (try clear kz6 kc6 kf6); (try clear kz7 kc7 kf7)
  obtain ⟨⟨kz0,kc0,kf0⟩,⟨kz1,kc1,kf1⟩,⟨kz2,kc2,kf2⟩,⟨kz3,kc3,kf3⟩,⟨kz4,kc4,kf4⟩,⟨kz5,kc5,kf5⟩,⟨kz6,kc6,kf6⟩,⟨kz7,kc7,kf7⟩,_⟩ := hN.2
  go_wp2_with fail
  refine (RG.out _ _ _ ho.readsR ho.reads).mono ?_
  rintro e w6 ⟨rfl, hb⟩
  replace hN := hN.next hb
  replace ho := ho.below hb
  replace RP3 := Lib.hid (RP3.out.below hb)
  clear hb RG
  (try clear kz0 kc0 kf0); (try clear kz1 kc1 kf1); (try clear kz2 kc2 kf2); (try clear kz3 kc3 kf3); (try clear kz4 kc4 kf4); (try clear kz5 kc5 kf5); (try clear kz6 kc6 kf6); (try clear kz7 kc7 kf7)
  obtain ⟨⟨kz0,kc0,kf0⟩,⟨kz1,kc1,kf1⟩,⟨kz2,kc2,kf2⟩,⟨kz3,kc3,kf3⟩,⟨kz4,kc4,kf4⟩,⟨kz5,kc5,kf5⟩,⟨kz6,kc6,kf6⟩,⟨kz7,kc7,kf7⟩,_⟩ := hN.2
  go_wp2_with fail
  refine (RP.out _ _ _ ho.readsR ho.reads).mono ?_
  rintro e w7 ⟨A4, n4, c4, rfl, hb, hpts⟩
  have rp := readsP_own (show World.ownsRow _ _ _ _ _ _ _ from hpts)
  replace RP3 := Lib.hid (RP3.out.below hb)
  have hB := under hN.1 hb
  clear hb hN ho RP hpts
  obtain ⟨A', c', e', hc4, hk4⟩ := rp
  cases e'
  rw [List.length_map, HNL.out] at hc4 ⊢
  have RP4 : Hid (ReadsP w7 (.slice A4 N c4) (full.map pairP)) := Lib.hid ⟨A4, c4, by rw [List.length_map, HNL.out], by rw [List.length_map, HNL.out]; exact hc4, hk4⟩
  clear hk4 hc4
  (try clear kz0 kc0 kf0); (try clear kz1 kc1 kf1); (try clear kz2 kc2 kf2); (try clear kz3 kc3 kf3); (try clear kz4 kc4 kf4); (try clear kz5 kc5 kf5); (try clear kz6 kc6 kf6); (try clear kz7 kc7 kf7)
  go_wp2_with fail
  refine (EQP.out _ _ _ RP3.out RP4.out).mono ?_
  rintro e w8 ⟨rfl, hb⟩
  have HB : Hid (Below w.heap.size w w8) := Lib.hid (under hB hb)
  replace RP4 := Lib.hid (RP4.out.below hb)
  clear hB hb RP3 EQP
  have HK4 : Hid (∀ k p, full[k]? = some p → ∃ bb off, A4 = some ⟨bb, off, none⟩ ∧ bb < w8.heap.size ∧ w8.cell? ⟨bb, off + k * 2, none⟩ = some (.int .i64 p.t) ∧ w8.cell? ⟨bb, off + k * 2 + 1, none⟩ = some (.int .i64 p.v)) := Lib.hid (fun k p hp => by
    obtain ⟨A', c', e', hc, hk⟩ := RP4.out
    cases e'
    exact hk k (p.t, p.v) (by rw [List.getElem?_map, hp]; rfl))
  clear RP4
  rcases HI.out with ⟨i1, rfl, rfl⟩ | ⟨i1, i2, rfl, rfl⟩ | ⟨q, p, rfl, hp, rfl, rfl⟩
  rotate_left
  rotate_left
  · have hq : q < N := by rw [← HNL.out]; exact (List.getElem?_eq_some_iff.1 hp).1
    obtain ⟨bb, off, rfl, hbw, hc1, hc2⟩ := HK4.out q _ hp
    have d1 : decide ((q : Int) < 0) = false := by simp
    have d2 : decide ((N : Int) ≤ (q : Int)) = false := by simp; omega
    have j1 : (q : Int) < (N : Int) := by omega
    have j0 : (0 : Int) ≤ (q : Int) := by omega
    have d3 : ¬ (q : Int) < 0 := by omega
    have d4 : ¬ (N : Int) ≤ (q : Int) := by omega
    clear hp HI
    go_wp2_with fail
    go_loopw [105] (fun i wr => ∃ j : Nat, i = .int .i64 j ∧ j ≤ N ∧ Hid (∀ q p, q < j → full[q]? = some p → p.t ≠ t) ∧ Below w8.heap.size w8 wr) (fun i => fun _ => N - (intOf i).toNat)
    case atStart => exact ⟨0, rfl, Nat.zero_le _, Lib.hid (fun q p h => by omega), Below.refl _ _⟩
    case round =>
      obtain ⟨j, rfl, hjl, HT, hBw⟩ := hrel
      have HB2 := Lib.hid (under HB.out hBw)
      by_cases hlt : j < N
      · obtain ⟨p9, hp9⟩ : ∃ p, full[j]? = some p := ⟨_, List.getElem?_eq_getElem (by rw [HNL.out]; exact hlt)⟩
        obtain ⟨b9, o9, e9, hbw9, hc5, hc6⟩ := HK4.out j _ hp9
        cases e9
        have f1 := (hBw.cell (p := ⟨bb, off + j * 2, none⟩) hbw9).trans hc5
        have f2 := (hBw.cell (p := ⟨bb, off + j * 2 + 1, none⟩) hbw9).trans hc6
        have k1 : (j : Int) < (N : Int) := by omega
        have k0 : (0 : Int) ≤ (j : Int) := by omega
        have wk := one_moreV hlt (by omega)
        have tl := Lib.hid (turn_lessV hlt)
        have HP9 := Lib.hid hp9
        have hP := hBw.alloc (Nat.le_trans hBw.size (Nat.le_refl _)) (.cells #[.int .i64 p9.t, .int .i64 p9.v] 53)
        have hP2 := HB2.out.alloc HB2.out.size (.cells #[.int .i64 p9.t, .int .i64 p9.v] 53)
        clear hc5 hc6 hp9
        obtain ⟨pi, pt, pv⟩ := p9
        simp only at f1 f2 hP hP2
        by_cases ge : pt = t
        · have hr := HA.out _ (List.mem_of_getElem? HP9.out) ge
          obtain ⟨rfl, rfl⟩ := hr
          subst ge
          clear HT HM HA
          go_wp2_with fail
          go_ret
          exact ⟨rfl, hP2⟩
        · have t5 : (pt == t) = false := by simpa using ge
          have HT2 : Hid (∀ q p, q < j + 1 → full[q]? = some p → p.t ≠ t) := Lib.hid (miss_more HP9.out ge HT.out)
          clear HT ge
          go_wp2_with fail
          go_roundw
          case rel => exact ⟨j + 1, by first | (simp; done) | (rw [wk]; simp; done), hlt, HT2, hP⟩
          case measure => first | exact tl.out | (rw [wk]; exact tl.out)
      · have k1 : ¬ (j : Int) < (N : Int) := by omega
        have hr := HM.out (fun p hp => by
          obtain ⟨q, hq⟩ := List.getElem?_of_mem hp
          exact HT.out q p (by have := (List.getElem?_eq_some_iff.1 hq).1; rw [HNL.out] at this; omega) hq)
        obtain ⟨rfl, rfl⟩ := hr
        clear HT HM HA
        go_wp2_with fail
        go_ret
        exact ⟨rfl, HB2.out⟩
  · have d1 : decide (i < 0) = true := by simpa using i1
    clear HI
    go_wp2_with fail
    go_loopw [105] (fun i wr => ∃ j : Nat, i = .int .i64 j ∧ j ≤ N ∧ Hid (∀ q p, q < j → full[q]? = some p → p.t ≠ t) ∧ Below w8.heap.size w8 wr) (fun i => fun _ => N - (intOf i).toNat)
    case atStart => exact ⟨0, rfl, Nat.zero_le _, Lib.hid (fun q p h => by omega), Below.refl _ _⟩
    case round =>
      obtain ⟨j, rfl, hjl, HT, hBw⟩ := hrel
      have HB2 := Lib.hid (under HB.out hBw)
      by_cases hlt : j < N
      · obtain ⟨p9, hp9⟩ : ∃ p, full[j]? = some p := ⟨_, List.getElem?_eq_getElem (by rw [HNL.out]; exact hlt)⟩
        obtain ⟨b9, o9, e9, hbw9, hc5, hc6⟩ := HK4.out j _ hp9
        subst e9
        have f1 := (hBw.cell (p := ⟨b9, o9 + j * 2, none⟩) hbw9).trans hc5
        have f2 := (hBw.cell (p := ⟨b9, o9 + j * 2 + 1, none⟩) hbw9).trans hc6
        have k1 : (j : Int) < (N : Int) := by omega
        have k0 : (0 : Int) ≤ (j : Int) := by omega
        have wk := one_moreV hlt (by omega)
        have tl := Lib.hid (turn_lessV hlt)
        have HP9 := Lib.hid hp9
        have hP := hBw.alloc (Nat.le_trans hBw.size (Nat.le_refl _)) (.cells #[.int .i64 p9.t, .int .i64 p9.v] 53)
        have hP2 := HB2.out.alloc HB2.out.size (.cells #[.int .i64 p9.t, .int .i64 p9.v] 53)
        clear hc5 hc6 hp9
        obtain ⟨pi, pt, pv⟩ := p9
        simp only at f1 f2 hP hP2
        by_cases ge : pt = t
        · have hr := HA.out _ (List.mem_of_getElem? HP9.out) ge
          obtain ⟨rfl, rfl⟩ := hr
          subst ge
          clear HT HM HA
          go_wp2_with fail
          go_ret
          exact ⟨rfl, hP2⟩
        · have t5 : (pt == t) = false := by simpa using ge
          have HT2 : Hid (∀ q p, q < j + 1 → full[q]? = some p → p.t ≠ t) := Lib.hid (miss_more HP9.out ge HT.out)
          clear HT ge
          go_wp2_with fail
          go_roundw
          case rel => exact ⟨j + 1, by first | (simp; done) | (rw [wk]; simp; done), hlt, HT2, hP⟩
          case measure => first | exact tl.out | (rw [wk]; exact tl.out)
      · have k1 : ¬ (j : Int) < (N : Int) := by omega
        have hr := HM.out (fun p hp => by
          obtain ⟨q, hq⟩ := List.getElem?_of_mem hp
          exact HT.out q p (by have := (List.getElem?_eq_some_iff.1 hq).1; rw [HNL.out] at this; omega) hq)
        obtain ⟨rfl, rfl⟩ := hr
        clear HT HM HA
        go_wp2_with fail
        go_ret
        exact ⟨rfl, HB2.out⟩
  · have d1 : decide (i < 0) = false := by simpa using i1
    have d2 : decide ((N : Int) ≤ i) = true := by simpa using i2
    clear HI
    go_wp2_with fail
    go_loopw [105] (fun i wr => ∃ j : Nat, i = .int .i64 j ∧ j ≤ N ∧ Hid (∀ q p, q < j → full[q]? = some p → p.t ≠ t) ∧ Below w8.heap.size w8 wr) (fun i => fun _ => N - (intOf i).toNat)
    case atStart => exact ⟨0, rfl, Nat.zero_le _, Lib.hid (fun q p h => by omega), Below.refl _ _⟩
    case round =>
      obtain ⟨j, rfl, hjl, HT, hBw⟩ := hrel
      have HB2 := Lib.hid (under HB.out hBw)
      by_cases hlt : j < N
      · obtain ⟨p9, hp9⟩ : ∃ p, full[j]? = some p := ⟨_, List.getElem?_eq_getElem (by rw [HNL.out]; exact hlt)⟩
        obtain ⟨b9, o9, e9, hbw9, hc5, hc6⟩ := HK4.out j _ hp9
        subst e9
        have f1 := (hBw.cell (p := ⟨b9, o9 + j * 2, none⟩) hbw9).trans hc5
        have f2 := (hBw.cell (p := ⟨b9, o9 + j * 2 + 1, none⟩) hbw9).trans hc6
        have k1 : (j : Int) < (N : Int) := by omega
        have k0 : (0 : Int) ≤ (j : Int) := by omega
        have wk := one_moreV hlt (by omega)
        have tl := Lib.hid (turn_lessV hlt)
        have HP9 := Lib.hid hp9
        have hP := hBw.alloc (Nat.le_trans hBw.size (Nat.le_refl _)) (.cells #[.int .i64 p9.t, .int .i64 p9.v] 53)
        have hP2 := HB2.out.alloc HB2.out.size (.cells #[.int .i64 p9.t, .int .i64 p9.v] 53)
        clear hc5 hc6 hp9
        obtain ⟨pi, pt, pv⟩ := p9
        simp only at f1 f2 hP hP2
        by_cases ge : pt = t
        · have hr := HA.out _ (List.mem_of_getElem? HP9.out) ge
          obtain ⟨rfl, rfl⟩ := hr
          subst ge
          clear HT HM HA
          go_wp2_with fail
          go_ret
          exact ⟨rfl, hP2⟩
        · have t5 : (pt == t) = false := by simpa using ge
          have HT2 : Hid (∀ q p, q < j + 1 → full[q]? = some p → p.t ≠ t) := Lib.hid (miss_more HP9.out ge HT.out)
          clear HT ge
          go_wp2_with fail
          go_roundw
          case rel => exact ⟨j + 1, by first | (simp; done) | (rw [wk]; simp; done), hlt, HT2, hP⟩
          case measure => first | exact tl.out | (rw [wk]; exact tl.out)
      · have k1 : ¬ (j : Int) < (N : Int) := by omega
        have hr := HM.out (fun p hp => by
          obtain ⟨q, hq⟩ := List.getElem?_of_mem hp
          exact HT.out q p (by have := (List.getElem?_eq_some_iff.1 hq).1; rw [HNL.out] at this; omega) hq)
        obtain ⟨rfl, rfl⟩ := hr
        clear HT HM HA
        go_wp2_with fail
        go_ret
        exact ⟨rfl, HB2.out⟩
theorem rightS_got (s : Sg) (h1 : s.R.length ≤ 1000000) (h2 : s.V.length ≤ 1000000) : ∀ v u W, ReadsR W v s.R → Reads .i64 W u s.V → Calls Tryz.prog 16 #[sgOf s v u] W (Ret W (.bool (segB s))) := fun v u W hr hu => refRightS_any s h1 h2 v u W hr hu
theorem pointsR_got (s : Sg) (g : segB s = true) : ∀ v u W, ReadsR W v s.R → Reads .i64 W u s.V → Calls Tryz.prog 21 #[sgOf s v u] W (fun e w' => ∃ A n c, e = .returned (.tuple #[.slice A n c, .bool true]) ∧ Below W.heap.size W w' ∧ RowP w' W.heap.size (.slice A n c) (ptsS s)) := by
  intro v u W hr hu
  obtain ⟨hok, _, _, hk, hb⟩ := (segB_iff s).1 g
  have hbk : backs (vals s) = true := (backs_iff _).2 hb
  have key : ∀ e w', PointsD W s e w' → ∃ A n c, e = .returned (.tuple #[.slice A n c, .bool true]) ∧ Below W.heap.size W w' ∧ RowP w' W.heap.size (.slice A n c) (ptsS s) := by
    intro e w' h
    unfold PointsD at h
    rw [hbk] at h
    simpa using h
  have hA : AskOk s := ask_of g
  by_cases h4 : s.k = 4
  · exact (refPoints_raw s hA h4 v u W hr hu).mono key
  · exact (refPoints_line s hA h4 v u W hr hu).mono key
theorem values_any (x : Sg) (hR : x.R.length ≤ 9223372036854775807) (hV : x.V.length ≤ 9223372036854775807) (i t : Int) (v0 u0 : Value) (w : World) (h : ReadsR w v0 x.R) (hu : Reads .i64 w u0 x.V) :
    Calls Tryz.prog 5 #[sgOf x v0 u0, .int .i64 i, .int .i64 t] w (Ret w (.bool true)) := by
  have WK := Lib.hid (fun W => wakes_any W)
  have OW := Lib.hid (fun W (hb : Below w.heap.size w W) => own_any x hR hV v0 u0 W (h.below hb) (hu.below hb))
  have h1 : (takeS x).R.length ≤ 1000000 := by unfold takeS; simp only; rw [List.length_take]; omega
  have h2 : (takeS x).V.length ≤ 1000000 := by unfold takeS; simp only; rw [List.length_take]; omega
  generalize takeS x = s at *
  have VA := fun v u W (hr : ReadsR W v s.R) (hu : Reads .i64 W u s.V) => value_seg s h1 h2 i v u W hr hu
  have AT := fun v u W (hr : ReadsR W v s.R) (hu : Reads .i64 W u s.V) => at_seg s h1 h2 t v u W hr hu
  have PX := fun v u W (hr : ReadsR W v s.R) (hu : Reads .i64 W u s.V) => points_any s h1 h2 v u W hr hu
  have RG := rightS_got s h1 h2
  unfold PtsEnd at PX
  cases g : segB s
  · rw [g] at PX RG
    have e1 : valN s i = 0 := by unfold valN; rw [g]; simp
    have e2 : valC s i = 210 := by unfold valC; rw [g]; rfl
    have e3 : atN s t = 0 := by unfold atN; rw [g]; simp
    have e4 : atC s t = 210 := by unfold atC; rw [g]; rfl
    rw [e1, e2] at VA
    rw [e3, e4] at AT
    exact values_bad x v0 u0 s i t w WK OW (Lib.hid VA) (Lib.hid AT) (Lib.hid (fun v u W hr hu => (PX v u W hr hu).mono (fun e w' h => by simpa [Ret] using h))) (Lib.hid RG)
  · rw [g] at PX RG
    have hok := ((segB_iff s).1 g).1
    have hT := times_ok hok
    have hvl := vals_length g
    have hpl : (ptsS s).length = (timesR s.R).length := ptsF_length 0 _ _ hvl
    have hget : ∀ (q : Nat) (p : Pn), (ptsS s)[q]? = some p → (timesR s.R)[q]? = some p.t ∧ (vals s)[q]? = some p.v := by
      intro q p hp
      have hq : q < (timesR s.R).length := by rw [← hpl]; exact (List.getElem?_eq_some_iff.1 hp).1
      obtain ⟨t', ht⟩ : ∃ t', (timesR s.R)[q]? = some t' := ⟨_, List.getElem?_eq_getElem hq⟩
      obtain ⟨v', hv⟩ : ∃ v', (vals s)[q]? = some v' := ⟨_, List.getElem?_eq_getElem (by rw [hvl]; exact hq)⟩
      have := ptsF_get 0 _ _ q t' v' ht hv
      rw [show ptsF 0 (timesR s.R) (vals s) = ptsS s from rfl, hp] at this
      cases this
      exact ⟨ht, hv⟩
    have htot := hT.total
    have hup := hT.up
    refine values_good x v0 u0 s i t w WK OW (ptsS s) (ptsS s).length (by have := hT.few; omega) (Lib.hid rfl) _ _ _ _ (Lib.hid VA) (Lib.hid AT) (Lib.hid (fun v u W hr hu => by simpa using PX v u W hr hu)) (Lib.hid RG) (Lib.hid (pointsR_got s g)) (Lib.hid ?_) (Lib.hid ?_) (Lib.hid ?_)
    · by_cases c1 : i < 0
      · exact .inl ⟨c1, by unfold valN; rw [if_neg (by omega)], by unfold valC; rw [g, if_pos rfl, if_neg (by omega)]⟩
      · by_cases c2 : ((ptsS s).length : Int) ≤ i
        · exact .inr (.inl ⟨c1, c2, by unfold valN; rw [if_neg (by omega)], by unfold valC; rw [g, if_pos rfl, if_neg (by omega)]⟩)
        · obtain ⟨q, rfl⟩ : ∃ q : Nat, i = q := ⟨i.toNat, by omega⟩
          obtain ⟨p, hp⟩ : ∃ p, (ptsS s)[q]? = some p := ⟨_, List.getElem?_eq_getElem (by omega)⟩
          exact .inr (.inr ⟨q, p, rfl, hp, by unfold valN; rw [if_pos ⟨g, by omega, by omega⟩, Int.toNat_natCast, (hget q p hp).2]; rfl, by unfold valC; rw [g, if_pos rfl, if_pos (by omega)]⟩)
    · intro p hp ht
      obtain ⟨q, hq⟩ := List.getElem?_of_mem hp
      obtain ⟨e1, e2⟩ := hget q p hq
      rw [ht] at e1
      cases hf : foundB s.R t
      · exact absurd rfl (found_no hT hok hf t (List.mem_of_getElem? e1))
      · obtain ⟨q', e3, e4⟩ := found_at hok hf
        have e5 : q' = q := up_same hup e4 e1
        subst e5
        exact ⟨by unfold atN; rw [if_pos ⟨g, hf⟩, e3, Int.toNat_natCast, e2]; rfl, by unfold atC; rw [g, hf]; rfl⟩
    · intro hn
      cases hf : foundB s.R t
      · exact ⟨by unfold atN; rw [hf]; simp, by unfold atC; rw [g, hf]; rfl⟩
      · obtain ⟨q', e3, e4⟩ := found_at hok hf
        obtain ⟨v', hv⟩ : ∃ v', (vals s)[q']? = some v' := ⟨_, List.getElem?_eq_getElem (by rw [hvl]; exact (List.getElem?_eq_some_iff.1 e4).1)⟩
        have := ptsF_get 0 _ _ q' t v' e4 hv
        exact absurd rfl (hn _ (List.mem_of_getElem? this))
end Go.Proofs.YtcfidimnbamnkaaGreat.P11
