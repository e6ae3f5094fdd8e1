/-
  Layer 4: what the calls of package span that take no rows answer: Check, Point, Has, and the ends' own. Conditions: those written at each fact.
-/
import Derived.Maps.RangeWalk
import Derived.Test.YtoephkglpbophaaGreatChecked
import Derived.Test.YtoephkglpbophaaGreatKitX
import Derived.StillTactics
import Derived.Test.YtoephkglpbophaaGreatStruct
import Derived.Deep.QuietTactic
import Derived.BigQuiet
import Derived.WalkSmall
namespace Go.Proofs.YtoephkglpbophaaGreat
open Go.RowKit

/-- A span, or a pair of ends. -/
abbrev spV (lo hi : Int) : Value := .agg #[.int .i64 lo, .int .i64 hi]
theorem check_any (lo hi : Int) (w : World) : Calls Tryz.prog 88 #[spV lo hi] w (Ret w (.int .i64 (if hi < lo then 140 else 0))) := by
  by_cases g : hi < lo
  · rw [if_pos g]
    go_enter Tryz.func88, Tryz.ntmps88
    go_wp2
    go_ret
    exact ⟨rfl, by go_grown⟩
  · rw [if_neg g]
    go_enter Tryz.func88, Tryz.ntmps88
    go_wp2
    go_ret
    exact ⟨rfl, by go_grown⟩
theorem endsOf_any (lo hi : Int) (w : World) : Calls Tryz.prog 106 #[spV lo hi] w (Ret w (spV lo hi)) := by
  go_enter Tryz.func106, Tryz.ntmps106
  go_wp2
  go_returns
  exact ⟨rfl, by go_grown⟩
theorem espan_any (lo hi : Int) (w : World) : Calls Tryz.prog 107 #[spV lo hi] w (Ret w (spV lo hi)) := by
  go_enter Tryz.func107, Tryz.ntmps107
  go_wp2
  go_returns
  exact ⟨rfl, by go_grown⟩
theorem emeet_any (a b c d : Int) (w : World) : Calls Tryz.prog 87 #[spV a b, spV c d] w (Ret w (spV (max a c) (min b d))) := by
  go_enter Tryz.func87, Tryz.ntmps87
  go_wp2
  all_goals
    go_returns
    refine ⟨?_, by go_grown⟩
    first | (simp; done) | (simp; omega)
end Go.Proofs.YtoephkglpbophaaGreat

/-
  Layer 4: rows of spans, gone through. Conditions: those written at each fact.
-/
namespace Go.Proofs.YtoephkglpbophaaGreat
open Go.RowKit

/-- The slice v reads as these spans. -/
def ReadsS (w : World) (v : Value) (l : List (Int × Int)) : Prop :=
  ∃ A c, v = .slice A l.length c ∧ ∀ i s, l[i]? = some s → ∃ b off, A = some ⟨b, off, none⟩ ∧ b < w.heap.size ∧ w.cell? ⟨b, off + i * 2, none⟩ = some (.int .i64 s.1) ∧ w.cell? ⟨b, off + i * 2 + 1, none⟩ = some (.int .i64 s.2)
theorem ReadsS.below {w w' : World} {v : Value} {l : List (Int × Int)} (h : ReadsS w v l) (hb : Below w.heap.size w w') : ReadsS w' v l := by
  obtain ⟨A, c, e, hk⟩ := h
  refine ⟨A, c, e, fun i s hi => ?_⟩
  obtain ⟨b, off, e1, e2, e3, e4⟩ := hk i s hi
  exact ⟨b, off, e1, Nat.lt_of_lt_of_le e2 hb.size, (hb.cell (by exact e2)).trans e3, (hb.cell (by exact e2)).trans e4⟩
/-- May one of them not be? -/
def badS (l : List (Int × Int)) : Bool := l.any fun s => decide (s.2 < s.1)
/-- What a row of ends comes to. -/
def foldS (f : Int → Int → Int) (g : Int → Int → Int) (a : Int × Int) (l : List (Int × Int)) : Int × Int := l.foldl (fun m s => (f m.1 s.1, g m.2 s.2)) a
theorem foldS_next {f g : Int → Int → Int} {a s : Int × Int} {l : List (Int × Int)} {k : Nat} (h : l[k]? = some s) : foldS f g a (l.take (k + 1)) = (f (foldS f g a (l.take k)).1 s.1, g (foldS f g a (l.take k)).2 s.2) := by
  obtain ⟨a1, e1⟩ := List.getElem?_eq_some_iff.1 h
  rw [List.take_succ_eq_append_getElem a1, e1, foldS, foldS, List.foldl_append]
  rfl
theorem badS_next {s : Int × Int} {l : List (Int × Int)} {k : Nat} (h : l[k]? = some s) (h1 : badS (l.take k) = false) (h2 : ¬ s.2 < s.1) : badS (l.take (k + 1)) = false := by
  obtain ⟨a1, e1⟩ := List.getElem?_eq_some_iff.1 h
  unfold badS at *
  rw [List.take_succ_eq_append_getElem a1, e1, List.any_append, h1]
  simpa using h2
theorem badS_here {s : Int × Int} {l : List (Int × Int)} {k : Nat} (h : l[k]? = some s) (h2 : s.2 < s.1) : badS l = true := by
  obtain ⟨a1, e1⟩ := List.getElem?_eq_some_iff.1 h
  unfold badS
  rw [List.any_eq_true]
  exact ⟨s, e1 ▸ List.getElem_mem a1, by simpa using h2⟩

set_option maxRecDepth 100000 in
set_option maxHeartbeats 2000000 in
theorem through_meet (f g : Int → Int → Int) (hF : ∀ a b c d W, Calls Tryz.prog 87 #[spV a b, spV c d] W (Ret W (spV (f a c) (g b d)))) (l : List (Int × Int)) (hl : l.length ≤ 10000000) (a b : Int) (v : Value) (w : World) (h : ReadsS w v l)
    (R : Value) (hR : R = if badS l then .tuple #[spV 0 0, .int .i64 140] else .tuple #[spV (foldS f g (a, b) l).1 (foldS f g (a, b) l).2, .int .i64 0]) :
    Calls Tryz.prog 105 #[v, spV a b, .func (.func 87) #[] #[]] w (Ret w R) := by
  obtain ⟨A, c, rfl, hk⟩ := h
  have HK := Lib.hid hk
  have HF := Lib.hid hF
  replace hR := Lib.hid hR
  clear hk hF
  go_enter Tryz.func105, Tryz.ntmps105
  go_wp2_with fail
  go_loopw [14] (fun i wr => ∃ k : Nat, i = .int .i64 k ∧ k ≤ l.length ∧ Hid (badS (l.take k) = false) ∧ Keeps w [(w.heap.size, 0, .int .i64 (foldS f g (a, b) (l.take k)).1), (w.heap.size, 1, .int .i64 (foldS f g (a, b) (l.take k)).2), (w.heap.size + 1, 0, .int .i64 0), (w.heap.size + 1, 1, .int .i64 0)] wr) (fun i _ => l.length - (intOf i).toNat)
  case atStart => exact ⟨0, rfl, by omega, Lib.hid (by simp [badS]), ⟨by go_grown, by simp [Cells, go_sem, foldS]⟩⟩
  case round =>
    obtain ⟨k, rfl, hkl, hT, hHeld⟩ := hrel
    obtain ⟨⟨kz0, kc0, kf0⟩, ⟨kz1, kc1, kf1⟩, ⟨kz2, kc2, kf2⟩, ⟨kz3, kc3, kf3⟩, _⟩ := hHeld.2
    by_cases gk : k < l.length
    · obtain ⟨⟨x, y⟩, hx⟩ : ∃ s, l[k]? = some s := ⟨_, List.getElem?_eq_getElem gk⟩
      obtain ⟨bb, off, rfl, hbw, hc1, hc2⟩ := HK.out k _ hx
      have c1 := (hHeld.1.cell (p := ⟨bb, off + k * 2, none⟩) hbw).trans hc1
      have c2 := (hHeld.1.cell (p := ⟨bb, off + k * 2 + 1, none⟩) hbw).trans hc2
      have i1 : (k : Int) < (l.length : Int) := by omega
      have i0 : (0 : Int) ≤ (k : Int) := by omega
      have HX := Lib.hid hx
      have FN := Lib.hid (foldS_next (f := f) (g := g) (a := (a, b)) hx)
      clear hc1 hc2 hx
      generalize foldS f g (a, b) (l.take k) = p at *
      obtain ⟨p0, p1⟩ := p
      simp only at c1 c2 kc0 kc1 FN
      have CK := Lib.hid (fun W => check_any x y W)
      by_cases gx : y < x
      · rw [if_pos gx] at CK
        have BH := Lib.hid (badS_here HX.out gx)
        go_wp2_with fail
        refine (CK.out _).mono ?_
        rintro en w1 ⟨rfl, hb1⟩
        replace hHeld := Keeps.next ((hHeld.alloc (.cells #[.int .i64 x, .int .i64 y] 81)).app (newK2 (hHeld.alloc (.cells #[.int .i64 x, .int .i64 y] 81)))) hb1
        clear hb1 kz0 kc0 kf0 kz1 kc1 kf1 kz2 kc2 kf2 kz3 kc3 kf3
        obtain ⟨⟨kz0, kc0, kf0⟩, ⟨kz1, kc1, kf1⟩, ⟨kz2, kc2, kf2⟩, ⟨kz3, kc3, kf3⟩, _⟩ := hHeld.2
        go_wp2_with fail
        obtain ⟨d0, d1⟩ := set2 (W := w1) (B := w.heap.size + 1) (u0 := .int .i64 0) (u1 := .int .i64 0) kc2 kc3
        have e0 := ((below_alloc ((w1.setCell ⟨w.heap.size + 1, 0, none⟩ (.int .i64 0)).setCell ⟨w.heap.size + 1, 1, none⟩ (.int .i64 0)) (.cells #[.int .i64 0, .int .i64 0] 143)).cell (p := ⟨w.heap.size + 1, 0, none⟩) (by simpa using kz2)).trans d0
        have e1 := ((below_alloc ((w1.setCell ⟨w.heap.size + 1, 0, none⟩ (.int .i64 0)).setCell ⟨w.heap.size + 1, 1, none⟩ (.int .i64 0)) (.cells #[.int .i64 0, .int .i64 0] 143)).cell (p := ⟨w.heap.size + 1, 1, none⟩) (by simpa using kz2)).trans d1
        refine bodyPost_ret (v := .tuple #[spV 0 0, .int .i64 140]) (by simp [results, Tryz.results105, go_sem, e0, e1]) rfl ?_
        exact ⟨by rw [hR.out, BH.out]; rfl, by first | (with_reducible exact hHeld.1) | (have hB := hHeld.1; have hz := hB.size; go_grown)⟩
      · rw [if_neg gx] at CK
        have BN := Lib.hid (badS_next HX.out hT.out gx)
        have EO := Lib.hid (fun W => endsOf_any x y W)
        have FF := Lib.hid (fun W => HF.out p0 p1 x y W)
        clear hT gx HK HF HX
        have hzw := kz2
        go_wp2_with fail
        refine (CK.out _).mono ?_
        rintro en w1 ⟨rfl, hb1⟩
        replace hHeld := Keeps.next ((hHeld.alloc (.cells #[.int .i64 x, .int .i64 y] 81)).app (newK2 (hHeld.alloc (.cells #[.int .i64 x, .int .i64 y] 81)))) hb1
        clear hb1 kz0 kc0 kf0 kz1 kc1 kf1 kz2 kc2 kf2 kz3 kc3 kf3
        obtain ⟨⟨kz0, kc0, kf0⟩, ⟨kz1, kc1, kf1⟩, ⟨kz2, kc2, kf2⟩, ⟨kz3, kc3, kf3⟩, ⟨kz4, kc4, kf4⟩, ⟨kz5, kc5, kf5⟩, _⟩ := hHeld.2
        go_wp2_with fail
        refine region_keepsB (w0 := w) (L := [(w.heap.size + 1, 0, .int .i64 0), (w.heap.size + 1, 1, .int .i64 0), (wr.heap.size, 0, .int .i64 x), (wr.heap.size, 1, .int .i64 y)]) (M := [(w.heap.size, 0, .int .i64 p0), (w.heap.size, 1, .int .i64 p1)]) (by kernel_rfl) ⟨hHeld.1, ⟨kz2, kc2, kf2⟩, ⟨kz3, kc3, kf3⟩, ⟨kz4, kc4, kf4⟩, ⟨kz5, kc5, kf5⟩, trivial⟩ ⟨hHeld.1, ⟨kz0, kc0, kf0⟩, ⟨kz1, kc1, kf1⟩, trivial⟩ (fun hHeld0 hT0 => ?_)
        refine wpAnyH_take (i := 0) (oi := ⟨some 24, _, _, _, _, _⟩) (v := ?_) rfl (by kernel_rfl) (by kernel_rfl) (by kernel_rfl) (fun _ _ _ h => h) (Or.inl ⟨by rfl, ?_⟩) (by assumption) ?_
        rotate_left
        · intro wq hSw; go_simp; (try with_reducible rfl)
        try go_frame
        refine wpAnyH_take (i := 2) (oi := ⟨some 26, _, _, _, _, _⟩) (v := ?_) rfl (by kernel_rfl) (by kernel_rfl) (by kernel_rfl) (fun _ _ _ h => h) (Or.inl ⟨by rfl, ?_⟩) (by assumption) ?_
        rotate_left
        · intro wq hSw; obtain ⟨⟨qz0, qc0, qf0⟩, ⟨qz1, qc1, qf1⟩, ⟨qz2, qc2, qf2⟩, ⟨qz3, qc3, qf3⟩, _⟩ := hSw.2; go_simp; (try with_reducible rfl)
        try go_frame
        refine wpAnyH_ready (rs := [1, 3]) (by kernel_rfl) (by simp) ?_
        refine AllReadyH.cons (o := ⟨some 25, _, _, _, _, _⟩) rfl (fun K hK => ?_) ?_
        obtain ⟨⟨kz0, kc0, kf0⟩, ⟨kz1, kc1, kf1⟩, ⟨kz2, kc2, kf2⟩, ⟨kz3, kc3, kf3⟩, _⟩ := hHeld0.2
        obtain ⟨⟨t0z0, t0c0, t0f0⟩, ⟨t0z1, t0c1, t0f1⟩, _⟩ := hT0.2
        go_simp
        refine hK.out _ _ (by first | exact hHeld0 | (first | exact hHeld | (refine ⟨by go_grown, ?_⟩; simp [Cells, go_sem]; done))) (fun hHeld1 => ?_)
        clear hK K
        try clear hb
        try go_frame
        refine wpAnyH_ready (rs := [3]) (by kernel_rfl) (by simp) ?_
        refine AllReadyH.cons (o := ⟨some 27, _, _, _, _, _⟩) rfl (fun K hK => ?_) AllReadyH.nil
        go_simp
        (first | ((with_reducible refine (EO.out _).mono ?_); rintro e w5 ⟨rfl, hb⟩) | ((with_reducible refine (FF.out _).mono ?_); rintro e w6 ⟨rfl, hb⟩))
        refine hK.out _ _ (hHeld1.next hb) (fun hHeld2 => ?_)
        replace hT0 := hT0.next hb
        clear hK K
        try clear hb
        try go_frame
        refine wpAnyH_ready (rs := [4]) (by kernel_rfl) (by simp) ?_
        refine AllReadyH.cons (o := ⟨some 28, _, _, _, _, _⟩) rfl (fun K hK => ?_) AllReadyH.nil
        go_simp
        (first | ((with_reducible refine (EO.out _).mono ?_); rintro e w5 ⟨rfl, hb⟩) | ((with_reducible refine (FF.out _).mono ?_); rintro e w6 ⟨rfl, hb⟩))
        refine hK.out _ _ (hHeld2.next hb) (fun hHeld3 => ?_)
        replace hT0 := hT0.next hb
        clear hK K
        try clear hb
        try go_frame
        refine wpAnyH_ready (rs := [5]) (by kernel_rfl) (by simp) ?_
        refine AllReadyH.cons (o := ⟨none, _, _, _, _, _⟩) rfl (fun K hK => ?_) AllReadyH.nil
        obtain ⟨⟨t0z0, t0c0, t0f0⟩, ⟨t0z1, t0c1, t0f1⟩, _⟩ := hT0.2; (try simp at t0z0); (try simp at t0c0); (try simp at t0f0); (try simp at t0z1); (try simp at t0c1); (try simp at t0f1)
        go_simp
        refine hK.out _ _ (by first | exact hHeld3.alloc _ | (repeat (first | (with_reducible exact hHeld3) | (with_reducible exact (Keeps.undrewR hHeld3)) | (refine Keeps.set ?_ (by simp <;> omega) (by simp <;> omega) _) | (with_reducible refine Keeps.drew ?_)))) (fun hHeld4 => ?_)
        clear hK K
        try clear hb
        try go_frame
        refine wpAnyH_done (by kernel_rfl) ?_ _
        have hHeld := hHeld4
        obtain ⟨⟨kz0, kc0, kf0⟩, ⟨kz1, kc1, kf1⟩, ⟨kz2, kc2, kf2⟩, ⟨kz3, kc3, kf3⟩, _⟩ := hHeld.2
        rotate_left 1
        refine AllReadyH.cons (o := ⟨some 27, _, _, _, _, _⟩) rfl (fun K hK => ?_) ?_
        go_simp
        (first | ((with_reducible refine (EO.out _).mono ?_); rintro e w5 ⟨rfl, hb⟩) | ((with_reducible refine (FF.out _).mono ?_); rintro e w6 ⟨rfl, hb⟩))
        refine hK.out _ _ (hHeld0.next hb) (fun hHeld5 => ?_)
        replace hT0 := hT0.next hb
        clear hK K
        try clear hb
        try go_frame
        refine wpAnyH_ready (rs := [1]) (by kernel_rfl) (by simp) ?_
        refine AllReadyH.cons (o := ⟨some 25, _, _, _, _, _⟩) rfl (fun K hK => ?_) AllReadyH.nil
        obtain ⟨⟨kz0, kc0, kf0⟩, ⟨kz1, kc1, kf1⟩, ⟨kz2, kc2, kf2⟩, ⟨kz3, kc3, kf3⟩, _⟩ := hHeld5.2
        obtain ⟨⟨t0z0, t0c0, t0f0⟩, ⟨t0z1, t0c1, t0f1⟩, _⟩ := hT0.2
        go_simp
        refine hK.out _ _ (by first | exact hHeld5 | (first | exact hHeld | (refine ⟨by go_grown, ?_⟩; simp [Cells, go_sem]; done))) (fun hHeld6 => ?_)
        clear hK K
        try clear hb
        try go_frame
        refine wpAnyH_ready (rs := [4]) (by kernel_rfl) (by simp) ?_
        refine AllReadyH.cons (o := ⟨some 28, _, _, _, _, _⟩) rfl (fun K hK => ?_) AllReadyH.nil
        go_simp
        (first | ((with_reducible refine (EO.out _).mono ?_); rintro e w5 ⟨rfl, hb⟩) | ((with_reducible refine (FF.out _).mono ?_); rintro e w6 ⟨rfl, hb⟩))
        refine hK.out _ _ (hHeld6.next hb) (fun hHeld7 => ?_)
        replace hT0 := hT0.next hb
        clear hK K
        try clear hb
        try go_frame
        refine wpAnyH_ready (rs := [5]) (by kernel_rfl) (by simp) ?_
        refine AllReadyH.cons (o := ⟨none, _, _, _, _, _⟩) rfl (fun K hK => ?_) AllReadyH.nil
        obtain ⟨⟨t0z0, t0c0, t0f0⟩, ⟨t0z1, t0c1, t0f1⟩, _⟩ := hT0.2; (try simp at t0z0); (try simp at t0c0); (try simp at t0f0); (try simp at t0z1); (try simp at t0c1); (try simp at t0f1)
        go_simp
        refine hK.out _ _ (by first | exact hHeld7.alloc _ | (repeat (first | (with_reducible exact hHeld7) | (with_reducible exact (Keeps.undrewR hHeld7)) | (refine Keeps.set ?_ (by simp <;> omega) (by simp <;> omega) _) | (with_reducible refine Keeps.drew ?_)))) (fun hHeld8 => ?_)
        clear hK K
        try clear hb
        try go_frame
        refine wpAnyH_done (by kernel_rfl) ?_ _
        have hHeld := hHeld8
        obtain ⟨⟨kz0, kc0, kf0⟩, ⟨kz1, kc1, kf1⟩, ⟨kz2, kc2, kf2⟩, ⟨kz3, kc3, kf3⟩, _⟩ := hHeld.2
        rotate_left 1
        exact AllReadyH.nil
        all_goals
          obtain ⟨d0, d1⟩ := set2 (W := w6) (B := w.heap.size) (u0 := .int .i64 (f p0 x)) (u1 := .int .i64 (g p1 y)) t0c0 t0c1
          have NK := Lib.hid (show Keeps w [(w.heap.size, 0, .int .i64 (foldS f g (a, b) (l.take (k + 1))).1), (w.heap.size, 1, .int .i64 (foldS f g (a, b) (l.take (k + 1))).2), (w.heap.size + 1, 0, .int .i64 0), (w.heap.size + 1, 1, .int .i64 0)] ((w6.setCell ⟨w.heap.size, 0, none⟩ (.int .i64 (f p0 x))).setCell ⟨w.heap.size, 1, none⟩ (.int .i64 (g p1 y))) from by
            rw [FN.out]
            exact ⟨hHeld.1, ⟨by simpa using t0z0, d0, by simpa using t0f0⟩, ⟨by simpa using t0z1, d1, by simpa using t0f1⟩, ⟨kz0, kc0, kf0⟩, ⟨kz1, kc1, kf1⟩, trivial⟩)
          go_wp2_with fail
          go_roundw
          case rel => exact ⟨k + 1, by simp, by omega, BN, NK.out⟩
          case measure => simp [intOf]; omega
    · have BT : badS l = false := by have := hT.out; rwa [List.take_of_length_le (by omega)] at this
      have FT : foldS f g (a, b) (l.take k) = foldS f g (a, b) l := by rw [List.take_of_length_le (by omega)]
      have HR := hR.out
      rw [BT, ← FT] at HR
      replace HR := Lib.hid HR
      clear hT BT FT hR
      generalize foldS f g (a, b) (l.take k) = p at *
      obtain ⟨p0, p1⟩ := p
      simp only at kc0 kc1 HR
      have i1 : ¬ (k : Int) < (l.length : Int) := by omega
      go_wp2_with fail
      obtain ⟨d0, d1⟩ := set2 (W := wr) (B := w.heap.size + 1) (u0 := .int .i64 p0) (u1 := .int .i64 p1) kc2 kc3
      refine bodyPost_ret (v := .tuple #[spV p0 p1, .int .i64 0]) (by simp [results, Tryz.results105, go_sem, d0, d1]) rfl ?_
      exact ⟨by rw [HR.out]; rfl, by first | (with_reducible exact hHeld.1) | (have hB := hHeld.1; have hz := hB.size; go_grown)⟩
end Go.Proofs.YtoephkglpbophaaGreat

/-
  Layer 4: what rows of spans come to: Join, Meet, Least, Most. Conditions: those written at each fact.
-/
namespace Go.Proofs.YtoephkglpbophaaGreat
open Go.RowKit

/-- What some spans come to. -/
def accS (f g : Int → Int → Int) (l : List (Int × Int)) : Int × Int := match l with | [] => (0, 0) | s :: t => foldS f g s (s :: t)
/-- What is told of them. -/
def resS (f g : Int → Int → Int) (l : List (Int × Int)) : Value :=
  if l = [] then .tuple #[spV 0 0, .int .i64 9] else if badS l then .tuple #[spV 0 0, .int .i64 140] else .tuple #[spV (accS f g l).1 (accS f g l).2, .int .i64 0]
set_option maxRecDepth 100000 in
set_option maxHeartbeats 2000000 in
theorem some_meet (f g : Int → Int → Int) (hF : ∀ a b c d W, Calls Tryz.prog 87 #[spV a b, spV c d] W (Ret W (spV (f a c) (g b d)))) (l : List (Int × Int)) (hl : l.length ≤ 10000000) (v : Value) (w : World) (h : ReadsS w v l) :
    Calls Tryz.prog 86 #[v, .func (.func 87) #[] #[]] w (Ret w (resS f g l)) := by
  obtain ⟨R, hR⟩ : ∃ R, R = resS f g l := ⟨_, rfl⟩
  rw [← hR]
  cases l with
  | nil =>
    obtain ⟨A, c, rfl, hk⟩ := h
    replace hR := Lib.hid hR
    clear hk hF
    go_enter Tryz.func86, Tryz.ntmps86
    go_wp2_with fail
    go_returns
    exact ⟨by rw [hR.out]; rfl, by go_grown⟩
  | cons s t =>
    obtain ⟨x, y⟩ := s
    have TH := fun W (k : ReadsS W v ((x, y) :: t)) R hR => through_meet f g hF ((x, y) :: t) hl x y v W k R hR
    have HR : R = if badS ((x, y) :: t) then .tuple #[spV 0 0, .int .i64 140] else .tuple #[spV (foldS f g (x, y) ((x, y) :: t)).1 (foldS f g (x, y) ((x, y) :: t)).2, .int .i64 0] := hR
    have HS := h
    obtain ⟨A, c, rfl, hk⟩ := h
    obtain ⟨bb, off, rfl, hbw, hc1, hc2⟩ := hk 0 _ rfl
    simp only [Nat.zero_mul, Nat.add_zero] at hc1 hc2
    clear hk hF hR
    have EO := Lib.hid (fun W => endsOf_any x y W)
    replace HS := Lib.hid HS
    obtain ⟨p, hp⟩ : ∃ p, p = foldS f g (x, y) ((x, y) :: t) := ⟨_, rfl⟩
    rw [← hp] at HR TH
    clear hp
    obtain ⟨n, hn⟩ : ∃ n, n = ((x, y) :: t).length := ⟨_, rfl⟩
    have n1 : ((n : Int) == 0) = false := by rw [beq_eq_false_iff_ne]; rw [List.length_cons] at hn; omega
    have n2 : 0 < n := by rw [List.length_cons] at hn; omega
    rw [← hn] at HS hl
    rw [← hn]
    rw [← hn] at TH
    clear hn
    obtain ⟨p0, p1⟩ := p
    obtain ⟨q0, q1, cd, hq⟩ : ∃ q0 q1 cd, R = .tuple #[spV q0 q1, .int .i64 cd] := by
      rw [HR]
      cases badS ((x, y) :: t)
      · exact ⟨_, _, _, rfl⟩
      · exact ⟨_, _, _, rfl⟩
    rw [← HR] at TH
    clear HR
    subst hq
    have ES := Lib.hid (fun W => espan_any q0 q1 W)
    · skip
      have TH := Lib.hid TH
      go_enter Tryz.func86, Tryz.ntmps86
      go_wp2_with fail
      refine (EO.out _).mono ?_
      rintro en w1 ⟨rfl, hb1⟩
      have hHeld : Keeps w [(w.heap.size, 0, .int .i64 0), (w.heap.size, 1, .int .i64 0)] w1 := Keeps.next (by refine ⟨by go_grown, ?_⟩; simp [Cells, go_sem]) hb1
      clear hb1
      go_wp2_with fail
      refine (TH.out _ (HS.out.below hHeld.1) _ rfl).mono ?_
      rintro en w2 ⟨rfl, hb2⟩
      replace hHeld := hHeld.next hb2
      clear hb2
      go_wp2_with fail
      refine (ES.out _).mono ?_
      rintro en w3 ⟨rfl, hb3⟩
      replace hHeld := (hHeld.alloc (.cells #[.int .i64 q0, .int .i64 q1] 143)).next hb3
      clear hb3
      obtain ⟨⟨kz0, kc0, kf0⟩, ⟨kz1, kc1, kf1⟩, _⟩ := hHeld.2
      go_wp2_with fail
      obtain ⟨d0, d1⟩ := set2 (W := w3) (B := w.heap.size) (u0 := .int .i64 q0) (u1 := .int .i64 q1) kc0 kc1
      refine bodyPost_ret (v := .tuple #[spV q0 q1, .int .i64 cd]) (by simp [results, Tryz.results86, go_sem, d0, d1]) rfl ?_
      exact ⟨rfl, by first | (with_reducible exact hHeld.1) | (have hB := hHeld.1; have hz := hB.size; go_grown)⟩
theorem set2a {W : World} {B : Nat} {u0 u1 a0 a1 : Value} {o : Obj} (hB : B < W.heap.size) (h0 : W.cell? ⟨B, 0, none⟩ = some a0) (h1 : W.cell? ⟨B, 1, none⟩ = some a1) :
    (((W.setCell ⟨B, 0, none⟩ u0).setCell ⟨B, 1, none⟩ u1).alloc o).cell? ⟨B, 0, none⟩ = some u0 ∧ (((W.setCell ⟨B, 0, none⟩ u0).setCell ⟨B, 1, none⟩ u1).alloc o).cell? ⟨B, 1, none⟩ = some u1 := by
  obtain ⟨d0, d1⟩ := set2 (u0 := u0) (u1 := u1) h0 h1
  exact ⟨((below_alloc _ o).cell (p := ⟨B, 0, none⟩) (by simpa using hB)).trans d0, ((below_alloc _ o).cell (p := ⟨B, 1, none⟩) (by simpa using hB)).trans d1⟩
/-- What Meet tells. -/
def meetR (l : List (Int × Int)) : Int × Int × Int :=
  if l = [] then (0, 0, 9) else if badS l then (0, 0, 140) else if (accS max min l).2 < (accS max min l).1 then (0, 0, 9) else ((accS max min l).1, (accS max min l).2, 0)
theorem meetR_any (l : List (Int × Int)) (hl : l.length ≤ 10000000) (v : Value) (w : World) (h : ReadsS w v l) : Calls Tryz.prog 62 #[v] w (Ret w (.tuple #[spV (meetR l).1 (meetR l).2.1, .int .i64 (meetR l).2.2])) := by
  have SO := fun W k => some_meet max min (fun a b c d W => emeet_any a b c d W) l hl v W k
  obtain ⟨q0, q1, cd, hq, hm⟩ : ∃ q0 q1 cd, resS max min l = .tuple #[spV q0 q1, .int .i64 cd] ∧ (cd ≠ 0 ∧ meetR l = (0, 0, cd) ∨ cd = 0 ∧ q1 < q0 ∧ meetR l = (0, 0, 9) ∨ cd = 0 ∧ ¬ q1 < q0 ∧ meetR l = (q0, q1, 0)) := by
    unfold resS meetR
    split
    · exact ⟨_, _, _, rfl, Or.inl ⟨by decide, rfl⟩⟩
    · split
      · exact ⟨_, _, _, rfl, Or.inl ⟨by decide, rfl⟩⟩
      · refine ⟨_, _, _, rfl, Or.inr ?_⟩
        by_cases g : (accS max min l).2 < (accS max min l).1
        · rw [if_pos g]; exact Or.inl ⟨rfl, g, rfl⟩
        · rw [if_neg g]; exact Or.inr ⟨rfl, g, rfl⟩
  obtain ⟨m, em⟩ : ∃ m, m = meetR l := ⟨_, rfl⟩
  rw [hq] at SO
  rw [← em] at hm ⊢
  clear hq em
  obtain ⟨A, n, c, rfl⟩ : ∃ A n c, v = .slice A n c := by obtain ⟨A, c, e, _⟩ := h; exact ⟨_, _, _, e⟩
  replace SO := Lib.hid SO
  replace h := Lib.hid h
  have CK := Lib.hid (fun W => check_any q0 q1 W)
  rcases hm with ⟨g, rfl⟩ | ⟨rfl, g, rfl⟩ | ⟨rfl, g, rfl⟩
  · have g1 : (cd != 0) = true := by simpa using g
    clear g CK
    go_enter Tryz.func62, Tryz.ntmps62
    go_wp2_with fail
    refine (SO.out _ (h.out.below (by go_grown))).mono ?_
    rintro en w1 ⟨rfl, hb1⟩
    have hHeld : Keeps w [(w.heap.size, 0, .int .i64 0), (w.heap.size, 1, .int .i64 0)] w1 := Keeps.next (by refine ⟨by go_grown, ?_⟩; simp [Cells, go_sem]) hb1
    clear hb1
    obtain ⟨⟨kz0, kc0, kf0⟩, ⟨kz1, kc1, kf1⟩, _⟩ := hHeld.2
    go_wp2_with fail
    obtain ⟨d0, d1⟩ := set2a (W := w1) (B := w.heap.size) (u0 := .int .i64 0) (u1 := .int .i64 0) (o := .cells #[.int .i64 q0, .int .i64 q1] 81) kz0 kc0 kc1
    refine bodyPost_ret (v := .tuple #[spV 0 0, .int .i64 cd]) (by simp [results, Tryz.results62, go_sem, d0, d1]) rfl ?_
    exact ⟨rfl, by first | (with_reducible exact hHeld.1) | (have hB := hHeld.1; have hz := hB.size; go_grown)⟩
  all_goals
    first | rw [if_pos g] at CK | rw [if_neg g] at CK
    clear g
    go_enter Tryz.func62, Tryz.ntmps62
    go_wp2_with fail
    refine (SO.out _ (h.out.below (by go_grown))).mono ?_
    rintro en w1 ⟨rfl, hb1⟩
    have hHeld : Keeps w [(w.heap.size, 0, .int .i64 0), (w.heap.size, 1, .int .i64 0)] w1 := Keeps.next (by refine ⟨by go_grown, ?_⟩; simp [Cells, go_sem]) hb1
    clear hb1
    go_wp2_with fail
    refine (CK.out _).mono ?_
    rintro en w2 ⟨rfl, hb2⟩
    replace hHeld := Keeps.next ((hHeld.alloc (.cells #[.int .i64 q0, .int .i64 q1] 81)).app (newK2 (hHeld.alloc (.cells #[.int .i64 q0, .int .i64 q1] 81)))) hb2
    clear hb2
    obtain ⟨⟨kz0, kc0, kf0⟩, ⟨kz1, kc1, kf1⟩, ⟨kz2, kc2, kf2⟩, ⟨kz3, kc3, kf3⟩, _⟩ := hHeld.2
    go_wp2_with fail
  · obtain ⟨d0, d1⟩ := set2 (W := w2) (B := w.heap.size) (u0 := .int .i64 0) (u1 := .int .i64 0) kc0 kc1
    refine bodyPost_ret (v := .tuple #[spV 0 0, .int .i64 9]) (by simp [results, Tryz.results62, go_sem, d0, d1]) rfl ?_
    exact ⟨rfl, by first | (with_reducible exact hHeld.1) | (have hB := hHeld.1; have hz := hB.size; go_grown)⟩
  · obtain ⟨d0, d1⟩ := set2 (W := w2) (B := w.heap.size) (u0 := .int .i64 q0) (u1 := .int .i64 q1) kc0 kc1
    refine bodyPost_ret (v := .tuple #[spV q0 q1, .int .i64 0]) (by simp [results, Tryz.results62, go_sem, d0, d1]) rfl ?_
    exact ⟨rfl, by first | (with_reducible exact hHeld.1) | (have hB := hHeld.1; have hz := hB.size; go_grown)⟩
end Go.Proofs.YtoephkglpbophaaGreat

/-
  Layer 4: Within, Width, Middle's refusal. Conditions: the ends are of 64 bits.
-/
namespace Go.Proofs.YtoephkglpbophaaGreat
open Go.RowKit

/-- A row of two spans, written out. -/
theorem readsS_twoS {w : World} {t : TypeId} {a b c d : Int} {v : Value} (hv : v = .slice (some ⟨w.heap.size, 0, none⟩) 2 2) : ReadsS (w.alloc (.cells #[.int .i64 a, .int .i64 b, .int .i64 c, .int .i64 d] t)) v [(a, b), (c, d)] := by
  subst hv
  refine ⟨some ⟨w.heap.size, 0, none⟩, 2, rfl, fun i s hi => ⟨w.heap.size, 0, rfl, by simp, ?_⟩⟩
  match i, hi with
  | 0, hi => cases hi; exact ⟨by simp [go_sem], by simp [go_sem]⟩
  | 1, hi => cases hi; exact ⟨by simp [go_sem], by simp [go_sem]⟩
  | n + 2, hi => simp at hi
theorem below_then {w W w' : World} (h : Below w.heap.size w W) (k : Below W.heap.size W w') : Below w.heap.size w w' := under h k
/-- Does a span lie in another one? -/
def withinB (a b c d : Int) : Bool := decide (a ≤ b ∧ c ≤ d ∧ c ≤ a ∧ b ≤ d)
theorem meet_two (a b c d : Int) : (decide ((meetR [(a, b), (c, d)]).2.2 = 0) && (decide ((meetR [(a, b), (c, d)]).1 = a) && decide ((meetR [(a, b), (c, d)]).2.1 = b))) = withinB a b c d := by
  rw [Bool.eq_iff_iff]
  have e : accS max min [(a, b), (c, d)] = (max a c, min b d) := by
    show (max (max a a) c, min (min b b) d) = (max a c, min b d)
    rw [Int.max_self, Int.min_self]
  have m1 : b ≤ d ∧ min b d = b ∨ ¬ b ≤ d ∧ min b d = d := by omega
  have m2 : a ≤ c ∧ max a c = c ∨ ¬ a ≤ c ∧ max a c = a := by omega
  unfold withinB meetR badS
  rw [e]
  clear e
  generalize min b d = m at *
  generalize max a c = q at *
  simp only [if_false, List.any_cons, List.any_nil, Bool.or_false, Bool.or_eq_true, decide_eq_true_eq, Bool.and_eq_true, List.cons_ne_nil]
  by_cases g : b < a ∨ d < c
  · rw [if_pos g]; simp only [show ((140 : Int) = 0) = False by simp, false_and, false_iff]; omega
  · rw [if_neg g]
    by_cases g2 : m < q
    · rw [if_pos g2]; simp only [show ((9 : Int) = 0) = False by simp, false_and, false_iff]; omega
    · rw [if_neg g2]; simp only [true_and]; omega
set_option maxRecDepth 100000 in
set_option maxHeartbeats 400000 in
theorem swithin_any (a b c d : Int) (w : World) : Calls Tryz.prog 37 #[spV a b, spV c d] w (Ret w (.bool (withinB a b c d))) := by
  have MT := Lib.hid (fun v W k => meetR_any [(a, b), (c, d)] (by simp) v W k)
  rw [← meet_two]
  generalize meetR [(a, b), (c, d)] = m at *
  obtain ⟨q0, q1, cd⟩ := m
  simp only at MT ⊢
  obtain ⟨R, hR⟩ : ∃ R, R = (decide (cd = 0) && (decide (q0 = a) && decide (q1 = b))) := ⟨_, rfl⟩
  rw [← hR]
  replace hR := Lib.hid hR
  go_enter Tryz.func37, Tryz.ntmps37
  go_wp2_with fail
  refine Calls.mono (MT.out _ _ ?_) ?_
  · exact readsS_twoS (by simp)
  rintro en w1 ⟨rfl, hb1⟩
  have hHeld : Keeps w [(w.heap.size, 0, .int .i64 a), (w.heap.size, 1, .int .i64 b)] w1 := Keeps.next (by refine ⟨by go_grown, ?_⟩; simp [Cells, go_sem]) hb1
  clear hb1
  obtain ⟨⟨kz0, kc0, kf0⟩, ⟨kz1, kc1, kf1⟩, _⟩ := hHeld.2
  go_wp2_with fail
  all_goals
    go_ret
    exact ⟨by rw [hR.out]; simp [*], (hHeld.alloc _).1⟩
end Go.Proofs.YtoephkglpbophaaGreat

/-
  Layer 4: Middle. Conditions: those written at each fact.
-/
namespace Go.Proofs.YtoephkglpbophaaGreat
open Go.RowKit

theorem nat_and_xor : ∀ x y : Nat, 2 * (x &&& y) + (x ^^^ y) = x + y := by
  intro x
  induction x using Nat.strongRecOn with
  | _ x ih =>
    intro y
    by_cases h : x = 0
    · subst h; simp
    · have i := ih (x / 2) (by omega) (y / 2)
      rw [← Nat.and_div_two, ← Nat.xor_div_two] at i
      have a := Nat.and_mod_two_pow (a := x) (b := y) (n := 1)
      have b := Nat.xor_mod_two_pow (a := x) (b := y) (n := 1)
      simp only [Nat.pow_one] at a b
      have p : x % 2 = 0 ∨ x % 2 = 1 := by omega
      have q : y % 2 = 0 ∨ y % 2 = 1 := by omega
      rcases p with p | p <;> rcases q with q | q <;> rw [p, q] at a b
      · replace a : (x &&& y) % 2 = 0 := a
        replace b : (x ^^^ y) % 2 = 0 := b
        omega
      · replace a : (x &&& y) % 2 = 0 := a
        replace b : (x ^^^ y) % 2 = 1 := b
        omega
      · replace a : (x &&& y) % 2 = 0 := a
        replace b : (x ^^^ y) % 2 = 1 := b
        omega
      · replace a : (x &&& y) % 2 = 1 := a
        replace b : (x ^^^ y) % 2 = 0 := b
        omega
theorem i64_two (n : Int) (h0 : 0 ≤ n) (h1 : n < 18446744073709551616) : (n < 9223372036854775808 ∧ IntKind.i64.wrap n = n) ∨ (9223372036854775808 ≤ n ∧ IntKind.i64.wrap n = n - 18446744073709551616) := by
  rw [IntKind.wrap_i64]
  omega
theorem u64_two (n : Int) (h0 : -9223372036854775808 ≤ n) (h1 : n ≤ 9223372036854775807) : (0 ≤ n ∧ n % 18446744073709551616 = n) ∨ (n < 0 ∧ n % 18446744073709551616 = n + 18446744073709551616) := by
  omega
theorem mid_plain (x y A B X Y a b : Int) (x1 : -9223372036854775808 ≤ x) (x2 : x ≤ 9223372036854775807) (y1 : -9223372036854775808 ≤ y) (y2 : y ≤ 9223372036854775807) (k : 2 * A + B = X + Y)
    (hx : (0 ≤ x ∧ X = x) ∨ (x < 0 ∧ X = x + 18446744073709551616)) (hy : (0 ≤ y ∧ Y = y) ∨ (y < 0 ∧ Y = y + 18446744073709551616))
    (ha : (A < 9223372036854775808 ∧ a = A) ∨ (9223372036854775808 ≤ A ∧ a = A - 18446744073709551616)) (hb : (B < 9223372036854775808 ∧ b = B) ∨ (9223372036854775808 ≤ B ∧ b = B - 18446744073709551616))
    (hA : 9223372036854775808 ≤ A ↔ x < 0 ∧ y < 0) (hB : 9223372036854775808 ≤ B ↔ (x < 0 ∧ 0 ≤ y ∨ 0 ≤ x ∧ y < 0)) : wrap64 (a + b / 2) = (x + y) / 2 := by
  have e : 2 * a + b = x + y := by omega
  clear k hx hy ha hb hA hB
  have e2 : a + b / 2 = (x + y) / 2 := by omega
  rw [e2]
  unfold wrap64
  omega
theorem bit63 (A : Nat) (h : A < 2 ^ 64) : 9223372036854775808 ≤ (A : Int) ↔ A.testBit 63 = true := by
  rw [Nat.testBit_eq_decide_div_mod_eq, decide_eq_true_eq]
  have e : (2 : Nat) ^ 64 = 18446744073709551616 := by decide
  have e2 : (2 : Nat) ^ 63 = 9223372036854775808 := by decide
  rw [e] at h
  rw [e2]
  omega
theorem mid_bits (x y : Int) (x1 : -9223372036854775808 ≤ x) (x2 : x ≤ 9223372036854775807) (y1 : -9223372036854775808 ≤ y) (y2 : y ≤ 9223372036854775807) : wrap64 (bits BinOp.and IntKind.i64 x y + bits BinOp.xor IntKind.i64 x y / 2) = (x + y) / 2 := by
  have e1 : bits BinOp.and IntKind.i64 x y = IntKind.i64.wrap ((BitVec.ofInt 64 x &&& BitVec.ofInt 64 y).toNat : Int) := rfl
  have e2 : bits BinOp.xor IntKind.i64 x y = IntKind.i64.wrap ((BitVec.ofInt 64 x ^^^ BitVec.ofInt 64 y).toNat : Int) := rfl
  rw [e1, e2, BitVec.toNat_and, BitVec.toNat_xor]
  clear e1 e2
  have l1 := (BitVec.ofInt 64 x).isLt
  have l2 := (BitVec.ofInt 64 y).isLt
  have vx : ((BitVec.ofInt 64 x).toNat : Int) = x % 18446744073709551616 := by
    rw [BitVec.toNat_ofInt]; exact Int.toNat_of_nonneg (Int.emod_nonneg _ (by decide))
  have vy : ((BitVec.ofInt 64 y).toNat : Int) = y % 18446744073709551616 := by
    rw [BitVec.toNat_ofInt]; exact Int.toNat_of_nonneg (Int.emod_nonneg _ (by decide))
  generalize (BitVec.ofInt 64 x).toNat = X at *
  generalize (BitVec.ofInt 64 y).toNat = Y at *
  have k := nat_and_xor X Y
  have hA : (X &&& Y) < 2 ^ 64 := Nat.and_lt_two_pow X l2
  have hB : (X ^^^ Y) < 2 ^ 64 := Nat.xor_lt_two_pow l1 l2
  have bA := bit63 _ hA
  have bB := bit63 _ hB
  have bX := bit63 _ l1
  have bY := bit63 _ l2
  rw [Nat.testBit_and, Bool.and_eq_true, ← bX, ← bY] at bA
  rw [Nat.testBit_xor] at bB
  have e : (2 : Nat) ^ 64 = 18446744073709551616 := by decide
  rw [e] at hA hB l1 l2
  generalize X &&& Y = A at *
  generalize X ^^^ Y = B at *
  have hx := u64_two x x1 x2
  have hy := u64_two y y1 y2
  rw [← vx] at hx
  rw [← vy] at hy
  have sx : 9223372036854775808 ≤ (X : Int) ↔ x < 0 := by clear bA bB bX bY hy k; omega
  have sy : 9223372036854775808 ≤ (Y : Int) ↔ y < 0 := by clear bA bB bX bY hx k; omega
  rw [sx, sy] at bA
  rw [sx] at bX
  rw [sy] at bY
  refine mid_plain x y A B X Y _ _ x1 x2 y1 y2 (by clear bA bB bX bY; omega) hx hy (i64_two A (by omega) (by clear bA bB bX bY; omega)) (i64_two B (by omega) (by clear bA bB bX bY; omega)) bA ?_
  rw [bB]
  cases h1 : X.testBit 63 <;> cases h2 : Y.testBit 63 <;> rw [h1] at bX <;> rw [h2] at bY <;> simp at bX bY ⊢ <;> omega
set_option maxRecDepth 100000 in
theorem middle_any (lo hi : Int) (l1 : -9223372036854775808 ≤ lo) (h2 : hi ≤ 9223372036854775807) (w : World) : Calls Tryz.prog 115 #[spV lo hi] w (Ret w (.tuple #[.int .i64 (if hi < lo then 0 else (lo + hi) / 2), .int .i64 (if hi < lo then 140 else 0)])) := by
  have CK := Lib.hid (fun W => check_any lo hi W)
  by_cases g : hi < lo
  · rw [if_pos g] at CK
    rw [if_pos g, if_pos g]
    clear g
    go_enter Tryz.func115, Tryz.ntmps115
    go_wp2_with fail
    refine (CK.out _).mono ?_
    rintro en w1 ⟨rfl, hb1⟩
    have B1 := Lib.hid hb1
    clear hb1
    go_wp2_with fail
    go_ret2
    exact ⟨rfl, below_then (below_alloc _ _) B1.out⟩
  · rw [if_neg g] at CK
    rw [if_neg g, if_neg g]
    go_enter Tryz.func115, Tryz.ntmps115
    go_wp2_with fail
    refine (CK.out _).mono ?_
    rintro e w1 ⟨rfl, hb⟩
    have hHeld : Keeps w [(w.heap.size, 0, .int .i64 lo), (w.heap.size, 1, .int .i64 hi)] _ := Keeps.next (by refine ⟨by go_grown, ?_⟩; simp [Cells, go_sem]) hb
    clear hb
    obtain ⟨⟨kz0, kc0, kf0⟩, ⟨kz1, kc1, kf1⟩, _⟩ := hHeld.2
    go_wp2_with fail
    go_ret2
    exact ⟨by rw [← mid_bits lo hi l1 (by omega) (by omega) h2]; rfl, by first | (with_reducible exact hHeld.1) | (have hB := hHeld.1; have hz := hB.size; go_grown)⟩
end Go.Proofs.YtoephkglpbophaaGreat
