/-
 Layer 4: what the calls of package span that take no rows answer: Check, Point, Has, and the ends' own. Conditions: those written at each fact.
-/
import Derived.Test.YtcfidimnbamnkaaGreatKitW
import Derived.Maps.RangeWalk
import Derived.Test.YtcfidimnbamnkaaGreatChecked
import Derived.Test.YtcfidimnbamnkaaGreatKitX
import Derived.StillTactics
import Derived.Test.YtcfidimnbamnkaaGreatStruct
import Derived.Deep.QuietTactic
import Derived.BigQuiet
import Derived.WalkSmall
namespace Go.Proofs.YtcfidimnbamnkaaGreat
open Go.RowKit

abbrev spV (lo hi : Int) : Value := .agg #[.int .i64 lo, .int .i64 hi]
theorem check_any (lo hi : Int) (w : World) : Calls Tryz.prog 266 #[spV lo hi] w (Ret w (.int .i64 (if hi < lo then 140 else 0))) := by
 by_cases g : hi < lo
 ·rw [if_pos g]
  go_enter Tryz.func266, Tryz.ntmps266
  go_wp2
  go_ret
  exact ⟨rfl, by go_grown⟩
 ·rw [if_neg g]
  go_enter Tryz.func266, Tryz.ntmps266
  go_wp2
  go_ret
  exact ⟨rfl, by go_grown⟩
theorem point_any (v : Int) (w : World) : Calls Tryz.prog 236 #[.int .i64 v] w (Ret w (spV v v)) := by
 go_enter Tryz.func236, Tryz.ntmps236
 go_wp2
 go_returns
 exact ⟨rfl, by go_grown⟩
theorem endsOf_any (lo hi : Int) (w : World) : Calls Tryz.prog 259 #[spV lo hi] w (Ret w (spV lo hi)) := by
 go_enter Tryz.func259, Tryz.ntmps259
 go_wp2
 go_returns
 exact ⟨rfl, by go_grown⟩
theorem espan_any (lo hi : Int) (w : World) : Calls Tryz.prog 260 #[spV lo hi] w (Ret w (spV lo hi)) := by
 go_enter Tryz.func260, Tryz.ntmps260
 go_wp2
 go_returns
 exact ⟨rfl, by go_grown⟩
theorem ejoin_any (a b c d : Int) (w : World) : Calls Tryz.prog 250 #[spV a b, spV c d] w (Ret w (spV (min a c) (max b d))) := by
 go_enter Tryz.func250, Tryz.ntmps250
 go_wp2
 all_goals
  go_returns
  refine ⟨?_, by go_grown⟩
  first | (simp; done) | (simp; omega)
end Go.Proofs.YtcfidimnbamnkaaGreat

/-
 Layer 4: rows of spans, gone through. Conditions: those written at each fact.
-/
namespace Go.Proofs.YtcfidimnbamnkaaGreat
open Go.RowKit

def ReadsS (w : World) (v : Value) (l : List (Int × Int)) : Prop :=
 ∃ A c, v = .slice A l.length c ∧ ∀ i s, l[i]? = some s → ∃ b off, A = some ⟨b, off, none⟩ ∧ b < w.heap.size ∧ w.cell? ⟨b, off + i * 2, none⟩ = some (.int .i64 s.1) ∧ w.cell? ⟨b, off + i * 2 + 1, none⟩ = some (.int .i64 s.2)
theorem ReadsS.below {w w' : World} {v : Value} {l : List (Int × Int)} (h : ReadsS w v l) (hb : Below w.heap.size w w') : ReadsS w' v l := by
 obtain ⟨A, c, e, hk⟩ := h
 refine ⟨A, c, e, fun i s hi => ?_⟩
 obtain ⟨b, off, e1, e2, e3, e4⟩ := hk i s hi
 exact ⟨b, off, e1, Nat.lt_of_lt_of_le e2 hb.size, (hb.cell (by exact e2)).trans e3, (hb.cell (by exact e2)).trans e4⟩
def badS (l : List (Int × Int)) : Bool := l.any fun s => decide (s.2 < s.1)
def foldS (f : Int → Int → Int) (g : Int → Int → Int) (a : Int × Int) (l : List (Int × Int)) : Int × Int := l.foldl (fun m s => (f m.1 s.1, g m.2 s.2)) a
theorem foldS_next {f g : Int → Int → Int} {a s : Int × Int} {l : List (Int × Int)} {k : Nat} (h : l[k]? = some s) : foldS f g a (l.take (k + 1)) = (f (foldS f g a (l.take k)).1 s.1, g (foldS f g a (l.take k)).2 s.2) := by
 obtain ⟨a1, e1⟩ := List.getElem?_eq_some_iff.1 h
 rw [List.take_succ_eq_append_getElem a1, e1, foldS, foldS, List.foldl_append]
 rfl
theorem badS_next {s : Int × Int} {l : List (Int × Int)} {k : Nat} (h : l[k]? = some s) (h1 : badS (l.take k) = false) (h2 : ¬ s.2 < s.1) : badS (l.take (k + 1)) = false := by
 obtain ⟨a1, e1⟩ := List.getElem?_eq_some_iff.1 h
 unfold badS at *
 rw [List.take_succ_eq_append_getElem a1, e1, List.any_append, h1]
 simpa using h2
theorem badS_here {s : Int × Int} {l : List (Int × Int)} {k : Nat} (h : l[k]? = some s) (h2 : s.2 < s.1) : badS l = true := by
 obtain ⟨a1, e1⟩ := List.getElem?_eq_some_iff.1 h
 unfold badS
 rw [List.any_eq_true]
 exact ⟨s, e1 ▸ List.getElem_mem a1, by simpa using h2⟩

set_option maxRecDepth 100000 in
set_option maxHeartbeats 2000000 in
theorem through_join (f g : Int → Int → Int) (hF : ∀ a b c d W, Calls Tryz.prog 250 #[spV a b, spV c d] W (Ret W (spV (f a c) (g b d)))) (l : List (Int × Int)) (hl : l.length ≤ 10000000) (a b : Int) (v : Value) (w : World) (h : ReadsS w v l)
  (R : Value) (hR : R = if badS l then .tuple #[spV 0 0, .int .i64 140] else .tuple #[spV (foldS f g (a, b) l).1 (foldS f g (a, b) l).2, .int .i64 0]) :
  Calls Tryz.prog 258 #[v, spV a b, .func (.func 250) #[] #[]] w (Ret w R) := by
 obtain ⟨A, c, rfl, hk⟩ := h
 have HK := Lib.hid hk
 have HF := Lib.hid hF
 replace hR := Lib.hid hR
 clear hk hF
 go_enter Tryz.func258, Tryz.ntmps258
 go_wp2_with fail
 go_loopw [14] (fun i wr => ∃ k : Nat, i = .int .i64 k ∧ k ≤ l.length ∧ Hid (badS (l.take k) = false) ∧ Keeps w [(w.heap.size, 0, .int .i64 (foldS f g (a, b) (l.take k)).1), (w.heap.size, 1, .int .i64 (foldS f g (a, b) (l.take k)).2), (w.heap.size + 1, 0, .int .i64 0), (w.heap.size + 1, 1, .int .i64 0)] wr) (fun i _ => l.length - (intOf i).toNat)
 case atStart => exact ⟨0, rfl, by omega, Lib.hid (by simp [badS]), ⟨by go_grown, by simp [Cells, go_sem, foldS]⟩⟩
 case round =>
  obtain ⟨k, rfl, hkl, hT, hHeld⟩ := hrel
  obtain ⟨⟨kz0,kc0,kf0⟩,⟨kz1,kc1,kf1⟩,⟨kz2,kc2,kf2⟩,⟨kz3,kc3,kf3⟩,_⟩ := hHeld.2
  by_cases gk : k < l.length
  ·obtain ⟨⟨x, y⟩, hx⟩ : ∃ s, l[k]? = some s := ⟨_, List.getElem?_eq_getElem gk⟩
   obtain ⟨bb, off, rfl, hbw, hc1, hc2⟩ := HK.out k _ hx
   have c1 := (hHeld.1.cell (p := ⟨bb, off + k * 2, none⟩) hbw).trans hc1
   have c2 := (hHeld.1.cell (p := ⟨bb, off + k * 2 + 1, none⟩) hbw).trans hc2
   have i1 : (k : Int) < (l.length : Int) := by omega
   have i0 : (0 : Int) ≤ (k : Int) := by omega
   have HX := Lib.hid hx
   have FN := Lib.hid (foldS_next (f := f) (g := g) (a := (a, b)) hx)
   clear hc1 hc2 hx
   generalize foldS f g (a, b) (l.take k) = p at *
   obtain ⟨p0, p1⟩ := p
   simp only at c1 c2 kc0 kc1 FN
   have CK := Lib.hid (fun W => check_any x y W)
   by_cases gx : y < x
   ·rw [if_pos gx] at CK
    have BH := Lib.hid (badS_here HX.out gx)
    go_wp2_with fail
    refine (CK.out _).mono ?_
    rintro en w1 ⟨rfl, hb1⟩
    replace hHeld := Keeps.next ((hHeld.alloc (.cells #[.int .i64 x, .int .i64 y] 240)).app (newK2 (hHeld.alloc (.cells #[.int .i64 x, .int .i64 y] 240)))) hb1
    clear hb1 kz0 kc0 kf0 kz1 kc1 kf1 kz2 kc2 kf2 kz3 kc3 kf3
    obtain ⟨⟨kz0,kc0,kf0⟩,⟨kz1,kc1,kf1⟩,⟨kz2,kc2,kf2⟩,⟨kz3,kc3,kf3⟩,_⟩ := hHeld.2
    go_wp2_with fail
    obtain ⟨d0, d1⟩ := set2 (W := w1) (B := w.heap.size + 1) (u0 := .int .i64 0) (u1 := .int .i64 0) kc2 kc3
    have e0 := ((below_alloc ((w1.setCell ⟨w.heap.size + 1, 0, none⟩ (.int .i64 0)).setCell ⟨w.heap.size + 1, 1, none⟩ (.int .i64 0)) (.cells #[.int .i64 0, .int .i64 0] 295)).cell (p := ⟨w.heap.size + 1, 0, none⟩) (by simpa using kz2)).trans d0
    have e1 := ((below_alloc ((w1.setCell ⟨w.heap.size + 1, 0, none⟩ (.int .i64 0)).setCell ⟨w.heap.size + 1, 1, none⟩ (.int .i64 0)) (.cells #[.int .i64 0, .int .i64 0] 295)).cell (p := ⟨w.heap.size + 1, 1, none⟩) (by simpa using kz2)).trans d1
    refine bodyPost_ret (v := .tuple #[spV 0 0, .int .i64 140]) (by simp [results, Tryz.results258, go_sem, e0, e1]) rfl ?_
    exact ⟨by rw [hR.out, BH.out]; rfl, by first | (with_reducible exact hHeld.1) | (have hB := hHeld.1; have hz := hB.size; go_grown)⟩
   ·rw [if_neg gx] at CK
    have BN := Lib.hid (badS_next HX.out hT.out gx)
    have EO := Lib.hid (fun W => endsOf_any x y W)
    have FF := Lib.hid (fun W => HF.out p0 p1 x y W)
    clear hT gx HK HF HX
    have hzw := kz2
    go_wp2_with fail
    refine (CK.out _).mono ?_
    rintro en w1 ⟨rfl, hb1⟩
    replace hHeld := Keeps.next ((hHeld.alloc (.cells #[.int .i64 x, .int .i64 y] 240)).app (newK2 (hHeld.alloc (.cells #[.int .i64 x, .int .i64 y] 240)))) hb1
    clear hb1 kz0 kc0 kf0 kz1 kc1 kf1 kz2 kc2 kf2 kz3 kc3 kf3
    obtain ⟨⟨kz0,kc0,kf0⟩,⟨kz1,kc1,kf1⟩,⟨kz2,kc2,kf2⟩,⟨kz3,kc3,kf3⟩,⟨kz4,kc4,kf4⟩,⟨kz5,kc5,kf5⟩,_⟩ := hHeld.2
    go_wp2_with fail
    refine region_keepsB (w0 := w) (L := [(w.heap.size + 1, 0, .int .i64 0), (w.heap.size + 1, 1, .int .i64 0), (wr.heap.size, 0, .int .i64 x), (wr.heap.size, 1, .int .i64 y)]) (M := [(w.heap.size, 0, .int .i64 p0), (w.heap.size, 1, .int .i64 p1)]) (by kernel_rfl) ⟨hHeld.1, ⟨kz2, kc2, kf2⟩, ⟨kz3, kc3, kf3⟩, ⟨kz4, kc4, kf4⟩, ⟨kz5, kc5, kf5⟩, trivial⟩ ⟨hHeld.1, ⟨kz0, kc0, kf0⟩, ⟨kz1, kc1, kf1⟩, trivial⟩ (fun hHeld0 hT0 => ?_)
    refine tv 0 24 rfl rfl ?_
    try go_frame
    refine tk 2 26 rfl rfl ?_ ?_ ?_
    rotate_left
    ·intro wq hSw; obtain ⟨⟨_,_,_⟩,⟨_,_,_⟩,⟨_,_,_⟩,⟨_,_,_⟩,_⟩ := hSw.2; go_simp; (try with_reducible rfl)
    try go_frame
    refine ty [1, 3] ?_
    refine AllReadyH.cons rfl (fun K hK => ?_) ?_
    obtain ⟨⟨kz0,kc0,kf0⟩,⟨kz1,kc1,kf1⟩,⟨kz2,kc2,kf2⟩,⟨kz3,kc3,kf3⟩,_⟩ := hHeld0.2
    obtain ⟨⟨t0z0, t0c0, t0f0⟩, ⟨t0z1, t0c1, t0f1⟩, _⟩ := hT0.2
    go_simp
    refine hK.out _ _ hHeld0 (fun hHeld1 => ?_)
    clear hK K; try clear hb
    try go_frame
    refine ty [3] ?_
    refine AllReadyH.cons rfl (fun K hK => ?_) AllReadyH.nil
    go_simp
    (first | ((with_reducible refine (EO.out _).mono ?_); rintro e w5 ⟨rfl, hb⟩) | ((with_reducible refine (FF.out _).mono ?_); rintro e w6 ⟨rfl, hb⟩))
    refine hK.out _ _ (hHeld1.next hb) (fun hHeld2 => ?_)
    replace hT0 := hT0.next hb
    clear hK K; try clear hb
    try go_frame
    refine ty [4] ?_
    refine AllReadyH.cons rfl (fun K hK => ?_) AllReadyH.nil
    go_simp
    (first | ((with_reducible refine (EO.out _).mono ?_); rintro e w5 ⟨rfl, hb⟩) | ((with_reducible refine (FF.out _).mono ?_); rintro e w6 ⟨rfl, hb⟩))
    refine hK.out _ _ (hHeld2.next hb) (fun hHeld3 => ?_)
    replace hT0 := hT0.next hb
    clear hK K; try clear hb
    try go_frame
    refine ty [5] ?_
    refine AllReadyH.cons rfl (fun K hK => ?_) AllReadyH.nil
    obtain ⟨⟨t0z0, t0c0, t0f0⟩, ⟨t0z1, t0c1, t0f1⟩, _⟩ := hT0.2; (try simp at t0z0); (try simp at t0c0); (try simp at t0f0); (try simp at t0z1); (try simp at t0c1); (try simp at t0f1)
    go_simp
    refine hK.out _ _ (by first | exact hHeld3.alloc _ | (repeat (first | (with_reducible exact hHeld3) | (with_reducible exact (Keeps.undrewR hHeld3)) | (refine Keeps.set ?_ (by simp <;> omega) (by simp <;> omega) _) | (with_reducible refine Keeps.drew ?_)))) (fun hHeld4 => ?_)
    clear hK K; try clear hb
    try go_frame
    refine wpAnyH_done (by kernel_rfl) ?_ _
    have hHeld := hHeld4
    obtain ⟨⟨kz0,kc0,kf0⟩,⟨kz1,kc1,kf1⟩,⟨kz2,kc2,kf2⟩,⟨kz3,kc3,kf3⟩,_⟩ := hHeld.2
    rotate_left 1
    refine AllReadyH.cons rfl (fun K hK => ?_) ?_
    go_simp
    (first | ((with_reducible refine (EO.out _).mono ?_); rintro e w5 ⟨rfl, hb⟩) | ((with_reducible refine (FF.out _).mono ?_); rintro e w6 ⟨rfl, hb⟩))
    refine hK.out _ _ (hHeld0.next hb) (fun hHeld5 => ?_)
    replace hT0 := hT0.next hb
    clear hK K; try clear hb
    try go_frame
    refine ty [1] ?_
    refine AllReadyH.cons rfl (fun K hK => ?_) AllReadyH.nil
    obtain ⟨⟨kz0,kc0,kf0⟩,⟨kz1,kc1,kf1⟩,⟨kz2,kc2,kf2⟩,⟨kz3,kc3,kf3⟩,_⟩ := hHeld5.2
    obtain ⟨⟨t0z0, t0c0, t0f0⟩, ⟨t0z1, t0c1, t0f1⟩, _⟩ := hT0.2
    go_simp
    refine hK.out _ _ hHeld5 (fun hHeld6 => ?_)
    clear hK K; try clear hb
    try go_frame
    refine ty [4] ?_
    refine AllReadyH.cons rfl (fun K hK => ?_) AllReadyH.nil
    go_simp
    (first | ((with_reducible refine (EO.out _).mono ?_); rintro e w5 ⟨rfl, hb⟩) | ((with_reducible refine (FF.out _).mono ?_); rintro e w6 ⟨rfl, hb⟩))
    refine hK.out _ _ (hHeld6.next hb) (fun hHeld7 => ?_)
    replace hT0 := hT0.next hb
    clear hK K; try clear hb
    try go_frame
    refine ty [5] ?_
    refine AllReadyH.cons rfl (fun K hK => ?_) AllReadyH.nil
    obtain ⟨⟨t0z0, t0c0, t0f0⟩, ⟨t0z1, t0c1, t0f1⟩, _⟩ := hT0.2; (try simp at t0z0); (try simp at t0c0); (try simp at t0f0); (try simp at t0z1); (try simp at t0c1); (try simp at t0f1)
    go_simp
    refine hK.out _ _ (by first | exact hHeld7.alloc _ | (repeat (first | (with_reducible exact hHeld7) | (with_reducible exact (Keeps.undrewR hHeld7)) | (refine Keeps.set ?_ (by simp <;> omega) (by simp <;> omega) _) | (with_reducible refine Keeps.drew ?_)))) (fun hHeld8 => ?_)
    clear hK K; try clear hb
    try go_frame
    refine wpAnyH_done (by kernel_rfl) ?_ _
    have hHeld := hHeld8
    obtain ⟨⟨kz0,kc0,kf0⟩,⟨kz1,kc1,kf1⟩,⟨kz2,kc2,kf2⟩,⟨kz3,kc3,kf3⟩,_⟩ := hHeld.2
    rotate_left 1
    exact AllReadyH.nil
    all_goals
     obtain ⟨d0, d1⟩ := set2 (W := w6) (B := w.heap.size) (u0 := .int .i64 (f p0 x)) (u1 := .int .i64 (g p1 y)) t0c0 t0c1
     have NK := Lib.hid (show Keeps w [(w.heap.size, 0, .int .i64 (foldS f g (a, b) (l.take (k + 1))).1), (w.heap.size, 1, .int .i64 (foldS f g (a, b) (l.take (k + 1))).2), (w.heap.size + 1, 0, .int .i64 0), (w.heap.size + 1, 1, .int .i64 0)] ((w6.setCell ⟨w.heap.size, 0, none⟩ (.int .i64 (f p0 x))).setCell ⟨w.heap.size, 1, none⟩ (.int .i64 (g p1 y))) from by
      rw [FN.out]
      exact ⟨hHeld.1, ⟨by simpa using t0z0, d0, by simpa using t0f0⟩, ⟨by simpa using t0z1, d1, by simpa using t0f1⟩, ⟨kz0, kc0, kf0⟩, ⟨kz1, kc1, kf1⟩, trivial⟩)
     go_wp2_with fail
     go_roundw
     case rel => exact ⟨k + 1, by simp, by omega, BN, NK.out⟩
     case measure => simp [intOf]; omega
  ·have BT : badS l = false := by have := hT.out; rwa [List.take_of_length_le (by omega)] at this
   have FT : foldS f g (a, b) (l.take k) = foldS f g (a, b) l := by rw [List.take_of_length_le (by omega)]
   have HR := hR.out
   rw [BT, ← FT] at HR
   replace HR := Lib.hid HR
   clear hT BT FT hR
   generalize foldS f g (a, b) (l.take k) = p at *
   obtain ⟨p0, p1⟩ := p
   simp only at kc0 kc1 HR
   have i1 : ¬ (k : Int) < (l.length : Int) := by omega
   go_wp2_with fail
   obtain ⟨d0, d1⟩ := set2 (W := wr) (B := w.heap.size + 1) (u0 := .int .i64 p0) (u1 := .int .i64 p1) kc2 kc3
   refine bodyPost_ret (v := .tuple #[spV p0 p1, .int .i64 0]) (by simp [results, Tryz.results258, go_sem, d0, d1]) rfl ?_
   exact ⟨by rw [HR.out]; rfl, by first | (with_reducible exact hHeld.1) | (have hB := hHeld.1; have hz := hB.size; go_grown)⟩
end Go.Proofs.YtcfidimnbamnkaaGreat

/-
 Layer 4: what rows of spans come to: Join, Meet, Least, Most. Conditions: those written at each fact.
-/
namespace Go.Proofs.YtcfidimnbamnkaaGreat
open Go.RowKit

def accS (f g : Int → Int → Int) (l : List (Int × Int)) : Int × Int := match l with | [] => (0, 0) | s :: t => foldS f g s (s :: t)
def resS (f g : Int → Int → Int) (l : List (Int × Int)) : Value :=
 if l = [] then .tuple #[spV 0 0, .int .i64 9] else if badS l then .tuple #[spV 0 0, .int .i64 140] else .tuple #[spV (accS f g l).1 (accS f g l).2, .int .i64 0]
set_option maxRecDepth 100000 in
set_option maxHeartbeats 2000000 in
theorem some_join (f g : Int → Int → Int) (hF : ∀ a b c d W, Calls Tryz.prog 250 #[spV a b, spV c d] W (Ret W (spV (f a c) (g b d)))) (l : List (Int × Int)) (hl : l.length ≤ 10000000) (v : Value) (w : World) (h : ReadsS w v l) :
  Calls Tryz.prog 249 #[v, .func (.func 250) #[] #[]] w (Ret w (resS f g l)) := by
 obtain ⟨R, hR⟩ : ∃ R, R = resS f g l := ⟨_, rfl⟩
 rw [← hR]
 cases l with
 | nil =>
  obtain ⟨A, c, rfl, hk⟩ := h
  replace hR := Lib.hid hR
  clear hk hF
  go_enter Tryz.func249, Tryz.ntmps249
  go_wp2_with fail
  go_returns
  exact ⟨by rw [hR.out]; rfl, by go_grown⟩
 | cons s t =>
  obtain ⟨x, y⟩ := s
  have TH := fun W (k : ReadsS W v ((x, y) :: t)) R hR => through_join f g hF ((x, y) :: t) hl x y v W k R hR
  have HR : R = if badS ((x, y) :: t) then .tuple #[spV 0 0, .int .i64 140] else .tuple #[spV (foldS f g (x, y) ((x, y) :: t)).1 (foldS f g (x, y) ((x, y) :: t)).2, .int .i64 0] := hR
  have HS := h
  obtain ⟨A, c, rfl, hk⟩ := h
  obtain ⟨bb, off, rfl, hbw, hc1, hc2⟩ := hk 0 _ rfl
  simp only [Nat.zero_mul, Nat.add_zero] at hc1 hc2
  clear hk hF hR
  have EO := Lib.hid (fun W => endsOf_any x y W)
  replace HS := Lib.hid HS
  obtain ⟨p, hp⟩ : ∃ p, p = foldS f g (x, y) ((x, y) :: t) := ⟨_, rfl⟩
  rw [← hp] at HR TH
  clear hp
  obtain ⟨n, hn⟩ : ∃ n, n = ((x, y) :: t).length := ⟨_, rfl⟩
  have n1 : ((n : Int) == 0) = false := by rw [beq_eq_false_iff_ne]; rw [List.length_cons] at hn; omega
  have n2 : 0 < n := by rw [List.length_cons] at hn; omega
  rw [← hn] at HS hl
  rw [← hn]
  rw [← hn] at TH
  clear hn
  obtain ⟨p0, p1⟩ := p
  obtain ⟨q0, q1, cd, hq⟩ : ∃ q0 q1 cd, R = .tuple #[spV q0 q1, .int .i64 cd] := by
   rw [HR]
   cases badS ((x, y) :: t)
   ·exact ⟨_, _, _, rfl⟩
   ·exact ⟨_, _, _, rfl⟩
  rw [← HR] at TH
  clear HR
  subst hq
  have ES := Lib.hid (fun W => espan_any q0 q1 W)
  ·skip
   have TH := Lib.hid TH
   go_enter Tryz.func249, Tryz.ntmps249
   go_wp2_with fail
   refine (EO.out _).mono ?_
   rintro en w1 ⟨rfl, hb1⟩
   have hHeld : Keeps w [(w.heap.size, 0, .int .i64 0), (w.heap.size, 1, .int .i64 0)] w1 := Keeps.next (by refine ⟨by go_grown, ?_⟩; simp [Cells, go_sem]) hb1
   clear hb1
   go_wp2_with fail
   refine (TH.out _ (HS.out.below hHeld.1) _ rfl).mono ?_
   rintro en w2 ⟨rfl, hb2⟩
   replace hHeld := hHeld.next hb2
   clear hb2
   go_wp2_with fail
   refine (ES.out _).mono ?_
   rintro en w3 ⟨rfl, hb3⟩
   replace hHeld := (hHeld.alloc (.cells #[.int .i64 q0, .int .i64 q1] 295)).next hb3
   clear hb3
   obtain ⟨⟨kz0, kc0, kf0⟩, ⟨kz1, kc1, kf1⟩, _⟩ := hHeld.2
   go_wp2_with fail
   obtain ⟨d0, d1⟩ := set2 (W := w3) (B := w.heap.size) (u0 := .int .i64 q0) (u1 := .int .i64 q1) kc0 kc1
   refine bodyPost_ret (v := .tuple #[spV q0 q1, .int .i64 cd]) (by simp [results, Tryz.results249, go_sem, d0, d1]) rfl ?_
   exact ⟨rfl, by first | (with_reducible exact hHeld.1) | (have hB := hHeld.1; have hz := hB.size; go_grown)⟩
theorem resS_form (f g : Int → Int → Int) (l : List (Int × Int)) : ∃ q0 q1 cd, resS f g l = .tuple #[spV q0 q1, .int .i64 cd] := by
 unfold resS
 split
 ·exact ⟨_, _, _, rfl⟩
 ·split
  ·exact ⟨_, _, _, rfl⟩
  ·exact ⟨_, _, _, rfl⟩
theorem joinR_any (l : List (Int × Int)) (hl : l.length ≤ 10000000) (v : Value) (w : World) (h : ReadsS w v l) : Calls Tryz.prog 237 #[v] w (Ret w (resS min max l)) := by
 have SO := fun W k => some_join min max (fun a b c d W => ejoin_any a b c d W) l hl v W k
 obtain ⟨q0, q1, cd, hq⟩ := resS_form min max l
 rw [hq] at SO ⊢
 clear hq
 obtain ⟨A, n, c, rfl⟩ : ∃ A n c, v = .slice A n c := by obtain ⟨A, c, e, _⟩ := h; exact ⟨_, _, _, e⟩
 replace SO := Lib.hid SO
 replace h := Lib.hid h
 go_enter Tryz.func237, Tryz.ntmps237
 go_wp2_with fail
 refine (SO.out _ (h.out.below (by go_grown))).mono ?_
 rintro en w1 ⟨rfl, hb1⟩
 have hHeld : Keeps w [(w.heap.size, 0, .int .i64 0), (w.heap.size, 1, .int .i64 0)] w1 := Keeps.next (by refine ⟨by go_grown, ?_⟩; simp [Cells, go_sem]) hb1
 clear hb1
 obtain ⟨⟨kz0, kc0, kf0⟩, ⟨kz1, kc1, kf1⟩, _⟩ := hHeld.2
 go_wp2_with fail
 obtain ⟨d0, d1⟩ := set2 (W := w1) (B := w.heap.size) (u0 := .int .i64 q0) (u1 := .int .i64 q1) kc0 kc1
 refine bodyPost_ret (v := .tuple #[spV q0 q1, .int .i64 cd]) (by simp [results, Tryz.results237, go_sem, d0, d1]) rfl ?_
 exact ⟨rfl, by first | (with_reducible exact hHeld.1) | (have hB := hHeld.1; have hz := hB.size; go_grown)⟩
end Go.Proofs.YtcfidimnbamnkaaGreat
