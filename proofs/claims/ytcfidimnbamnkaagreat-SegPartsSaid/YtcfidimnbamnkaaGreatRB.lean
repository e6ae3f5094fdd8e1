/-
 The document's own answers, fourteenth part: how often a number has another one, rounded down, and what is left. Conditions: those written at each fact.
-/
import Derived.Test.YtcfidimnbamnkaaGreatKitV
import Derived.Test.YtcfidimnbamnkaaGreatKitW
import Derived.Maps.RangeWalk
import Derived.Test.YtcfidimnbamnkaaGreatRA
import Derived.Test.YtcfidimnbamnkaaGreatKitR
namespace Go.Proofs.YtcfidimnbamnkaaGreat
open Go.RowKit

def RetNN (w : World) (q r : Nat) (e : Ending) (w' : World) : Prop := ∃ A n c A' c', e = .returned (.tuple #[.slice A n c, .slice A' (sizeL r).length c']) ∧ Below w.heap.size w w' ∧ Num w' (.slice A n c) q ∧ Num w' (.slice A' (sizeL r).length c') r
theorem retNN_of {w : World} {q r : Nat} {e : Ending} {w' : World} (h : GaveP w q r e w') : RetNN w q r e w' := by
 obtain ⟨u, v, rfl, hb, hq, hr⟩ := h
 obtain ⟨A, c, rfl, hc, hk⟩ := hq
 obtain ⟨A', c', rfl, hc', hk'⟩ := hr
 exact ⟨A, _, c, A', c', rfl, hb, ⟨A, c, rfl, hc, hk⟩, ⟨A', c', rfl, hc', hk'⟩⟩
def RetZZ (w : World) (x y : Int) (e : Ending) (w' : World) : Prop := ∃ b A n c b' A' n' c', e = .returned (.tuple #[.agg #[.bool b, .slice A n c], .agg #[.bool b', .slice A' n' c']]) ∧ Below w.heap.size w w' ∧
 NumZ w' (.agg #[.bool b, .slice A n c]) x ∧ NumZ w' (.agg #[.bool b', .slice A' n' c']) y

set_option maxRecDepth 100000 in
set_option maxHeartbeats 4000000 in
theorem div_plain (p p' : Bool) (A A' : Option Addr) (n c n' c' Q R : Nat) (x y : Int) (hp : (p && decide (0 < (sizeL R).length)) = false) (w : World)
  (PT : ∀ W, Below w.heap.size w W → Calls Tryz.prog 165 #[.slice A n c, .slice A' n' c'] W (RetNN W Q R))
  (M1 : ∀ u W, Num W u Q → Calls Tryz.prog 135 #[.bool p, u] W (RetZ W x)) (M2 : ∀ u W, Num W u R → Calls Tryz.prog 135 #[.bool false, u] W (RetZ W y)) :
  Calls Tryz.prog 118 #[.agg #[.bool p, .slice A n c], .agg #[.bool p', .slice A' n' c']] w (RetZZ w x y) := by
 replace PT := Lib.hid PT
 replace M1 := Lib.hid M1
 replace M2 := Lib.hid M2
 obtain ⟨lr, hlr⟩ : ∃ lr, (sizeL R).length = lr := ⟨_, rfl⟩
 have key : p = false ∨ p = true ∧ lr = 0 := by
  rw [hlr] at hp
  cases p
  ·exact Or.inl rfl
  ·right
   simp at hp
   exact ⟨rfl, by omega⟩
 replace hlr := Lib.hid hlr
 clear hp
 rcases key with rfl | ⟨rfl, rfl⟩
 ·skip
  go_enter Tryz.func118, Tryz.ntmps118
  go_wp2_with fail
  refine (PT.out _ ?_).mono ?_
  ·exact below_thru (below_thru (below_thru (below_alloc w _) (below_alloc _ _)) (below_alloc _ _)) (below_alloc _ _)
  rintro e w1 ⟨A1, n1, c1, A2, c2, rfl, hb1, hq1, hr1⟩
  rw [hlr.out] at hr1 ⊢
  have hHeld : Keeps w [(w.heap.size, 0, .bool false), (w.heap.size + 1 + 1, 0, .bool false), (w.heap.size + 1 + 1, 1, .slice none 0 0), (w.heap.size + 1 + 1 + 1, 0, .bool false), (w.heap.size + 1 + 1 + 1, 1, .slice none 0 0)] w1 := Keeps.next (by exact ⟨below_thru (below_thru (below_thru (below_alloc w _) (below_alloc _ _)) (below_alloc _ _)) (below_alloc _ _), ⟨by simp; omega, by simp [go_sem], by simp [go_sem]⟩, ⟨by simp, by simp [go_sem], by simp [go_sem]⟩, ⟨by simp, by simp [go_sem], by simp [go_sem]⟩, ⟨by simp, by simp [go_sem], by simp [go_sem]⟩, ⟨by simp, by simp [go_sem], by simp [go_sem]⟩, trivial⟩) hb1
  replace hq1 := Lib.hid hq1
  replace hr1 := Lib.hid hr1
  clear hb1
  obtain ⟨⟨kz0,kc0,kf0⟩,⟨kz1,kc1,kf1⟩,⟨kz2,kc2,kf2⟩,⟨kz3,kc3,kf3⟩,⟨kz4,kc4,kf4⟩,_⟩ := hHeld.2
  go_wp2_with fail
  refine (M1.out _ _ hq1.out).mono ?_
  rintro e w2 ⟨b6, A6, n6, c6, rfl, hb, hz6⟩
  have hr2 := Lib.hid (hr1.out.below hb)
  replace hz6 := Lib.hid hz6
  replace hHeld := hHeld.next hb
  clear hb kz0 kc0 kf0 kz1 kc1 kf1 kz2 kc2 kf2 kz3 kc3 kf3 kz4 kc4 kf4 hr1 hq1
  obtain ⟨⟨kz0,kc0,kf0⟩,⟨kz1,kc1,kf1⟩,⟨kz2,kc2,kf2⟩,⟨kz3,kc3,kf3⟩,⟨kz4,kc4,kf4⟩,_⟩ := hHeld.2
  go_wp2_with fail
  refine (M2.out _ _ hr2.out).mono ?_
  rintro e w3 ⟨b7, A7, n7, c7, rfl, hb, hz7⟩
  have hz63 := Lib.hid (hz6.out.below hb)
  replace hz7 := Lib.hid hz7
  replace hHeld := hHeld.next hb
  clear hb kz0 kc0 kf0 kz1 kc1 kf1 kz2 kc2 kf2 kz3 kc3 kf3 kz4 kc4 kf4 hr2 hz6
  obtain ⟨⟨kz0,kc0,kf0⟩,⟨kz1,kc1,kf1⟩,⟨kz2,kc2,kf2⟩,⟨kz3,kc3,kf3⟩,⟨kz4,kc4,kf4⟩,_⟩ := hHeld.2
  go_wp2_with fail
  obtain ⟨d0, d1⟩ := set2 (W := w3) (B := w.heap.size + 1 + 1) (u0 := .bool b6) (u1 := .slice A6 n6 c6) kc1 kc2
  have o0 : ((w3.setCell ⟨w.heap.size + 1 + 1, 0, none⟩ (.bool b6)).setCell ⟨w.heap.size + 1 + 1, 1, none⟩ (.slice A6 n6 c6)).cell? ⟨w.heap.size + 1 + 1 + 1, 0, none⟩ = some (.bool false) := off_cell (by simp) (off_cell (by simp) kc3)
  have o1 : ((w3.setCell ⟨w.heap.size + 1 + 1, 0, none⟩ (.bool b6)).setCell ⟨w.heap.size + 1 + 1, 1, none⟩ (.slice A6 n6 c6)).cell? ⟨w.heap.size + 1 + 1 + 1, 1, none⟩ = some (.slice none 0 0) := off_cell (by simp) (off_cell (by simp) kc4)
  obtain ⟨d2, d3⟩ := set2 (u0 := .bool b7) (u1 := .slice A7 n7 c7) o0 o1
  have d4 := off_cell (p := ⟨w.heap.size + 1 + 1 + 1, 1, none⟩) (u := .slice A7 n7 c7) (by simp) (off_cell (p := ⟨w.heap.size + 1 + 1 + 1, 0, none⟩) (u := .bool b7) (by simp) d0)
  have d5 := off_cell (p := ⟨w.heap.size + 1 + 1 + 1, 1, none⟩) (u := .slice A7 n7 c7) (by simp) (off_cell (p := ⟨w.heap.size + 1 + 1 + 1, 0, none⟩) (u := .bool b7) (by simp) d1)
  refine bodyPost_ret (v := .tuple #[.agg #[.bool b6, .slice A6 n6 c6], .agg #[.bool b7, .slice A7 n7 c7]]) (by simp [results, Tryz.results118, go_sem, d2, d3, d4, d5]) rfl ?_
  exact ⟨b6, A6, n6, c6, b7, A7, n7, c7, rfl, (((hHeld.1.setCell (p := ⟨w.heap.size + 1 + 1, 0, none⟩) (by simp; omega) _).setCell (p := ⟨w.heap.size + 1 + 1, 1, none⟩) (by simp; omega) _).setCell (p := ⟨w.heap.size + 1 + 1 + 1, 0, none⟩) (by simp; omega) _).setCell (p := ⟨w.heap.size + 1 + 1 + 1, 1, none⟩) (by simp; omega) _,
   (hz63.out.set2 kc1 kc2 _ _).set2 o0 o1 _ _, (hz7.out.set2 kc1 kc2 _ _).set2 o0 o1 _ _⟩
 ·skip
  go_enter Tryz.func118, Tryz.ntmps118
  go_wp2_with fail
  refine (PT.out _ ?_).mono ?_
  ·exact below_thru (below_thru (below_thru (below_alloc w _) (below_alloc _ _)) (below_alloc _ _)) (below_alloc _ _)
  rintro e w1 ⟨A1, n1, c1, A2, c2, rfl, hb1, hq1, hr1⟩
  rw [hlr.out] at hr1 ⊢
  have hHeld : Keeps w [(w.heap.size, 0, .bool true), (w.heap.size + 1 + 1, 0, .bool false), (w.heap.size + 1 + 1, 1, .slice none 0 0), (w.heap.size + 1 + 1 + 1, 0, .bool false), (w.heap.size + 1 + 1 + 1, 1, .slice none 0 0)] w1 := Keeps.next (by exact ⟨below_thru (below_thru (below_thru (below_alloc w _) (below_alloc _ _)) (below_alloc _ _)) (below_alloc _ _), ⟨by simp; omega, by simp [go_sem], by simp [go_sem]⟩, ⟨by simp, by simp [go_sem], by simp [go_sem]⟩, ⟨by simp, by simp [go_sem], by simp [go_sem]⟩, ⟨by simp, by simp [go_sem], by simp [go_sem]⟩, ⟨by simp, by simp [go_sem], by simp [go_sem]⟩, trivial⟩) hb1
  replace hq1 := Lib.hid hq1
  replace hr1 := Lib.hid hr1
  clear hb1
  obtain ⟨⟨kz0,kc0,kf0⟩,⟨kz1,kc1,kf1⟩,⟨kz2,kc2,kf2⟩,⟨kz3,kc3,kf3⟩,⟨kz4,kc4,kf4⟩,_⟩ := hHeld.2
  go_wp2_with fail
  refine (M1.out _ _ hq1.out).mono ?_
  rintro e w2 ⟨b6, A6, n6, c6, rfl, hb, hz6⟩
  have hr2 := Lib.hid (hr1.out.below hb)
  replace hz6 := Lib.hid hz6
  replace hHeld := hHeld.next hb
  clear hb kz0 kc0 kf0 kz1 kc1 kf1 kz2 kc2 kf2 kz3 kc3 kf3 kz4 kc4 kf4 hr1 hq1
  obtain ⟨⟨kz0,kc0,kf0⟩,⟨kz1,kc1,kf1⟩,⟨kz2,kc2,kf2⟩,⟨kz3,kc3,kf3⟩,⟨kz4,kc4,kf4⟩,_⟩ := hHeld.2
  go_wp2_with fail
  refine (M2.out _ _ hr2.out).mono ?_
  rintro e w3 ⟨b7, A7, n7, c7, rfl, hb, hz7⟩
  have hz63 := Lib.hid (hz6.out.below hb)
  replace hz7 := Lib.hid hz7
  replace hHeld := hHeld.next hb
  clear hb kz0 kc0 kf0 kz1 kc1 kf1 kz2 kc2 kf2 kz3 kc3 kf3 kz4 kc4 kf4 hr2 hz6
  obtain ⟨⟨kz0,kc0,kf0⟩,⟨kz1,kc1,kf1⟩,⟨kz2,kc2,kf2⟩,⟨kz3,kc3,kf3⟩,⟨kz4,kc4,kf4⟩,_⟩ := hHeld.2
  go_wp2_with fail
  obtain ⟨d0, d1⟩ := set2 (W := w3) (B := w.heap.size + 1 + 1) (u0 := .bool b6) (u1 := .slice A6 n6 c6) kc1 kc2
  have o0 : ((w3.setCell ⟨w.heap.size + 1 + 1, 0, none⟩ (.bool b6)).setCell ⟨w.heap.size + 1 + 1, 1, none⟩ (.slice A6 n6 c6)).cell? ⟨w.heap.size + 1 + 1 + 1, 0, none⟩ = some (.bool false) := off_cell (by simp) (off_cell (by simp) kc3)
  have o1 : ((w3.setCell ⟨w.heap.size + 1 + 1, 0, none⟩ (.bool b6)).setCell ⟨w.heap.size + 1 + 1, 1, none⟩ (.slice A6 n6 c6)).cell? ⟨w.heap.size + 1 + 1 + 1, 1, none⟩ = some (.slice none 0 0) := off_cell (by simp) (off_cell (by simp) kc4)
  obtain ⟨d2, d3⟩ := set2 (u0 := .bool b7) (u1 := .slice A7 n7 c7) o0 o1
  have d4 := off_cell (p := ⟨w.heap.size + 1 + 1 + 1, 1, none⟩) (u := .slice A7 n7 c7) (by simp) (off_cell (p := ⟨w.heap.size + 1 + 1 + 1, 0, none⟩) (u := .bool b7) (by simp) d0)
  have d5 := off_cell (p := ⟨w.heap.size + 1 + 1 + 1, 1, none⟩) (u := .slice A7 n7 c7) (by simp) (off_cell (p := ⟨w.heap.size + 1 + 1 + 1, 0, none⟩) (u := .bool b7) (by simp) d1)
  refine bodyPost_ret (v := .tuple #[.agg #[.bool b6, .slice A6 n6 c6], .agg #[.bool b7, .slice A7 n7 c7]]) (by simp [results, Tryz.results118, go_sem, d2, d3, d4, d5]) rfl ?_
  exact ⟨b6, A6, n6, c6, b7, A7, n7, c7, rfl, (((hHeld.1.setCell (p := ⟨w.heap.size + 1 + 1, 0, none⟩) (by simp; omega) _).setCell (p := ⟨w.heap.size + 1 + 1, 1, none⟩) (by simp; omega) _).setCell (p := ⟨w.heap.size + 1 + 1 + 1, 0, none⟩) (by simp; omega) _).setCell (p := ⟨w.heap.size + 1 + 1 + 1, 1, none⟩) (by simp; omega) _,
   (hz63.out.set2 kc1 kc2 _ _).set2 o0 o1 _ _, (hz7.out.set2 kc1 kc2 _ _).set2 o0 o1 _ _⟩
end Go.Proofs.YtcfidimnbamnkaaGreat

/-
 The document's own answers, fifteenth part: Div, whatever the number's sign. Conditions: those written at each fact.
-/
namespace Go.Proofs.YtcfidimnbamnkaaGreat
open Go.RowKit

set_option maxRecDepth 100000 in
set_option maxHeartbeats 4000000 in
theorem divZ_up (p' : Bool) (A A' : Option Addr) (n c n' c' Q R m : Nat) (x y : Int) (hp : 0 < (sizeL R).length) (w : World)
  (PT : ∀ W, Below w.heap.size w W → Calls Tryz.prog 165 #[.slice A n c, .slice A' n' c'] W (RetNN W Q R))
  (S1 : ∀ W, Calls Tryz.prog 134 #[.int .u64 1] W (RetN W 1)) (PL : ∀ u v W, Num W u Q → Num W v 1 → Calls Tryz.prog 138 #[u, v] W (RetN W (Q + 1)))
  (M1 : ∀ u W, Num W u (Q + 1) → Calls Tryz.prog 135 #[.bool true, u] W (RetZ W x))
  (MN : ∀ u W, Below w.heap.size w W → Num W u R → Calls Tryz.prog 136 #[.slice A' n' c', u] W (RetN W m))
  (M2 : ∀ u W, Num W u m → Calls Tryz.prog 135 #[.bool false, u] W (RetZ W y)) :
  Calls Tryz.prog 118 #[.agg #[.bool true, .slice A n c], .agg #[.bool p', .slice A' n' c']] w (RetZZ w x y) := by
 replace PT := Lib.hid PT
 replace S1 := Lib.hid S1
 replace PL := Lib.hid PL
 replace M1 := Lib.hid M1
 replace MN := Lib.hid MN
 replace M2 := Lib.hid M2
 obtain ⟨lr, hlr⟩ : ∃ lr, (sizeL R).length = lr := ⟨_, rfl⟩
 have hp2 : (0 : Int) < (lr : Int) := by omega
 have hp3 : 0 < lr := by omega
 replace hlr := Lib.hid hlr
 clear hp
 go_enter Tryz.func118, Tryz.ntmps118
 go_wp2_with fail
 refine (PT.out _ ?_).mono ?_
 ·exact below_thru (below_thru (below_thru (below_alloc w _) (below_alloc _ _)) (below_alloc _ _)) (below_alloc _ _)
 rintro e w1 ⟨A1, n1, c1, A2, c2, rfl, hb1, hq1, hr1⟩
 rw [hlr.out] at hr1 ⊢
 have hHeld : Keeps w [(w.heap.size, 0, .bool true), (w.heap.size + 1, 1, .slice A' n' c'), (w.heap.size + 1 + 1, 0, .bool false), (w.heap.size + 1 + 1, 1, .slice none 0 0), (w.heap.size + 1 + 1 + 1, 0, .bool false), (w.heap.size + 1 + 1 + 1, 1, .slice none 0 0)] w1 := Keeps.next (by exact ⟨below_thru (below_thru (below_thru (below_alloc w _) (below_alloc _ _)) (below_alloc _ _)) (below_alloc _ _), ⟨by simp <;> omega, by simp [go_sem], by simp [go_sem]⟩, ⟨by simp <;> omega, by simp [go_sem], by simp [go_sem]⟩, ⟨by simp, by simp [go_sem], by simp [go_sem]⟩, ⟨by simp, by simp [go_sem], by simp [go_sem]⟩, ⟨by simp, by simp [go_sem], by simp [go_sem]⟩, ⟨by simp, by simp [go_sem], by simp [go_sem]⟩, trivial⟩) hb1
 replace hq1 := Lib.hid hq1
 replace hr1 := Lib.hid hr1
 have HB1 := Lib.hid hHeld.1
 clear hb1
 obtain ⟨⟨kz0,kc0,kf0⟩,⟨kz1,kc1,kf1⟩,⟨kz2,kc2,kf2⟩,⟨kz3,kc3,kf3⟩,⟨kz4,kc4,kf4⟩,⟨kz5,kc5,kf5⟩,_⟩ := hHeld.2
 have MN1 := Lib.hid (fun (u : Value) (W : World) L (k : Num W u R) (hk : Keeps w L W) => MN.out u W hk.1 k)
 go_wp2_with fail
 refine region_keepsB (w0 := w) (L := [(w.heap.size + 1, 1, .slice A' n' c')]) (M := [(w.heap.size + 1 + 1, 0, .bool false), (w.heap.size + 1 + 1, 1, .slice none 0 0), (w.heap.size + 1 + 1 + 1, 0, .bool false), (w.heap.size + 1 + 1 + 1, 1, .slice none 0 0)]) (by kernel_rfl) ⟨hHeld.1, ⟨kz1, kc1, kf1⟩, trivial⟩ ⟨hHeld.1, ⟨kz2, kc2, kf2⟩, ⟨kz3, kc3, kf3⟩, ⟨kz4, kc4, kf4⟩, ⟨kz5, kc5, kf5⟩, trivial⟩ (fun hHeld0 hT0 => ?_)
 refine tv 0 23 rfl rfl ?_
 try go_frame
 refine tv 4 27 rfl rfl ?_
 try go_frame
 refine tk 5 28 rfl rfl ?_ ?_ ?_
 rotate_left
 ·intro wq hSw; obtain ⟨⟨qz0, qc0, qf0⟩, _⟩ := hSw.2; go_simp; (try with_reducible rfl)
 try go_frame
 refine tv 6 29 rfl rfl ?_
 try go_frame
 refine tw 1 rfl fun K hK => ?_
 go_simp
 (first | ((with_reducible refine (S1.out _).mono ?_); rintro e w5 ⟨A5, n5, c5, rfl, hb, hn5⟩; have hq5 := hq1.out.below (undrew hb); have hr5 := hr1.out.below (undrew hb)) | ((with_reducible refine (PL.out _ _ _ hq5 (by assumption)).mono ?_); rintro e w6 ⟨A6, n6, c6, rfl, hb, hn6⟩; have hr6 := hr5.below hb) | ((with_reducible refine (M1.out _ _ (by assumption)).mono ?_); rintro e w7 ⟨b7, A7, n7, c7, rfl, hb, hz7⟩; have hr7 := hr6.below hb) | ((with_reducible refine (MN1.out _ _ _ hr7 (by assumption)).mono ?_); rintro e w8 ⟨A8, n8, c8, rfl, hb, hn8⟩; have hz78 := hz7.below hb) | ((with_reducible refine (M2.out _ _ (by assumption)).mono ?_); rintro e w9 ⟨b9, A9, n9, c9, rfl, hb, hz9⟩; have hz79 := hz78.below hb))
 refine hK.out _ _ (hHeld0.next hb) (fun hHeld1 => ?_)
 replace hT0 := hT0.next hb
 clear hK K; try clear hb
 try go_frame
 refine tw 2 rfl fun K hK => ?_
 go_simp
 (first | ((with_reducible refine (S1.out _).mono ?_); rintro e w5 ⟨A5, n5, c5, rfl, hb, hn5⟩; have hq5 := hq1.out.below (undrew hb); have hr5 := hr1.out.below (undrew hb)) | ((with_reducible refine (PL.out _ _ _ hq5 (by assumption)).mono ?_); rintro e w6 ⟨A6, n6, c6, rfl, hb, hn6⟩; have hr6 := hr5.below hb) | ((with_reducible refine (M1.out _ _ (by assumption)).mono ?_); rintro e w7 ⟨b7, A7, n7, c7, rfl, hb, hz7⟩; have hr7 := hr6.below hb) | ((with_reducible refine (MN1.out _ _ _ hr7 (by assumption)).mono ?_); rintro e w8 ⟨A8, n8, c8, rfl, hb, hn8⟩; have hz78 := hz7.below hb) | ((with_reducible refine (M2.out _ _ (by assumption)).mono ?_); rintro e w9 ⟨b9, A9, n9, c9, rfl, hb, hz9⟩; have hz79 := hz78.below hb))
 refine hK.out _ _ (hHeld1.next hb) (fun hHeld2 => ?_)
 replace hT0 := hT0.next hb
 clear hK K; try clear hb
 try go_frame
 refine tw 3 rfl fun K hK => ?_
 go_simp
 (first | ((with_reducible refine (S1.out _).mono ?_); rintro e w5 ⟨A5, n5, c5, rfl, hb, hn5⟩; have hq5 := hq1.out.below (undrew hb); have hr5 := hr1.out.below (undrew hb)) | ((with_reducible refine (PL.out _ _ _ hq5 (by assumption)).mono ?_); rintro e w6 ⟨A6, n6, c6, rfl, hb, hn6⟩; have hr6 := hr5.below hb) | ((with_reducible refine (M1.out _ _ (by assumption)).mono ?_); rintro e w7 ⟨b7, A7, n7, c7, rfl, hb, hz7⟩; have hr7 := hr6.below hb) | ((with_reducible refine (MN1.out _ _ _ hr7 (by assumption)).mono ?_); rintro e w8 ⟨A8, n8, c8, rfl, hb, hn8⟩; have hz78 := hz7.below hb) | ((with_reducible refine (M2.out _ _ (by assumption)).mono ?_); rintro e w9 ⟨b9, A9, n9, c9, rfl, hb, hz9⟩; have hz79 := hz78.below hb))
 refine hK.out _ _ (hHeld2.next hb) (fun hHeld3 => ?_)
 replace hT0 := hT0.next hb
 clear hK K; try clear hb
 try go_frame
 refine tw 7 rfl fun K hK => ?_
 go_simp
 (first | ((with_reducible refine (S1.out _).mono ?_); rintro e w5 ⟨A5, n5, c5, rfl, hb, hn5⟩; have hq5 := hq1.out.below (undrew hb); have hr5 := hr1.out.below (undrew hb)) | ((with_reducible refine (PL.out _ _ _ hq5 (by assumption)).mono ?_); rintro e w6 ⟨A6, n6, c6, rfl, hb, hn6⟩; have hr6 := hr5.below hb) | ((with_reducible refine (M1.out _ _ (by assumption)).mono ?_); rintro e w7 ⟨b7, A7, n7, c7, rfl, hb, hz7⟩; have hr7 := hr6.below hb) | ((with_reducible refine (MN1.out _ _ _ hr7 (by assumption)).mono ?_); rintro e w8 ⟨A8, n8, c8, rfl, hb, hn8⟩; have hz78 := hz7.below hb) | ((with_reducible refine (M2.out _ _ (by assumption)).mono ?_); rintro e w9 ⟨b9, A9, n9, c9, rfl, hb, hz9⟩; have hz79 := hz78.below hb))
 refine hK.out _ _ (hHeld3.next hb) (fun hHeld4 => ?_)
 replace hT0 := hT0.next hb
 clear hK K; try clear hb
 try go_frame
 refine tw 8 rfl fun K hK => ?_
 go_simp
 (first | ((with_reducible refine (S1.out _).mono ?_); rintro e w5 ⟨A5, n5, c5, rfl, hb, hn5⟩; have hq5 := hq1.out.below (undrew hb); have hr5 := hr1.out.below (undrew hb)) | ((with_reducible refine (PL.out _ _ _ hq5 (by assumption)).mono ?_); rintro e w6 ⟨A6, n6, c6, rfl, hb, hn6⟩; have hr6 := hr5.below hb) | ((with_reducible refine (M1.out _ _ (by assumption)).mono ?_); rintro e w7 ⟨b7, A7, n7, c7, rfl, hb, hz7⟩; have hr7 := hr6.below hb) | ((with_reducible refine (MN1.out _ _ _ hr7 (by assumption)).mono ?_); rintro e w8 ⟨A8, n8, c8, rfl, hb, hn8⟩; have hz78 := hz7.below hb) | ((with_reducible refine (M2.out _ _ (by assumption)).mono ?_); rintro e w9 ⟨b9, A9, n9, c9, rfl, hb, hz9⟩; have hz79 := hz78.below hb))
 refine hK.out _ _ (hHeld4.next hb) (fun hHeld5 => ?_)
 replace hT0 := hT0.next hb
 clear hK K; try clear hb
 try go_frame
 refine tw 9 rfl fun K hK => ?_
 obtain ⟨⟨t0z0,t0c0,t0f0⟩,⟨t0z1,t0c1,t0f1⟩,⟨t0z2,t0c2,t0f2⟩,⟨t0z3,t0c3,t0f3⟩,_⟩ := hT0.2; (try simp at t0z0); (try simp at t0c0); (try simp at t0f0); (try simp at t0z1); (try simp at t0c1); (try simp at t0f1); (try simp at t0z2); (try simp at t0c2); (try simp at t0f2); (try simp at t0z3); (try simp at t0c3); (try simp at t0f3)
 go_simp
 refine hK.out _ _ (by first | exact hHeld5.alloc _ | (repeat (first | (with_reducible exact hHeld5) | (with_reducible exact (Keeps.undrewR hHeld5)) | (refine Keeps.set ?_ (by simp <;> omega) (by simp <;> omega) _) | (with_reducible refine Keeps.drew ?_)))) (fun hHeld6 => ?_)
 clear hK K; try clear hb
 try go_frame
 refine tw 10 rfl fun K hK => ?_
 go_simp
 refine hK.out _ _ (by first | exact hHeld6.alloc _ | (repeat (first | (with_reducible exact hHeld6) | (with_reducible exact (Keeps.undrewR hHeld6)) | (refine Keeps.set ?_ (by simp <;> omega) (by simp <;> omega) _) | (with_reducible refine Keeps.drew ?_)))) (fun hHeld7 => ?_)
 clear hK K; try clear hb
 try go_frame
 refine wpAnyH_done (by kernel_rfl) ?_ _
 have hHeld := hHeld7
 obtain ⟨⟨kz0, kc0, kf0⟩, _⟩ := hHeld.2
 have e7 : NumZ w9 (.agg #[.bool b7, .slice A7 n7 c7]) x := hz79
 obtain ⟨d0, d1⟩ := set2 (W := w9) (B := w.heap.size + 1 + 1) (u0 := .bool b7) (u1 := .slice A7 n7 c7) t0c0 t0c1
 have o0 : ((w9.setCell ⟨w.heap.size + 1 + 1, 0, none⟩ (.bool b7)).setCell ⟨w.heap.size + 1 + 1, 1, none⟩ (.slice A7 n7 c7)).cell? ⟨w.heap.size + 1 + 1 + 1, 0, none⟩ = some (.bool false) := off_cell (by simp) (off_cell (by simp) t0c2)
 have o1 : ((w9.setCell ⟨w.heap.size + 1 + 1, 0, none⟩ (.bool b7)).setCell ⟨w.heap.size + 1 + 1, 1, none⟩ (.slice A7 n7 c7)).cell? ⟨w.heap.size + 1 + 1 + 1, 1, none⟩ = some (.slice none 0 0) := off_cell (by simp) (off_cell (by simp) t0c3)
 obtain ⟨d2, d3⟩ := set2 (u0 := .bool b9) (u1 := .slice A9 n9 c9) o0 o1
 have d4 := off_cell (p := ⟨w.heap.size + 1 + 1 + 1, 1, none⟩) (u := .slice A9 n9 c9) (by simp) (off_cell (p := ⟨w.heap.size + 1 + 1 + 1, 0, none⟩) (u := .bool b9) (by simp) d0)
 have d5 := off_cell (p := ⟨w.heap.size + 1 + 1 + 1, 1, none⟩) (u := .slice A9 n9 c9) (by simp) (off_cell (p := ⟨w.heap.size + 1 + 1 + 1, 0, none⟩) (u := .bool b9) (by simp) d1)
 have HE := Lib.hid hHeld.1
 clear hHeld kz0 kc0 kf0
 go_wp2_with fail
 refine bodyPost_ret (v := .tuple #[.agg #[.bool b7, .slice A7 n7 c7], .agg #[.bool b9, .slice A9 n9 c9]]) (by simp [results, Tryz.results118, go_sem, d2, d3, d4, d5]) rfl ?_
 exact ⟨b7, A7, n7, c7, b9, A9, n9, c9, rfl, HE.out, (e7.set2 t0c0 t0c1 _ _).set2 o0 o1 _ _, (hz9.set2 t0c0 t0c1 _ _).set2 o0 o1 _ _⟩

theorem floor_plain {x : Int} {m : Nat} (hm : 0 < m) (h : 0 ≤ x ∨ x.natAbs % m = 0) : (x / (m : Int)).natAbs = x.natAbs / m ∧ (x / (m : Int) < 0 ↔ x < 0 ∧ x.natAbs / m ≠ 0) ∧ x % (m : Int) = ((x.natAbs % m : Nat) : Int) := by
 by_cases hx : 0 ≤ x
 ·obtain ⟨u, rfl⟩ := Int.eq_ofNat_of_zero_le hx
  rw [Int.natAbs_natCast, ← Int.natCast_ediv, ← Int.natCast_emod, Int.natAbs_natCast]
  generalize u / m = q
  exact ⟨rfl, by omega, rfl⟩
 ·have h0 : x.natAbs % m = 0 := h.resolve_left hx
  obtain ⟨q, hq⟩ := Nat.dvd_of_mod_eq_zero h0
  have e : x = (m : Int) * -(q : Int) := by
   have : (x.natAbs : Int) = (m : Int) * q := by rw [hq]; simp
   rw [Int.mul_neg, ← this]
   omega
  have hm' : (m : Int) ≠ 0 := by omega
  rw [h0, hq, Nat.mul_div_cancel_left _ hm]
  rw [e, Int.mul_ediv_cancel_left _ hm', Int.mul_emod_right]
  refine ⟨by simp, ?_, rfl⟩
  have : x = -((m * q : Nat) : Int) := by rw [e, Int.mul_neg, Int.natCast_mul]
  have hq0 : q ≠ 0 := by rintro rfl; simp at this; omega
  have hmq : 0 < m * q := Nat.mul_pos hm (by omega)
  rw [← e]
  omega
theorem floor_upN {x : Int} {m : Nat} (hm : 0 < m) (hx : x < 0) (h : x.natAbs % m ≠ 0) : x / (m : Int) = -((x.natAbs / m + 1 : Nat) : Int) ∧ x % (m : Int) = ((m - x.natAbs % m : Nat) : Int) := by
 have dm := Nat.div_add_mod x.natAbs m
 have hr := Nat.mod_lt x.natAbs hm
 generalize x.natAbs / m = q at *
 generalize x.natAbs % m = r at *
 have e : x = ((m - r : Nat) : Int) + (m : Int) * -((q + 1 : Nat) : Int) := by
  have : (x.natAbs : Int) = (m : Int) * q + r := by rw [← dm]; simp
  rw [Int.mul_neg]
  have e2 : (m : Int) * ((q + 1 : Nat) : Int) = (m : Int) * q + m := by rw [Int.natCast_add, Int.mul_add]; simp
  rw [e2]
  omega
 have hm' : (m : Int) ≠ 0 := by omega
 rw [e, Int.add_mul_ediv_left _ _ hm', Int.add_mul_emod_self_left, Int.ediv_eq_zero_of_lt (by omega) (by omega), Int.emod_eq_of_lt (by omega) (by omega)]
 exact ⟨by omega, rfl⟩
theorem neg_abs (k : Nat) : (-((k : Nat) : Int)).natAbs = k := by rw [Int.natAbs_neg, Int.natAbs_natCast]
theorem neg_lt (k : Nat) : decide (-((k + 1 : Nat) : Int) < 0) = true := decide_eq_true (by omega)
theorem succ_ne (k : Nat) : decide (k + 1 ≠ 0) = true := decide_eq_true (by omega)
theorem divZ_any (x : Int) (m : Nat) (hm : 0 < m) (hx : (sizeL x.natAbs).length ≤ 3980) (hy : (sizeL m).length ≤ 3980) (v v' : Value) (w : World) (h : NumZ w v x) (h' : NumZ w v' (m : Int)) :
  Calls Tryz.prog 118 #[v, v'] w (RetZZ w (x / (m : Int)) (x % (m : Int))) := by
 obtain ⟨A, n, c, rfl, hn⟩ := h.parts
 obtain ⟨A', n', c', rfl, hn'⟩ := h'.parts
 rw [Int.natAbs_natCast] at hn'
 have PT := fun W (hb : Below w.heap.size w W) => (parts_any x.natAbs m hm (by omega) (by omega) _ _ W (hn.below hb) (hn'.below hb)).mono fun _ _ h => retNN_of h
 have lenq : (sizeL (x.natAbs / m)).length ≤ 3980 := Nat.le_trans (size_mono (Nat.div_le_self _ _)) hx
 by_cases g : 0 ≤ x ∨ x.natAbs % m = 0
 ·obtain ⟨e1, e2, e3⟩ := floor_plain hm g
  refine div_plain _ _ A A' n c n' c' (x.natAbs / m) (x.natAbs % m) _ _ ?_ w PT (fun u W k => made2_any (x / (m : Int)) _ _ e1 ?_ u W k) (fun u W k => made2_any (x % (m : Int)) false _ (by rw [e3, Int.natAbs_natCast]) ?_ u W k)
  ·rw [decide_eq_decide.2 (size_none (x := x.natAbs % m))]
   rcases g with g | g
   ·rw [decide_eq_false (by omega)]; rfl
   ·rw [decide_eq_false (show ¬ (x.natAbs % m ≠ 0) by omega), Bool.and_false]
  ·rw [Bool.eq_iff_iff]
   simp only [Bool.and_eq_true, decide_eq_true_eq]
   exact e2.symm
  ·rw [e3, sgn_nat]; rfl
 ·have gx : x < 0 := by omega
  have gr : x.natAbs % m ≠ 0 := fun e => g (Or.inr e)
  obtain ⟨e1, e2⟩ := floor_upN hm gx gr
  rw [decide_eq_true gx]
  have hr := Nat.mod_lt x.natAbs hm
  refine divZ_up _ A A' n c n' c' (x.natAbs / m) (x.natAbs % m) (m - x.natAbs % m) _ _ (size_none.2 gr) w PT (fun W => (size_any 1 (by decide) W).mono fun _ _ h => retN_of h.gave)
   (fun u v W k1 k2 => (plusN_any _ 1 (by omega) (by have := sizeL_length 1 1 (by decide); omega) u v W k1 k2).mono fun _ _ h => retN_of h.gave)
   (fun u W k => made2_any (x / (m : Int)) true _ (by rw [e1, neg_abs]) (by rw [e1, neg_lt, succ_ne]; rfl) u W k)
   (fun u W hb k => (minus_any m (x.natAbs % m) (by omega) (by omega) _ u W (hn'.below hb) k).mono fun _ _ h => retN_of h)
   (fun u W k => made2_any (x % (m : Int)) false _ (by rw [e2, Int.natAbs_natCast]) (by rw [e2, sgn_nat]; rfl) u W k)
end Go.Proofs.YtcfidimnbamnkaaGreat

/-
 Facts on worlds for regions that lay blocks of two cells, store into them and call: numbers and cells carried on. Conditions: those written at each fact.
-/
namespace Go.Proofs.YtcfidimnbamnkaaGreat
open Go.RowKit

theorem NumZ.alloc2 {w W : World} {L : List (Nat × Nat × Value)} {v : Value} {z : Int} {o : Obj} (h : NumZ W v z) (_ : Keeps w L (W.alloc o)) : NumZ (W.alloc o) v z := h.below (below_alloc W o)
theorem NumZ.store2 {w W : World} {L : List (Nat × Nat × Value)} {v : Value} {z : Int} {B n c : Nat} {b : Bool} {A : Option Addr} {u0 u1 : Value} (h : NumZ W v z) (_ : Keeps w L ((W.setCell ⟨B, 0, none⟩ u0).setCell ⟨B, 1, none⟩ u1))
  (h0 : W.cell? ⟨B, 0, none⟩ = some (.bool b)) (h1 : W.cell? ⟨B, 1, none⟩ = some (.slice A n c)) : NumZ ((W.setCell ⟨B, 0, none⟩ u0).setCell ⟨B, 1, none⟩ u1) v z := h.set2 h0 h1 u0 u1
end Go.Proofs.YtcfidimnbamnkaaGreat
