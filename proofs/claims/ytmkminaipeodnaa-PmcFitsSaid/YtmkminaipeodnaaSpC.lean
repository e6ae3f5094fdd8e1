/-
  Layer 4: what rows of spans come to: Join, Meet, Least, Most. Conditions: those written at each fact.
-/
import Derived.Test.YtmkminaipeodnaaSpB
namespace Go.Proofs.Ytmkminaipeodnaa
open Go.RowKit

/-- What some spans come to. -/
def accS (f g : Int → Int → Int) (l : List (Int × Int)) : Int × Int := match l with | [] => (0, 0) | s :: t => foldS f g s (s :: t)
/-- What is told of them. -/
def resS (f g : Int → Int → Int) (l : List (Int × Int)) : Value :=
  if l = [] then .tuple #[spV 0 0, .int .i64 9] else if badS l then .tuple #[spV 0 0, .int .i64 140] else .tuple #[spV (accS f g l).1 (accS f g l).2, .int .i64 0]
set_option maxRecDepth 100000 in
set_option maxHeartbeats 2000000 in
theorem some_meet (f g : Int → Int → Int) (hF : ∀ a b c d W, Calls Try.prog 63 #[spV a b, spV c d] W (Ret W (spV (f a c) (g b d)))) (l : List (Int × Int)) (hl : l.length ≤ 10000000) (v : Value) (w : World) (h : ReadsS w v l) :
    Calls Try.prog 62 #[v, .func (.func 63) #[] #[]] w (Ret w (resS f g l)) := by
  obtain ⟨R, hR⟩ : ∃ R, R = resS f g l := ⟨_, rfl⟩
  rw [← hR]
  cases l with
  | nil =>
    obtain ⟨A, c, rfl, hk⟩ := h
    replace hR := Lib.hid hR
    clear hk hF
    go_enter Try.func62, Try.ntmps62
    go_wp2_with fail
    go_returns
    exact ⟨by rw [hR.out]; rfl, by go_grown⟩
  | cons s t =>
    obtain ⟨x, y⟩ := s
    have TH := fun W (k : ReadsS W v ((x, y) :: t)) R hR => through_meet f g hF ((x, y) :: t) hl x y v W k R hR
    have HR : R = if badS ((x, y) :: t) then .tuple #[spV 0 0, .int .i64 140] else .tuple #[spV (foldS f g (x, y) ((x, y) :: t)).1 (foldS f g (x, y) ((x, y) :: t)).2, .int .i64 0] := hR
    have HS := h
    obtain ⟨A, c, rfl, hk⟩ := h
    obtain ⟨bb, off, rfl, hbw, hc1, hc2⟩ := hk 0 _ rfl
    simp only [Nat.zero_mul, Nat.add_zero] at hc1 hc2
    clear hk hF hR
    have EO := Lib.hid (fun W => endsOf_any x y W)
    replace HS := Lib.hid HS
    obtain ⟨p, hp⟩ : ∃ p, p = foldS f g (x, y) ((x, y) :: t) := ⟨_, rfl⟩
    rw [← hp] at HR TH
    clear hp
    obtain ⟨n, hn⟩ : ∃ n, n = ((x, y) :: t).length := ⟨_, rfl⟩
    have n1 : ((n : Int) == 0) = false := by rw [beq_eq_false_iff_ne]; rw [List.length_cons] at hn; omega
    have n2 : 0 < n := by rw [List.length_cons] at hn; omega
    rw [← hn] at HS hl
    rw [← hn]
    rw [← hn] at TH
    clear hn
    obtain ⟨p0, p1⟩ := p
    obtain ⟨q0, q1, cd, hq⟩ : ∃ q0 q1 cd, R = .tuple #[spV q0 q1, .int .i64 cd] := by
      rw [HR]
      cases badS ((x, y) :: t)
      · exact ⟨_, _, _, rfl⟩
      · exact ⟨_, _, _, rfl⟩
    rw [← HR] at TH
    clear HR
    subst hq
    have ES := Lib.hid (fun W => espan_any q0 q1 W)
    · skip
      have TH := Lib.hid TH
      go_enter Try.func62, Try.ntmps62
      go_wp2_with fail
      refine (EO.out _).mono ?_
      rintro en w1 ⟨rfl, hb1⟩
      have hHeld : Keeps w [(w.heap.size, 0, .int .i64 0), (w.heap.size, 1, .int .i64 0)] w1 := Keeps.next (by refine ⟨by go_grown, ?_⟩; simp [Cells, go_sem]) hb1
      clear hb1
      go_wp2_with fail
      refine (TH.out _ (HS.out.below hHeld.1) _ rfl).mono ?_
      rintro en w2 ⟨rfl, hb2⟩
      replace hHeld := hHeld.next hb2
      clear hb2
      go_wp2_with fail
      refine (ES.out _).mono ?_
      rintro en w3 ⟨rfl, hb3⟩
      replace hHeld := (hHeld.alloc (.cells #[.int .i64 q0, .int .i64 q1] 107)).next hb3
      clear hb3
      obtain ⟨⟨kz0, kc0, kf0⟩, ⟨kz1, kc1, kf1⟩, _⟩ := hHeld.2
      go_wp2_with fail
      obtain ⟨d0, d1⟩ := set2 (W := w3) (B := w.heap.size) (u0 := .int .i64 q0) (u1 := .int .i64 q1) kc0 kc1
      refine bodyPost_ret (v := .tuple #[spV q0 q1, .int .i64 cd]) (by simp [results, Try.results62, go_sem, d0, d1]) rfl ?_
      exact ⟨rfl, by first | (with_reducible exact hHeld.1) | (have hB := hHeld.1; have hz := hB.size; go_grown)⟩
theorem set2a {W : World} {B : Nat} {u0 u1 a0 a1 : Value} {o : Obj} (hB : B < W.heap.size) (h0 : W.cell? ⟨B, 0, none⟩ = some a0) (h1 : W.cell? ⟨B, 1, none⟩ = some a1) :
    (((W.setCell ⟨B, 0, none⟩ u0).setCell ⟨B, 1, none⟩ u1).alloc o).cell? ⟨B, 0, none⟩ = some u0 ∧ (((W.setCell ⟨B, 0, none⟩ u0).setCell ⟨B, 1, none⟩ u1).alloc o).cell? ⟨B, 1, none⟩ = some u1 := by
  obtain ⟨d0, d1⟩ := set2 (u0 := u0) (u1 := u1) h0 h1
  exact ⟨((below_alloc _ o).cell (p := ⟨B, 0, none⟩) (by simpa using hB)).trans d0, ((below_alloc _ o).cell (p := ⟨B, 1, none⟩) (by simpa using hB)).trans d1⟩
theorem resS_form (f g : Int → Int → Int) (l : List (Int × Int)) : ∃ q0 q1 cd, resS f g l = .tuple #[spV q0 q1, .int .i64 cd] := by
  unfold resS
  split
  · exact ⟨_, _, _, rfl⟩
  · split
    · exact ⟨_, _, _, rfl⟩
    · exact ⟨_, _, _, rfl⟩
/-- What Meet tells. -/
def meetR (l : List (Int × Int)) : Int × Int × Int :=
  if l = [] then (0, 0, 9) else if badS l then (0, 0, 140) else if (accS max min l).2 < (accS max min l).1 then (0, 0, 9) else ((accS max min l).1, (accS max min l).2, 0)
theorem meetR_any (l : List (Int × Int)) (hl : l.length ≤ 10000000) (v : Value) (w : World) (h : ReadsS w v l) : Calls Try.prog 52 #[v] w (Ret w (.tuple #[spV (meetR l).1 (meetR l).2.1, .int .i64 (meetR l).2.2])) := by
  have SO := fun W k => some_meet max min (fun a b c d W => emeet_any a b c d W) l hl v W k
  obtain ⟨q0, q1, cd, hq, hm⟩ : ∃ q0 q1 cd, resS max min l = .tuple #[spV q0 q1, .int .i64 cd] ∧ (cd ≠ 0 ∧ meetR l = (0, 0, cd) ∨ cd = 0 ∧ q1 < q0 ∧ meetR l = (0, 0, 9) ∨ cd = 0 ∧ ¬ q1 < q0 ∧ meetR l = (q0, q1, 0)) := by
    unfold resS meetR
    split
    · exact ⟨_, _, _, rfl, Or.inl ⟨by decide, rfl⟩⟩
    · split
      · exact ⟨_, _, _, rfl, Or.inl ⟨by decide, rfl⟩⟩
      · refine ⟨_, _, _, rfl, Or.inr ?_⟩
        by_cases g : (accS max min l).2 < (accS max min l).1
        · rw [if_pos g]; exact Or.inl ⟨rfl, g, rfl⟩
        · rw [if_neg g]; exact Or.inr ⟨rfl, g, rfl⟩
  obtain ⟨m, em⟩ : ∃ m, m = meetR l := ⟨_, rfl⟩
  rw [hq] at SO
  rw [← em] at hm ⊢
  clear hq em
  obtain ⟨A, n, c, rfl⟩ : ∃ A n c, v = .slice A n c := by obtain ⟨A, c, e, _⟩ := h; exact ⟨_, _, _, e⟩
  replace SO := Lib.hid SO
  replace h := Lib.hid h
  have CK := Lib.hid (fun W => check_any q0 q1 W)
  rcases hm with ⟨g, rfl⟩ | ⟨rfl, g, rfl⟩ | ⟨rfl, g, rfl⟩
  · have g1 : (cd != 0) = true := by simpa using g
    clear g CK
    go_enter Try.func52, Try.ntmps52
    go_wp2_with fail
    refine (SO.out _ (h.out.below (by go_grown))).mono ?_
    rintro en w1 ⟨rfl, hb1⟩
    have hHeld : Keeps w [(w.heap.size, 0, .int .i64 0), (w.heap.size, 1, .int .i64 0)] w1 := Keeps.next (by refine ⟨by go_grown, ?_⟩; simp [Cells, go_sem]) hb1
    clear hb1
    obtain ⟨⟨kz0, kc0, kf0⟩, ⟨kz1, kc1, kf1⟩, _⟩ := hHeld.2
    go_wp2_with fail
    obtain ⟨d0, d1⟩ := set2a (W := w1) (B := w.heap.size) (u0 := .int .i64 0) (u1 := .int .i64 0) (o := .cells #[.int .i64 q0, .int .i64 q1] 26) kz0 kc0 kc1
    refine bodyPost_ret (v := .tuple #[spV 0 0, .int .i64 cd]) (by simp [results, Try.results52, go_sem, d0, d1]) rfl ?_
    exact ⟨rfl, by first | (with_reducible exact hHeld.1) | (have hB := hHeld.1; have hz := hB.size; go_grown)⟩
  all_goals
    first | rw [if_pos g] at CK | rw [if_neg g] at CK
    clear g
    go_enter Try.func52, Try.ntmps52
    go_wp2_with fail
    refine (SO.out _ (h.out.below (by go_grown))).mono ?_
    rintro en w1 ⟨rfl, hb1⟩
    have hHeld : Keeps w [(w.heap.size, 0, .int .i64 0), (w.heap.size, 1, .int .i64 0)] w1 := Keeps.next (by refine ⟨by go_grown, ?_⟩; simp [Cells, go_sem]) hb1
    clear hb1
    go_wp2_with fail
    refine (CK.out _).mono ?_
    rintro en w2 ⟨rfl, hb2⟩
    replace hHeld := Keeps.next ((hHeld.alloc (.cells #[.int .i64 q0, .int .i64 q1] 26)).app (newK2 (hHeld.alloc (.cells #[.int .i64 q0, .int .i64 q1] 26)))) hb2
    clear hb2
    obtain ⟨⟨kz0, kc0, kf0⟩, ⟨kz1, kc1, kf1⟩, ⟨kz2, kc2, kf2⟩, ⟨kz3, kc3, kf3⟩, _⟩ := hHeld.2
    go_wp2_with fail
  · obtain ⟨d0, d1⟩ := set2 (W := w2) (B := w.heap.size) (u0 := .int .i64 0) (u1 := .int .i64 0) kc0 kc1
    refine bodyPost_ret (v := .tuple #[spV 0 0, .int .i64 9]) (by simp [results, Try.results52, go_sem, d0, d1]) rfl ?_
    exact ⟨rfl, by first | (with_reducible exact hHeld.1) | (have hB := hHeld.1; have hz := hB.size; go_grown)⟩
  · obtain ⟨d0, d1⟩ := set2 (W := w2) (B := w.heap.size) (u0 := .int .i64 q0) (u1 := .int .i64 q1) kc0 kc1
    refine bodyPost_ret (v := .tuple #[spV q0 q1, .int .i64 0]) (by simp [results, Try.results52, go_sem, d0, d1]) rfl ?_
    exact ⟨rfl, by first | (with_reducible exact hHeld.1) | (have hB := hHeld.1; have hz := hB.size; go_grown)⟩
end Go.Proofs.Ytmkminaipeodnaa
