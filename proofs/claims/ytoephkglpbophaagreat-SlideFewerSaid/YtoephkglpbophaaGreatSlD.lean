/-
  Layer 10: slide: what two slopes both let. Conditions: those written at each fact.
-/
import Derived.Test.YtoephkglpbophaaGreatSlC
import Derived.Deep.Cut
import Derived.Deep.DeepCutAuto
namespace Go.Proofs.YtoephkglpbophaaGreat.P10
open Go.RowKit Go.Shelf Go.Proofs.YtoephkglpbophaaGreat.P8

set_option maxRecDepth 100000 in
set_option maxHeartbeats 4000000 in
theorem and_walk (a b c d p q r t a' b' c' d' x0 x1 x2 x3 : Int) (b1 b2 b3 : Bool) (h1 : b1 = true ∧ a' = p ∧ b' = q ∨ b1 = false ∧ a' = a ∧ b' = b) (h2 : b2 = true ∧ c' = r ∧ d' = t ∨ b2 = false ∧ c' = c ∧ d' = d)
    (h3 : b3 = true ∧ x0 = 0 ∧ x1 = 0 ∧ x2 = 0 ∧ x3 = 0 ∨ b3 = false ∧ x0 = a' ∧ x1 = b' ∧ x2 = c' ∧ x3 = d')
    (L1 : ∀ W, Calls Tryz.prog 65 #[slV a b, slV p q] W (Ret W (.bool b1)))
    (L2 : ∀ W, Calls Tryz.prog 65 #[slV r t, slV c d] W (Ret W (.bool b2)))
    (L3 : ∀ W, Calls Tryz.prog 65 #[slV c' d', slV a' b'] W (Ret W (.bool b3))) (w : World) :
    Calls Tryz.prog 41 #[arV ⟨a, b, c, d⟩, arV ⟨p, q, r, t⟩] w (Ret w (arV ⟨x0, x1, x2, x3⟩)) := by
  replace L1 := Lib.hid L1
  replace L2 := Lib.hid L2
  replace L3 := Lib.hid L3
  replace h1 := Lib.hid h1
  replace h2 := Lib.hid h2
  replace h3 := Lib.hid h3
  go_enter Tryz.func41, Tryz.ntmps41
  go_wp2_with fail
  refine (L1.out _).mono ?_
  rintro en w1 ⟨rfl, hb1⟩
  have hHeld : Keeps w [(w.heap.size, 0, .int .i64 a), (w.heap.size, 1, .int .i64 b), (w.heap.size, 2, .int .i64 c), (w.heap.size, 3, .int .i64 d), (w.heap.size + 1, 0, .int .i64 p), (w.heap.size + 1, 1, .int .i64 q), (w.heap.size + 1, 2, .int .i64 r), (w.heap.size + 1, 3, .int .i64 t), (w.heap.size + 2, 0, .int .i64 0), (w.heap.size + 2, 1, .int .i64 0), (w.heap.size + 2, 2, .int .i64 0), (w.heap.size + 2, 3, .int .i64 0)] w1 := Keeps.next (by refine ⟨(((Below.refl _ w).alloc (Nat.le_refl _) _).alloc (by simp) _).alloc (by simp; omega) _, ?_⟩; simp [Cells, go_sem]) hb1
  clear hb1 L1
  obtain ⟨⟨kz0, kc0, kf0⟩, ⟨kz1, kc1, kf1⟩, ⟨kz2, kc2, kf2⟩, ⟨kz3, kc3, kf3⟩, ⟨kz4, kc4, kf4⟩, ⟨kz5, kc5, kf5⟩, ⟨kz6, kc6, kf6⟩, ⟨kz7, kc7, kf7⟩, ⟨kz8, kc8, kf8⟩, ⟨kz9, kc9, kf9⟩, ⟨kz10, kc10, kf10⟩, ⟨kz11, kc11, kf11⟩, _⟩ := hHeld.2
  go_upto_if 9 with (fail)
  go_cut [] (fun wx => Keeps w [(w.heap.size, 0, .int .i64 a'), (w.heap.size, 1, .int .i64 b'), (w.heap.size, 2, .int .i64 c), (w.heap.size, 3, .int .i64 d), (w.heap.size + 1, 0, .int .i64 p), (w.heap.size + 1, 1, .int .i64 q), (w.heap.size + 1, 2, .int .i64 r), (w.heap.size + 1, 3, .int .i64 t), (w.heap.size + 2, 0, .int .i64 0), (w.heap.size + 2, 1, .int .i64 0), (w.heap.size + 2, 2, .int .i64 0), (w.heap.size + 2, 3, .int .i64 0)] wx)
  case first =>
    rcases h1.out with ⟨rfl, rfl, rfl⟩ | ⟨rfl, rfl, rfl⟩
    · go_wp2_with fail
      go_meet
      case rel =>
        have := hHeld.upd2 kc0 kc1 (by decide) (Nat.le_refl _) (.int .i64 a') (.int .i64 b')
        simpa [updL] using this
    · go_wp2_with fail
      go_meet
      case rel => exact hHeld
  case rest =>
    clear kz0 kc0 kf0 kz1 kc1 kf1 kz2 kc2 kf2 kz3 kc3 kf3 kz4 kc4 kf4 kz5 kc5 kf5 kz6 kc6 kf6 kz7 kc7 kf7 kz8 kc8 kf8 kz9 kc9 kf9 kz10 kc10 kf10 kz11 kc11 kf11 hHeld h1
    have hHeld := hcut
    clear hcut
    obtain ⟨⟨kz0, kc0, kf0⟩, ⟨kz1, kc1, kf1⟩, ⟨kz2, kc2, kf2⟩, ⟨kz3, kc3, kf3⟩, ⟨kz4, kc4, kf4⟩, ⟨kz5, kc5, kf5⟩, ⟨kz6, kc6, kf6⟩, ⟨kz7, kc7, kf7⟩, ⟨kz8, kc8, kf8⟩, ⟨kz9, kc9, kf9⟩, ⟨kz10, kc10, kf10⟩, ⟨kz11, kc11, kf11⟩, _⟩ := hHeld.2
    go_wp2_with fail
    refine (L2.out _).mono ?_
    rintro en w2 ⟨rfl, hb2⟩
    replace hHeld := hHeld.next hb2
    clear kz0 kc0 kf0 kz1 kc1 kf1 kz2 kc2 kf2 kz3 kc3 kf3 kz4 kc4 kf4 kz5 kc5 kf5 kz6 kc6 kf6 kz7 kc7 kf7 kz8 kc8 kf8 kz9 kc9 kf9 kz10 kc10 kf10 kz11 kc11 kf11 hb2 L2
    obtain ⟨⟨kz0, kc0, kf0⟩, ⟨kz1, kc1, kf1⟩, ⟨kz2, kc2, kf2⟩, ⟨kz3, kc3, kf3⟩, ⟨kz4, kc4, kf4⟩, ⟨kz5, kc5, kf5⟩, ⟨kz6, kc6, kf6⟩, ⟨kz7, kc7, kf7⟩, ⟨kz8, kc8, kf8⟩, ⟨kz9, kc9, kf9⟩, ⟨kz10, kc10, kf10⟩, ⟨kz11, kc11, kf11⟩, _⟩ := hHeld.2
    go_upto_if 17 with (fail)
    go_cut [] (fun wx => Keeps w [(w.heap.size, 0, .int .i64 a'), (w.heap.size, 1, .int .i64 b'), (w.heap.size, 2, .int .i64 c'), (w.heap.size, 3, .int .i64 d'), (w.heap.size + 1, 0, .int .i64 p), (w.heap.size + 1, 1, .int .i64 q), (w.heap.size + 1, 2, .int .i64 r), (w.heap.size + 1, 3, .int .i64 t), (w.heap.size + 2, 0, .int .i64 0), (w.heap.size + 2, 1, .int .i64 0), (w.heap.size + 2, 2, .int .i64 0), (w.heap.size + 2, 3, .int .i64 0)] wx)
    case first =>
      rcases h2.out with ⟨rfl, rfl, rfl⟩ | ⟨rfl, rfl, rfl⟩
      · go_wp2_with fail
        go_meet
        case rel =>
          have := hHeld.upd2 kc2 kc3 (by decide) (Nat.le_refl _) (.int .i64 c') (.int .i64 d')
          simpa [updL] using this
      · go_wp2_with fail
        go_meet
        case rel => exact hHeld
    case rest =>
      clear kz0 kc0 kf0 kz1 kc1 kf1 kz2 kc2 kf2 kz3 kc3 kf3 kz4 kc4 kf4 kz5 kc5 kf5 kz6 kc6 kf6 kz7 kc7 kf7 kz8 kc8 kf8 kz9 kc9 kf9 kz10 kc10 kf10 kz11 kc11 kf11 hHeld h2
      have hHeld := hcut
      clear hcut
      obtain ⟨⟨kz0, kc0, kf0⟩, ⟨kz1, kc1, kf1⟩, ⟨kz2, kc2, kf2⟩, ⟨kz3, kc3, kf3⟩, ⟨kz4, kc4, kf4⟩, ⟨kz5, kc5, kf5⟩, ⟨kz6, kc6, kf6⟩, ⟨kz7, kc7, kf7⟩, ⟨kz8, kc8, kf8⟩, ⟨kz9, kc9, kf9⟩, ⟨kz10, kc10, kf10⟩, ⟨kz11, kc11, kf11⟩, _⟩ := hHeld.2
      go_wp2_with fail
      refine (L3.out _).mono ?_
      rintro en w3 ⟨rfl, hb3⟩
      replace hHeld := hHeld.next hb3
      clear kz0 kc0 kf0 kz1 kc1 kf1 kz2 kc2 kf2 kz3 kc3 kf3 kz4 kc4 kf4 kz5 kc5 kf5 kz6 kc6 kf6 kz7 kc7 kf7 kz8 kc8 kf8 kz9 kc9 kf9 kz10 kc10 kf10 kz11 kc11 kf11 hb3 L3
      obtain ⟨⟨kz0, kc0, kf0⟩, ⟨kz1, kc1, kf1⟩, ⟨kz2, kc2, kf2⟩, ⟨kz3, kc3, kf3⟩, ⟨kz4, kc4, kf4⟩, ⟨kz5, kc5, kf5⟩, ⟨kz6, kc6, kf6⟩, ⟨kz7, kc7, kf7⟩, ⟨kz8, kc8, kf8⟩, ⟨kz9, kc9, kf9⟩, ⟨kz10, kc10, kf10⟩, ⟨kz11, kc11, kf11⟩, _⟩ := hHeld.2
      have hE : ∀ u0 u1 u2 u3 : Value, Below w.heap.size w ((((w3.setCell ⟨w.heap.size + 2, 0, none⟩ u0).setCell ⟨w.heap.size + 2, 1, none⟩ u1).setCell ⟨w.heap.size + 2, 2, none⟩ u2).setCell ⟨w.heap.size + 2, 3, none⟩ u3) := fun u0 u1 u2 u3 => (((hHeld.1.setCell (p := ⟨w.heap.size + 2, 0, none⟩) (by simp) _).setCell (p := ⟨w.heap.size + 2, 1, none⟩) (by simp) _).setCell (p := ⟨w.heap.size + 2, 2, none⟩) (by simp) _).setCell (p := ⟨w.heap.size + 2, 3, none⟩) (by simp) _
      have HE := Lib.hid hE
      clear hE
      rcases h3.out with ⟨rfl, rfl, rfl, rfl, rfl⟩ | ⟨rfl, rfl, rfl, rfl, rfl⟩
      · go_wp2_with fail
        obtain ⟨d0, d1, d2, d3⟩ := set4 (W := w3) (B := w.heap.size + 2) (u0 := .int .i64 0) (u1 := .int .i64 0) (u2 := .int .i64 0) (u3 := .int .i64 0) kc8 kc9 kc10 kc11
        refine bodyPost_ret (v := arV ⟨0, 0, 0, 0⟩) (by simp [results, Tryz.results41, go_sem, d0, d1, d2, d3]) rfl ?_
        exact ⟨rfl, HE.out _ _ _ _⟩
      · go_wp2_with fail
        obtain ⟨d0, d1, d2, d3⟩ := set4 (W := w3) (B := w.heap.size + 2) (u0 := .int .i64 x0) (u1 := .int .i64 x1) (u2 := .int .i64 x2) (u3 := .int .i64 x3) kc8 kc9 kc10 kc11
        refine bodyPost_ret (v := arV ⟨x0, x1, x2, x3⟩) (by simp [results, Tryz.results41, go_sem, d0, d1, d2, d3]) rfl ?_
        exact ⟨rfl, HE.out _ _ _ _⟩
/-- What is told of slopes that let none. -/
def none0 : Sl := ⟨0, 0, 0, 0⟩
theorem slopes_two {n d m e : Int} (h : slopeB n d = true) (k : slopeB m e = true) : slopesB n d m e = true := by simp [slopesB, h, k]
theorem and_any (s o : Sl) (hs : StOk s) (ho : StOk o) (w : World) : Calls Tryz.prog 41 #[arV s, arV o] w (Ret w (arV (if shutS (joinS s o) then none0 else joinS s o))) := by
  have hj := join_ok hs ho
  obtain ⟨x, hx⟩ : ∃ x, x = (if shutS (joinS s o) then none0 else joinS s o) := ⟨_, rfl⟩
  rw [← hx]
  refine and_walk s.a s.b s.c s.d o.a o.b o.c o.d (joinS s o).a (joinS s o).b (joinS s o).c (joinS s o).d x.a x.b x.c x.d (lq s.a s.b o.a o.b) (lq o.c o.d s.c s.d) (shutS (joinS s o)) ?_ ?_ ?_
    (fun W => less_any _ _ _ _ (slopes_two hs.lo ho.lo) W) (fun W => less_any _ _ _ _ (slopes_two ho.hi hs.hi) W) (fun W => less_any _ _ _ _ (slopes_two hj.hi hj.lo) W) w
  · cases g : lq s.a s.b o.a o.b
    · right; simp [joinS, g]
    · left; simp [joinS, g]
  · cases g : lq o.c o.d s.c s.d
    · right; simp [joinS, g]
    · left; simp [joinS, g]
  · cases g : shutS (joinS s o)
    · right; rw [g] at hx; simp [hx]
    · left; rw [g] at hx; simp [hx, none0]
end Go.Proofs.YtoephkglpbophaaGreat.P10
