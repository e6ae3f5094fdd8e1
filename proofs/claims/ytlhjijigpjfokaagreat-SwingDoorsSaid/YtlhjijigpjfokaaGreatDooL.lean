/-
  Layer 9: the law SwingDoors. Conditions: those written at each fact.
-/
import Derived.Test.YtlhjijigpjfokaaGreatSwZ
import Derived.Test.YtlhjijigpjfokaaGreatSwO
import Derived.Test.YtlhjijigpjfokaaGreatDcA
namespace Go.Proofs.YtlhjijigpjfokaaGreat.P9
open Go.RowKit Go.Shelf Go.Proofs.YtlhjijigpjfokaaGreat.P8

theorem take_same (l : List Bd) : l.take (l.take 260).length = l.take 260 := by
  rw [List.length_take, List.take_eq_take_iff]; omega
set_option maxRecDepth 100000 in
set_option maxHeartbeats 8000000 in
theorem lawDoors_any (l : List Bd) (hl : l.length ≤ 9223372036854775807) (v : Value) (w : World) (h : ReadsD w v l) : Calls Tryz.prog 3 #[v] w (Ret w (.bool true)) := by
  have WK := Lib.hid wakes_any
  have OW := Lib.hid (fun W (hb : Below w.heap.size w W) => own_any l hl v W (h.below hb))
  have H0 := Lib.hid h
  obtain ⟨A, c, rfl, hc, _⟩ := h
  have hml : (l.take 260).length ≤ 260 := by rw [List.length_take]; omega
  have hmll : (l.take 260).length ≤ l.length := by rw [List.length_take]; omega
  have HX := Lib.hid (fun W (hb : Below w.heap.size w W) => (show ReadsD W (.slice A (l.take 260).length c) (l.take 260) from by
    have := (H0.out.below hb).front (l.take 260).length hmll
    rwa [take_same] at this))
  have HNE := Lib.hid (fun (hk : okD (l.take 260) = true) => readsD_some H0.out (fun e => by rw [e] at hk; exact absurd hk (by decide)))
  clear H0
  generalize l.take 260 = m at *
  go_enter Tryz.func3, Tryz.ntmps3
  go_wp2_with fail
  refine (WK.out _).mono ?_
  rintro e w1 ⟨rfl, hb1⟩
  go_wp2_with fail
  refine (OW.out w1 hb1).mono ?_
  rintro e w2 hh
  obtain ⟨hb2, A2, c2, rfl, hc2, hr2⟩ := hh.open
  have HB2 := Lib.hid (under hb1 hb2)
  have HI := Lib.hid (fun W (hb : Below w2.heap.size w2 W) => hin_any m (by omega) _ W (hr2.below hb))
  have DO := Lib.hid (fun W (hb : Below w2.heap.size w2 W) => dor_any m (by omega) _ W (hr2.below hb))
  have RI := Lib.hid (fun W (hb : Below w2.heap.size w2 W) => refRight_any m (by omega) _ W (hr2.below hb))
  have H2 := Lib.hid hr2
  clear hh hb1 hb2 WK OW hr2
  go_wp2_with fail
  refine (HI.out w2 (Below.refl _ _)).mono ?_
  rintro e w3 ⟨rfl, hb3⟩
  go_wp2_with fail
  refine (DO.out w3 hb3).mono ?_
  rintro e w4 ⟨rfl, hb4⟩
  have hHs : Keeps w2 [(w4.heap.size, 0, .int .i64 (dorX m).a), (w4.heap.size, 1, .int .i64 (dorX m).b), (w4.heap.size + 1, 0, .int .i64 (dorX m).c), (w4.heap.size + 1, 1, .int .i64 (dorX m).d)] ((w4.alloc (.cells #[.int .i64 (dorX m).a, .int .i64 (dorX m).b] 29)).alloc (.cells #[.int .i64 (dorX m).c, .int .i64 (dorX m).d] 29)) := ⟨((under hb3 hb4).alloc (under hb3 hb4).size _).alloc (by have := (under hb3 hb4).size; simp; omega) _, by simp [Cells, go_sem]⟩
  go_wp2_with fail
  refine (RI.out _ hHs.1).mono ?_
  rintro e w5 ⟨rfl, hb5⟩
  have hHeld := hHs.next hb5
  clear hHs hb3 hb4 hb5 HI DO RI
  cases gk : okD m
  · have e1 : dorE m = 180 := by simp [dorE, gk]
    have e2 : dorX m = ⟨0, 0, 0, 0, 0, 0⟩ := by simp [dorX, e1]
    have e3 : hinE m = 180 := by simp [hinE, gk]
    have e4 : hinQ m = 0 := by cases m <;> simp [hinQ, gk]
    rw [e2] at hHeld
    rw [e1, e2, e3, e4]
    clear e1 e2 e3 e4
    obtain ⟨⟨kz0, kc0, kf0⟩, ⟨kz1, kc1, kf1⟩, ⟨kz2, kc2, kf2⟩, ⟨kz3, kc3, kf3⟩, _⟩ := hHeld.2
    go_wp2_with fail
    go_ret
    exact ⟨rfl, under HB2.out hHeld.1⟩
  · obtain ⟨hn1, hn2, _⟩ := okD_facts gk
    obtain ⟨bb, off, rfl⟩ := HNE.out gk
    cases m with
    | nil => exact absurd hn1 (by decide)
    | cons b0 k =>
    obtain ⟨hR, hT⟩ := okD_times gk
    have e3 : hinE (b0 :: k) = 0 := by simp [hinE, gk]
    have e4 : hinQ (b0 :: k) = mid b0 := by simp [hinQ, gk]
    rw [e3, e4]
    have HK5 := Lib.hid hHeld
    have RH := Lib.hid (fun W (hb' : Below w2.heap.size w2 W) => (show Calls Tryz.prog 11 #[.slice A2 (b0 :: k).length c2] W (Ret W (.int .i64 (mid b0))) from by
      obtain ⟨t, lo, hi'⟩ := b0
      exact refHinge_any t lo hi' k (hR _ (List.mem_cons_self ..)) _ W (H2.out.below hb')))
    by_cases g : k = []
    · subst g
      have e1 : dorE [b0] = 9 := by simp [dorE, gk]
      have e2 : dorX [b0] = ⟨0, 0, 0, 0, 0, 0⟩ := by simp [dorX, e1]
      rw [e2] at hHeld
      rw [e1, e2]
      clear e1 e2 e3 e4 HX HK5 hR hT H2 HNE gk
      simp only [List.length_cons, List.length_nil] at *
      generalize mid b0 = q at *
      obtain ⟨⟨kz0, kc0, kf0⟩, ⟨kz1, kc1, kf1⟩, ⟨kz2, kc2, kf2⟩, ⟨kz3, kc3, kf3⟩, _⟩ := hHeld.2
      go_wp2_with fail
      refine (RH.out _ hHeld.1).mono ?_
      rintro e w6 ⟨rfl, hb6⟩
      clear kz0 kc0 kf0 kz1 kc1 kf1 kz2 kc2 kf2 kz3 kc3 kf3
      replace hHeld := hHeld.next hb6
      obtain ⟨⟨kz0, kc0, kf0⟩, ⟨kz1, kc1, kf1⟩, ⟨kz2, kc2, kf2⟩, ⟨kz3, kc3, kf3⟩, _⟩ := hHeld.2
      go_wp2_with fail
      go_ret
      exact ⟨rfl, under HB2.out hHeld.1⟩
    · have hne : 2 ≤ (b0 :: k).length := by
        cases k with
        | nil => exact absurd rfl g
        | cons a k => simp
      have e1 : dorE (b0 :: k) = 0 := by
        have : ¬ (b0 :: k).length = 1 := by omega
        rw [dorE, gk, if_pos rfl, if_neg this]
      have e2 : dorX (b0 :: k) = allD (b0 :: k) := by rw [dorX, e1, if_pos rfl]
      rw [e2] at hHeld
      rw [e1, e2]
      have DR := Lib.hid (fun W (hb' : Below w2.heap.size w2 W) => refDoor_any b0 k (by omega) hne hR hT (.slice A2 (b0 :: k).length c2) W (H2.out.below hb'))
      have EQ := Lib.hid (fun W (hb' : Below w2.heap.size w2 W) => equalD (b0 :: k) (by omega) (.slice A2 (b0 :: k).length c2) (.slice (some ⟨bb, off, none⟩) (b0 :: k).length c) W (H2.out.below hb') (HX.out W (under HB2.out hb')))
      have i1 : ¬ (((b0 :: k).length : Nat) : Int) = 1 := by omega
      have i2 : (((b0 :: k).length : Nat) : Int) ≤ (c : Int) := by omega
      have i3 : (0 : Int) ≤ (((b0 :: k).length : Nat) : Int) := by omega
      clear e1 e2 e3 e4 HX HK5 hR hT H2 HNE gk hne g hn1 hn2
      generalize (b0 :: k).length = len at *
      generalize mid b0 = q at *
      generalize allD (b0 :: k) = x at *
      obtain ⟨_, _, xa, xb, xc, xd⟩ := x
      simp only at hHeld DR ⊢
      obtain ⟨⟨kz0, kc0, kf0⟩, ⟨kz1, kc1, kf1⟩, ⟨kz2, kc2, kf2⟩, ⟨kz3, kc3, kf3⟩, _⟩ := hHeld.2
      go_wp2_with fail
      refine (RH.out _ hHeld.1).mono ?_
      rintro e w6 ⟨rfl, hb6⟩
      clear kz0 kc0 kf0 kz1 kc1 kf1 kz2 kc2 kf2 kz3 kc3 kf3
      replace hHeld := hHeld.next hb6
      obtain ⟨⟨kz0, kc0, kf0⟩, ⟨kz1, kc1, kf1⟩, ⟨kz2, kc2, kf2⟩, ⟨kz3, kc3, kf3⟩, _⟩ := hHeld.2
      go_wp2_with fail
      refine (DR.out _ hHeld.1).mono ?_
      rintro e w7 ⟨rfl, hb7⟩
      clear kz0 kc0 kf0 kz1 kc1 kf1 kz2 kc2 kf2 kz3 kc3 kf3
      replace hHeld := hHeld.next hb7
      have h8 := (hHeld.alloc (.cells #[.int .i64 xa, .int .i64 xb] 29)).alloc (.cells #[.int .i64 xc, .int .i64 xd] 29)
      obtain ⟨⟨kz0, kc0, kf0⟩, ⟨kz1, kc1, kf1⟩, ⟨kz2, kc2, kf2⟩, ⟨kz3, kc3, kf3⟩, _⟩ := hHeld.2
      go_wp2_with fail
      refine (EQ.out _ h8.1).mono ?_
      rintro e w8 ⟨rfl, hb8⟩
      go_wp2_with fail
      go_ret
      exact ⟨rfl, under HB2.out (under h8.1 hb8)⟩
end Go.Proofs.YtlhjijigpjfokaaGreat.P9
