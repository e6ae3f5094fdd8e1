/-
  Layer 2: GetU, Get: what comes of bytes. Conditions: those written at each fact.
-/
import Derived.Test.YtahfopednhmbiaaGetU
namespace Go.Proofs.Ytahfopednhmbiaa
open Go.RowKit Go.Shelf

theorem gath_drewN {w : World} {G : Nat} {n s : Int} (h : Gath w G n s) (m : Nat) : Gath (w.drewN m) G n s := h
theorem near_drewN {w w' : World} {G : Nat} (h : Near G w w') (m : Nat) : Near G w (w'.drewN m) := ⟨h.os, h.tape, h.output, h.size, h.block⟩
theorem near_below {G : Nat} {w w' : World} (h : Near G (w.alloc (.cells #[.int .u64 0, .int .i64 0] 62)) w') (hG : G = w.heap.size) : Below w.heap.size w w' := by
  subst hG
  refine (below_alloc w (.cells #[.int .u64 0, .int .i64 0] 62)).trans ⟨h.os, h.tape, h.output, ?_, fun k hk => ?_⟩
  · have := h.size; simp at this ⊢; omega
  · exact h.block k (by simp; omega) (by omega)
/-- How the three answers stand to what was scanned. -/
theorem got_bad {l : List Int} {a : Int} (h : a < 0 ∨ (l.length : Int) < a) : gotN l a = 0 ∧ gotP l a = 0 ∧ gotE l a = 2 := by
  unfold gotN gotP gotE; rw [if_pos h, if_pos h, if_pos h]; exact ⟨rfl, rfl, rfl⟩
theorem got_err {l : List Int} {a : Nat} (h : a ≤ l.length) (he : (scan 0 (l.drop a)).1 ≠ 0) : gotN l a = 0 ∧ gotP l a = 0 ∧ gotE l a = (scan 0 (l.drop a)).1 := by
  have hng : ¬ ((a : Int) < 0 ∨ (l.length : Int) < (a : Int)) := by omega
  unfold gotN gotP gotE
  rw [if_neg hng, if_neg hng, if_neg hng, Int.toNat_natCast, if_neg he, if_neg he]; exact ⟨rfl, rfl, rfl⟩
theorem got_ok {l : List Int} {a : Nat} (h : a ≤ l.length) (he : (scan 0 (l.drop a)).1 = 0) : gotN l a = numOf ((l.drop a).take (scan 0 (l.drop a)).2) ∧ gotP l a = a + (scan 0 (l.drop a)).2 ∧ gotE l a = 0 := by
  have hng : ¬ ((a : Int) < 0 ∨ (l.length : Int) < (a : Int)) := by omega
  unfold gotN gotP gotE
  rw [if_neg hng, if_neg hng, if_neg hng, Int.toNat_natCast, if_pos he, if_pos he, he]; exact ⟨rfl, rfl, rfl⟩
theorem scan_ten : ∀ (l : List Int) (s : Nat), s ≤ 9 → (∀ d ∈ l, 0 ≤ d) → (scan s l).1 = 0 → (scan s l).2 ≤ 9 ∨ ((scan s l).2 = 10 ∧ ∃ d, l[9 - s]? = some d ∧ d ≤ 1)
  | [], s, hs, _, h => by simp [scan] at h
  | d :: l, s, hs, hd, h => by
    rw [scan] at h ⊢
    by_cases h1 : s = 9 ∧ 1 < d
    · rw [if_pos h1] at h; cases h
    · rw [if_neg h1] at h ⊢
      by_cases h2 : 128 ≤ d
      · rw [if_pos h2] at h ⊢
        have := scan_ten l (s + 1) (by omega) (fun x hx => hd x (List.mem_cons_of_mem _ hx)) h
        rcases this with g | ⟨g1, x, g2, g3⟩
        · exact .inl g
        · refine .inr ⟨g1, x, ?_, g3⟩
          rw [show 9 - s = (9 - (s + 1)) + 1 from by omega, List.getElem?_cons_succ]
          exact g2
      · rw [if_neg h2] at h ⊢
        by_cases h3 : d = 0 ∧ 1 ≤ s
        · rw [if_pos h3] at h; cases h
        · rw [if_neg h3]
          by_cases h9 : s = 9
          · subst h9
            exact .inr ⟨rfl, d, by simp, by omega⟩
          · exact .inl (by simp only; omega)
theorem numOf_ten {l : List Int} (hd : ∀ d ∈ l, 0 ≤ d) (h : (scan 0 l).1 = 0) : numOf (l.take (scan 0 l).2) < 18446744073709551616 := by
  rcases scan_ten l 0 (by omega) hd h with g | ⟨g1, x, g2, g3⟩
  · have := (numOf_range (l.take (scan 0 l).2)).2
    have hl : (l.take (scan 0 l).2).length ≤ 9 := by simp; omega
    have h2 : (128 : Int) ^ (l.take (scan 0 l).2).length ≤ 128 ^ 9 := by
      have : (128 : Nat) ^ (l.take (scan 0 l).2).length ≤ 128 ^ 9 := Nat.pow_le_pow_right (by omega) hl
      exact_mod_cast this
    omega
  · rw [g1]
    obtain ⟨hlt, e⟩ := List.getElem?_eq_some_iff.1 g2
    have e2 : l.take 10 = l.take 9 ++ [x] := by
      rw [List.take_succ_eq_append_getElem (show 9 < l.length from hlt)]
      have : l[9] = x := e
      rw [this]
    have h0 := hd x (List.mem_of_getElem? g2)
    have h9 := (numOf_range (l.take 9)).2
    have hl : (l.take 9).length = 9 := by simp; have : 9 < l.length := hlt; omega
    rw [e2, numOf_snoc, hl]
    rw [hl] at h9
    omega

set_option maxRecDepth 100000 in
set_option maxHeartbeats 2000000 in
theorem getPlain_core (L : List B8) (hL : L.length ≤ 1000000) (a : Int) (G : Nat) (A : Option Addr) (c : Nat) (w : World) (hG : Gath w G 0 0) (hr : Reads .u8 w (.slice A L.length c) (L.map (·.1)))
    (hA : ∀ b off, L ≠ [] → A = some ⟨b, off, none⟩ → b ≠ G) :
    Calls Try.prog 39 #[.pointer (some ⟨G, 0, none⟩), .slice A L.length c, .int .i64 a, .func (.func 40) #[.pointer (some ⟨G, 0, none⟩)] #[]] w
      fun e w' => e = .returned (.tuple #[.int .u64 (gotN (L.map (·.1)) a), .int .i64 (gotP (L.map (·.1)) a), .int .i64 (gotE (L.map (·.1)) a)]) ∧ Near G w w' := by
  by_cases hb : a < 0 ∨ (L.length : Int) < a
  · have RB := Lib.hid (read_bad L.length a hb (some ⟨G, 0, none⟩) A c w)
    have E := Lib.hid (got_bad (l := L.map (·.1)) (a := a) (by rw [List.length_map]; exact hb))
    clear hb hr hA
    go_enter Try.func39, Try.ntmps39
    go_wp2_with fail
    refine RB.out.mono ?_
    rintro e w' ⟨rfl, hbw⟩
    go_wp2_with fail
    go_ret3
    exact ⟨by rw [E.out.1, E.out.2.1, E.out.2.2]; rfl, Near.of hbw⟩
  · obtain ⟨a', rfl⟩ : ∃ a' : Nat, a = a' := ⟨a.toNat, by omega⟩
    have ha : a' ≤ L.length := by omega
    have RD := Lib.hid (read_in L hL a' ha G A c w hG hr hA)
    have h0 : ∀ d ∈ (L.map (·.1)).drop a', 0 ≤ d := fun d hd => by
      obtain ⟨x, _, rfl⟩ := List.mem_map.1 (List.mem_of_mem_drop hd)
      exact x.2.1
    have hsz := scan_size ((L.map (·.1)).drop a') 0
    have hln : ((L.map (·.1)).drop a').length = L.length - a' := by simp
    rw [hln] at hsz
    have hmd : (L.drop a').map (·.1) = (L.map (·.1)).drop a' := by rw [List.map_drop]
    rw [hmd] at RD
    by_cases he : (scan 0 ((L.map (·.1)).drop a')).1 = 0
    · have E := Lib.hid (got_ok (l := L.map (·.1)) (a := a') (by rw [List.length_map]; exact ha) he)
      have hn0 := (numOf_range (((L.map (·.1)).drop a').take (scan 0 ((L.map (·.1)).drop a')).2)).1
      have hn1 := numOf_ten h0 he
      have e2 := E.out
      obtain ⟨⟨se, sz⟩, hsc⟩ : ∃ sc, scan 0 ((L.map (·.1)).drop a') = sc := ⟨_, rfl⟩
      rw [hsc] at he hn0 hn1 hsz e2
      simp only at he hn0 hn1 hsz e2
      subst he
      have RD2 : Hid (Calls Try.prog 47 #[.pointer (some ⟨G, 0, none⟩), .slice A L.length c, .int .i64 a'] w fun e w' => e = .returned (.int .i64 0) ∧ Near G w w' ∧ Gath w' G (numOf (((L.map (·.1)).drop a').take sz)) sz) :=
        Lib.hid (RD.out.mono fun e w' ⟨h1, h2, h3⟩ => by rw [hsc] at h1 h3; exact ⟨h1, h2, h3 rfl⟩)
      have E2 : Hid (gotN (L.map (·.1)) a' = numOf (((L.map (·.1)).drop a').take sz) ∧ gotP (L.map (·.1)) a' = a' + sz ∧ gotE (L.map (·.1)) a' = 0) := Lib.hid e2
      clear e2
      generalize numOf (((L.map (·.1)).drop a').take sz) = nn at *
      have hsz2 : sz ≤ 1000000 := by omega
      clear hb hr hA RD hsc E hmd hln h0 hsz hG
      go_enter Try.func39, Try.ntmps39
      go_wp2_with fail
      refine RD2.out.mono ?_
      rintro e w' ⟨rfl, hN, hG'⟩
      have c1 := hG'.cell1
      have HN := Lib.hid hN
      have HG := Lib.hid hG'
      clear hN hG' RD2
      go_wp2_with fail
      go_quiet ((go_at_call 40; exact Calls.quiet_of_same (plain_any G nn sz _ (gath_drewN HG.out _))))
      go_wp2_with fail
      go_ret3
      exact ⟨by rw [E2.out.1, E2.out.2.1, E2.out.2.2]; rfl, near_drewN HN.out _⟩
    · have E := Lib.hid (got_err (l := L.map (·.1)) (a := a') (by rw [List.length_map]; exact ha) he)
      have RD2 : Hid (Calls Try.prog 47 #[.pointer (some ⟨G, 0, none⟩), .slice A L.length c, .int .i64 a'] w fun e w' => e = .returned (.int .i64 (scan 0 ((L.map (·.1)).drop a')).1) ∧ Near G w w') :=
        Lib.hid (RD.out.mono fun e w' ⟨h1, h2, h3⟩ => ⟨h1, h2⟩)
      generalize (scan 0 ((L.map (·.1)).drop a')).1 = se at *
      have t : (se != 0) = true := by rw [bne_iff_ne]; exact he
      clear hb hr hA RD he hmd hln h0 hsz hG
      go_enter Try.func39, Try.ntmps39
      go_wp2_with fail
      refine RD2.out.mono ?_
      rintro e w' ⟨rfl, hN⟩
      have HN := Lib.hid hN
      clear hN RD2
      go_wp2_with fail
      go_ret3
      exact ⟨by rw [E.out.1, E.out.2.1, E.out.2.2]; rfl, HN.out⟩

set_option maxRecDepth 100000 in
set_option maxHeartbeats 1000000 in
theorem getU_any (l : List Int) (hl : l.length ≤ 1000000) (hb : ∀ z ∈ l, 0 ≤ z ∧ z < 256) (a : Int) (v : Value) (w : World) (hr : Reads .u8 w v l) :
    Calls Try.prog 21 #[v, .int .i64 a] w (Ret w (.tuple #[.int .u64 (gotN l a), .int .i64 (gotP l a), .int .i64 (gotE l a)])) := by
  obtain ⟨L, rfl⟩ := bytes_lift hb
  rw [List.length_map] at hl
  have hr' := hr.below (below_alloc w (.cells #[.int .u64 0, .int .i64 0] 62))
  obtain ⟨A, c, rfl, hc, hk⟩ := hr
  rw [List.length_map] at hr' ⊢
  have hG : Gath (w.alloc (.cells #[.int .u64 0, .int .i64 0] 62)) w.heap.size 0 0 := World.alloc_heap_new w _
  have K := Lib.hid (getPlain_core L hl a w.heap.size A c _ hG hr' (fun b off hne e => by
    obtain ⟨x, L', rfl⟩ := List.exists_cons_of_ne_nil hne
    obtain ⟨b', off', e1, e2, _⟩ := hk 0 x.1 rfl
    rw [e] at e1
    cases e1
    omega))
  clear hk hr' hG hb
  generalize L.map (·.1) = l at *
  go_enter Try.func21, Try.ntmps21
  go_wp2_with fail
  refine K.out.mono ?_
  rintro e w' ⟨rfl, hN⟩
  have HB := Lib.hid (near_below hN rfl)
  clear hN K
  go_wp2_with fail
  go_ret3
  exact ⟨rfl, HB.out⟩

set_option maxRecDepth 100000 in
set_option maxHeartbeats 2000000 in
theorem getSigned_core (L : List B8) (hL : L.length ≤ 1000000) (a : Int) (G : Nat) (A : Option Addr) (c : Nat) (w : World) (hG : Gath w G 0 0) (hr : Reads .u8 w (.slice A L.length c) (L.map (·.1)))
    (hA : ∀ b off, L ≠ [] → A = some ⟨b, off, none⟩ → b ≠ G) :
    Calls Try.prog 41 #[.pointer (some ⟨G, 0, none⟩), .slice A L.length c, .int .i64 a, .func (.func 42) #[.pointer (some ⟨G, 0, none⟩)] #[]] w
      fun e w' => e = .returned (.tuple #[.int .i64 (unz (gotN (L.map (·.1)) a)), .int .i64 (gotP (L.map (·.1)) a), .int .i64 (gotE (L.map (·.1)) a)]) ∧ Near G w w' := by
  by_cases hb : a < 0 ∨ (L.length : Int) < a
  · have RB := Lib.hid (read_bad L.length a hb (some ⟨G, 0, none⟩) A c w)
    have E := Lib.hid (got_bad (l := L.map (·.1)) (a := a) (by rw [List.length_map]; exact hb))
    clear hb hr hA
    go_enter Try.func41, Try.ntmps41
    go_wp2_with fail
    refine RB.out.mono ?_
    rintro e w' ⟨rfl, hbw⟩
    go_wp2_with fail
    go_ret3
    exact ⟨by rw [E.out.1, E.out.2.1, E.out.2.2]; rfl, Near.of hbw⟩
  · obtain ⟨a', rfl⟩ : ∃ a' : Nat, a = a' := ⟨a.toNat, by omega⟩
    have ha : a' ≤ L.length := by omega
    have RD := Lib.hid (read_in L hL a' ha G A c w hG hr hA)
    have h0 : ∀ d ∈ (L.map (·.1)).drop a', 0 ≤ d := fun d hd => by
      obtain ⟨x, _, rfl⟩ := List.mem_map.1 (List.mem_of_mem_drop hd)
      exact x.2.1
    have hsz := scan_size ((L.map (·.1)).drop a') 0
    have hln : ((L.map (·.1)).drop a').length = L.length - a' := by simp
    rw [hln] at hsz
    have hmd : (L.drop a').map (·.1) = (L.map (·.1)).drop a' := by rw [List.map_drop]
    rw [hmd] at RD
    by_cases he : (scan 0 ((L.map (·.1)).drop a')).1 = 0
    · have E := Lib.hid (got_ok (l := L.map (·.1)) (a := a') (by rw [List.length_map]; exact ha) he)
      have hn0 := (numOf_range (((L.map (·.1)).drop a').take (scan 0 ((L.map (·.1)).drop a')).2)).1
      have hn1 := numOf_ten h0 he
      have e2 := E.out
      obtain ⟨⟨se, sz⟩, hsc⟩ : ∃ sc, scan 0 ((L.map (·.1)).drop a') = sc := ⟨_, rfl⟩
      rw [hsc] at he hn0 hn1 hsz e2
      simp only at he hn0 hn1 hsz e2
      subst he
      have RD2 : Hid (Calls Try.prog 47 #[.pointer (some ⟨G, 0, none⟩), .slice A L.length c, .int .i64 a'] w fun e w' => e = .returned (.int .i64 0) ∧ Near G w w' ∧ Gath w' G (numOf (((L.map (·.1)).drop a').take sz)) sz) :=
        Lib.hid (RD.out.mono fun e w' ⟨h1, h2, h3⟩ => by rw [hsc] at h1 h3; exact ⟨h1, h2, h3 rfl⟩)
      have E2 : Hid (gotN (L.map (·.1)) a' = numOf (((L.map (·.1)).drop a').take sz) ∧ gotP (L.map (·.1)) a' = a' + sz ∧ gotE (L.map (·.1)) a' = 0) := Lib.hid e2
      clear e2
      generalize numOf (((L.map (·.1)).drop a').take sz) = nn at *
      have hsz2 : sz ≤ 1000000 := by omega
      clear hb hr hA RD hsc E hmd hln h0 hsz hG
      go_enter Try.func41, Try.ntmps41
      go_wp2_with fail
      refine RD2.out.mono ?_
      rintro e w' ⟨rfl, hN, hG'⟩
      have c1 := hG'.cell1
      have HN := Lib.hid hN
      have HG := Lib.hid hG'
      clear hN hG' RD2
      go_wp2_with fail
      go_quiet ((go_at_call 42; exact Calls.quiet_of_same (signed_any G nn sz hn0 hn1 _ (gath_drewN HG.out _))))
      go_wp2_with fail
      go_ret3
      exact ⟨by rw [E2.out.1, E2.out.2.1, E2.out.2.2]; rfl, near_drewN HN.out _⟩
    · have E := Lib.hid (got_err (l := L.map (·.1)) (a := a') (by rw [List.length_map]; exact ha) he)
      have RD2 : Hid (Calls Try.prog 47 #[.pointer (some ⟨G, 0, none⟩), .slice A L.length c, .int .i64 a'] w fun e w' => e = .returned (.int .i64 (scan 0 ((L.map (·.1)).drop a')).1) ∧ Near G w w') :=
        Lib.hid (RD.out.mono fun e w' ⟨h1, h2, h3⟩ => ⟨h1, h2⟩)
      generalize (scan 0 ((L.map (·.1)).drop a')).1 = se at *
      have t : (se != 0) = true := by rw [bne_iff_ne]; exact he
      clear hb hr hA RD he hmd hln h0 hsz hG
      go_enter Try.func41, Try.ntmps41
      go_wp2_with fail
      refine RD2.out.mono ?_
      rintro e w' ⟨rfl, hN⟩
      have HN := Lib.hid hN
      clear hN RD2
      go_wp2_with fail
      go_ret3
      exact ⟨by rw [E.out.1, E.out.2.1, E.out.2.2]; rfl, HN.out⟩

set_option maxRecDepth 100000 in
set_option maxHeartbeats 1000000 in
theorem get_any (l : List Int) (hl : l.length ≤ 1000000) (hb : ∀ z ∈ l, 0 ≤ z ∧ z < 256) (a : Int) (v : Value) (w : World) (hr : Reads .u8 w v l) :
    Calls Try.prog 22 #[v, .int .i64 a] w (Ret w (.tuple #[.int .i64 (unz (gotN l a)), .int .i64 (gotP l a), .int .i64 (gotE l a)])) := by
  obtain ⟨L, rfl⟩ := bytes_lift hb
  rw [List.length_map] at hl
  have hr' := hr.below (below_alloc w (.cells #[.int .u64 0, .int .i64 0] 62))
  obtain ⟨A, c, rfl, hc, hk⟩ := hr
  rw [List.length_map] at hr' ⊢
  have hG : Gath (w.alloc (.cells #[.int .u64 0, .int .i64 0] 62)) w.heap.size 0 0 := World.alloc_heap_new w _
  have K := Lib.hid (getSigned_core L hl a w.heap.size A c _ hG hr' (fun b off hne e => by
    obtain ⟨x, L', rfl⟩ := List.exists_cons_of_ne_nil hne
    obtain ⟨b', off', e1, e2, _⟩ := hk 0 x.1 rfl
    rw [e] at e1
    cases e1
    omega))
  clear hk hr' hG hb
  generalize L.map (·.1) = l at *
  go_enter Try.func22, Try.ntmps22
  go_wp2_with fail
  refine K.out.mono ?_
  rintro e w' ⟨rfl, hN⟩
  have HB := Lib.hid (near_below hN rfl)
  clear hN K
  go_wp2_with fail
  go_ret3
  exact ⟨rfl, HB.out⟩
end Go.Proofs.Ytahfopednhmbiaa
