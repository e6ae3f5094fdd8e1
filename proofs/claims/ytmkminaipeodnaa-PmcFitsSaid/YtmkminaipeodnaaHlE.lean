/-
  Layer 8: the laws' first line: does the layer do anything? Conditions: none.
-/
import Derived.Test.YtmkminaipeodnaaHlD
import Derived.Test.YtmkminaipeodnaaMaA
namespace Go.Proofs.Ytmkminaipeodnaa.P8
open Go.RowKit Go.Shelf

theorem com_le (l : List Bd) : comLo l ≤ comHi l ∧ -2305844108725321728 ≤ comLo l ∧ comHi l ≤ 2305844108725321728 := by
  unfold comLo comHi
  by_cases g : codeC l = 0
  · rw [if_pos g, if_pos g]
    have hk : okD l = true := by
      unfold codeC at g
      cases h : okD l
      · rw [h] at g; simp at g
      · rfl
    obtain ⟨h1, h2, h3⟩ := first_le (okD_facts hk).2.2 (okD_ne hk)
    exact ⟨h2, h1, h3⟩
  · rw [if_neg g, if_neg g]; omega
theorem fitA_any (l : List Bd) (hl : l.length ≤ 9223372036854775807) (v : Value) (w : World) (h : ReadsD w v l) :
    Calls Try.prog 13 #[v] w (Ret w (.tuple #[.int .i64 (fitD l), .int .i64 (codeC l)])) := by
  obtain ⟨h1, h2, h3⟩ := com_le l
  exact fit_any l hl h1 (by omega) (by omega) v w h
theorem ok_a : okD [⟨0, 1, 5⟩, ⟨1, 3, 9⟩, ⟨2, 4, 4⟩] = true := by decide
theorem com_a : comLo [⟨0, 1, 5⟩, ⟨1, 3, 9⟩, ⟨2, 4, 4⟩] = 4 ∧ comHi [⟨0, 1, 5⟩, ⟨1, 3, 9⟩, ⟨2, 4, 4⟩] = 4 ∧ codeC [⟨0, 1, 5⟩, ⟨1, 3, 9⟩, ⟨2, 4, 4⟩] = 0 := by decide
theorem fit_b : fitD [⟨0, 1, 5⟩, ⟨1, 2, 9⟩] = 3 ∧ codeC [⟨0, 1, 5⟩, ⟨1, 2, 9⟩] = 0 := by decide
theorem fit_c : codeC [⟨0, 1, 2⟩, ⟨1, 3, 4⟩] = 181 := by decide
theorem cut_d : cutR [⟨0, 1, 3⟩, ⟨1, 2, 5⟩, ⟨2, 4, 6⟩, ⟨3, 5, 9⟩, ⟨4, 0, 0⟩] = [2, 2, 1] ∧ codeK [⟨0, 1, 3⟩, ⟨1, 2, 5⟩, ⟨2, 4, 6⟩, ⟨3, 5, 9⟩, ⟨4, 0, 0⟩] = 0 := by
  have h : okD [⟨0, 1, 3⟩, ⟨1, 2, 5⟩, ⟨2, 4, 6⟩, ⟨3, 5, 9⟩, ⟨4, 0, 0⟩] = true := by decide
  refine ⟨?_, by rw [codeK, h]; rfl⟩
  have f1 : (firstD [⟨0, 1, 3⟩, ⟨1, 2, 5⟩, ⟨2, 4, 6⟩, ⟨3, 5, 9⟩, ⟨4, 0, 0⟩]).n = 2 := by decide
  have f2 : (firstD [⟨2, 4, 6⟩, ⟨3, 5, 9⟩, ⟨4, 0, 0⟩]).n = 2 := by decide
  have f3 : (firstD [⟨4, 0, 0⟩]).n = 1 := by decide
  rw [cutR, h, if_pos rfl, cutD_eq, cutN_next (by simp), f1]
  simp only [List.drop_succ_cons, List.drop_zero]
  rw [cutN_next (by simp), f2]
  simp only [List.drop_succ_cons, List.drop_zero]
  rw [cutN_next (by simp), f3]
  simp only [List.drop_succ_cons, List.drop_zero]
  rw [cutN_nil]
  rfl
theorem len_e : lenD [⟨0, 1, 3⟩, ⟨1, 2, 5⟩, ⟨2, 4, 6⟩] = 2 ∧ okD [⟨0, 1, 3⟩, ⟨1, 2, 5⟩, ⟨2, 4, 6⟩] = true := by decide
theorem bad_f : okD [⟨0, 2, 1⟩] = false := by decide
set_option maxRecDepth 100000 in
set_option maxHeartbeats 2000000 in
theorem wakes_any (w : World) : Calls Try.prog 10 #[] w (Ret w (.bool true)) := by
  have AT : Hid (∀ (W : World) (B : Nat) (l : List Int) (n : Nat), B = W.heap.size → l.length = n → l.length ≤ 1000 → Calls Try.prog 26 #[.slice (some ⟨B, 0, none⟩) n n] (W.alloc (.cells (l.map (Value.int .i64)).toArray 2)) (LaidD (W.alloc (.cells (l.map (Value.int .i64)).toArray 2)) (atF 0 l))) := Lib.hid (fun W B l n hB hn hl => by
    subst hB
    exact at_any l hl (.slice (some ⟨W.heap.size, 0, none⟩) n n) _ (reads_new (k := .i64) (w := W) (t := 2) (l := l) n hn))
  have CA : Hid (∀ (v : Value) (W : World), ReadsD W v [⟨0, 1, 5⟩, ⟨1, 3, 9⟩, ⟨2, 4, 4⟩] → Calls Try.prog 12 #[v] W (Ret W (.tuple #[spV 4 4, .int .i64 0]))) := Lib.hid (fun v W h => by
    have := common_any _ (by decide) v W h
    rwa [com_a.1, com_a.2.1, com_a.2.2] at this)
  have FB : Hid (∀ (v : Value) (W : World), ReadsD W v [⟨0, 1, 5⟩, ⟨1, 2, 9⟩] → Calls Try.prog 13 #[v] W (Ret W (.tuple #[.int .i64 3, .int .i64 0]))) := Lib.hid (fun v W h => by
    have := fitA_any _ (by decide) v W h
    rwa [fit_b.1, fit_b.2] at this)
  have FC : Hid (∀ (v : Value) (W : World), ReadsD W v [⟨0, 1, 2⟩, ⟨1, 3, 4⟩] → Calls Try.prog 13 #[v] W (Ret W (.tuple #[.int .i64 (fitD [⟨0, 1, 2⟩, ⟨1, 3, 4⟩]), .int .i64 181]))) := Lib.hid (fun v W h => by
    have := fitA_any _ (by decide) v W h
    rwa [fit_c] at this)
  have CD : Hid (∀ (v : Value) (W : World), ReadsD W v [⟨0, 1, 3⟩, ⟨1, 2, 5⟩, ⟨2, 4, 6⟩, ⟨3, 5, 9⟩, ⟨4, 0, 0⟩] → Calls Try.prog 20 #[v] W (CutEnd W [2, 2, 1] 0)) := Lib.hid (fun v W h => by
    have := cut_any _ (by decide) v W h
    rwa [cut_d.1, cut_d.2] at this)
  have LE : Hid (∀ (v : Value) (W : World), ReadsD W v [⟨0, 1, 3⟩, ⟨1, 2, 5⟩, ⟨2, 4, 6⟩] → Calls Try.prog 19 #[v] W (Ret W (.tuple #[.int .i64 2, .int .i64 0]))) := Lib.hid (fun v W h => by
    have := longest_any _ (by decide) v W h
    rwa [len_e.1, len_e.2] at this)
  have BF : Hid (∀ (v : Value) (W : World), ReadsD W v [⟨0, 2, 1⟩] → Calls Try.prog 15 #[v] W (Ret W (.int .i64 180))) := Lib.hid (fun v W h => by
    have := bcheck_any _ (by decide) v W h
    rwa [bad_f] at this)
  have EQ : Hid (∀ (v : Value) (W : World), Reads .i64 W v [2, 2, 1] → Calls Try.prog 22 #[v, .slice (some ⟨W.heap.size, 0, none⟩) 3 3] (W.alloc (.cells #[.int .i64 2, .int .i64 2, .int .i64 1] 3)) (Ret (W.alloc (.cells #[.int .i64 2, .int .i64 2, .int .i64 1] 3)) (.bool true))) := Lib.hid (fun v W h =>
    equalN _ (by decide) _ _ _ (h.below (below_alloc W _)) reads_three)
  go_enter Try.func10, Try.ntmps10
  go_wp2_with fail
  have hHeld : Keeps w [] w := ⟨Below.refl _ _, trivial⟩
  refine (AT.out _ _ [1, 5, 3, 9, 4, 4] 6 (by simp) rfl (by decide)).mono ?_
  rintro e a1 ⟨v1, rfl, hb, ho⟩
  have H1 := Lib.hid (readsD_own ho)
  replace hHeld := hHeld.next (past1 hb)
  obtain ⟨A1v, n1v, c1v, hv⟩ : ∃ A n c, v1 = .slice A n c := by obtain ⟨A, c, e, _⟩ := H1.out; exact ⟨_, _, _, e⟩
  subst hv
  clear ho hb
  go_wp2_with fail
  refine (CA.out _ _ H1.out).mono ?_
  rintro e w1 ⟨rfl, hb⟩
  replace hHeld := hHeld.next hb
  clear hb
  go_wp2_with fail
  replace hHeld := newK2 (L := []) (hHeld.alloc (.cells #[.int .i64 4, .int .i64 4] 26))
  refine (AT.out _ _ [1, 5, 2, 9] 4 (by simp) rfl (by decide)).mono ?_
  rintro e a2 ⟨v2, rfl, hb, ho⟩
  have H2 := Lib.hid (readsD_own ho)
  replace hHeld := hHeld.next (past1 hb)
  obtain ⟨A2v, n2v, c2v, hv⟩ : ∃ A n c, v2 = .slice A n c := by obtain ⟨A, c, e, _⟩ := H2.out; exact ⟨_, _, _, e⟩
  subst hv
  clear ho hb
  go_wp2_with fail
  refine (FB.out _ _ H2.out).mono ?_
  rintro e w2 ⟨rfl, hb⟩
  replace hHeld := hHeld.next hb
  clear hb
  go_wp2_with fail
  refine (AT.out _ _ [1, 2, 3, 4] 4 (by simp) rfl (by decide)).mono ?_
  rintro e a3 ⟨v3, rfl, hb, ho⟩
  have H3 := Lib.hid (readsD_own ho)
  replace hHeld := hHeld.next (past1 hb)
  obtain ⟨A3v, n3v, c3v, hv⟩ : ∃ A n c, v3 = .slice A n c := by obtain ⟨A, c, e, _⟩ := H3.out; exact ⟨_, _, _, e⟩
  subst hv
  clear ho hb
  go_wp2_with fail
  refine (FC.out _ _ H3.out).mono ?_
  rintro e w3 ⟨rfl, hb⟩
  replace hHeld := hHeld.next hb
  clear hb
  go_wp2_with fail
  refine (AT.out _ _ [1, 3, 2, 5, 4, 6, 5, 9, 0, 0] 10 (by simp) rfl (by decide)).mono ?_
  rintro e a4 ⟨v4, rfl, hb, ho⟩
  have H4 := Lib.hid (readsD_own ho)
  replace hHeld := hHeld.next (past1 hb)
  obtain ⟨A4v, n4v, c4v, hv⟩ : ∃ A n c, v4 = .slice A n c := by obtain ⟨A, c, e, _⟩ := H4.out; exact ⟨_, _, _, e⟩
  subst hv
  clear ho hb
  go_wp2_with fail
  refine (CD.out _ _ H4.out).mono ?_
  rintro e w4 ⟨hb, A5, n5, c5, rfl, ho⟩
  replace hHeld := hHeld.next hb
  have HC := Lib.hid (reads_own ho)
  obtain ⟨e5, _, _⟩ := HC.out.at
  simp only [List.length_cons, List.length_nil, Nat.reduceAdd] at e5
  subst e5
  clear hb ho
  go_wp2_with fail
  refine (AT.out _ _ [1, 3, 2, 5, 4, 6] 6 (by simp) rfl (by decide)).mono ?_
  rintro e a5 ⟨v5, rfl, hb, ho⟩
  have H5 := Lib.hid (readsD_own ho)
  replace hHeld := hHeld.next (past1 hb)
  obtain ⟨A5v, n5v, c5v, hv⟩ : ∃ A n c, v5 = .slice A n c := by obtain ⟨A, c, e, _⟩ := H5.out; exact ⟨_, _, _, e⟩
  subst hv
  replace HC := Lib.hid (HC.out.below (past1 hb))
  clear ho hb
  go_wp2_with fail
  refine (LE.out _ _ H5.out).mono ?_
  rintro e w5 ⟨rfl, hb⟩
  replace hHeld := hHeld.next hb
  replace HC := Lib.hid (HC.out.below hb)
  obtain ⟨⟨kz0, kc0, kf0⟩, ⟨kz1, kc1, kf1⟩, _⟩ := hHeld.2
  clear hb
  go_wp2_with fail
  refine (EQ.out _ _ HC.out).mono ?_
  rintro e w6 ⟨rfl, hb⟩
  replace hHeld := hHeld.next (past1 hb)
  clear hb kz0 kc0 kf0 kz1 kc1 kf1
  go_wp2_with fail
  refine (AT.out _ _ [2, 1] 2 (by simp) rfl (by decide)).mono ?_
  rintro e a6 ⟨v6, rfl, hb, ho⟩
  have H6 := Lib.hid (readsD_own ho)
  replace hHeld := hHeld.next (past1 hb)
  obtain ⟨A6v, n6v, c6v, hv⟩ : ∃ A n c, v6 = .slice A n c := by obtain ⟨A, c, e, _⟩ := H6.out; exact ⟨_, _, _, e⟩
  subst hv
  clear ho hb
  go_wp2_with fail
  refine (BF.out _ _ H6.out).mono ?_
  rintro e w6 ⟨rfl, hb⟩
  replace hHeld := hHeld.next hb
  clear hb
  go_wp2_with fail
  go_ret
  exact ⟨rfl, hHeld.1⟩
end Go.Proofs.Ytmkminaipeodnaa.P8
