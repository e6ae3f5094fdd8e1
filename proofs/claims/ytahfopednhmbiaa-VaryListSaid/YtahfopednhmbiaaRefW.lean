/-
  The document's own answers for layer 2: a number out of bytes. Conditions: those written at each fact.
-/
import Derived.Test.YtahfopednhmbiaaRefV
import Derived.Test.YtahfopednhmbiaaRow2
namespace Go.Proofs.Ytahfopednhmbiaa
open Go.RowKit Go.Shelf

/-- How many bytes the number has that is got. -/
def gotM (l : List Int) (a : Int) : Int := if gotE l a = 0 then gotP l a - a else 0
theorem gotM_err {l : List Int} {a : Int} (h : gotE l a ≠ 0) : gotM l a = 0 := by unfold gotM; rw [if_neg h]
theorem numOf_drop (l : List Int) : ∀ i, numOf (l.drop i) ≤ numOf l := by
  intro i
  induction l generalizing i with
  | nil => simp
  | cons x l ih =>
    cases i with
    | zero => simp
    | succ i =>
      rw [List.drop_succ_cons, numOf]
      have := ih i
      have := (numOf_range l).1
      omega
theorem numOf_at {l : List Int} {i : Nat} {d : Int} (h : l[i]? = some d) : numOf (l.drop i) = d % 128 + 128 * numOf (l.drop (i + 1)) := by
  obtain ⟨hlt, e⟩ := List.getElem?_eq_some_iff.1 h
  rw [List.drop_eq_getElem_cons hlt, numOf, e]
/-- How the answers stand to the bytes up to one place. -/
theorem out_split {l : List Int} {j : Nat} {d : Int} (h : l[j]? = some d) : l = l.take j ++ d :: l.drop (j + 1) := by
  obtain ⟨hlt, e⟩ := List.getElem?_eq_some_iff.1 h
  rw [← e, ← List.drop_eq_getElem_cons hlt, List.take_append_drop]
theorem out_len {l : List Int} {j : Nat} {d : Int} (h : l[j]? = some d) : (l.take j).length = j := by
  have := (List.getElem?_eq_some_iff.1 h).1
  rw [List.length_take]
  omega
theorem out_cont {l : List Int} {j : Nat} {d : Int} (h : l[j]? = some d) (hj : j ≤ 9) (hc : ∀ x ∈ l.take j, 128 ≤ x) : scan 0 l = if j = 9 ∧ 1 < d then (7, j + 1) else if 128 ≤ d then scan (j + 1) (l.drop (j + 1)) else if d = 0 ∧ 1 ≤ j then (7, j + 1) else (0, j + 1) := by
  have hl := out_len h
  have := scan_at (q := l.take j) (d := d) (r := l.drop (j + 1)) ⟨by omega, hc⟩
  rw [← out_split h, hl] at this
  exact this

set_option maxHeartbeats 1000000 in
theorem refGet_bad (l : Nat) (a : Int) (ha : a < 0 ∨ (l : Int) < a) (A : Option Addr) (c : Nat) (w : World) :
    Calls Try.prog 23 #[.slice A l c, .int .i64 a] w (fun e w' => e = .returned (.tuple #[.int .u64 0, .int .i64 0, .int .i64 2]) ∧ w = w') := by
  by_cases g0 : a < 0
  · clear ha
    go_enter Try.func23, Try.ntmps23
    go_wp2_with fail
    go_ret3
    exact ⟨rfl, rfl⟩
  · have g1 : (l : Int) < a := by omega
    clear ha
    go_enter Try.func23, Try.ntmps23
    go_wp2_with fail
    go_ret3
    exact ⟨rfl, rfl⟩
set_option maxRecDepth 100000 in
set_option maxHeartbeats 1000000 in
theorem refGet_empty (l : Nat) (hl : l ≤ 1000000) (A : Option Addr) (c : Nat) (hc : l ≤ c) (w : World) :
    Calls Try.prog 23 #[.slice A l c, .int .i64 l] w (fun e w' => e = .returned (.tuple #[.int .u64 0, .int .i64 0, .int .i64 6]) ∧ w = w') := by
  have t0 : decide ((l : Int) < 0) = false := by simp
  cases A with
  | none =>
    go_enter Try.func23, Try.ntmps23
    go_wp2_with fail
    go_loop [8] (fun m => m = .int .i64 0) (fun _ => 0)
    case atStart => rfl
    case round =>
      subst hrel
      go_wp2_with fail
      go_ret3
      exact ⟨rfl, rfl⟩
  | some ad =>
    by_cases gc : c = l
    · subst gc
      go_enter Try.func23, Try.ntmps23
      go_wp2_with fail
      go_loop [8] (fun m => m = .int .i64 0) (fun _ => 0)
      case atStart => rfl
      case round =>
        subst hrel
        go_wp2_with fail
        go_ret3
        exact ⟨rfl, rfl⟩
    · go_enter Try.func23, Try.ntmps23
      go_wp2_with fail
      go_loop [8] (fun m => m = .int .i64 0) (fun _ => 0)
      case atStart => rfl
      case round =>
        subst hrel
        go_wp2_with fail
        go_ret3
        exact ⟨rfl, rfl⟩

/-- What is answered of bytes that begin at their first one. -/
def ansN (l : List Int) : Int := if (scan 0 l).1 = 0 then numOf (l.take (scan 0 l).2) else 0
def ansM (l : List Int) : Int := if (scan 0 l).1 = 0 then ((scan 0 l).2 : Int) else 0
theorem ans_err {l : List Int} {e : Int} {s : Nat} (h : scan 0 l = (e, s)) (he : e ≠ 0) : ansN l = 0 ∧ ansM l = 0 ∧ (scan 0 l).1 = e := by
  unfold ansN ansM; rw [h, if_neg he, if_neg he]; exact ⟨rfl, rfl, rfl⟩
theorem ans_ok {l : List Int} {s : Nat} (h : scan 0 l = (0, s)) : ansN l = numOf (l.take s) ∧ ansM l = s ∧ (scan 0 l).1 = 0 := by
  unfold ansN ansM; rw [h]; exact ⟨rfl, rfl, rfl⟩

set_option maxRecDepth 100000 in
set_option maxHeartbeats 8000000 in
theorem refGet_main (l : List Int) (hl1 : 1 ≤ l.length) (hl : l.length ≤ 1000000) (hbd : ∀ z ∈ l, 0 ≤ z ∧ z < 256) (a : Nat) (_ha : a ≤ 1000000) (b off c : Nat) (hc : a + l.length ≤ c) (w : World) (hcells : ∀ i z, l[i]? = some z → w.cell? ⟨b, off + a + i, none⟩ = some (.int .u8 z)) :
    Calls Try.prog 23 #[.slice (some ⟨b, off, none⟩) (a + l.length) c, .int .i64 a] w (fun e w' => e = .returned (.tuple #[.int .u64 (ansN l), .int .i64 (ansM l), .int .i64 (scan 0 l).1]) ∧ w = w') := by
  have t0 : decide ((a : Int) < 0) = false := by simp
  have s4 : ¬ c = a := by omega
  have HC := Lib.hid hcells
  have HB := Lib.hid hbd
  clear hcells hbd
  go_enter Try.func23, Try.ntmps23
  go_wp2_with fail
  go_loop [8] (fun m => ∃ k : Nat, m = .int .i64 k ∧ k ≤ 10 ∧ k ≤ l.length ∧ Hid (∀ x ∈ l.take (k - 1), 128 ≤ x)) (fun m => 10 - (intOf m).toNat)
  case atStart => exact ⟨0, rfl, by omega, by omega, Lib.hid (by simp)⟩
  case round =>
    obtain ⟨k, rfl, hk10, hkl, hK⟩ := hrel
    cases k with
    | zero =>
      have u1 : (0 : Nat) < l.length := by omega
      go_wp2_with fail
      go_round
      case rel => exact ⟨1, rfl, by omega, by omega, Lib.hid (by simp)⟩
      case measure => simp [intOf]
    | succ j =>
      rw [Nat.add_sub_cancel] at hK
      obtain ⟨d, hd⟩ : ∃ d, l[j]? = some d := ⟨_, List.getElem?_eq_getElem (by omega)⟩
      have hcell := HC.out j d hd
      have hdr := HB.out d (List.mem_of_getElem? hd)
      have OC := Lib.hid (out_cont hd (by omega) hK.out)
      have HD := Lib.hid hd
      clear hd
      by_cases g1 : j + 1 < 10 ∧ j + 1 < l.length ∧ 128 ≤ d
      · obtain ⟨g1, g2, g3⟩ := g1
        have hK2 : Hid (∀ x ∈ l.take (j + 1 + 1 - 1), 128 ≤ x) := Lib.hid (by
          intro x hx
          rw [Nat.add_sub_cancel] at hx
          obtain ⟨hlt, e⟩ := List.getElem?_eq_some_iff.1 HD.out
          rw [List.take_succ_eq_append_getElem hlt, e] at hx
          rcases List.mem_append.1 hx with hx | hx
          · exact hK.out x hx
          · rw [List.mem_singleton.1 hx]; exact g3)
        clear OC HD hK
        go_wp2_with fail
        go_round
        case rel => exact ⟨j + 1 + 1, by simp, by omega, by omega, hK2⟩
        case measure => simp [intOf]; omega
      · clear hK
        by_cases gE : j = 9 ∧ 1 < d
        · obtain ⟨rfl, g2⟩ := gE
          have HO := Lib.hid (ans_err (l := l) (by rw [OC.out, if_pos ⟨rfl, g2⟩]) (by decide))
          have c9 : w.cell? ⟨b, off + a + 9, none⟩ = some (.int .u8 d) := hcell
          clear OC HD g1
          go_wp2_with fail
          go_ret3
          exact ⟨by rw [HO.out.1, HO.out.2.1, HO.out.2.2]; rfl, rfl⟩
        · by_cases g8 : 128 ≤ d
          · have ej : j + 1 = l.length := by omega
            have j9 : j < 9 := by omega
            have er : l.drop (j + 1) = [] := by rw [ej, List.drop_length]
            have HO := Lib.hid (ans_err (l := l) (by rw [OC.out, if_neg gE, if_pos g8, er, scan]) (by decide))
            have nz : ¬ (j + 1 < l.length) := by omega
            have nz' : decide (j + 1 < l.length) = false := decide_eq_false nz
            have t9 : (((j : Nat) : Int) + 1 == 10) = false := beq_eq_false_iff_ne.2 (by omega)
            have t9' : (((j : Nat) : Int) + 1 == 0) = false := beq_eq_false_iff_ne.2 (by omega)
            clear OC HD g1 ej er gE
            go_wp2_with fail
            go_ret3
            exact ⟨by rw [HO.out.1, HO.out.2.1, HO.out.2.2]; rfl, rfl⟩
          · by_cases g9 : j = 9
            · subst g9
              have c9 : w.cell? ⟨b, off + a + 9, none⟩ = some (.int .u8 d) := hcell
              have d1 : d ≤ 1 := by omega
              by_cases gz : d = 0
              · subst gz
                have HO := Lib.hid (ans_err (l := l) (by rw [OC.out, if_neg (by omega), if_neg (by omega), if_pos ⟨rfl, by omega⟩]) (by decide))
                clear OC HD g1 gE
                go_wp2_with fail
                go_ret3
                exact ⟨by rw [HO.out.1, HO.out.2.1, HO.out.2.2]; rfl, rfl⟩
              · have d2 : d = 1 := by omega
                subst d2
                have HO := Lib.hid (ans_ok (l := l) (s := 9 + 1) (by rw [OC.out, if_neg (by omega), if_neg (by omega), if_neg (by omega)]))
                have hn0 : numOf (l.take (9 + 1)) < 18446744073709551616 := by
                  have h0 : (scan 0 l).1 = 0 := HO.out.2.2
                  have h1 := numOf_ten (l := l) (fun x hx => (HB.out x hx).1) h0
                  have h2 : (scan 0 l).2 = 9 + 1 := by rw [OC.out, if_neg (by omega), if_neg (by omega), if_neg (by omega)]
                  rwa [h2] at h1
                have HN : Hid (∀ i d, i ≤ 9 → l[i]? = some d → numOf ((l.take (9 + 1)).drop i) = d % 128 + 128 * numOf ((l.take (9 + 1)).drop (i + 1)) ∧ numOf ((l.take (9 + 1)).drop i) < 18446744073709551616 ∧ 0 ≤ numOf ((l.take (9 + 1)).drop (i + 1))) := Lib.hid (fun i d hi hd => by
                  have e := numOf_at (l := l.take (9 + 1)) (i := i) (d := d) (by rw [List.getElem?_take, if_pos (by omega)]; exact hd)
                  exact ⟨e, Int.lt_of_le_of_lt (numOf_drop _ i) hn0, (numOf_range _).1⟩)
                have HZ : Hid (numOf ((l.take (9 + 1)).drop (9 + 1)) = 0 ∧ numOf ((l.take (9 + 1)).drop 0) = numOf (l.take (9 + 1))) := Lib.hid ⟨by rw [List.drop_of_length_le (by simp; omega)]; rfl, by rw [List.drop_zero]⟩
                clear OC HD g1 gE hn0
                obtain ⟨F, hF⟩ : ∃ F : Nat → Int, F = fun t => numOf ((l.take (9 + 1)).drop t) := ⟨_, rfl⟩
                have HN2 : Hid (∀ i d, i ≤ 9 → l[i]? = some d → F i = d % 128 + 128 * F (i + 1) ∧ F i < 18446744073709551616 ∧ 0 ≤ F (i + 1)) := Lib.hid (by rw [hF]; exact HN.out)
                have HZ2 : Hid (F (9 + 1) = 0 ∧ F 0 = ansN l) := Lib.hid (by rw [hF, HO.out.1]; exact HZ.out)
                clear hF HN HZ
                go_wp2_with fail
                go_loop [9, 10] (fun nv iv => ∃ (x : Int) (t : Nat), iv = .int .i64 x ∧ Hid (x + 1 = t) ∧ -1 ≤ x ∧ x ≤ 9 ∧ nv = .int .u64 (F t)) (fun _ iv => (intOf iv + 1).toNat)
                case atStart => exact ⟨9, 9 + 1, by simp, Lib.hid (by simp), by omega, by omega, by rw [HZ2.out.1]⟩
                case round =>
                  obtain ⟨x, t, rfl, hx, hx1, hx2, rfl⟩ := hrel
                  by_cases gx : 0 ≤ x
                  · obtain ⟨i, rfl⟩ := Int.eq_ofNat_of_zero_le gx
                    obtain rfl : t = i + 1 := by have := hx.out; omega
                    obtain ⟨z, hz⟩ : ∃ z, l[i]? = some z := ⟨_, List.getElem?_eq_getElem (by omega)⟩
                    have ci := HC.out i z hz
                    have hzr := HB.out z (List.mem_of_getElem? hz)
                    obtain ⟨e1, e2, e3⟩ := HN2.out i z (by omega) hz
                    have i1 : (i : Int) < (l.length : Int) := by omega
                    have EF : Hid (F i = F (i + 1) * 128 + z % 128) := Lib.hid (by omega)
                    have b1 : F (i + 1) * 128 + z % 128 < 18446744073709551616 := by omega
                    have b2 : F (i + 1) * 128 < 18446744073709551616 := by omega
                    clear hz e1 e2 hx
                    generalize F (i + 1) = y at *
                    go_wp2_with fail
                    go_round
                    case rel => exact ⟨(i : Int) - 1, i, rfl, Lib.hid (by omega), by omega, by omega, by rw [EF.out]⟩
                    case measure => simp [intOf]
                  · obtain rfl : t = 0 := by have := hx.out; omega
                    clear hx
                    go_wp2_with fail
                    go_ret3
                    exact ⟨by rw [← HZ2.out.2, HO.out.2.1, HO.out.2.2]; rfl, rfl⟩
            · have t9 : (((j : Nat) : Int) + 1 == 10) = false := beq_eq_false_iff_ne.2 (by omega)
              have t9' : (((j : Nat) : Int) + 1 == 0) = false := beq_eq_false_iff_ne.2 (by omega)
              have j9 : j + 1 < 10 := by omega
              by_cases gn : j + 1 < l.length
              · by_cases gz : d = 0 ∧ 1 ≤ j
                · obtain ⟨rfl, gj⟩ := gz
                  have tj : (1 : Int) < (j : Int) + 1 := by omega
                  have HO := Lib.hid (ans_err (l := l) (by rw [OC.out, if_neg (by omega), if_neg (by omega), if_pos ⟨rfl, by omega⟩]) (by decide))
                  clear OC HD g1 gE
                  go_wp2_with fail
                  go_ret3
                  exact ⟨by rw [HO.out.1, HO.out.2.1, HO.out.2.2]; rfl, rfl⟩
                · by_cases gz0 : d = 0
                  · subst gz0
                    obtain rfl : j = 0 := by omega
                    have c0 : w.cell? ⟨b, off + a, none⟩ = some (.int .u8 0) := by simpa using hcell
                    have HO := Lib.hid (ans_ok (l := l) (s := 0 + 1) (by rw [OC.out, if_neg (by omega), if_neg (by omega), if_neg (by omega)]))
                    have hn0 : numOf (l.take (0 + 1)) < 18446744073709551616 := by
                      have h0 : (scan 0 l).1 = 0 := HO.out.2.2
                      have h1 := numOf_ten (l := l) (fun x hx => (HB.out x hx).1) h0
                      have h2 : (scan 0 l).2 = 0 + 1 := by rw [OC.out, if_neg (by omega), if_neg (by omega), if_neg (by omega)]
                      rwa [h2] at h1
                    have HN : Hid (∀ i d, i ≤ 0 → l[i]? = some d → numOf ((l.take (0 + 1)).drop i) = d % 128 + 128 * numOf ((l.take (0 + 1)).drop (i + 1)) ∧ numOf ((l.take (0 + 1)).drop i) < 18446744073709551616 ∧ 0 ≤ numOf ((l.take (0 + 1)).drop (i + 1))) := Lib.hid (fun i d hi hd => by
                      have e := numOf_at (l := l.take (0 + 1)) (i := i) (d := d) (by rw [List.getElem?_take, if_pos (by omega)]; exact hd)
                      exact ⟨e, Int.lt_of_le_of_lt (numOf_drop _ i) hn0, (numOf_range _).1⟩)
                    have HZ : Hid (numOf ((l.take (0 + 1)).drop (0 + 1)) = 0 ∧ numOf ((l.take (0 + 1)).drop 0) = numOf (l.take (0 + 1))) := Lib.hid ⟨by rw [List.drop_of_length_le (by simp; omega)]; rfl, by rw [List.drop_zero]⟩
                    clear OC HD g1 gE hn0
                    obtain ⟨F, hF⟩ : ∃ F : Nat → Int, F = fun t => numOf ((l.take (0 + 1)).drop t) := ⟨_, rfl⟩
                    have HN2 : Hid (∀ i d, i ≤ 0 → l[i]? = some d → F i = d % 128 + 128 * F (i + 1) ∧ F i < 18446744073709551616 ∧ 0 ≤ F (i + 1)) := Lib.hid (by rw [hF]; exact HN.out)
                    have HZ2 : Hid (F (0 + 1) = 0 ∧ F 0 = ansN l) := Lib.hid (by rw [hF, HO.out.1]; exact HZ.out)
                    clear hF HN HZ
                    go_wp2_with fail
                    go_loop [9, 10] (fun nv iv => ∃ (x : Int) (t : Nat), iv = .int .i64 x ∧ Hid (x + 1 = t) ∧ -1 ≤ x ∧ x ≤ 0 ∧ nv = .int .u64 (F t)) (fun _ iv => (intOf iv + 1).toNat)
                    case atStart => exact ⟨0, 0 + 1, rfl, Lib.hid (by simp), by omega, by omega, by rw [HZ2.out.1]⟩
                    case round =>
                      obtain ⟨x, t, rfl, hx, hx1, hx2, rfl⟩ := hrel
                      by_cases gx : 0 ≤ x
                      · obtain ⟨i, rfl⟩ := Int.eq_ofNat_of_zero_le gx
                        obtain rfl : t = i + 1 := by have := hx.out; omega
                        obtain ⟨z, hz⟩ : ∃ z, l[i]? = some z := ⟨_, List.getElem?_eq_getElem (by omega)⟩
                        have ci := HC.out i z hz
                        have hzr := HB.out z (List.mem_of_getElem? hz)
                        obtain ⟨e1, e2, e3⟩ := HN2.out i z (by omega) hz
                        have i1 : (i : Int) < (l.length : Int) := by omega
                        have EF : Hid (F i = F (i + 1) * 128 + z % 128) := Lib.hid (by omega)
                        have b1 : F (i + 1) * 128 + z % 128 < 18446744073709551616 := by omega
                        have b2 : F (i + 1) * 128 < 18446744073709551616 := by omega
                        clear hz e1 e2 hx
                        generalize F (i + 1) = y at *
                        go_wp2_with fail
                        go_round
                        case rel => exact ⟨(i : Int) - 1, i, rfl, Lib.hid (by omega), by omega, by omega, by rw [EF.out]⟩
                        case measure => simp [intOf]
                      · obtain rfl : t = 0 := by have := hx.out; omega
                        clear hx
                        go_wp2_with fail
                        go_ret3
                        exact ⟨by rw [← HZ2.out.2, HO.out.2.1, HO.out.2.2]; rfl, rfl⟩
                  · have tz : (d == 0) = false := beq_eq_false_iff_ne.2 gz0
                    by_cases gj0 : j = 0
                    · subst gj0
                      have c0 : w.cell? ⟨b, off + a, none⟩ = some (.int .u8 d) := by simpa using hcell
                      have HO := Lib.hid (ans_ok (l := l) (s := 0 + 1) (by rw [OC.out, if_neg (by omega), if_neg (by omega), if_neg (by omega)]))
                      have hn0 : numOf (l.take (0 + 1)) < 18446744073709551616 := by
                        have h0 : (scan 0 l).1 = 0 := HO.out.2.2
                        have h1 := numOf_ten (l := l) (fun x hx => (HB.out x hx).1) h0
                        have h2 : (scan 0 l).2 = 0 + 1 := by rw [OC.out, if_neg (by omega), if_neg (by omega), if_neg (by omega)]
                        rwa [h2] at h1
                      have HN : Hid (∀ i d, i ≤ 0 → l[i]? = some d → numOf ((l.take (0 + 1)).drop i) = d % 128 + 128 * numOf ((l.take (0 + 1)).drop (i + 1)) ∧ numOf ((l.take (0 + 1)).drop i) < 18446744073709551616 ∧ 0 ≤ numOf ((l.take (0 + 1)).drop (i + 1))) := Lib.hid (fun i d hi hd => by
                        have e := numOf_at (l := l.take (0 + 1)) (i := i) (d := d) (by rw [List.getElem?_take, if_pos (by omega)]; exact hd)
                        exact ⟨e, Int.lt_of_le_of_lt (numOf_drop _ i) hn0, (numOf_range _).1⟩)
                      have HZ : Hid (numOf ((l.take (0 + 1)).drop (0 + 1)) = 0 ∧ numOf ((l.take (0 + 1)).drop 0) = numOf (l.take (0 + 1))) := Lib.hid ⟨by rw [List.drop_of_length_le (by simp; omega)]; rfl, by rw [List.drop_zero]⟩
                      clear OC HD g1 gE hn0
                      obtain ⟨F, hF⟩ : ∃ F : Nat → Int, F = fun t => numOf ((l.take (0 + 1)).drop t) := ⟨_, rfl⟩
                      have HN2 : Hid (∀ i d, i ≤ 0 → l[i]? = some d → F i = d % 128 + 128 * F (i + 1) ∧ F i < 18446744073709551616 ∧ 0 ≤ F (i + 1)) := Lib.hid (by rw [hF]; exact HN.out)
                      have HZ2 : Hid (F (0 + 1) = 0 ∧ F 0 = ansN l) := Lib.hid (by rw [hF, HO.out.1]; exact HZ.out)
                      clear hF HN HZ
                      go_wp2_with fail
                      go_loop [9, 10] (fun nv iv => ∃ (x : Int) (t : Nat), iv = .int .i64 x ∧ Hid (x + 1 = t) ∧ -1 ≤ x ∧ x ≤ 0 ∧ nv = .int .u64 (F t)) (fun _ iv => (intOf iv + 1).toNat)
                      case atStart => exact ⟨0, 0 + 1, rfl, Lib.hid (by simp), by omega, by omega, by rw [HZ2.out.1]⟩
                      case round =>
                        obtain ⟨x, t, rfl, hx, hx1, hx2, rfl⟩ := hrel
                        by_cases gx : 0 ≤ x
                        · obtain ⟨i, rfl⟩ := Int.eq_ofNat_of_zero_le gx
                          obtain rfl : t = i + 1 := by have := hx.out; omega
                          obtain ⟨z, hz⟩ : ∃ z, l[i]? = some z := ⟨_, List.getElem?_eq_getElem (by omega)⟩
                          have ci := HC.out i z hz
                          have hzr := HB.out z (List.mem_of_getElem? hz)
                          obtain ⟨e1, e2, e3⟩ := HN2.out i z (by omega) hz
                          have i1 : (i : Int) < (l.length : Int) := by omega
                          have EF : Hid (F i = F (i + 1) * 128 + z % 128) := Lib.hid (by omega)
                          have b1 : F (i + 1) * 128 + z % 128 < 18446744073709551616 := by omega
                          have b2 : F (i + 1) * 128 < 18446744073709551616 := by omega
                          clear hz e1 e2 hx
                          generalize F (i + 1) = y at *
                          go_wp2_with fail
                          go_round
                          case rel => exact ⟨(i : Int) - 1, i, rfl, Lib.hid (by omega), by omega, by omega, by rw [EF.out]⟩
                          case measure => simp [intOf]
                        · obtain rfl : t = 0 := by have := hx.out; omega
                          clear hx
                          go_wp2_with fail
                          go_ret3
                          exact ⟨by rw [← HZ2.out.2, HO.out.2.1, HO.out.2.2]; rfl, rfl⟩
                    · have tj : (1 : Int) < (j : Int) + 1 := by omega
                      have HO := Lib.hid (ans_ok (l := l) (s := j + 1) (by rw [OC.out, if_neg (by omega), if_neg (by omega), if_neg (by omega)]))
                      have hn0 : numOf (l.take (j + 1)) < 18446744073709551616 := by
                        have h0 : (scan 0 l).1 = 0 := HO.out.2.2
                        have h1 := numOf_ten (l := l) (fun x hx => (HB.out x hx).1) h0
                        have h2 : (scan 0 l).2 = j + 1 := by rw [OC.out, if_neg (by omega), if_neg (by omega), if_neg (by omega)]
                        rwa [h2] at h1
                      have HN : Hid (∀ i d, i ≤ j → l[i]? = some d → numOf ((l.take (j + 1)).drop i) = d % 128 + 128 * numOf ((l.take (j + 1)).drop (i + 1)) ∧ numOf ((l.take (j + 1)).drop i) < 18446744073709551616 ∧ 0 ≤ numOf ((l.take (j + 1)).drop (i + 1))) := Lib.hid (fun i d hi hd => by
                        have e := numOf_at (l := l.take (j + 1)) (i := i) (d := d) (by rw [List.getElem?_take, if_pos (by omega)]; exact hd)
                        exact ⟨e, Int.lt_of_le_of_lt (numOf_drop _ i) hn0, (numOf_range _).1⟩)
                      have HZ : Hid (numOf ((l.take (j + 1)).drop (j + 1)) = 0 ∧ numOf ((l.take (j + 1)).drop 0) = numOf (l.take (j + 1))) := Lib.hid ⟨by rw [List.drop_of_length_le (by simp; omega)]; rfl, by rw [List.drop_zero]⟩
                      clear OC HD g1 gE hn0
                      obtain ⟨F, hF⟩ : ∃ F : Nat → Int, F = fun t => numOf ((l.take (j + 1)).drop t) := ⟨_, rfl⟩
                      have HN2 : Hid (∀ i d, i ≤ j → l[i]? = some d → F i = d % 128 + 128 * F (i + 1) ∧ F i < 18446744073709551616 ∧ 0 ≤ F (i + 1)) := Lib.hid (by rw [hF]; exact HN.out)
                      have HZ2 : Hid (F (j + 1) = 0 ∧ F 0 = ansN l) := Lib.hid (by rw [hF, HO.out.1]; exact HZ.out)
                      clear hF HN HZ
                      go_wp2_with fail
                      go_loop [9, 10] (fun nv iv => ∃ (x : Int) (t : Nat), iv = .int .i64 x ∧ Hid (x + 1 = t) ∧ -1 ≤ x ∧ x ≤ j ∧ nv = .int .u64 (F t)) (fun _ iv => (intOf iv + 1).toNat)
                      case atStart => exact ⟨j, j + 1, rfl, Lib.hid (by simp), by omega, by omega, by rw [HZ2.out.1]⟩
                      case round =>
                        obtain ⟨x, t, rfl, hx, hx1, hx2, rfl⟩ := hrel
                        by_cases gx : 0 ≤ x
                        · obtain ⟨i, rfl⟩ := Int.eq_ofNat_of_zero_le gx
                          obtain rfl : t = i + 1 := by have := hx.out; omega
                          obtain ⟨z, hz⟩ : ∃ z, l[i]? = some z := ⟨_, List.getElem?_eq_getElem (by omega)⟩
                          have ci := HC.out i z hz
                          have hzr := HB.out z (List.mem_of_getElem? hz)
                          obtain ⟨e1, e2, e3⟩ := HN2.out i z (by omega) hz
                          have i1 : (i : Int) < (l.length : Int) := by omega
                          have EF : Hid (F i = F (i + 1) * 128 + z % 128) := Lib.hid (by omega)
                          have b1 : F (i + 1) * 128 + z % 128 < 18446744073709551616 := by omega
                          have b2 : F (i + 1) * 128 < 18446744073709551616 := by omega
                          clear hz e1 e2 hx
                          generalize F (i + 1) = y at *
                          go_wp2_with fail
                          go_round
                          case rel => exact ⟨(i : Int) - 1, i, rfl, Lib.hid (by omega), by omega, by omega, by rw [EF.out]⟩
                          case measure => simp [intOf]
                        · obtain rfl : t = 0 := by have := hx.out; omega
                          clear hx
                          go_wp2_with fail
                          go_ret3
                          exact ⟨by rw [← HZ2.out.2, HO.out.2.1, HO.out.2.2]; rfl, rfl⟩
              · have nz' : decide (j + 1 < l.length) = false := decide_eq_false gn
                by_cases gz : d = 0 ∧ 1 ≤ j
                · obtain ⟨rfl, gj⟩ := gz
                  have tj : (1 : Int) < (j : Int) + 1 := by omega
                  have HO := Lib.hid (ans_err (l := l) (by rw [OC.out, if_neg (by omega), if_neg (by omega), if_pos ⟨rfl, by omega⟩]) (by decide))
                  clear OC HD g1 gE
                  go_wp2_with fail
                  go_ret3
                  exact ⟨by rw [HO.out.1, HO.out.2.1, HO.out.2.2]; rfl, rfl⟩
                · by_cases gz0 : d = 0
                  · subst gz0
                    obtain rfl : j = 0 := by omega
                    have c0 : w.cell? ⟨b, off + a, none⟩ = some (.int .u8 0) := by simpa using hcell
                    have HO := Lib.hid (ans_ok (l := l) (s := 0 + 1) (by rw [OC.out, if_neg (by omega), if_neg (by omega), if_neg (by omega)]))
                    have hn0 : numOf (l.take (0 + 1)) < 18446744073709551616 := by
                      have h0 : (scan 0 l).1 = 0 := HO.out.2.2
                      have h1 := numOf_ten (l := l) (fun x hx => (HB.out x hx).1) h0
                      have h2 : (scan 0 l).2 = 0 + 1 := by rw [OC.out, if_neg (by omega), if_neg (by omega), if_neg (by omega)]
                      rwa [h2] at h1
                    have HN : Hid (∀ i d, i ≤ 0 → l[i]? = some d → numOf ((l.take (0 + 1)).drop i) = d % 128 + 128 * numOf ((l.take (0 + 1)).drop (i + 1)) ∧ numOf ((l.take (0 + 1)).drop i) < 18446744073709551616 ∧ 0 ≤ numOf ((l.take (0 + 1)).drop (i + 1))) := Lib.hid (fun i d hi hd => by
                      have e := numOf_at (l := l.take (0 + 1)) (i := i) (d := d) (by rw [List.getElem?_take, if_pos (by omega)]; exact hd)
                      exact ⟨e, Int.lt_of_le_of_lt (numOf_drop _ i) hn0, (numOf_range _).1⟩)
                    have HZ : Hid (numOf ((l.take (0 + 1)).drop (0 + 1)) = 0 ∧ numOf ((l.take (0 + 1)).drop 0) = numOf (l.take (0 + 1))) := Lib.hid ⟨by rw [List.drop_of_length_le (by simp; omega)]; rfl, by rw [List.drop_zero]⟩
                    clear OC HD g1 gE hn0
                    obtain ⟨F, hF⟩ : ∃ F : Nat → Int, F = fun t => numOf ((l.take (0 + 1)).drop t) := ⟨_, rfl⟩
                    have HN2 : Hid (∀ i d, i ≤ 0 → l[i]? = some d → F i = d % 128 + 128 * F (i + 1) ∧ F i < 18446744073709551616 ∧ 0 ≤ F (i + 1)) := Lib.hid (by rw [hF]; exact HN.out)
                    have HZ2 : Hid (F (0 + 1) = 0 ∧ F 0 = ansN l) := Lib.hid (by rw [hF, HO.out.1]; exact HZ.out)
                    clear hF HN HZ
                    go_wp2_with fail
                    go_loop [9, 10] (fun nv iv => ∃ (x : Int) (t : Nat), iv = .int .i64 x ∧ Hid (x + 1 = t) ∧ -1 ≤ x ∧ x ≤ 0 ∧ nv = .int .u64 (F t)) (fun _ iv => (intOf iv + 1).toNat)
                    case atStart => exact ⟨0, 0 + 1, rfl, Lib.hid (by simp), by omega, by omega, by rw [HZ2.out.1]⟩
                    case round =>
                      obtain ⟨x, t, rfl, hx, hx1, hx2, rfl⟩ := hrel
                      by_cases gx : 0 ≤ x
                      · obtain ⟨i, rfl⟩ := Int.eq_ofNat_of_zero_le gx
                        obtain rfl : t = i + 1 := by have := hx.out; omega
                        obtain ⟨z, hz⟩ : ∃ z, l[i]? = some z := ⟨_, List.getElem?_eq_getElem (by omega)⟩
                        have ci := HC.out i z hz
                        have hzr := HB.out z (List.mem_of_getElem? hz)
                        obtain ⟨e1, e2, e3⟩ := HN2.out i z (by omega) hz
                        have i1 : (i : Int) < (l.length : Int) := by omega
                        have EF : Hid (F i = F (i + 1) * 128 + z % 128) := Lib.hid (by omega)
                        have b1 : F (i + 1) * 128 + z % 128 < 18446744073709551616 := by omega
                        have b2 : F (i + 1) * 128 < 18446744073709551616 := by omega
                        clear hz e1 e2 hx
                        generalize F (i + 1) = y at *
                        go_wp2_with fail
                        go_round
                        case rel => exact ⟨(i : Int) - 1, i, rfl, Lib.hid (by omega), by omega, by omega, by rw [EF.out]⟩
                        case measure => simp [intOf]
                      · obtain rfl : t = 0 := by have := hx.out; omega
                        clear hx
                        go_wp2_with fail
                        go_ret3
                        exact ⟨by rw [← HZ2.out.2, HO.out.2.1, HO.out.2.2]; rfl, rfl⟩
                  · have tz : (d == 0) = false := beq_eq_false_iff_ne.2 gz0
                    by_cases gj0 : j = 0
                    · subst gj0
                      have c0 : w.cell? ⟨b, off + a, none⟩ = some (.int .u8 d) := by simpa using hcell
                      have HO := Lib.hid (ans_ok (l := l) (s := 0 + 1) (by rw [OC.out, if_neg (by omega), if_neg (by omega), if_neg (by omega)]))
                      have hn0 : numOf (l.take (0 + 1)) < 18446744073709551616 := by
                        have h0 : (scan 0 l).1 = 0 := HO.out.2.2
                        have h1 := numOf_ten (l := l) (fun x hx => (HB.out x hx).1) h0
                        have h2 : (scan 0 l).2 = 0 + 1 := by rw [OC.out, if_neg (by omega), if_neg (by omega), if_neg (by omega)]
                        rwa [h2] at h1
                      have HN : Hid (∀ i d, i ≤ 0 → l[i]? = some d → numOf ((l.take (0 + 1)).drop i) = d % 128 + 128 * numOf ((l.take (0 + 1)).drop (i + 1)) ∧ numOf ((l.take (0 + 1)).drop i) < 18446744073709551616 ∧ 0 ≤ numOf ((l.take (0 + 1)).drop (i + 1))) := Lib.hid (fun i d hi hd => by
                        have e := numOf_at (l := l.take (0 + 1)) (i := i) (d := d) (by rw [List.getElem?_take, if_pos (by omega)]; exact hd)
                        exact ⟨e, Int.lt_of_le_of_lt (numOf_drop _ i) hn0, (numOf_range _).1⟩)
                      have HZ : Hid (numOf ((l.take (0 + 1)).drop (0 + 1)) = 0 ∧ numOf ((l.take (0 + 1)).drop 0) = numOf (l.take (0 + 1))) := Lib.hid ⟨by rw [List.drop_of_length_le (by simp; omega)]; rfl, by rw [List.drop_zero]⟩
                      clear OC HD g1 gE hn0
                      obtain ⟨F, hF⟩ : ∃ F : Nat → Int, F = fun t => numOf ((l.take (0 + 1)).drop t) := ⟨_, rfl⟩
                      have HN2 : Hid (∀ i d, i ≤ 0 → l[i]? = some d → F i = d % 128 + 128 * F (i + 1) ∧ F i < 18446744073709551616 ∧ 0 ≤ F (i + 1)) := Lib.hid (by rw [hF]; exact HN.out)
                      have HZ2 : Hid (F (0 + 1) = 0 ∧ F 0 = ansN l) := Lib.hid (by rw [hF, HO.out.1]; exact HZ.out)
                      clear hF HN HZ
                      go_wp2_with fail
                      go_loop [9, 10] (fun nv iv => ∃ (x : Int) (t : Nat), iv = .int .i64 x ∧ Hid (x + 1 = t) ∧ -1 ≤ x ∧ x ≤ 0 ∧ nv = .int .u64 (F t)) (fun _ iv => (intOf iv + 1).toNat)
                      case atStart => exact ⟨0, 0 + 1, rfl, Lib.hid (by simp), by omega, by omega, by rw [HZ2.out.1]⟩
                      case round =>
                        obtain ⟨x, t, rfl, hx, hx1, hx2, rfl⟩ := hrel
                        by_cases gx : 0 ≤ x
                        · obtain ⟨i, rfl⟩ := Int.eq_ofNat_of_zero_le gx
                          obtain rfl : t = i + 1 := by have := hx.out; omega
                          obtain ⟨z, hz⟩ : ∃ z, l[i]? = some z := ⟨_, List.getElem?_eq_getElem (by omega)⟩
                          have ci := HC.out i z hz
                          have hzr := HB.out z (List.mem_of_getElem? hz)
                          obtain ⟨e1, e2, e3⟩ := HN2.out i z (by omega) hz
                          have i1 : (i : Int) < (l.length : Int) := by omega
                          have EF : Hid (F i = F (i + 1) * 128 + z % 128) := Lib.hid (by omega)
                          have b1 : F (i + 1) * 128 + z % 128 < 18446744073709551616 := by omega
                          have b2 : F (i + 1) * 128 < 18446744073709551616 := by omega
                          clear hz e1 e2 hx
                          generalize F (i + 1) = y at *
                          go_wp2_with fail
                          go_round
                          case rel => exact ⟨(i : Int) - 1, i, rfl, Lib.hid (by omega), by omega, by omega, by rw [EF.out]⟩
                          case measure => simp [intOf]
                        · obtain rfl : t = 0 := by have := hx.out; omega
                          clear hx
                          go_wp2_with fail
                          go_ret3
                          exact ⟨by rw [← HZ2.out.2, HO.out.2.1, HO.out.2.2]; rfl, rfl⟩
                    · have tj : (1 : Int) < (j : Int) + 1 := by omega
                      have HO := Lib.hid (ans_ok (l := l) (s := j + 1) (by rw [OC.out, if_neg (by omega), if_neg (by omega), if_neg (by omega)]))
                      have hn0 : numOf (l.take (j + 1)) < 18446744073709551616 := by
                        have h0 : (scan 0 l).1 = 0 := HO.out.2.2
                        have h1 := numOf_ten (l := l) (fun x hx => (HB.out x hx).1) h0
                        have h2 : (scan 0 l).2 = j + 1 := by rw [OC.out, if_neg (by omega), if_neg (by omega), if_neg (by omega)]
                        rwa [h2] at h1
                      have HN : Hid (∀ i d, i ≤ j → l[i]? = some d → numOf ((l.take (j + 1)).drop i) = d % 128 + 128 * numOf ((l.take (j + 1)).drop (i + 1)) ∧ numOf ((l.take (j + 1)).drop i) < 18446744073709551616 ∧ 0 ≤ numOf ((l.take (j + 1)).drop (i + 1))) := Lib.hid (fun i d hi hd => by
                        have e := numOf_at (l := l.take (j + 1)) (i := i) (d := d) (by rw [List.getElem?_take, if_pos (by omega)]; exact hd)
                        exact ⟨e, Int.lt_of_le_of_lt (numOf_drop _ i) hn0, (numOf_range _).1⟩)
                      have HZ : Hid (numOf ((l.take (j + 1)).drop (j + 1)) = 0 ∧ numOf ((l.take (j + 1)).drop 0) = numOf (l.take (j + 1))) := Lib.hid ⟨by rw [List.drop_of_length_le (by simp; omega)]; rfl, by rw [List.drop_zero]⟩
                      clear OC HD g1 gE hn0
                      obtain ⟨F, hF⟩ : ∃ F : Nat → Int, F = fun t => numOf ((l.take (j + 1)).drop t) := ⟨_, rfl⟩
                      have HN2 : Hid (∀ i d, i ≤ j → l[i]? = some d → F i = d % 128 + 128 * F (i + 1) ∧ F i < 18446744073709551616 ∧ 0 ≤ F (i + 1)) := Lib.hid (by rw [hF]; exact HN.out)
                      have HZ2 : Hid (F (j + 1) = 0 ∧ F 0 = ansN l) := Lib.hid (by rw [hF, HO.out.1]; exact HZ.out)
                      clear hF HN HZ
                      go_wp2_with fail
                      go_loop [9, 10] (fun nv iv => ∃ (x : Int) (t : Nat), iv = .int .i64 x ∧ Hid (x + 1 = t) ∧ -1 ≤ x ∧ x ≤ j ∧ nv = .int .u64 (F t)) (fun _ iv => (intOf iv + 1).toNat)
                      case atStart => exact ⟨j, j + 1, rfl, Lib.hid (by simp), by omega, by omega, by rw [HZ2.out.1]⟩
                      case round =>
                        obtain ⟨x, t, rfl, hx, hx1, hx2, rfl⟩ := hrel
                        by_cases gx : 0 ≤ x
                        · obtain ⟨i, rfl⟩ := Int.eq_ofNat_of_zero_le gx
                          obtain rfl : t = i + 1 := by have := hx.out; omega
                          obtain ⟨z, hz⟩ : ∃ z, l[i]? = some z := ⟨_, List.getElem?_eq_getElem (by omega)⟩
                          have ci := HC.out i z hz
                          have hzr := HB.out z (List.mem_of_getElem? hz)
                          obtain ⟨e1, e2, e3⟩ := HN2.out i z (by omega) hz
                          have i1 : (i : Int) < (l.length : Int) := by omega
                          have EF : Hid (F i = F (i + 1) * 128 + z % 128) := Lib.hid (by omega)
                          have b1 : F (i + 1) * 128 + z % 128 < 18446744073709551616 := by omega
                          have b2 : F (i + 1) * 128 < 18446744073709551616 := by omega
                          clear hz e1 e2 hx
                          generalize F (i + 1) = y at *
                          go_wp2_with fail
                          go_round
                          case rel => exact ⟨(i : Int) - 1, i, rfl, Lib.hid (by omega), by omega, by omega, by rw [EF.out]⟩
                          case measure => simp [intOf]
                        · obtain rfl : t = 0 := by have := hx.out; omega
                          clear hx
                          go_wp2_with fail
                          go_ret3
                          exact ⟨by rw [← HZ2.out.2, HO.out.2.1, HO.out.2.2]; rfl, rfl⟩

set_option maxHeartbeats 1000000 in
theorem refGet_any (l : List Int) (hl : l.length ≤ 1000000) (hb : ∀ z ∈ l, 0 ≤ z ∧ z < 256) (a : Int) (v : Value) (w : World) (hr : Reads .u8 w v l) :
    Calls Try.prog 23 #[v, .int .i64 a] w (fun e w' => e = .returned (.tuple #[.int .u64 (gotN l a), .int .i64 (gotM l a), .int .i64 (gotE l a)]) ∧ w = w') := by
  obtain ⟨A, c, rfl, hc, hk⟩ := hr
  by_cases hx : a < 0 ∨ (l.length : Int) < a
  · obtain ⟨e1, e2, e3⟩ := got_bad hx
    have e4 := gotM_err (l := l) (a := a) (by rw [e3]; decide)
    rw [e1, e4, e3]
    exact refGet_bad l.length a hx A c w
  · obtain ⟨a', rfl⟩ : ∃ a' : Nat, a = a' := ⟨a.toNat, by omega⟩
    have ha : a' ≤ l.length := by omega
    by_cases he : a' = l.length
    · have hd : l.drop a' = [] := by rw [he, List.drop_length]
      obtain ⟨e1, e2, e3⟩ := got_err (l := l) (a := a') ha (by rw [hd]; decide)
      rw [hd] at e3
      have e4 := gotM_err (l := l) (a := (a' : Int)) (by rw [e3]; decide)
      rw [e1, e4, e3, he]
      exact refGet_empty l.length hl A c hc w
    · have hlen : (l.drop a').length = l.length - a' := by simp
      have hlt : a' < l.length := by omega
      obtain ⟨b, off, rfl, _, _⟩ := hk a' l[a'] (List.getElem?_eq_getElem hlt)
      have K := refGet_main (l.drop a') (by omega) (by omega) (fun z hz => hb z (List.mem_of_mem_drop hz)) a' (by omega) b off c (by omega) w (fun i z hz => by
        rw [List.getElem?_drop] at hz
        obtain ⟨b', off', e1, _, e3⟩ := hk (a' + i) z hz
        cases e1
        rwa [← Nat.add_assoc] at e3)
      rw [show a' + (l.drop a').length = l.length from by omega] at K
      have E : gotN l a' = ansN (l.drop a') ∧ gotM l a' = ansM (l.drop a') ∧ gotE l a' = (scan 0 (l.drop a')).1 := by
        by_cases g : (scan 0 (l.drop a')).1 = 0
        · obtain ⟨e1, e2, e3⟩ := got_ok ha g
          unfold ansN ansM gotM
          rw [if_pos g, if_pos g, if_pos e3, e1, e2, e3, g]
          exact ⟨rfl, by omega, rfl⟩
        · obtain ⟨e1, e2, e3⟩ := got_err ha g
          unfold ansN ansM
          rw [if_neg g, if_neg g, gotM_err (by rw [e3]; exact g), e1, e3]
          exact ⟨rfl, rfl, rfl⟩
      rw [E.1, E.2.1, E.2.2]
      exact K

set_option maxHeartbeats 1000000 in
theorem number_any (l : List Int) (hl : l.length ≤ 1000000) (hb : ∀ z ∈ l, 0 ≤ z ∧ z < 256) (a : Int) (v : Value) (w : World) (hr : Reads .u8 w v l) :
    Calls Try.prog 24 #[v, .int .i64 a] w (fun e w' => e = .returned (.tuple #[.int .i64 (unz (gotN l a)), .int .i64 (gotP l a), .int .i64 (gotE l a)]) ∧ w = w') := by
  have G := Lib.hid (refGet_any l hl hb a v w hr)
  have hgr := got_range hb a
  by_cases ge : gotE l a = 0
  · have hab : 0 ≤ a ∧ a ≤ l.length := by
      by_cases hx : a < 0 ∨ (l.length : Int) < a
      · have := (got_bad hx).2.2; rw [this] at ge; cases ge
      · omega
    obtain ⟨a', rfl⟩ : ∃ a' : Nat, a = a' := ⟨a.toNat, by omega⟩
    obtain ⟨p, e2, hap, hpl⟩ := got_place (by omega) ge
    have em : gotM l a' = ((p - a' : Nat) : Int) := by unfold gotM; rw [if_pos ge, e2]; omega
    have EP : Hid (gotP l a' = (a' : Int) + ((p - a' : Nat) : Int)) := Lib.hid (by rw [e2]; omega)
    have EE := Lib.hid ge
    rw [ge, em] at G
    generalize p - a' = m at *
    generalize gotN l a' = nn at *
    have hm : m ≤ 1000000 := by
      have := EP.out
      rw [e2] at this
      omega
    have ha' : a' ≤ 1000000 := by omega
    have UN := Lib.hid (fun W => unsign_any nn hgr.1 hgr.2 W)
    clear hb hr ge e2 em hap hpl hab
    go_enter Try.func24, Try.ntmps24
    go_wp2_with fail
    refine G.out.mono ?_
    rintro e w' ⟨rfl, rfl⟩
    go_wp2_with fail
    refine (UN.out _).mono ?_
    rintro e w' ⟨rfl, rfl⟩
    go_wp2_with fail
    go_ret3
    exact ⟨by rw [EP.out, EE.out]; rfl, rfl⟩
  · have e0 : gotN l a = 0 ∧ gotP l a = 0 := by
      by_cases hx : a < 0 ∨ (l.length : Int) < a
      · exact ⟨(got_bad hx).1, (got_bad hx).2.1⟩
      · obtain ⟨a', rfl⟩ : ∃ a' : Nat, a = a' := ⟨a.toNat, by omega⟩
        by_cases g : (scan 0 (l.drop a')).1 = 0
        · exact absurd (got_ok (by omega) g).2.2 ge
        · exact ⟨(got_err (by omega) g).1, (got_err (by omega) g).2.1⟩
    have E0 : Hid (unz (gotN l a) = 0 ∧ gotP l a = 0) := Lib.hid ⟨by rw [e0.1]; rfl, e0.2⟩
    rw [e0.1, gotM_err ge] at G
    generalize gotE l a = ev at *
    have t : (ev != 0) = true := by rw [bne_iff_ne]; exact ge
    clear hb hr ge e0 hgr
    go_enter Try.func24, Try.ntmps24
    go_wp2_with fail
    refine G.out.mono ?_
    rintro e w' ⟨rfl, rfl⟩
    go_wp2_with fail
    go_ret3
    exact ⟨by rw [E0.out.1, E0.out.2]; rfl, rfl⟩
end Go.Proofs.Ytahfopednhmbiaa
