/-
  Layer 2: the law VaryGets, its walk. Conditions: those written at each fact.
-/
import Derived.Test.YtahfopednhmbiaaRefW
import Derived.Test.YtahfopednhmbiaaKept
namespace Go.Proofs.Ytahfopednhmbiaa
open Go.RowKit Go.Shelf

theorem got_none {l : List Int} {a : Int} (h : gotE l a ≠ 0) : gotN l a = 0 ∧ gotP l a = 0 := by
  by_cases hx : a < 0 ∨ (l.length : Int) < a
  · exact ⟨(got_bad hx).1, (got_bad hx).2.1⟩
  · obtain ⟨a', rfl⟩ : ∃ a' : Nat, a = a' := ⟨a.toNat, by omega⟩
    by_cases g : (scan 0 (l.drop a')).1 = 0
    · exact absurd (got_ok (by omega) g).2.2 h
    · exact ⟨(got_err (by omega) g).1, (got_err (by omega) g).2.1⟩

set_option maxRecDepth 100000 in
set_option maxHeartbeats 4000000 in
theorem gets_err (b : List Int) (hbl : b.length ≤ 9223372036854775807) (hbb : ∀ z ∈ b, 0 ≤ z ∧ z < 256) (a : Int) (v : Value) (w : World) (h : Reads .u8 w v b) (he : gotE (b.take 400) a ≠ 0) :
    Calls Try.prog 4 #[v, .int .i64 a] w (Ret w (.bool true)) := by
  have HH := Lib.hid (fun W (hb : Below w.heap.size w W) => head_any b hbl v W (h.below hb))
  have HKP := Lib.hid (fun W (hb : Below w.heap.size w W) g cap hg hc hl => kept_any b hbl v W (h.below hb) g cap hg hc hl)
  have hl4 : (b.take 400).length ≤ 400 := by simp; omega
  have hlb : ∀ z ∈ b.take 400, 0 ≤ z ∧ z < 256 := fun z hz => hbb z (List.mem_of_mem_take hz)
  generalize b.take 400 = l at *
  have GU := Lib.hid (fun v W (hr : Reads .u8 W v l) => getU_any l (by omega) hlb a v W hr)
  have GS := Lib.hid (fun v W (hr : Reads .u8 W v l) => get_any l (by omega) hlb a v W hr)
  have RG := Lib.hid (fun v W (hr : Reads .u8 W v l) => refGet_any l (by omega) hlb a v W hr)
  have RN := Lib.hid (fun v W (hr : Reads .u8 W v l) => number_any l (by omega) hlb a v W hr)
  rw [(got_none he).1, (got_none he).2] at GU
  rw [(got_none he).1, (got_none he).2] at GS
  rw [(got_none he).1, gotM_err he] at RG
  rw [(got_none he).1, (got_none he).2] at RN
  generalize unz 0 = u0 at *
  generalize gotE l a = ev at *
  have t1 : (ev == 0) = false := beq_eq_false_iff_ne.2 he
  clear h hbb hbl hlb he
  go_enter Try.func4, Try.ntmps4
  go_wp2_with fail
  refine (wakes_any _).mono ?_
  rintro e w1 ⟨rfl, hb1⟩
  have B1 := Lib.hid hb1
  clear hb1
  go_wp2_with fail
  refine (HH.out _ B1.out).mono ?_
  intro e w2 hhead
  obtain ⟨g, cap, rfl, hb2, hg, hcap, hlie, _⟩ := head_parts hhead
  have B2 := Lib.hid (under B1.out hb2)
  have LI := Lib.hid hlie
  clear hb2 hhead hlie B1
  go_wp2_with fail
  refine (GU.out _ _ (reads_lie LI.out.left hg (by omega))).mono ?_
  rintro e w3 ⟨rfl, hb3⟩
  have B3 := Lib.hid (under B2.out hb3)
  have LI3 := Lib.hid (LI.out.below hg hb3)
  have hg3 : g < w3.heap.size := Nat.lt_of_lt_of_le hg hb3.size
  clear hb3 B2 LI hg
  go_wp2_with fail
  refine (GS.out _ _ (reads_lie LI3.out.left hg3 (by omega))).mono ?_
  rintro e w4 ⟨rfl, hb4⟩
  have B4 := Lib.hid (under B3.out hb4)
  have LI4 := Lib.hid (LI3.out.below hg3 hb4)
  have hg4 : g < w4.heap.size := Nat.lt_of_lt_of_le hg3 hb4.size
  clear hb4 B3 LI3 hg3
  go_wp2_with fail
  refine (RG.out _ _ (reads_lie LI4.out.left hg4 (by omega))).mono ?_
  rintro e w5 ⟨rfl, rfl⟩
  go_wp2_with fail
  refine (RN.out _ _ (reads_lie LI4.out.left hg4 (by omega))).mono ?_
  rintro e w5 ⟨rfl, rfl⟩
  go_wp2_with fail
  refine (HKP.out _ B4.out g cap hg4 hcap LI4.out).mono ?_
  rintro e w6 ⟨rfl, hb6⟩
  have B6 := Lib.hid (under B4.out hb6)
  clear hb6 B4 LI4
  go_wp2_with fail
  go_ret
  exact ⟨rfl, B6.out⟩

set_option maxRecDepth 100000 in
set_option maxHeartbeats 4000000 in
theorem gets_ok (b : List Int) (hbl : b.length ≤ 9223372036854775807) (hbb : ∀ z ∈ b, 0 ≤ z ∧ z < 256) (a : Int) (v : Value) (w : World) (h : Reads .u8 w v b) (he : gotE (b.take 400) a = 0) :
    Calls Try.prog 4 #[v, .int .i64 a] w (Ret w (.bool true)) := by
  have HH := Lib.hid (fun W (hb : Below w.heap.size w W) => head_any b hbl v W (h.below hb))
  have HKP := Lib.hid (fun W (hb : Below w.heap.size w W) g cap hg hc hl => kept_any b hbl v W (h.below hb) g cap hg hc hl)
  have hl4 : (b.take 400).length ≤ 400 := by simp; omega
  have hlb : ∀ z ∈ b.take 400, 0 ≤ z ∧ z < 256 := fun z hz => hbb z (List.mem_of_mem_take hz)
  generalize b.take 400 = l at *
  have GU := Lib.hid (fun v W (hr : Reads .u8 W v l) => getU_any l (by omega) hlb a v W hr)
  have GS := Lib.hid (fun v W (hr : Reads .u8 W v l) => get_any l (by omega) hlb a v W hr)
  have RG := Lib.hid (fun v W (hr : Reads .u8 W v l) => refGet_any l (by omega) hlb a v W hr)
  have RN := Lib.hid (fun v W (hr : Reads .u8 W v l) => number_any l (by omega) hlb a v W hr)
  have hab : 0 ≤ a ∧ a ≤ l.length := by
    by_cases hx : a < 0 ∨ (l.length : Int) < a
    · have := (got_bad hx).2.2; rw [this] at he; cases he
    · omega
  obtain ⟨a', rfl⟩ : ∃ a' : Nat, a = a' := ⟨a.toNat, by omega⟩
  obtain ⟨p, e2, hap, hpl⟩ := got_place (by omega) he
  obtain ⟨k, rfl⟩ : ∃ k, p = a' + k := ⟨p - a', by omega⟩
  have em : gotM l a' = (k : Int) := by unfold gotM; rw [if_pos he, e2]; omega
  rw [he, e2, Int.natCast_add] at GU
  rw [he, e2, Int.natCast_add] at GS
  rw [he, em] at RG
  rw [he, e2, Int.natCast_add] at RN
  generalize gotN l a' = nn at *
  generalize unz nn = mm at *
  have t1 : ((a' : Int) + (k : Int) == (k : Int) + (a' : Int)) = true := beq_iff_eq.2 (by omega)
  have i1 : a' + k ≤ 400 := by omega
  clear h hbb hbl hlb he e2 em
  go_enter Try.func4, Try.ntmps4
  go_wp2_with fail
  refine (wakes_any _).mono ?_
  rintro e w1 ⟨rfl, hb1⟩
  have B1 := Lib.hid hb1
  clear hb1
  go_wp2_with fail
  refine (HH.out _ B1.out).mono ?_
  intro e w2 hhead
  obtain ⟨g, cap, rfl, hb2, hg, hcap, hlie, _⟩ := head_parts hhead
  have B2 := Lib.hid (under B1.out hb2)
  have LI := Lib.hid hlie
  clear hb2 hhead hlie B1
  go_wp2_with fail
  refine (GU.out _ _ (reads_lie LI.out.left hg (by omega))).mono ?_
  rintro e w3 ⟨rfl, hb3⟩
  have B3 := Lib.hid (under B2.out hb3)
  have LI3 := Lib.hid (LI.out.below hg hb3)
  have hg3 : g < w3.heap.size := Nat.lt_of_lt_of_le hg hb3.size
  clear hb3 B2 LI hg
  go_wp2_with fail
  refine (GS.out _ _ (reads_lie LI3.out.left hg3 (by omega))).mono ?_
  rintro e w4 ⟨rfl, hb4⟩
  have B4 := Lib.hid (under B3.out hb4)
  have LI4 := Lib.hid (LI3.out.below hg3 hb4)
  have hg4 : g < w4.heap.size := Nat.lt_of_lt_of_le hg3 hb4.size
  clear hb4 B3 LI3 hg3
  go_wp2_with fail
  refine (RG.out _ _ (reads_lie LI4.out.left hg4 (by omega))).mono ?_
  rintro e w5 ⟨rfl, rfl⟩
  go_wp2_with fail
  refine (RN.out _ _ (reads_lie LI4.out.left hg4 (by omega))).mono ?_
  rintro e w5 ⟨rfl, rfl⟩
  go_wp2_with fail
  refine (HKP.out _ B4.out g cap hg4 hcap LI4.out).mono ?_
  rintro e w6 ⟨rfl, hb6⟩
  have B6 := Lib.hid (under B4.out hb6)
  clear hb6 B4 LI4
  go_wp2_with fail
  go_ret
  exact ⟨rfl, B6.out⟩

theorem gets_any (b : List Int) (hbl : b.length ≤ 9223372036854775807) (hbb : ∀ z ∈ b, 0 ≤ z ∧ z < 256) (a : Int) (v : Value) (w : World) (h : Reads .u8 w v b) :
    Calls Try.prog 4 #[v, .int .i64 a] w (Ret w (.bool true)) := by
  by_cases he : gotE (b.take 400) a = 0
  · exact gets_ok b hbl hbb a v w h he
  · exact gets_err b hbl hbb a v w h he
end Go.Proofs.Ytahfopednhmbiaa
