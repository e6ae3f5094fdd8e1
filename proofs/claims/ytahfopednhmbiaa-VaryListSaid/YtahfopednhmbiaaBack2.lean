/-
  Layer 2: the law VaryBack, its walk. Conditions: those written at each fact.
-/
import Derived.Test.YtahfopednhmbiaaScanB
import Derived.Test.YtahfopednhmbiaaHead
import Derived.Test.YtahfopednhmbiaaPref
import Derived.Test.YtahfopednhmbiaaWakes2
namespace Go.Proofs.Ytahfopednhmbiaa
open Go.RowKit Go.Shelf

theorem lie_own {w : World} {B : Nat} {t : TypeId} {g n c : Nat} {l m : List Int} (h : w.ownsRow B t 1 (.slice (some ⟨g, 0, none⟩) n c) n ((l ++ m).map (Value.int .u8))) : Lie w g 0 l := by
  have hn : n = (l ++ m).length := by have := h.1; simp at this; simp; omega
  subst hn
  obtain ⟨_, _, hk⟩ := (reads_own h).at
  intro i z hz
  obtain ⟨b, off, e1, _, e3⟩ := hk i z (by rw [List.getElem?_append_left (List.getElem?_eq_some_iff.1 hz).1]; exact hz)
  cases e1
  exact e3
theorem Lie.below {w w' : World} {b off : Nat} {l : List Int} (h : Lie w b off l) (hb : b < w.heap.size) (hw : Below w.heap.size w w') : Lie w' b off l := fun i z hz => (hw.cell (p := ⟨b, off + i, none⟩) hb).trans (h i z hz)
theorem reads_lie {w : World} {g c : Nat} {l : List Int} (h : Lie w g 0 l) (hg : g < w.heap.size) (hc : l.length ≤ c) : Reads .u8 w (.slice (some ⟨g, 0, none⟩) l.length c) l :=
  ⟨_, c, rfl, hc, fun i z hz => ⟨g, 0, rfl, hg, h i z hz⟩⟩
/-- What head hands back, taken apart. -/
theorem head_parts {w w' : World} {l : List Int} {e : Ending} (h : Head w l e w') : ∃ g cap, e = .returned (.slice (some ⟨g, 0, none⟩) l.length cap) ∧ Below w.heap.size w w' ∧ g < w'.heap.size ∧ l.length + 12 ≤ cap ∧ Lie w' g 0 (l ++ List.replicate 12 238) ∧ w.heap.size ≤ g := by
  obtain ⟨g, cap, he, hb, ho⟩ := h
  rcases ho.2 with ⟨e, _⟩ | ⟨g', cap', cur, e, h1, h2, h3, _⟩
  · cases e
  · cases e
    exact ⟨g, cap, he, hb, (Array.getElem?_eq_some_iff.1 h2).1, h3, lie_own (m := []) (by rw [List.append_nil]; exact ho), h1⟩
theorem Lie.left {w : World} {b off : Nat} {l m : List Int} (h : Lie w b off (l ++ m)) : Lie w b off l := fun i z hz => h i z (by rw [List.getElem?_append_left (List.getElem?_eq_some_iff.1 hz).1]; exact hz)
theorem made_parts {w : World} {t : TypeId} {v : Value} {l : List Int} {B : Nat} (h : w.ownsRow B t 1 v l.length (l.map (Value.int .u8))) (hne : l ≠ []) : ∃ g c, v = .slice (some ⟨g, 0, none⟩) l.length c ∧ l.length ≤ c ∧ g < w.heap.size ∧ Lie w g 0 l ∧ B ≤ g := by
  have h' := h
  rcases h.2 with ⟨e, h0⟩ | ⟨g', cap', cur, e, h1, h2, h3, _⟩
  · exact absurd (List.eq_nil_of_length_eq_zero h0) hne
  · subst e
    exact ⟨g', cap', rfl, h3, (Array.getElem?_eq_some_iff.1 h2).1, lie_own (m := []) (by rw [List.append_nil]; exact h'), h1⟩
theorem prefB_app (l m : List Int) : prefB (l ++ m) l = true := by unfold prefB; simp
theorem digs_ne (n : Nat) : digs n ≠ [] := by rw [digs]; split <;> simp

set_option maxRecDepth 100000 in
set_option maxHeartbeats 4000000 in
theorem varyBack_any (b : List Int) (hbl : b.length ≤ 9223372036854775807) (hbb : ∀ z ∈ b, 0 ≤ z ∧ z < 256) (n : Nat) (hn : n < 18446744073709551616) (m : Int) (hm1 : -9223372036854775808 ≤ m) (hm2 : m ≤ 9223372036854775807) (v : Value) (w : World) (h : Reads .u8 w v b) :
    Calls Try.prog 6 #[v, .int .u64 n, .int .i64 m] w (Ret w (.bool true)) := by
  have hz := Lib.zigzag_lt hm1 hm2
  have d1 := digs_ten hn
  have d2 := digs_ten hz
  have HH := Lib.hid (fun W (hb : Below w.heap.size w W) => head_any b hbl v W (h.below hb))
  have hl4 : (b.take 400).length ≤ 400 := by simp; omega
  have hlb : ∀ z ∈ b.take 400, 0 ≤ z ∧ z < 256 := fun z hz => hbb z (List.mem_of_mem_take hz)
  generalize b.take 400 = l at *
  have HLB := Lib.hid hlb
  have hpb : ∀ z ∈ l ++ digs n ++ digs (Lib.zigzag m), 0 ≤ z ∧ z < 256 := fun z hz' => by
    rcases List.mem_append.1 hz' with hz' | hz'
    · rcases List.mem_append.1 hz' with hz' | hz'
      · exact hlb z hz'
      · exact digs_b hn z hz'
    · exact digs_b hz z hz'
  have HPB := Lib.hid hpb
  have G1 := got_put (l := l) (r := digs (Lib.zigzag m)) hn
  have G2 := got_put (l := l ++ digs n) (r := []) hz
  rw [List.append_nil] at G2
  have u1 := unz_zig m
  rw [← G2.1] at u1
  have plen : (l ++ digs n ++ digs (Lib.zigzag m)).length = l.length + (digs n).length + (digs (Lib.zigzag m)).length := by simp [Nat.add_assoc]
  have plen1 : (l ++ digs n).length = l.length + (digs n).length := by simp
  have pref := prefB_app l (digs n ++ digs (Lib.zigzag m))
  rw [← List.append_assoc] at pref
  have SU := Lib.hid (fun W => sizeU_any n hn W)
  have SZ := Lib.hid (fun W => size_any m hm1 hm2 W)
  have PU := Lib.hid (fun v W (hr : Reads .u8 W v l) => putU_any l (by omega) n hn v W hr)
  have PS := Lib.hid (fun v W (hr : Reads .u8 W v (l ++ digs n)) => put_any (l ++ digs n) (by simp; omega) m hm1 hm2 v W hr)
  have GU := Lib.hid (fun v W (hr : Reads .u8 W v (l ++ digs n ++ digs (Lib.zigzag m))) => getU_any _ (by simp; omega) hpb l.length v W hr)
  rw [G1.1, G1.2.1, G1.2.2] at GU
  have GS := Lib.hid (fun v W (hr : Reads .u8 W v (l ++ digs n ++ digs (Lib.zigzag m))) => get_any _ (by simp; omega) hpb (l ++ digs n).length v W hr)
  rw [u1, G2.2.1, G2.2.2, plen1] at GS
  have HP := Lib.hid (fun b1 c1 b2 c2 W hc h1 h2 => hasPrefix (l ++ digs n ++ digs (Lib.zigzag m)) l hpb hlb b1 0 c1 b2 0 c2 W hc h1 h2)
  rw [pref, plen] at HP
  have NE1 := Lib.hid (show l ++ digs n ++ digs (Lib.zigzag m) ≠ [] from by simp [digs_ne])
  have PLEN := Lib.hid plen
  clear hpb hlb G1 G2 u1 plen plen1 pref h hz hbb hbl
  generalize hD1 : (digs n).length = k1 at *
  generalize hD2 : (digs (Lib.zigzag m)).length = k2 at *
  generalize l ++ digs n = l1 at *
  generalize l1 ++ digs (Lib.zigzag m) = l2 at *
  clear hD1 hD2
  go_enter Try.func6, Try.ntmps6
  go_wp2_with fail
  refine (wakes_any _).mono ?_
  rintro e w1 ⟨rfl, hb1⟩
  have B1 := Lib.hid hb1
  clear hb1
  go_wp2_with fail
  refine (HH.out _ B1.out).mono ?_
  intro e w2 hhead
  obtain ⟨g, cap, rfl, hb2, hg, hcap, hlie, _⟩ := head_parts hhead
  have B2 := Lib.hid (under B1.out hb2)
  have LI := Lib.hid hlie.left
  clear hb2 hhead hlie B1
  go_wp2_with fail
  refine (PU.out _ _ (reads_lie LI.out hg (by omega))).mono ?_
  rintro e w3 ⟨v3, rfl, hb3, ho3⟩
  have B3 := Lib.hid (under B2.out hb3)
  have LI3 := Lib.hid (LI.out.below hg hb3)
  have hg3 : g < w3.heap.size := Nat.lt_of_lt_of_le hg hb3.size
  have R3 := Lib.hid (reads_own ho3)
  clear hb3 ho3 B2 LI hg
  go_wp2_with fail
  refine (PS.out _ _ R3.out).mono ?_
  rintro e w4 ⟨v4, rfl, hb4, ho4⟩
  obtain ⟨g4, c4, rfl, hc4, hg4, li4, _⟩ := made_parts ho4 NE1.out
  have B4 := Lib.hid (under B3.out hb4)
  have LI4 := Lib.hid (LI3.out.below hg3 hb4)
  have hg34 : g < w4.heap.size := Nat.lt_of_lt_of_le hg3 hb4.size
  have P4 := Lib.hid li4
  clear hb4 ho4 B3 LI3 hg3 R3 li4
  rw [PLEN.out] at hc4 ⊢
  go_wp2_with fail
  refine (GU.out _ _ (by rw [← PLEN.out]; exact reads_lie P4.out hg4 (by rw [PLEN.out]; omega))).mono ?_
  rintro e w5 ⟨rfl, hb5⟩
  have B5 := Lib.hid (under B4.out hb5)
  have LI5 := Lib.hid (LI4.out.below hg34 hb5)
  have P5 := Lib.hid (P4.out.below hg4 hb5)
  have i5 : g < w5.heap.size ∧ g4 < w5.heap.size := ⟨Nat.lt_of_lt_of_le hg34 hb5.size, Nat.lt_of_lt_of_le hg4 hb5.size⟩
  clear hb5 B4 LI4 P4 hg34 hg4
  go_wp2_with fail
  refine (GS.out _ _ (by rw [← PLEN.out]; exact reads_lie P5.out i5.2 (by rw [PLEN.out]; omega))).mono ?_
  rintro e w6 ⟨rfl, hb6⟩
  have B6 := Lib.hid (under B5.out hb6)
  have LI6 := Lib.hid (LI5.out.below i5.1 hb6)
  have P6 := Lib.hid (P5.out.below i5.2 hb6)
  have i6 : g < w6.heap.size ∧ g4 < w6.heap.size := ⟨Nat.lt_of_lt_of_le i5.1 hb6.size, Nat.lt_of_lt_of_le i5.2 hb6.size⟩
  clear hb6 B5 LI5 P5 i5
  go_wp2_with fail
  refine (SU.out _).mono ?_
  rintro e w7 ⟨rfl, hb7⟩
  have B7 := Lib.hid (under B6.out hb7)
  have LI7 := Lib.hid (LI6.out.below i6.1 hb7)
  have P7 := Lib.hid (P6.out.below i6.2 hb7)
  have i7 : g < w7.heap.size ∧ g4 < w7.heap.size := ⟨Nat.lt_of_lt_of_le i6.1 hb7.size, Nat.lt_of_lt_of_le i6.2 hb7.size⟩
  clear hb7 B6 LI6 P6 i6
  go_wp2_with fail
  refine (SZ.out _).mono ?_
  rintro e w8 ⟨rfl, hb8⟩
  have B8 := Lib.hid (under B7.out hb8)
  have LI8 := Lib.hid (LI7.out.below i7.1 hb8)
  have P8 := Lib.hid (P7.out.below i7.2 hb8)
  clear hb8 B7 LI7 P7 i7
  go_wp2_with fail
  refine (HP.out g4 c4 g cap _ hc4 P8.out LI8.out).mono ?_
  rintro e w9 ⟨rfl, hb9⟩
  have B9 := Lib.hid (under B8.out hb9)
  clear hb9 B8 LI8 P8
  go_wp2_with fail
  go_ret
  exact ⟨rfl, B9.out⟩
end Go.Proofs.Ytahfopednhmbiaa
