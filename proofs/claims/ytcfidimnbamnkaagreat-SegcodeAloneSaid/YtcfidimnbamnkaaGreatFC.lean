/-
 Layer 6: what the steps come to, and what their rests do. Conditions: those written at each fact.
-/
import Derived.Test.YtcfidimnbamnkaaGreatKitW
import Derived.Maps.RangeWalk
import Derived.Test.YtcfidimnbamnkaaGreatFB
import Derived.Test.YtcfidimnbamnkaaGreatLC
namespace Go.Proofs.YtcfidimnbamnkaaGreat
open Go.RowKit

theorem new6 (W : World) (c0 c1 c2 c3 c4 c5 : Value) (t : TypeId) : Cells [(W.heap.size, 0, c0), (W.heap.size, 1, c1), (W.heap.size, 2, c2), (W.heap.size, 3, c3), (W.heap.size, 4, c4), (W.heap.size, 5, c5)] (W.alloc (.cells #[c0, c1, c2, c3, c4, c5] t)) := by
 simp [Cells, go_sem]
set_option maxRecDepth 100000 in
set_option maxHeartbeats 4000000 in
theorem come_any (n : Nat) (a b m : Int) (hn : n ≤ 256) (ha : termB a = true) (hb : termB b = true) (hm0 : 1 ≤ m) (hm1 : m ≤ 281474976710656) (w : World) :
  Calls Tryz.prog 245 #[.int .i64 n, wideV (rhi a) (rlo a), wideV (rhi b) (rlo b), .int .i64 m] w (Ret w (wideV (rhi (floorS n a b m)) (rlo (floorS n a b m)))) := by
 obtain ⟨_, _, r3, r4, _, _⟩ := room hn ha hb hm0
 have CU := Lib.hid (fun W => cut_any n a b m hn ha hb hm0 hm1 W)
 have fl := floor_mod hm0 n a b
 have ra0 := Int.emod_nonneg a (show m ≠ 0 by omega)
 have ra1 := Int.emod_lt_of_pos a (show 0 < m by omega)
 have rb0 := Int.emod_nonneg b (show m ≠ 0 by omega)
 have rb1 := Int.emod_lt_of_pos b (show 0 < m by omega)
 have AL := fun s W k => addAll_any s (floorS n a b m) (a / m * prN n + b / m * n) n (a % m) (b % m) m W ⟨r4, r3, hn, ra0, by omega, rb0, by omega, hm0, hm1, fl.symm, k⟩
 replace AL := Lib.hid AL
 clear r3 r4 fl ra0 ra1 rb0 rb1 ha hb hm0 hm1 hn
 generalize floorS n a b m = T at *
 generalize a / m * prN n + b / m * n = t at *
 generalize a % m = ra at *
 generalize b % m = rb at *
 simp only [sixC] at AL
 generalize rhi a = a0 at *
 generalize rlo a = a1 at *
 generalize rhi b = b0 at *
 generalize rlo b = b1 at *
 generalize rhi t = t0 at *
 generalize rlo t = t1 at *
 generalize rhi T = T0 at *
 generalize rlo T = T1 at *
 go_enter Tryz.func245, Tryz.ntmps245
 go_wp2_with fail
 refine (CU.out _).mono ?_
 rintro e w1 ⟨rfl, hb⟩
 have hHeld : Keeps w [(w.heap.size + 1 + 1, 0, .int .i64 0), (w.heap.size + 1 + 1, 1, .int .u64 0)] _ := Keeps.next (by refine ⟨by go_grown, ?_⟩; simp [Cells, go_sem]) hb
 clear hb
 obtain ⟨⟨kz0, kc0, kf0⟩, ⟨kz1, kc1, kf1⟩, _⟩ := hHeld.2
 go_wp2_with fail
 refine Calls.mono (AL.out _ _ ⟨Near.refl _ _, new6 _ _ _ _ _ _ _ _⟩) ?_
 rintro e w2 ⟨rfl, hX⟩
 have hG := (hHeld.alloc _).nextX hX (by have := hHeld.1.size; omega) (by simp; omega)
 clear hX hHeld kz0 kc0 kf0 kz1 kc1 kf1
 obtain ⟨⟨kz0,kc0,kf0⟩,⟨kz1,kc1,kf1⟩,⟨_,_,_⟩,⟨_,_,_⟩,_⟩ := hG.2
 go_wp2_with fail
 obtain ⟨d0, d1⟩ := set2 (W := w2) (B := w.heap.size + 1 + 1) (u0 := .int .i64 T0) (u1 := .int .u64 T1) kc0 kc1
 refine bodyPost_ret (v := wideV T0 T1) (by simp [results, Tryz.results245, go_sem, d0, d1]) rfl ?_
 have h1 := hG.1
 refine ⟨rfl, ?_⟩
 go_grown
end Go.Proofs.YtcfidimnbamnkaaGreat

/-
 Layer 6: Sum and Rests, for any input. Conditions: the wide numbers have room (what a Wide holds, always has).
-/
namespace Go.Proofs.YtcfidimnbamnkaaGreat
open Go.RowKit

end Go.Proofs.YtcfidimnbamnkaaGreat

/-
 Layer 6: Line, for any input. Conditions: the numbers are of 64 bits.
-/
namespace Go.Proofs.YtcfidimnbamnkaaGreat
open Go.RowKit

def walkB (f s k : Int) : Bool := countB k && (timeB f && (timeB s && (decide (k ≤ 0) || timeB (f + (k - 1) * s))))
def lwE (a r n d f s k : Int) : Int := if lineB a r n d then (if walkB f s k then 0 else 2) else 150
set_option maxRecDepth 100000 in
set_option maxHeartbeats 2000000 in
theorem checkLine_any (a r n d f s k : Int) (w : World) :
  Calls Tryz.prog 243 #[lnV a r n d, .int .i64 f, .int .i64 s, .int .i64 k] w (Ret w (.int .i64 (lwE a r n d f s k))) := by
 have CK := fun W => lcheck_any a r n d W
 unfold lwE
 cases hl : lineB a r n d
 ·rw [hl, if_neg (by simp)] at CK
  replace CK := Lib.hid CK
  rw [if_neg (by simp)]
  go_enter Tryz.func243, Tryz.ntmps243
  go_wp2_with fail
  refine (CK.out _).mono ?_
  rintro e w1 ⟨rfl, hb⟩
  have hHeld : Keeps w [] _ := Keeps.next (by refine ⟨by go_grown, ?_⟩; simp [Cells, go_sem]) hb
  clear hb
  go_wp2_with fail
  go_ret
  exact ⟨rfl, hHeld.1⟩
 ·rw [hl, if_pos rfl] at CK
  replace CK := Lib.hid CK
  rw [if_pos rfl]
  clear hl
  have IC := Lib.hid (fun W => isCount_any k W)
  have IF := Lib.hid (fun W => isTime6_any f W)
  have IS := Lib.hid (fun W => isTime6_any s W)
  have IE := Lib.hid (fun W => isTime6_any (f + (k - 1) * s) W)
  have hb : countB k = true → timeB f = true → timeB s = true → (0 ≤ k ∧ k ≤ 256) ∧ (0 ≤ f ∧ f ≤ 281474976710656) ∧ (0 ≤ s ∧ s ≤ 281474976710656) := fun h1 h2 h3 => ⟨(countB_iff k).1 h1, (timeB_iff f).1 h2, (timeB_iff s).1 h3⟩
  unfold walkB
  generalize timeB (f + (k - 1) * s) = be at *
  generalize timeB f = bf at *
  generalize timeB s = bs at *
  generalize countB k = bk at *
  cases bk
  ·rw [if_neg (by simp)]
   clear hb
   go_enter Tryz.func243, Tryz.ntmps243
   go_wp2_with fail
   refine (CK.out _).mono ?_
   rintro e w1 ⟨rfl, hb⟩
   have hHeld : Keeps w [] _ := Keeps.next (by refine ⟨by go_grown, ?_⟩; simp [Cells, go_sem]) hb
   clear hb
   go_wp2_with fail
   refine (IC.out _).mono ?_
   rintro e w2 ⟨rfl, hb⟩
   replace hHeld := Keeps.next (hHeld) hb
   clear hb 
   go_wp2_with fail
   go_ret
   exact ⟨rfl, hHeld.1⟩
  ·cases bf
   ·rw [if_neg (by simp)]
    clear hb
    go_enter Tryz.func243, Tryz.ntmps243
    go_wp2_with fail
    refine (CK.out _).mono ?_
    rintro e w1 ⟨rfl, hb⟩
    have hHeld : Keeps w [] _ := Keeps.next (by refine ⟨by go_grown, ?_⟩; simp [Cells, go_sem]) hb
    clear hb
    go_wp2_with fail
    refine (IC.out _).mono ?_
    rintro e w2 ⟨rfl, hb⟩
    replace hHeld := Keeps.next (hHeld) hb
    clear hb 
    go_wp2_with fail
    refine (IF.out _).mono ?_
    rintro e w3 ⟨rfl, hb⟩
    replace hHeld := Keeps.next (hHeld) hb
    clear hb 
    go_wp2_with fail
    go_ret
    exact ⟨rfl, hHeld.1⟩
   ·cases bs
    ·rw [if_neg (by simp)]
     clear hb
     go_enter Tryz.func243, Tryz.ntmps243
     go_wp2_with fail
     refine (CK.out _).mono ?_
     rintro e w1 ⟨rfl, hb⟩
     have hHeld : Keeps w [] _ := Keeps.next (by refine ⟨by go_grown, ?_⟩; simp [Cells, go_sem]) hb
     clear hb
     go_wp2_with fail
     refine (IC.out _).mono ?_
     rintro e w2 ⟨rfl, hb⟩
     replace hHeld := Keeps.next (hHeld) hb
     clear hb 
     go_wp2_with fail
     refine (IF.out _).mono ?_
     rintro e w3 ⟨rfl, hb⟩
     replace hHeld := Keeps.next (hHeld) hb
     clear hb 
     go_wp2_with fail
     refine (IS.out _).mono ?_
     rintro e w4 ⟨rfl, hb⟩
     replace hHeld := Keeps.next (hHeld) hb
     clear hb 
     go_wp2_with fail
     go_ret
     exact ⟨rfl, hHeld.1⟩
    ·obtain ⟨⟨k0, k1⟩, ⟨f0, f1⟩, ⟨s0, s1⟩⟩ := hb rfl rfl rfl
     clear hb
     by_cases g : k ≤ 0
     ·have t1 : decide (0 < k) = false := by simp; omega
      rw [if_pos (by simp [g])]
      clear k0 k1 f0 f1 s0 s1 g
      go_enter Tryz.func243, Tryz.ntmps243
      go_wp2_with fail
      refine (CK.out _).mono ?_
      rintro e w1 ⟨rfl, hb⟩
      have hHeld : Keeps w [] _ := Keeps.next (by refine ⟨by go_grown, ?_⟩; simp [Cells, go_sem]) hb
      clear hb
      go_wp2_with fail
      refine (IC.out _).mono ?_
      rintro e w2 ⟨rfl, hb⟩
      replace hHeld := Keeps.next (hHeld) hb
      clear hb 
      go_wp2_with fail
      refine (IF.out _).mono ?_
      rintro e w3 ⟨rfl, hb⟩
      replace hHeld := Keeps.next (hHeld) hb
      clear hb 
      go_wp2_with fail
      refine (IS.out _).mono ?_
      rintro e w4 ⟨rfl, hb⟩
      replace hHeld := Keeps.next (hHeld) hb
      clear hb 
      go_wp2_with fail
      go_ret
      exact ⟨rfl, hHeld.1⟩
     ·have t1 : decide (0 < k) = true := by simp; omega
      have m0 : 0 ≤ (k - 1) * s := Int.mul_nonneg (by omega) s0
      have m1 : (k - 1) * s ≤ 256 * 281474976710656 := Int.mul_le_mul (by omega) s1 s0 (by omega)
      have e1 : IntKind.i64.wrap (k - 1) = k - 1 := by rw [IntKind.wrap_i64]; omega
      have e2 : IntKind.i64.wrap ((k - 1) * s) = (k - 1) * s := by rw [IntKind.wrap_i64]; omega
      have e3 : IntKind.i64.wrap (f + (k - 1) * s) = f + (k - 1) * s := by rw [IntKind.wrap_i64]; omega
      clear k0 k1 f0 f1 s0 s1 m0 m1
      cases be
      ·rw [if_neg (by simp [g])]
       clear g
       go_enter Tryz.func243, Tryz.ntmps243
       go_wp2_with fail
       refine (CK.out _).mono ?_
       rintro e w1 ⟨rfl, hb⟩
       have hHeld : Keeps w [] _ := Keeps.next (by refine ⟨by go_grown, ?_⟩; simp [Cells, go_sem]) hb
       clear hb
       go_wp2_with fail
       refine (IC.out _).mono ?_
       rintro e w2 ⟨rfl, hb⟩
       replace hHeld := Keeps.next (hHeld) hb
       clear hb 
       go_wp2_with fail
       refine (IF.out _).mono ?_
       rintro e w3 ⟨rfl, hb⟩
       replace hHeld := Keeps.next (hHeld) hb
       clear hb 
       go_wp2_with fail
       refine (IS.out _).mono ?_
       rintro e w4 ⟨rfl, hb⟩
       replace hHeld := Keeps.next (hHeld) hb
       clear hb 
       go_wp2_with fail
       refine (IE.out _).mono ?_
       rintro e w5 ⟨rfl, hb⟩
       replace hHeld := Keeps.next (hHeld) hb
       clear hb 
       go_wp2_with fail
       go_ret
       exact ⟨rfl, hHeld.1⟩
      ·rw [if_pos (by simp)]
       clear g
       go_enter Tryz.func243, Tryz.ntmps243
       go_wp2_with fail
       refine (CK.out _).mono ?_
       rintro e w1 ⟨rfl, hb⟩
       have hHeld : Keeps w [] _ := Keeps.next (by refine ⟨by go_grown, ?_⟩; simp [Cells, go_sem]) hb
       clear hb
       go_wp2_with fail
       refine (IC.out _).mono ?_
       rintro e w2 ⟨rfl, hb⟩
       replace hHeld := Keeps.next (hHeld) hb
       clear hb 
       go_wp2_with fail
       refine (IF.out _).mono ?_
       rintro e w3 ⟨rfl, hb⟩
       replace hHeld := Keeps.next (hHeld) hb
       clear hb 
       go_wp2_with fail
       refine (IS.out _).mono ?_
       rintro e w4 ⟨rfl, hb⟩
       replace hHeld := Keeps.next (hHeld) hb
       clear hb 
       go_wp2_with fail
       refine (IE.out _).mono ?_
       rintro e w5 ⟨rfl, hb⟩
       replace hHeld := Keeps.next (hHeld) hb
       clear hb 
       go_wp2_with fail
       go_ret
       exact ⟨rfl, hHeld.1⟩
set_option maxRecDepth 100000 in
theorem line1_any (a r n d f s k : Int) (B0 B1 B2 B3 : Nat) (w : World) (hc : Cells [(B0, 0, .int .i64 a), (B0, 1, .int .i64 r), (B0, 2, .int .i64 n), (B0, 3, .int .i64 d), (B1, 0, .int .i64 f), (B2, 0, .int .i64 s), (B3, 0, .int .i64 k)] w) :
  Calls Tryz.prog 242 #[.pointer (some ⟨B0, 0, none⟩), .pointer (some ⟨B1, 0, none⟩), .pointer (some ⟨B2, 0, none⟩), .pointer (some ⟨B3, 0, none⟩)] w (Ret w (.int .i64 (lwE a r n d f s k))) := by
 have CK := Lib.hid (fun W => checkLine_any a r n d f s k W)
 generalize lwE a r n d f s k = e at *
 obtain ⟨⟨_,_,_⟩,⟨_,_,_⟩,⟨_,_,_⟩,⟨_,_,_⟩,⟨_,_,_⟩,⟨_,_,_⟩,⟨_,_,_⟩,_⟩ := hc
 go_enter Tryz.func242, Tryz.ntmps242
 go_wp2_with fail
 refine (CK.out _).mono ?_
 rintro e w1 ⟨rfl, hb⟩
 go_wp2_with fail
 go_returns
 exact ⟨rfl, hb⟩
theorem line_terms {a r n d f s : Int} (h : lineB a r n d = true) (hf : timeB f = true) (hs : timeB s = true) : termB (n * s) = true ∧ termB (exV a r n d f) = true ∧ I64 n ∧ I64 s ∧ I64 a ∧ I64 d ∧ I64 r ∧ I64 f ∧ 1 ≤ d ∧ d ≤ 281474976710656 := by
 obtain ⟨l1, _, l3, l4, l5⟩ := (lineB_iff _ _ _ _).1 h
 have sb := (slopeB_iff _ _).1 l1
 have bb := (backB_iff _).1 l3
 have tf := (timeB_iff _).1 hf
 have ts := (timeB_iff _).1 hs
 have m1 := mul_in (X := 4611688217450643456) (Y := 281474976710656) ⟨sb.1, sb.2.1⟩ ts (by omega)
 have m2 := mul_in (X := 4611688217450643456) (Y := 281474976710656) ⟨sb.1, sb.2.1⟩ tf (by omega)
 have m3 := mul_in (X := 2305844108725321728) (Y := 281474976710656) ⟨bb.1, bb.2⟩ (show 0 ≤ d ∧ d ≤ 281474976710656 by omega) (by omega)
 refine ⟨(termB_iff _).2 (by omega), (termB_iff _).2 (by unfold exV; omega), ?_⟩
 unfold I64
 omega
set_option maxRecDepth 100000 in
set_option maxHeartbeats 4000000 in
theorem line2_any (a r n d f s : Int) (k : Nat) (hk : k ≤ 256) (h : lineB a r n d = true) (hf : timeB f = true) (hs : timeB s = true) (B0 B1 B2 B3 : Nat) (w : World) (hc : Cells [(B0, 0, .int .i64 a), (B0, 1, .int .i64 r), (B0, 2, .int .i64 n), (B0, 3, .int .i64 d), (B1, 0, .int .i64 f), (B2, 0, .int .i64 k), (B3, 0, .int .i64 s)] w) :
  Calls Tryz.prog 244 #[.pointer (some ⟨B0, 0, none⟩), .pointer (some ⟨B1, 0, none⟩), .pointer (some ⟨B2, 0, none⟩), .pointer (some ⟨B3, 0, none⟩)] w
   (Ret w (wideV (rhi (floorS k (n * s) (exV a r n d f) d)) (rlo (floorS k (n * s) (exV a r n d f) d)))) := by
 obtain ⟨f1, f2, f3, f4, f5⟩ := ex_fits h hf
 obtain ⟨t1, t2, in', is', ia, id', ir, if', d0, d1⟩ := line_terms h hf hs
 have M1 := Lib.hid (fun W => mul_any a d ia id' W)
 have M2 := Lib.hid (fun W => mul_any n f in' if' W)
 have M3 := Lib.hid (fun W => mul_any n s in' is' W)
 have OF := Lib.hid (fun W => of_any r ir W)
 have TT := fun b W => total_three b (a * d) (n * f) r f1 f4 f5 f2 (by unfold exV at f3; exact f3) W
 have CO := fun W => come_any k (n * s) (exV a r n d f) d hk t1 t2 d0 d1 W
 clear h hf hs f1 f2 f3 f4 f5 t1 t2 in' is' ia id' ir if' d0 d1 hk
 generalize floorS k (n * s) (exV a r n d f) d = T at *
 unfold exV at CO
 generalize n * s = q at *
 generalize a * d = x at *
 generalize n * f = y at *
 generalize x + y + r = z at *
 simp only [wz] at TT
 replace TT := Lib.hid TT
 replace CO := Lib.hid CO
 generalize rhi x = x0 at *
 generalize rlo x = x1 at *
 generalize rhi y = y0 at *
 generalize rlo y = y1 at *
 generalize rhi r = r0 at *
 generalize rlo r = r1 at *
 generalize rhi z = z0 at *
 generalize rlo z = z1 at *
 generalize rhi q = q0 at *
 generalize rlo q = q1 at *
 generalize rhi T = T0 at *
 generalize rlo T = T1 at *
 have hK : Keeps w [(B0, 0, .int .i64 a), (B0, 1, .int .i64 r), (B0, 2, .int .i64 n), (B0, 3, .int .i64 d), (B1, 0, .int .i64 f), (B2, 0, .int .i64 k), (B3, 0, .int .i64 s)] w := ⟨Below.refl _ _, hc⟩
 have hL := hK.alloc (.cells #[.int .i64 0, .int .u64 0] 57)
 have hA := hL.app (newK2 hL)
 have b0 := Nat.ne_of_lt hc.1.1
 have b1 := Nat.ne_of_lt hc.2.2.2.2.1.1
 have b2 := Nat.ne_of_lt hc.2.2.2.2.2.1.1
 have b3 := Nat.ne_of_lt hc.2.2.2.2.2.2.1.1
 clear hc hK hL
 go_enter Tryz.func244, Tryz.ntmps244
 go_upto_region 1 with fail
 go_cut [5] (fun s5 wx => ∃ g : Nat, s5 = .pointer (some ⟨g, 0, none⟩) ∧ Keeps w [(B0, 0, .int .i64 a), (B0, 1, .int .i64 r), (B0, 2, .int .i64 n), (B0, 3, .int .i64 d), (B1, 0, .int .i64 f), (B2, 0, .int .i64 k), (B3, 0, .int .i64 s), (w.heap.size, 0, .int .i64 0), (w.heap.size, 1, .int .u64 0), (g, 0, .int .i64 z0), (g, 1, .int .u64 z1)] wx ∧ g ≠ w.heap.size)
 case first =>
  refine region_keeps (w0 := w) (L := [(B0, 0, .int .i64 a), (B0, 1, .int .i64 r), (B0, 2, .int .i64 n), (B0, 3, .int .i64 d), (B1, 0, .int .i64 f), (B2, 0, .int .i64 k), (B3, 0, .int .i64 s), (w.heap.size, 0, .int .i64 0), (w.heap.size, 1, .int .u64 0)]) (by kernel_rfl) hA (fun hHeld0 => ?_)
  refine tv 0 8 rfl rfl ?_
  try go_frame
  refine tk 1 9 rfl rfl ?_ ?_ ?_
  rotate_left
  ·intro wq hSw; obtain ⟨⟨_,_,_⟩,⟨_,_,_⟩,⟨_,_,_⟩,⟨_,_,_⟩,⟨_,_,_⟩,⟨_,_,_⟩,⟨_,_,_⟩,⟨_,_,_⟩,⟨_,_,_⟩,_⟩ := hSw.2; go_simp; (try with_reducible rfl)
  try go_frame
  refine tv 2 10 rfl rfl ?_
  try go_frame
  refine tk 3 11 rfl rfl ?_ ?_ ?_
  rotate_left
  ·intro wq hSw; obtain ⟨⟨_,_,_⟩,⟨_,_,_⟩,⟨_,_,_⟩,⟨_,_,_⟩,⟨_,_,_⟩,⟨_,_,_⟩,⟨_,_,_⟩,⟨_,_,_⟩,⟨_,_,_⟩,_⟩ := hSw.2; go_simp; (try with_reducible rfl)
  try go_frame
  refine tv 5 13 rfl rfl ?_
  try go_frame
  refine tk 6 14 rfl rfl ?_ ?_ ?_
  rotate_left
  ·intro wq hSw; obtain ⟨⟨_,_,_⟩,⟨_,_,_⟩,⟨_,_,_⟩,⟨_,_,_⟩,⟨_,_,_⟩,⟨_,_,_⟩,⟨_,_,_⟩,⟨_,_,_⟩,⟨_,_,_⟩,_⟩ := hSw.2; go_simp; (try with_reducible rfl)
  try go_frame
  refine tk 7 15 rfl rfl ?_ ?_ ?_
  rotate_left
  ·intro wq hSw; obtain ⟨⟨_,_,_⟩,⟨_,_,_⟩,⟨_,_,_⟩,⟨_,_,_⟩,⟨_,_,_⟩,⟨_,_,_⟩,⟨_,_,_⟩,⟨_,_,_⟩,⟨_,_,_⟩,_⟩ := hSw.2; go_simp; (try with_reducible rfl)
  try go_frame
  refine tv 9 17 rfl rfl ?_
  try go_frame
  refine tk 10 18 rfl rfl ?_ ?_ ?_
  rotate_left
  ·intro wq hSw; obtain ⟨⟨_,_,_⟩,⟨_,_,_⟩,⟨_,_,_⟩,⟨_,_,_⟩,⟨_,_,_⟩,⟨_,_,_⟩,⟨_,_,_⟩,⟨_,_,_⟩,⟨_,_,_⟩,_⟩ := hSw.2; go_simp; (try with_reducible rfl)
  try go_frame
  refine ty [4, 17] ?_
  refine AllReadyH.cons rfl (fun K hK => ?_) ?_
  go_simp
  (first | (with_reducible refine Calls.mono (M1.out _) ?_) | (with_reducible refine Calls.mono (M2.out _) ?_) | (with_reducible refine Calls.mono (OF.out _) ?_) | ((with_reducible refine Calls.mono (TT.out _ _ ?_ ?_ ?_ ?_ ?_ ?_ ?_) ?_) <;> first | (simp; done) | (simp [go_sem]; done) | skip)); rintro e w5 ⟨rfl, hb⟩
  refine hK.out _ _ (hHeld0.next hb) (fun hHeld1 => ?_)
  clear hK K; try clear hb
  try go_frame
  refine ty [8, 17] ?_
  refine AllReadyH.cons rfl (fun K hK => ?_) ?_
  go_simp
  (first | (with_reducible refine Calls.mono (M1.out _) ?_) | (with_reducible refine Calls.mono (M2.out _) ?_) | (with_reducible refine Calls.mono (OF.out _) ?_) | ((with_reducible refine Calls.mono (TT.out _ _ ?_ ?_ ?_ ?_ ?_ ?_ ?_) ?_) <;> first | (simp; done) | (simp [go_sem]; done) | skip)); rintro e w5 ⟨rfl, hb⟩
  refine hK.out _ _ (hHeld1.next hb) (fun hHeld2 => ?_)
  clear hK K; try clear hb
  try go_frame
  refine ty [11, 17] ?_
  refine AllReadyH.cons rfl (fun K hK => ?_) ?_
  go_simp
  (first | (with_reducible refine Calls.mono (M1.out _) ?_) | (with_reducible refine Calls.mono (M2.out _) ?_) | (with_reducible refine Calls.mono (OF.out _) ?_) | ((with_reducible refine Calls.mono (TT.out _ _ ?_ ?_ ?_ ?_ ?_ ?_ ?_) ?_) <;> first | (simp; done) | (simp [go_sem]; done) | skip)); rintro e w5 ⟨rfl, hb⟩
  refine hK.out _ _ (hHeld2.next hb) (fun hHeld3 => ?_)
  clear hK K; try clear hb
  try go_frame
  refine ty [12, 17] ?_
  refine AllReadyH.cons rfl (fun K hK => ?_) ?_
  go_simp
  refine hK.out _ _ (by first | exact hHeld3.alloc _ | exact (hHeld3.alloc _).drew) (fun hHeld4 => ?_)
  clear hK K; try clear hb
  try go_frame
  refine ty [13, 17] ?_
  refine AllReadyH.cons rfl (fun K hK => ?_) ?_
  go_simp
  (first | (with_reducible refine Calls.mono (M1.out _) ?_) | (with_reducible refine Calls.mono (M2.out _) ?_) | (with_reducible refine Calls.mono (OF.out _) ?_) | ((with_reducible refine Calls.mono (TT.out _ _ ?_ ?_ ?_ ?_ ?_ ?_ ?_) ?_) <;> first | (simp; done) | (simp [go_sem]; done) | skip)); rintro e w5 ⟨rfl, hb⟩
  refine hK.out _ _ (hHeld4.next hb) (fun hHeld5 => ?_)
  clear hK K; try clear hb
  try go_frame
  refine tv 14 7 rfl rfl ?_
  try go_frame
  refine tv 15 22 rfl rfl ?_
  try go_frame
  refine tv 16 23 rfl rfl ?_
  try go_frame
  refine ty [17] ?_
  refine AllReadyH.cons rfl (fun K hK => ?_) AllReadyH.nil
  go_simp
  refine hK.out _ _ (by first | exact hHeld5.alloc _ | exact (hHeld5.alloc _).drew) (fun hHeld6 => ?_)
  first | have hN6 := newK2 hHeld6 | have hN6 := newK2d hHeld6
  clear hK K; try clear hb
  try go_frame
  refine ty [18] ?_
  refine AllReadyH.cons rfl (fun K hK => ?_) AllReadyH.nil
  have hz0 := hHeld5.1.size; obtain ⟨⟨az0,_,_⟩,⟨az1,_,_⟩,⟨az2,_,_⟩,⟨az3,_,_⟩,⟨az4,_,_⟩,⟨az5,_,_⟩,⟨az6,_,_⟩,⟨az7,_,_⟩,⟨az8,_,_⟩,_⟩ := hHeld5.2; (try simp at hz0); (try simp at az0); (try simp at az1); (try simp at az2); (try simp at az3); (try simp at az4); (try simp at az5); (try simp at az6); (try simp at az7); (try simp at az8)
  obtain ⟨⟨t0z0, t0c0, t0f0⟩, ⟨t0z1, t0c1, t0f1⟩, _⟩ := hN6.2; (try simp at t0z0); (try simp at t0c0); (try simp at t0f0); (try simp at t0z1); (try simp at t0c1); (try simp at t0f1)
  go_simp
  refine hK.out _ _ (by first | exact hHeld5.alloc _ | (repeat (first | (with_reducible exact hHeld6) | (with_reducible exact (Keeps.undrewR hHeld6)) | (refine Keeps.set ?_ (by simp <;> omega) (by simp <;> omega) _) | (with_reducible refine Keeps.drew ?_)))) (fun hHeld7 => ?_)
  clear hK K; try clear hb
  try go_frame
  refine tv 19 6 rfl rfl ?_
  try go_frame
  refine wpAnyH_done (by kernel_rfl) ?_ _
  have hHeld := hHeld7
  obtain ⟨⟨_,_,_⟩,⟨_,_,_⟩,⟨_,_,_⟩,⟨_,_,_⟩,⟨_,_,_⟩,⟨_,_,_⟩,⟨_,_,_⟩,⟨_,_,_⟩,⟨_,_,_⟩,_⟩ := hHeld.2
  (go_wp2_with fail; go_meet; (case rel => exact ⟨_, rfl, hHeld.app ⟨hHeld.1, ⟨by first | (simp; done) | (simp [*]; done) | (simp; omega), by simp [go_sem, *], by simp [*]⟩, ⟨by first | (simp; done) | (simp [*]; done) | (simp; omega), by simp [go_sem, *], by simp [*]⟩, trivial⟩, by omega⟩))
  refine AllReadyH.cons rfl (fun K hK => ?_) ?_
  go_simp
  refine hK.out _ _ (by first | exact hHeld4.alloc _ | exact (hHeld4.alloc _).drew) (fun hHeld8 => ?_)
  first | have hN8 := newK2 hHeld8 | have hN8 := newK2d hHeld8
  clear hK K; try clear hb
  try go_frame
  refine ty [13] ?_
  refine AllReadyH.cons rfl (fun K hK => ?_) AllReadyH.nil
  go_simp
  (first | (with_reducible refine Calls.mono (M1.out _) ?_) | (with_reducible refine Calls.mono (M2.out _) ?_) | (with_reducible refine Calls.mono (OF.out _) ?_) | ((with_reducible refine Calls.mono (TT.out _ _ ?_ ?_ ?_ ?_ ?_ ?_ ?_) ?_) <;> first | (simp; done) | (simp [go_sem]; done) | skip)); rintro e w5 ⟨rfl, hb⟩
  refine hK.out _ _ (hHeld8.next hb) (fun hHeld9 => ?_)
  replace hN8 := hN8.next hb
  clear hK K; try clear hb
  try go_frame
  refine tv 14 7 rfl rfl ?_
  try go_frame
  refine tv 15 22 rfl rfl ?_
  try go_frame
  refine tv 16 23 rfl rfl ?_
  try go_frame
  refine ty [18] ?_
  refine AllReadyH.cons rfl (fun K hK => ?_) AllReadyH.nil
  have hz0 := hHeld4.1.size; obtain ⟨⟨az0,_,_⟩,⟨az1,_,_⟩,⟨az2,_,_⟩,⟨az3,_,_⟩,⟨az4,_,_⟩,⟨az5,_,_⟩,⟨az6,_,_⟩,⟨az7,_,_⟩,⟨az8,_,_⟩,_⟩ := hHeld4.2; (try simp at hz0); (try simp at az0); (try simp at az1); (try simp at az2); (try simp at az3); (try simp at az4); (try simp at az5); (try simp at az6); (try simp at az7); (try simp at az8)
  obtain ⟨⟨t0z0, t0c0, t0f0⟩, ⟨t0z1, t0c1, t0f1⟩, _⟩ := hN8.2; (try simp at t0z0); (try simp at t0c0); (try simp at t0f0); (try simp at t0z1); (try simp at t0c1); (try simp at t0f1)
  go_simp
  refine hK.out _ _ (by first | exact hHeld4.alloc _ | (repeat (first | (with_reducible exact hHeld9) | (with_reducible exact (Keeps.undrewR hHeld9)) | (refine Keeps.set ?_ (by simp <;> omega) (by simp <;> omega) _) | (with_reducible refine Keeps.drew ?_)))) (fun hHeld10 => ?_)
  clear hK K; try clear hb
  try go_frame
  refine tv 19 6 rfl rfl ?_
  try go_frame
  refine wpAnyH_done (by kernel_rfl) ?_ _
  have hHeld := hHeld10
  obtain ⟨⟨_,_,_⟩,⟨_,_,_⟩,⟨_,_,_⟩,⟨_,_,_⟩,⟨_,_,_⟩,⟨_,_,_⟩,⟨_,_,_⟩,⟨_,_,_⟩,⟨_,_,_⟩,_⟩ := hHeld.2
  (go_wp2_with fail; go_meet; (case rel => exact ⟨_, rfl, hHeld.app ⟨hHeld.1, ⟨by first | (simp; done) | (simp [*]; done) | (simp; omega), by simp [go_sem, *], by simp [*]⟩, ⟨by first | (simp; done) | (simp [*]; done) | (simp; omega), by simp [go_sem, *], by simp [*]⟩, trivial⟩, by omega⟩))
  exact AllReadyH.nil
  refine AllReadyH.cons rfl (fun K hK => ?_) ?_
  go_simp
  refine hK.out _ _ (by first | exact hHeld3.alloc _ | exact (hHeld3.alloc _).drew) (fun hHeld11 => ?_)
  first | have hN11 := newK2 hHeld11 | have hN11 := newK2d hHeld11
  clear hK K; try clear hb
  try go_frame
  refine ty [12] ?_
  refine AllReadyH.cons rfl (fun K hK => ?_) AllReadyH.nil
  go_simp
  refine hK.out _ _ (by first | exact hHeld11.alloc _ | exact (hHeld11.alloc _).drew) (fun hHeld12 => ?_)
  first | replace hN11 := hN11.allocAs hHeld12 | replace hN11 := hN11.allocAsD hHeld12
  clear hK K; try clear hb
  try go_frame
  refine ty [13] ?_
  refine AllReadyH.cons rfl (fun K hK => ?_) AllReadyH.nil
  go_simp
  (first | (with_reducible refine Calls.mono (M1.out _) ?_) | (with_reducible refine Calls.mono (M2.out _) ?_) | (with_reducible refine Calls.mono (OF.out _) ?_) | ((with_reducible refine Calls.mono (TT.out _ _ ?_ ?_ ?_ ?_ ?_ ?_ ?_) ?_) <;> first | (simp; done) | (simp [go_sem]; done) | skip)); rintro e w5 ⟨rfl, hb⟩
  refine hK.out _ _ (hHeld12.next hb) (fun hHeld13 => ?_)
  replace hN11 := hN11.next hb
  clear hK K; try clear hb
  try go_frame
  refine tv 14 7 rfl rfl ?_
  try go_frame
  refine tv 15 22 rfl rfl ?_
  try go_frame
  refine tv 16 23 rfl rfl ?_
  try go_frame
  refine ty [18] ?_
  refine AllReadyH.cons rfl (fun K hK => ?_) AllReadyH.nil
  have hz0 := hHeld3.1.size; obtain ⟨⟨az0,_,_⟩,⟨az1,_,_⟩,⟨az2,_,_⟩,⟨az3,_,_⟩,⟨az4,_,_⟩,⟨az5,_,_⟩,⟨az6,_,_⟩,⟨az7,_,_⟩,⟨az8,_,_⟩,_⟩ := hHeld3.2; (try simp at hz0); (try simp at az0); (try simp at az1); (try simp at az2); (try simp at az3); (try simp at az4); (try simp at az5); (try simp at az6); (try simp at az7); (try simp at az8)
  obtain ⟨⟨t0z0, t0c0, t0f0⟩, ⟨t0z1, t0c1, t0f1⟩, _⟩ := hN11.2; (try simp at t0z0); (try simp at t0c0); (try simp at t0f0); (try simp at t0z1); (try simp at t0c1); (try simp at t0f1)
  go_simp
  refine hK.out _ _ (by first | exact hHeld3.alloc _ | (repeat (first | (with_reducible exact hHeld13) | (with_reducible exact (Keeps.undrewR hHeld13)) | (refine Keeps.set ?_ (by simp <;> omega) (by simp <;> omega) _) | (with_reducible refine Keeps.drew ?_)))) (fun hHeld14 => ?_)
  clear hK K; try clear hb
  try go_frame
  refine tv 19 6 rfl rfl ?_
  try go_frame
  refine wpAnyH_done (by kernel_rfl) ?_ _
  have hHeld := hHeld14
  obtain ⟨⟨_,_,_⟩,⟨_,_,_⟩,⟨_,_,_⟩,⟨_,_,_⟩,⟨_,_,_⟩,⟨_,_,_⟩,⟨_,_,_⟩,⟨_,_,_⟩,⟨_,_,_⟩,_⟩ := hHeld.2
  (go_wp2_with fail; go_meet; (case rel => exact ⟨_, rfl, hHeld.app ⟨hHeld.1, ⟨by first | (simp; done) | (simp [*]; done) | (simp; omega), by simp [go_sem, *], by simp [*]⟩, ⟨by first | (simp; done) | (simp [*]; done) | (simp; omega), by simp [go_sem, *], by simp [*]⟩, trivial⟩, by omega⟩))
  exact AllReadyH.nil
  refine AllReadyH.cons rfl (fun K hK => ?_) ?_
  go_simp
  refine hK.out _ _ (by first | exact hHeld2.alloc _ | exact (hHeld2.alloc _).drew) (fun hHeld15 => ?_)
  first | have hN15 := newK2 hHeld15 | have hN15 := newK2d hHeld15
  clear hK K; try clear hb
  try go_frame
  refine ty [11] ?_
  refine AllReadyH.cons rfl (fun K hK => ?_) AllReadyH.nil
  go_simp
  (first | (with_reducible refine Calls.mono (M1.out _) ?_) | (with_reducible refine Calls.mono (M2.out _) ?_) | (with_reducible refine Calls.mono (OF.out _) ?_) | ((with_reducible refine Calls.mono (TT.out _ _ ?_ ?_ ?_ ?_ ?_ ?_ ?_) ?_) <;> first | (simp; done) | (simp [go_sem]; done) | skip)); rintro e w5 ⟨rfl, hb⟩
  refine hK.out _ _ (hHeld15.next hb) (fun hHeld16 => ?_)
  replace hN15 := hN15.next hb
  clear hK K; try clear hb
  try go_frame
  refine ty [12] ?_
  refine AllReadyH.cons rfl (fun K hK => ?_) AllReadyH.nil
  go_simp
  refine hK.out _ _ (by first | exact hHeld16.alloc _ | exact (hHeld16.alloc _).drew) (fun hHeld17 => ?_)
  first | replace hN15 := hN15.allocAs hHeld17 | replace hN15 := hN15.allocAsD hHeld17
  clear hK K; try clear hb
  try go_frame
  refine ty [13] ?_
  refine AllReadyH.cons rfl (fun K hK => ?_) AllReadyH.nil
  go_simp
  (first | (with_reducible refine Calls.mono (M1.out _) ?_) | (with_reducible refine Calls.mono (M2.out _) ?_) | (with_reducible refine Calls.mono (OF.out _) ?_) | ((with_reducible refine Calls.mono (TT.out _ _ ?_ ?_ ?_ ?_ ?_ ?_ ?_) ?_) <;> first | (simp; done) | (simp [go_sem]; done) | skip)); rintro e w5 ⟨rfl, hb⟩
  refine hK.out _ _ (hHeld17.next hb) (fun hHeld18 => ?_)
  replace hN15 := hN15.next hb
  clear hK K; try clear hb
  try go_frame
  refine tv 14 7 rfl rfl ?_
  try go_frame
  refine tv 15 22 rfl rfl ?_
  try go_frame
  refine tv 16 23 rfl rfl ?_
  try go_frame
  refine ty [18] ?_
  refine AllReadyH.cons rfl (fun K hK => ?_) AllReadyH.nil
  have hz0 := hHeld2.1.size; obtain ⟨⟨az0,_,_⟩,⟨az1,_,_⟩,⟨az2,_,_⟩,⟨az3,_,_⟩,⟨az4,_,_⟩,⟨az5,_,_⟩,⟨az6,_,_⟩,⟨az7,_,_⟩,⟨az8,_,_⟩,_⟩ := hHeld2.2; (try simp at hz0); (try simp at az0); (try simp at az1); (try simp at az2); (try simp at az3); (try simp at az4); (try simp at az5); (try simp at az6); (try simp at az7); (try simp at az8)
  obtain ⟨⟨t0z0, t0c0, t0f0⟩, ⟨t0z1, t0c1, t0f1⟩, _⟩ := hN15.2; (try simp at t0z0); (try simp at t0c0); (try simp at t0f0); (try simp at t0z1); (try simp at t0c1); (try simp at t0f1)
  go_simp
  refine hK.out _ _ (by first | exact hHeld2.alloc _ | (repeat (first | (with_reducible exact hHeld18) | (with_reducible exact (Keeps.undrewR hHeld18)) | (refine Keeps.set ?_ (by simp <;> omega) (by simp <;> omega) _) | (with_reducible refine Keeps.drew ?_)))) (fun hHeld19 => ?_)
  clear hK K; try clear hb
  try go_frame
  refine tv 19 6 rfl rfl ?_
  try go_frame
  refine wpAnyH_done (by kernel_rfl) ?_ _
  have hHeld := hHeld19
  obtain ⟨⟨_,_,_⟩,⟨_,_,_⟩,⟨_,_,_⟩,⟨_,_,_⟩,⟨_,_,_⟩,⟨_,_,_⟩,⟨_,_,_⟩,⟨_,_,_⟩,⟨_,_,_⟩,_⟩ := hHeld.2
  (go_wp2_with fail; go_meet; (case rel => exact ⟨_, rfl, hHeld.app ⟨hHeld.1, ⟨by first | (simp; done) | (simp [*]; done) | (simp; omega), by simp [go_sem, *], by simp [*]⟩, ⟨by first | (simp; done) | (simp [*]; done) | (simp; omega), by simp [go_sem, *], by simp [*]⟩, trivial⟩, by omega⟩))
  exact AllReadyH.nil
  refine AllReadyH.cons rfl (fun K hK => ?_) ?_
  go_simp
  refine hK.out _ _ (by first | exact hHeld1.alloc _ | exact (hHeld1.alloc _).drew) (fun hHeld20 => ?_)
  first | have hN20 := newK2 hHeld20 | have hN20 := newK2d hHeld20
  clear hK K; try clear hb
  try go_frame
  refine ty [8] ?_
  refine AllReadyH.cons rfl (fun K hK => ?_) AllReadyH.nil
  go_simp
  (first | (with_reducible refine Calls.mono (M1.out _) ?_) | (with_reducible refine Calls.mono (M2.out _) ?_) | (with_reducible refine Calls.mono (OF.out _) ?_) | ((with_reducible refine Calls.mono (TT.out _ _ ?_ ?_ ?_ ?_ ?_ ?_ ?_) ?_) <;> first | (simp; done) | (simp [go_sem]; done) | skip)); rintro e w5 ⟨rfl, hb⟩
  refine hK.out _ _ (hHeld20.next hb) (fun hHeld21 => ?_)
  replace hN20 := hN20.next hb
  clear hK K; try clear hb
  try go_frame
  refine ty [11] ?_
  refine AllReadyH.cons rfl (fun K hK => ?_) AllReadyH.nil
  go_simp
  (first | (with_reducible refine Calls.mono (M1.out _) ?_) | (with_reducible refine Calls.mono (M2.out _) ?_) | (with_reducible refine Calls.mono (OF.out _) ?_) | ((with_reducible refine Calls.mono (TT.out _ _ ?_ ?_ ?_ ?_ ?_ ?_ ?_) ?_) <;> first | (simp; done) | (simp [go_sem]; done) | skip)); rintro e w5 ⟨rfl, hb⟩
  refine hK.out _ _ (hHeld21.next hb) (fun hHeld22 => ?_)
  replace hN20 := hN20.next hb
  clear hK K; try clear hb
  try go_frame
  refine ty [12] ?_
  refine AllReadyH.cons rfl (fun K hK => ?_) AllReadyH.nil
  go_simp
  refine hK.out _ _ (by first | exact hHeld22.alloc _ | exact (hHeld22.alloc _).drew) (fun hHeld23 => ?_)
  first | replace hN20 := hN20.allocAs hHeld23 | replace hN20 := hN20.allocAsD hHeld23
  clear hK K; try clear hb
  try go_frame
  refine ty [13] ?_
  refine AllReadyH.cons rfl (fun K hK => ?_) AllReadyH.nil
  go_simp
  (first | (with_reducible refine Calls.mono (M1.out _) ?_) | (with_reducible refine Calls.mono (M2.out _) ?_) | (with_reducible refine Calls.mono (OF.out _) ?_) | ((with_reducible refine Calls.mono (TT.out _ _ ?_ ?_ ?_ ?_ ?_ ?_ ?_) ?_) <;> first | (simp; done) | (simp [go_sem]; done) | skip)); rintro e w5 ⟨rfl, hb⟩
  refine hK.out _ _ (hHeld23.next hb) (fun hHeld24 => ?_)
  replace hN20 := hN20.next hb
  clear hK K; try clear hb
  try go_frame
  refine tv 14 7 rfl rfl ?_
  try go_frame
  refine tv 15 22 rfl rfl ?_
  try go_frame
  refine tv 16 23 rfl rfl ?_
  try go_frame
  refine ty [18] ?_
  refine AllReadyH.cons rfl (fun K hK => ?_) AllReadyH.nil
  have hz0 := hHeld1.1.size; obtain ⟨⟨az0,_,_⟩,⟨az1,_,_⟩,⟨az2,_,_⟩,⟨az3,_,_⟩,⟨az4,_,_⟩,⟨az5,_,_⟩,⟨az6,_,_⟩,⟨az7,_,_⟩,⟨az8,_,_⟩,_⟩ := hHeld1.2; (try simp at hz0); (try simp at az0); (try simp at az1); (try simp at az2); (try simp at az3); (try simp at az4); (try simp at az5); (try simp at az6); (try simp at az7); (try simp at az8)
  obtain ⟨⟨t0z0, t0c0, t0f0⟩, ⟨t0z1, t0c1, t0f1⟩, _⟩ := hN20.2; (try simp at t0z0); (try simp at t0c0); (try simp at t0f0); (try simp at t0z1); (try simp at t0c1); (try simp at t0f1)
  go_simp
  refine hK.out _ _ (by first | exact hHeld1.alloc _ | (repeat (first | (with_reducible exact hHeld24) | (with_reducible exact (Keeps.undrewR hHeld24)) | (refine Keeps.set ?_ (by simp <;> omega) (by simp <;> omega) _) | (with_reducible refine Keeps.drew ?_)))) (fun hHeld25 => ?_)
  clear hK K; try clear hb
  try go_frame
  refine tv 19 6 rfl rfl ?_
  try go_frame
  refine wpAnyH_done (by kernel_rfl) ?_ _
  have hHeld := hHeld25
  obtain ⟨⟨_,_,_⟩,⟨_,_,_⟩,⟨_,_,_⟩,⟨_,_,_⟩,⟨_,_,_⟩,⟨_,_,_⟩,⟨_,_,_⟩,⟨_,_,_⟩,⟨_,_,_⟩,_⟩ := hHeld.2
  (go_wp2_with fail; go_meet; (case rel => exact ⟨_, rfl, hHeld.app ⟨hHeld.1, ⟨by first | (simp; done) | (simp [*]; done) | (simp; omega), by simp [go_sem, *], by simp [*]⟩, ⟨by first | (simp; done) | (simp [*]; done) | (simp; omega), by simp [go_sem, *], by simp [*]⟩, trivial⟩, by omega⟩))
  exact AllReadyH.nil
  refine AllReadyH.cons rfl (fun K hK => ?_) ?_
  go_simp
  refine hK.out _ _ (by first | exact hHeld0.alloc _ | exact (hHeld0.alloc _).drew) (fun hHeld26 => ?_)
  first | have hN26 := newK2 hHeld26 | have hN26 := newK2d hHeld26
  clear hK K; try clear hb
  try go_frame
  refine ty [4] ?_
  refine AllReadyH.cons rfl (fun K hK => ?_) AllReadyH.nil
  go_simp
  (first | (with_reducible refine Calls.mono (M1.out _) ?_) | (with_reducible refine Calls.mono (M2.out _) ?_) | (with_reducible refine Calls.mono (OF.out _) ?_) | ((with_reducible refine Calls.mono (TT.out _ _ ?_ ?_ ?_ ?_ ?_ ?_ ?_) ?_) <;> first | (simp; done) | (simp [go_sem]; done) | skip)); rintro e w5 ⟨rfl, hb⟩
  refine hK.out _ _ (hHeld26.next hb) (fun hHeld27 => ?_)
  replace hN26 := hN26.next hb
  clear hK K; try clear hb
  try go_frame
  refine ty [8] ?_
  refine AllReadyH.cons rfl (fun K hK => ?_) AllReadyH.nil
  go_simp
  (first | (with_reducible refine Calls.mono (M1.out _) ?_) | (with_reducible refine Calls.mono (M2.out _) ?_) | (with_reducible refine Calls.mono (OF.out _) ?_) | ((with_reducible refine Calls.mono (TT.out _ _ ?_ ?_ ?_ ?_ ?_ ?_ ?_) ?_) <;> first | (simp; done) | (simp [go_sem]; done) | skip)); rintro e w5 ⟨rfl, hb⟩
  refine hK.out _ _ (hHeld27.next hb) (fun hHeld28 => ?_)
  replace hN26 := hN26.next hb
  clear hK K; try clear hb
  try go_frame
  refine ty [11] ?_
  refine AllReadyH.cons rfl (fun K hK => ?_) AllReadyH.nil
  go_simp
  (first | (with_reducible refine Calls.mono (M1.out _) ?_) | (with_reducible refine Calls.mono (M2.out _) ?_) | (with_reducible refine Calls.mono (OF.out _) ?_) | ((with_reducible refine Calls.mono (TT.out _ _ ?_ ?_ ?_ ?_ ?_ ?_ ?_) ?_) <;> first | (simp; done) | (simp [go_sem]; done) | skip)); rintro e w5 ⟨rfl, hb⟩
  refine hK.out _ _ (hHeld28.next hb) (fun hHeld29 => ?_)
  replace hN26 := hN26.next hb
  clear hK K; try clear hb
  try go_frame
  refine ty [12] ?_
  refine AllReadyH.cons rfl (fun K hK => ?_) AllReadyH.nil
  go_simp
  refine hK.out _ _ (by first | exact hHeld29.alloc _ | exact (hHeld29.alloc _).drew) (fun hHeld30 => ?_)
  first | replace hN26 := hN26.allocAs hHeld30 | replace hN26 := hN26.allocAsD hHeld30
  clear hK K; try clear hb
  try go_frame
  refine ty [13] ?_
  refine AllReadyH.cons rfl (fun K hK => ?_) AllReadyH.nil
  go_simp
  (first | (with_reducible refine Calls.mono (M1.out _) ?_) | (with_reducible refine Calls.mono (M2.out _) ?_) | (with_reducible refine Calls.mono (OF.out _) ?_) | ((with_reducible refine Calls.mono (TT.out _ _ ?_ ?_ ?_ ?_ ?_ ?_ ?_) ?_) <;> first | (simp; done) | (simp [go_sem]; done) | skip)); rintro e w5 ⟨rfl, hb⟩
  refine hK.out _ _ (hHeld30.next hb) (fun hHeld31 => ?_)
  replace hN26 := hN26.next hb
  clear hK K; try clear hb
  try go_frame
  refine tv 14 7 rfl rfl ?_
  try go_frame
  refine tv 15 22 rfl rfl ?_
  try go_frame
  refine tv 16 23 rfl rfl ?_
  try go_frame
  refine ty [18] ?_
  refine AllReadyH.cons rfl (fun K hK => ?_) AllReadyH.nil
  have hz0 := hHeld0.1.size; obtain ⟨⟨az0,_,_⟩,⟨az1,_,_⟩,⟨az2,_,_⟩,⟨az3,_,_⟩,⟨az4,_,_⟩,⟨az5,_,_⟩,⟨az6,_,_⟩,⟨az7,_,_⟩,⟨az8,_,_⟩,_⟩ := hHeld0.2; (try simp at hz0); (try simp at az0); (try simp at az1); (try simp at az2); (try simp at az3); (try simp at az4); (try simp at az5); (try simp at az6); (try simp at az7); (try simp at az8)
  obtain ⟨⟨t0z0, t0c0, t0f0⟩, ⟨t0z1, t0c1, t0f1⟩, _⟩ := hN26.2; (try simp at t0z0); (try simp at t0c0); (try simp at t0f0); (try simp at t0z1); (try simp at t0c1); (try simp at t0f1)
  go_simp
  refine hK.out _ _ (by first | exact hHeld0.alloc _ | (repeat (first | (with_reducible exact hHeld31) | (with_reducible exact (Keeps.undrewR hHeld31)) | (refine Keeps.set ?_ (by simp <;> omega) (by simp <;> omega) _) | (with_reducible refine Keeps.drew ?_)))) (fun hHeld32 => ?_)
  clear hK K; try clear hb
  try go_frame
  refine tv 19 6 rfl rfl ?_
  try go_frame
  refine wpAnyH_done (by kernel_rfl) ?_ _
  have hHeld := hHeld32
  obtain ⟨⟨_,_,_⟩,⟨_,_,_⟩,⟨_,_,_⟩,⟨_,_,_⟩,⟨_,_,_⟩,⟨_,_,_⟩,⟨_,_,_⟩,⟨_,_,_⟩,⟨_,_,_⟩,_⟩ := hHeld.2
  (go_wp2_with fail; go_meet; (case rel => exact ⟨_, rfl, hHeld.app ⟨hHeld.1, ⟨by first | (simp; done) | (simp [*]; done) | (simp; omega), by simp [go_sem, *], by simp [*]⟩, ⟨by first | (simp; done) | (simp [*]; done) | (simp; omega), by simp [go_sem, *], by simp [*]⟩, trivial⟩, by omega⟩))
  exact AllReadyH.nil
 case rest =>
  obtain ⟨g, rfl, hHeld, hne⟩ := hcut
  clear hA
  go_wp2_with fail
  refine region_keepsB (w0 := w) (L := [(B0, 0, .int .i64 a), (B0, 1, .int .i64 r), (B0, 2, .int .i64 n), (B0, 3, .int .i64 d), (B1, 0, .int .i64 f), (B2, 0, .int .i64 k), (B3, 0, .int .i64 s), (g, 0, .int .i64 z0), (g, 1, .int .u64 z1)]) (M := [(w.heap.size, 0, .int .i64 0), (w.heap.size, 1, .int .u64 0)]) (by kernel_rfl) (hHeld.sub (by simp)) (hHeld.sub (by simp)) (fun hHeld0 hT0 => ?_)
  refine tk 0 24 rfl rfl ?_ ?_ ?_
  rotate_left
  ·intro wq hSw; obtain ⟨⟨_,_,_⟩,⟨_,_,_⟩,⟨_,_,_⟩,⟨_,_,_⟩,⟨_,_,_⟩,⟨_,_,_⟩,⟨_,_,_⟩,⟨_,_,_⟩,⟨_,_,_⟩,_⟩ := hSw.2; go_simp; (try with_reducible rfl)
  try go_frame
  refine tv 1 25 rfl rfl ?_
  try go_frame
  refine tk 2 26 rfl rfl ?_ ?_ ?_
  rotate_left
  ·intro wq hSw; obtain ⟨⟨_,_,_⟩,⟨_,_,_⟩,⟨_,_,_⟩,⟨_,_,_⟩,⟨_,_,_⟩,⟨_,_,_⟩,⟨_,_,_⟩,⟨_,_,_⟩,⟨_,_,_⟩,_⟩ := hSw.2; go_simp; (try with_reducible rfl)
  try go_frame
  refine tk 3 27 rfl rfl ?_ ?_ ?_
  rotate_left
  ·intro wq hSw; obtain ⟨⟨_,_,_⟩,⟨_,_,_⟩,⟨_,_,_⟩,⟨_,_,_⟩,⟨_,_,_⟩,⟨_,_,_⟩,⟨_,_,_⟩,⟨_,_,_⟩,⟨_,_,_⟩,_⟩ := hSw.2; go_simp; (try with_reducible rfl)
  try go_frame
  refine tk 5 29 rfl rfl ?_ ?_ ?_
  rotate_left
  ·intro wq hSw; obtain ⟨⟨_,_,_⟩,⟨_,_,_⟩,⟨_,_,_⟩,⟨_,_,_⟩,⟨_,_,_⟩,⟨_,_,_⟩,⟨_,_,_⟩,⟨_,_,_⟩,⟨_,_,_⟩,_⟩ := hSw.2; go_simp; (try with_reducible rfl)
  try go_frame
  refine tv 6 30 rfl rfl ?_
  try go_frame
  refine tk 7 31 rfl rfl ?_ ?_ ?_
  rotate_left
  ·intro wq hSw; obtain ⟨⟨_,_,_⟩,⟨_,_,_⟩,⟨_,_,_⟩,⟨_,_,_⟩,⟨_,_,_⟩,⟨_,_,_⟩,⟨_,_,_⟩,⟨_,_,_⟩,⟨_,_,_⟩,_⟩ := hSw.2; go_simp; (try with_reducible rfl)
  try go_frame
  refine ty [4] ?_
  refine AllReadyH.cons rfl (fun K hK => ?_) AllReadyH.nil
  go_simp
  (first | (with_reducible refine Calls.mono (M3.out _) ?_) | (with_reducible refine Calls.mono (CO.out _) ?_)); rintro e w5 ⟨rfl, hb⟩
  refine hK.out _ _ (hHeld0.next hb) (fun hHeld1 => ?_)
  replace hT0 := hT0.next hb
  clear hK K; try clear hb
  try go_frame
  refine ty [8] ?_
  refine AllReadyH.cons rfl (fun K hK => ?_) AllReadyH.nil
  go_simp
  (first | (with_reducible refine Calls.mono (M3.out _) ?_) | (with_reducible refine Calls.mono (CO.out _) ?_)); rintro e w5 ⟨rfl, hb⟩
  refine hK.out _ _ (hHeld1.next hb) (fun hHeld2 => ?_)
  replace hT0 := hT0.next hb
  clear hK K; try clear hb
  try go_frame
  refine ty [9] ?_
  refine AllReadyH.cons rfl (fun K hK => ?_) AllReadyH.nil
  obtain ⟨⟨t0z0, t0c0, t0f0⟩, ⟨t0z1, t0c1, t0f1⟩, _⟩ := hT0.2; (try simp at t0z0); (try simp at t0c0); (try simp at t0f0); (try simp at t0z1); (try simp at t0c1); (try simp at t0f1)
  go_simp
  refine hK.out _ _ (((hHeld2.set (p := ⟨w.heap.size, 0, none⟩) (Nat.le_refl _) (by simp [b0, b1, b2, b3, hne]) _).set (p := ⟨w.heap.size, 1, none⟩) (Nat.le_refl _) (by simp [b0, b1, b2, b3, hne]) _)) (fun hHeld3 => ?_)
  clear hK K; try clear hb
  try go_frame
  refine wpAnyH_done (by kernel_rfl) ?_ _
  have hHeld := hHeld3
  obtain ⟨⟨_,_,_⟩,⟨_,_,_⟩,⟨_,_,_⟩,⟨_,_,_⟩,⟨_,_,_⟩,⟨_,_,_⟩,⟨_,_,_⟩,⟨_,_,_⟩,⟨_,_,_⟩,_⟩ := hHeld.2
  obtain ⟨e0, e1⟩ := set2 (W := w5) (B := w.heap.size) (u0 := .int .i64 T0) (u1 := .int .u64 T1) t0c0 t0c1
  go_wp2_with fail
  refine bodyPost_ret (v := wideV T0 T1) (by simp [results, Tryz.results244, go_sem, e0, e1]) rfl ?_
  exact ⟨rfl, by have h1 := hHeld.1; go_grown⟩
end Go.Proofs.YtcfidimnbamnkaaGreat
