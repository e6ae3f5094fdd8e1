/-
  Layer 2: the law VaryShort, its walk. Conditions: those written at each fact.
-/
import Derived.Test.YtahfopednhmbiaaWakes2
namespace Go.Proofs.Ytahfopednhmbiaa
open Go.RowKit Go.Shelf

theorem digs_mono : ∀ (k a b : Nat), b < 128 ^ (k + 1) → a ≤ b → (digs a).length ≤ (digs b).length
  | 0, a, b, h, hab => by rw [digs_end (show a < 128 from by omega), digs_end (show b < 128 from by omega)]; simp
  | k + 1, a, b, h, hab => by
    by_cases ga : a < 128
    · rw [digs_end ga]; exact (digs_len (k + 1) b h).1
    · have gb : ¬ b < 128 := by omega
      rw [digs_more ga, digs_more gb, List.length_cons, List.length_cons]
      have := digs_mono k (a / 128) (b / 128) (by rw [Nat.pow_succ] at h; omega) (Nat.div_le_div_right hab)
      omega
theorem digs_le {a b : Nat} (hb : b < 18446744073709551616) (h : a ≤ b) : (digs a).length ≤ (digs b).length := digs_mono 9 a b (by omega) h
theorem zig_le {m n : Int} (h : m.natAbs < n.natAbs) : Lib.zigzag m ≤ Lib.zigzag n := by unfold Lib.zigzag; split <;> split <;> omega

set_option maxHeartbeats 400000 in
theorem far_any (m : Int) (y : Nat) (hy : m.natAbs = y) (h1 : -9223372036854775808 ≤ m) (h2 : m ≤ 9223372036854775807) (w : World) : Calls Try.prog 32 #[.int .i64 m] w fun e w' => e = .returned (.int .u64 y) ∧ w = w' := by
  by_cases g : m < 0
  · have E : Hid ((y : Int) = -(m + 1) + 1) := Lib.hid (by omega)
    have i1 : 0 ≤ -(m + 1) := by omega
    have i2 : -(m + 1) ≤ 9223372036854775807 := by omega
    clear hy
    go_enter Try.func32, Try.ntmps32
    go_wp2
    go_ret
    exact ⟨by rw [E.out]; rfl, rfl⟩
  · obtain rfl : m = (y : Int) := by omega
    clear hy
    go_enter Try.func32, Try.ntmps32
    go_wp2
    go_ret
    exact ⟨rfl, rfl⟩

theorem made_len {w : World} {t : TypeId} {v : Value} {n : Nat} {xs : List Value} {B : Nat} (h : w.ownsRow B t 1 v n xs) : ∃ A c, v = .slice A n c := by
  rcases h.2 with ⟨rfl, rfl⟩ | ⟨g, cap, cur, rfl, _⟩
  · exact ⟨none, 0, rfl⟩
  · exact ⟨_, _, rfl⟩

set_option maxRecDepth 100000 in
set_option maxHeartbeats 4000000 in
theorem short_000 (a b : Nat) (m n : Int) (ha : a < 18446744073709551616) (hb : b < 18446744073709551616) (hm1 : -9223372036854775808 ≤ m) (hm2 : m ≤ 9223372036854775807) (hn1 : -9223372036854775808 ≤ n) (hn2 : n ≤ 9223372036854775807)
    (y1 y2 : Nat) (hy1 : m.natAbs = y1) (hy2 : n.natAbs = y2) (gab : a ≤ b) (gmn : y1 < y2) (w : World) :
    Calls Try.prog 8 #[.agg #[.int .u64 a, .int .u64 b, .int .i64 m, .int .i64 n]] w (Ret w (.bool true)) := by
  have HY1 := Lib.hid hy1
  have HY2 := Lib.hid hy2
  have dl := digs_le (a := a) (b := b) hb (by omega)
  have d1 := digs_ten ha
  have d2 := digs_ten hb
  have zm := Lib.zigzag_lt hm1 hm2
  have zn := Lib.zigzag_lt hn1 hn2
  have e1 := digs_ten zm
  have e2 := digs_ten zn
  have zl := digs_le (a := Lib.zigzag m) (b := Lib.zigzag n) zn (zig_le (by omega))
  obtain ⟨la, hla⟩ : ∃ k, (digs a).length = k := ⟨_, rfl⟩
  obtain ⟨lb, hlb⟩ : ∃ k, (digs b).length = k := ⟨_, rfl⟩
  obtain ⟨lm, hlm⟩ : ∃ k, (digs (Lib.zigzag m)).length = k := ⟨_, rfl⟩
  obtain ⟨ln, hln⟩ : ∃ k, (digs (Lib.zigzag n)).length = k := ⟨_, rfl⟩
  have SA := Lib.hid (fun W => hla ▸ sizeU_any a ha W)
  have SB := Lib.hid (fun W => hlb ▸ sizeU_any b hb W)
  have SM := Lib.hid (fun W => hlm ▸ size_any m hm1 hm2 W)
  have SN := Lib.hid (fun W => hln ▸ size_any n hn1 hn2 W)
  have PU := Lib.hid (fun W => putU_any [] (by simp) b hb _ W (Reads.nil (k := .u8)))
  have PS := Lib.hid (fun W => put_any [] (by simp) n hn1 hn2 _ W (Reads.nil (k := .u8)))
  rw [hla, hlb] at dl
  rw [hla] at d1
  rw [hlb] at d2
  rw [hlm] at e1
  rw [hln] at e2
  rw [hlm, hln] at zl
  have HLA := Lib.hid hla
  have HLB := Lib.hid hlb
  have HLM := Lib.hid hlm
  have HLN := Lib.hid hln
  clear hla hlb hlm hln hy1 hy2 zm zn
  have tE : ((y1 : Int) == (y2 : Int)) = false := beq_eq_false_iff_ne.2 (by omega)
  have tE' : (y1 == y2) = false := beq_eq_false_iff_ne.2 (by omega)
  go_enter Try.func8, Try.ntmps8
  go_wp2_with fail
  refine (wakes_any _).mono ?_
  rintro e w1 ⟨rfl, hb1⟩
  have hB1 : Below w.heap.size w w1 := under (below_alloc w _) hb1
  have c0 : w1.cell? ⟨w.heap.size, 0, none⟩ = some (.int .u64 a) := (hb1.cell (p := ⟨w.heap.size, 0, none⟩) (by simp)).trans (by simp [go_sem])
  have c1 : w1.cell? ⟨w.heap.size, 1, none⟩ = some (.int .u64 b) := (hb1.cell (p := ⟨w.heap.size, 1, none⟩) (by simp)).trans (by simp [go_sem])
  have c2 : w1.cell? ⟨w.heap.size, 2, none⟩ = some (.int .i64 m) := (hb1.cell (p := ⟨w.heap.size, 2, none⟩) (by simp)).trans (by simp [go_sem])
  have c3 : w1.cell? ⟨w.heap.size, 3, none⟩ = some (.int .i64 n) := (hb1.cell (p := ⟨w.heap.size, 3, none⟩) (by simp)).trans (by simp [go_sem])
  have HB1 := Lib.hid hB1
  clear hb1 hB1
  go_wp2_with fail
  go_quiet (fail)
  clear c0 c1 c2 c3
  go_wp2_with fail
  refine (far_any m y1 HY1.out hm1 hm2 _).mono ?_
  rintro e w2 ⟨rfl, rfl⟩
  go_wp2_with fail
  refine (far_any n y2 HY2.out hn1 hn2 _).mono ?_
  rintro e w2 ⟨rfl, rfl⟩
  have HB2 := Lib.hid (below_drewN HB1.out nq)
  generalize w1.drewN nq = w3 at *
  clear HB1
  go_wp2_with fail
  refine (SA.out _).mono ?_
  rintro e w4 ⟨rfl, hb4⟩
  have B4 := Lib.hid (under HB2.out hb4)
  clear hb4 HB2
  go_wp2_with fail
  refine (SB.out _).mono ?_
  rintro e w5 ⟨rfl, hb5⟩
  have B5 := Lib.hid (under B4.out hb5)
  clear hb5 B4
  go_wp2_with fail
  refine (SA.out _).mono ?_
  rintro e w6 ⟨rfl, hb6⟩
  have B6 := Lib.hid (under B5.out hb6)
  clear hb6 B5
  go_wp2_with fail
  refine (SB.out _).mono ?_
  rintro e w7 ⟨rfl, hb7⟩
  have B7 := Lib.hid (under B6.out hb7)
  clear hb7 B6
  go_wp2_with fail
  refine (far_any m y1 HY1.out hm1 hm2 _).mono ?_
  rintro e w8 ⟨rfl, rfl⟩
  go_wp2_with fail
  refine (far_any n y2 HY2.out hn1 hn2 _).mono ?_
  rintro e w8 ⟨rfl, rfl⟩
  go_wp2_with fail
  refine (SM.out _).mono ?_
  rintro e w8 ⟨rfl, hb8⟩
  have B8 := Lib.hid (under B7.out hb8)
  clear hb8 B7
  go_wp2_with fail
  refine (SN.out _).mono ?_
  rintro e w9 ⟨rfl, hb9⟩
  have B9 := Lib.hid (under B8.out hb9)
  clear hb9 B8
  go_wp2_with fail
  refine (PS.out _).mono ?_
  rintro e w10 ⟨v10, rfl, hb10, ho10⟩
  obtain ⟨A10, c10, rfl⟩ := made_len ho10
  have B10 := Lib.hid (under B9.out hb10)
  have L10 := Lib.hid (show ([] ++ digs (Lib.zigzag n)).length = ln from HLN.out)
  rw [L10.out]
  clear hb10 ho10 B9 L10
  go_wp2_with fail
  refine (SN.out _).mono ?_
  rintro e w11 ⟨rfl, hb11⟩
  have B11 := Lib.hid (under B10.out hb11)
  clear hb11 B10
  go_wp2_with fail
  refine (PU.out _).mono ?_
  rintro e w12 ⟨v12, rfl, hb12, ho12⟩
  obtain ⟨A12, c12, rfl⟩ := made_len ho12
  have B12 := Lib.hid (under B11.out hb12)
  have L12 := Lib.hid (show ([] ++ digs b).length = lb from HLB.out)
  rw [L12.out]
  clear hb12 ho12 B11 L12
  go_wp2_with fail
  refine (SB.out _).mono ?_
  rintro e w13 ⟨rfl, hb13⟩
  have B13 := Lib.hid (under B12.out hb13)
  clear hb13 B12
  go_wp2_with fail
  go_ret
  exact ⟨rfl, B13.out⟩

set_option maxRecDepth 100000 in
set_option maxHeartbeats 4000000 in
theorem short_001 (a b : Nat) (m n : Int) (ha : a < 18446744073709551616) (hb : b < 18446744073709551616) (hm1 : -9223372036854775808 ≤ m) (hm2 : m ≤ 9223372036854775807) (hn1 : -9223372036854775808 ≤ n) (hn2 : n ≤ 9223372036854775807)
    (y1 y2 : Nat) (hy1 : m.natAbs = y1) (hy2 : n.natAbs = y2) (gab : a ≤ b) (gmn : y1 = y2) (w : World) :
    Calls Try.prog 8 #[.agg #[.int .u64 a, .int .u64 b, .int .i64 m, .int .i64 n]] w (Ret w (.bool true)) := by
  subst gmn
  have HY1 := Lib.hid hy1
  have HY2 := Lib.hid hy2
  have dl := digs_le (a := a) (b := b) hb (by omega)
  have d1 := digs_ten ha
  have d2 := digs_ten hb
  have zm := Lib.zigzag_lt hm1 hm2
  have zn := Lib.zigzag_lt hn1 hn2
  have e1 := digs_ten zm
  have e2 := digs_ten zn
  obtain ⟨la, hla⟩ : ∃ k, (digs a).length = k := ⟨_, rfl⟩
  obtain ⟨lb, hlb⟩ : ∃ k, (digs b).length = k := ⟨_, rfl⟩
  obtain ⟨lm, hlm⟩ : ∃ k, (digs (Lib.zigzag m)).length = k := ⟨_, rfl⟩
  obtain ⟨ln, hln⟩ : ∃ k, (digs (Lib.zigzag n)).length = k := ⟨_, rfl⟩
  have SA := Lib.hid (fun W => hla ▸ sizeU_any a ha W)
  have SB := Lib.hid (fun W => hlb ▸ sizeU_any b hb W)
  have SM := Lib.hid (fun W => hlm ▸ size_any m hm1 hm2 W)
  have SN := Lib.hid (fun W => hln ▸ size_any n hn1 hn2 W)
  have PU := Lib.hid (fun W => putU_any [] (by simp) b hb _ W (Reads.nil (k := .u8)))
  have PS := Lib.hid (fun W => put_any [] (by simp) n hn1 hn2 _ W (Reads.nil (k := .u8)))
  rw [hla, hlb] at dl
  rw [hla] at d1
  rw [hlb] at d2
  rw [hlm] at e1
  rw [hln] at e2
  have HLA := Lib.hid hla
  have HLB := Lib.hid hlb
  have HLM := Lib.hid hlm
  have HLN := Lib.hid hln
  clear hla hlb hlm hln hy1 hy2 zm zn
  go_enter Try.func8, Try.ntmps8
  go_wp2_with fail
  refine (wakes_any _).mono ?_
  rintro e w1 ⟨rfl, hb1⟩
  have hB1 : Below w.heap.size w w1 := under (below_alloc w _) hb1
  have c0 : w1.cell? ⟨w.heap.size, 0, none⟩ = some (.int .u64 a) := (hb1.cell (p := ⟨w.heap.size, 0, none⟩) (by simp)).trans (by simp [go_sem])
  have c1 : w1.cell? ⟨w.heap.size, 1, none⟩ = some (.int .u64 b) := (hb1.cell (p := ⟨w.heap.size, 1, none⟩) (by simp)).trans (by simp [go_sem])
  have c2 : w1.cell? ⟨w.heap.size, 2, none⟩ = some (.int .i64 m) := (hb1.cell (p := ⟨w.heap.size, 2, none⟩) (by simp)).trans (by simp [go_sem])
  have c3 : w1.cell? ⟨w.heap.size, 3, none⟩ = some (.int .i64 n) := (hb1.cell (p := ⟨w.heap.size, 3, none⟩) (by simp)).trans (by simp [go_sem])
  have HB1 := Lib.hid hB1
  clear hb1 hB1
  go_wp2_with fail
  go_quiet (fail)
  clear c0 c1 c2 c3
  go_wp2_with fail
  refine (far_any m y1 HY1.out hm1 hm2 _).mono ?_
  rintro e w2 ⟨rfl, rfl⟩
  go_wp2_with fail
  refine (far_any n y1 HY2.out hn1 hn2 _).mono ?_
  rintro e w2 ⟨rfl, rfl⟩
  have HB2 := Lib.hid (below_drewN HB1.out nq)
  generalize w1.drewN nq = w3 at *
  clear HB1
  go_wp2_with fail
  refine (SA.out _).mono ?_
  rintro e w4 ⟨rfl, hb4⟩
  have B4 := Lib.hid (under HB2.out hb4)
  clear hb4 HB2
  go_wp2_with fail
  refine (SB.out _).mono ?_
  rintro e w5 ⟨rfl, hb5⟩
  have B5 := Lib.hid (under B4.out hb5)
  clear hb5 B4
  go_wp2_with fail
  refine (SA.out _).mono ?_
  rintro e w6 ⟨rfl, hb6⟩
  have B6 := Lib.hid (under B5.out hb6)
  clear hb6 B5
  go_wp2_with fail
  refine (SB.out _).mono ?_
  rintro e w7 ⟨rfl, hb7⟩
  have B7 := Lib.hid (under B6.out hb7)
  clear hb7 B6
  go_wp2_with fail
  refine (far_any m y1 HY1.out hm1 hm2 _).mono ?_
  rintro e w8 ⟨rfl, rfl⟩
  go_wp2_with fail
  refine (far_any n y1 HY2.out hn1 hn2 _).mono ?_
  rintro e w8 ⟨rfl, rfl⟩
  go_wp2_with fail
  refine (PS.out _).mono ?_
  rintro e w10 ⟨v10, rfl, hb10, ho10⟩
  obtain ⟨A10, c10, rfl⟩ := made_len ho10
  have B10 := Lib.hid (under B7.out hb10)
  have L10 := Lib.hid (show ([] ++ digs (Lib.zigzag n)).length = ln from HLN.out)
  rw [L10.out]
  clear hb10 ho10 B7 L10
  go_wp2_with fail
  refine (SN.out _).mono ?_
  rintro e w11 ⟨rfl, hb11⟩
  have B11 := Lib.hid (under B10.out hb11)
  clear hb11 B10
  go_wp2_with fail
  refine (PU.out _).mono ?_
  rintro e w12 ⟨v12, rfl, hb12, ho12⟩
  obtain ⟨A12, c12, rfl⟩ := made_len ho12
  have B12 := Lib.hid (under B11.out hb12)
  have L12 := Lib.hid (show ([] ++ digs b).length = lb from HLB.out)
  rw [L12.out]
  clear hb12 ho12 B11 L12
  go_wp2_with fail
  refine (SB.out _).mono ?_
  rintro e w13 ⟨rfl, hb13⟩
  have B13 := Lib.hid (under B12.out hb13)
  clear hb13 B12
  go_wp2_with fail
  go_ret
  exact ⟨rfl, B13.out⟩

set_option maxRecDepth 100000 in
set_option maxHeartbeats 4000000 in
theorem short_010 (a b : Nat) (m n : Int) (ha : a < 18446744073709551616) (hb : b < 18446744073709551616) (hm1 : -9223372036854775808 ≤ m) (hm2 : m ≤ 9223372036854775807) (hn1 : -9223372036854775808 ≤ n) (hn2 : n ≤ 9223372036854775807)
    (y1 y2 : Nat) (hy1 : m.natAbs = y1) (hy2 : n.natAbs = y2) (gab : a ≤ b) (gmn : y2 < y1) (w : World) :
    Calls Try.prog 8 #[.agg #[.int .u64 a, .int .u64 b, .int .i64 m, .int .i64 n]] w (Ret w (.bool true)) := by
  have HY1 := Lib.hid hy1
  have HY2 := Lib.hid hy2
  have dl := digs_le (a := a) (b := b) hb (by omega)
  have d1 := digs_ten ha
  have d2 := digs_ten hb
  have zm := Lib.zigzag_lt hm1 hm2
  have zn := Lib.zigzag_lt hn1 hn2
  have e1 := digs_ten zm
  have e2 := digs_ten zn
  have zl := digs_le (a := Lib.zigzag n) (b := Lib.zigzag m) zm (zig_le (by omega))
  obtain ⟨la, hla⟩ : ∃ k, (digs a).length = k := ⟨_, rfl⟩
  obtain ⟨lb, hlb⟩ : ∃ k, (digs b).length = k := ⟨_, rfl⟩
  obtain ⟨lm, hlm⟩ : ∃ k, (digs (Lib.zigzag m)).length = k := ⟨_, rfl⟩
  obtain ⟨ln, hln⟩ : ∃ k, (digs (Lib.zigzag n)).length = k := ⟨_, rfl⟩
  have SA := Lib.hid (fun W => hla ▸ sizeU_any a ha W)
  have SB := Lib.hid (fun W => hlb ▸ sizeU_any b hb W)
  have SM := Lib.hid (fun W => hlm ▸ size_any m hm1 hm2 W)
  have SN := Lib.hid (fun W => hln ▸ size_any n hn1 hn2 W)
  have PU := Lib.hid (fun W => putU_any [] (by simp) b hb _ W (Reads.nil (k := .u8)))
  have PS := Lib.hid (fun W => put_any [] (by simp) m hm1 hm2 _ W (Reads.nil (k := .u8)))
  rw [hla, hlb] at dl
  rw [hla] at d1
  rw [hlb] at d2
  rw [hlm] at e1
  rw [hln] at e2
  rw [hlm, hln] at zl
  have HLA := Lib.hid hla
  have HLB := Lib.hid hlb
  have HLM := Lib.hid hlm
  have HLN := Lib.hid hln
  clear hla hlb hlm hln hy1 hy2 zm zn
  have tE : ((y2 : Int) == (y1 : Int)) = false := beq_eq_false_iff_ne.2 (by omega)
  have tE' : (y2 == y1) = false := beq_eq_false_iff_ne.2 (by omega)
  go_enter Try.func8, Try.ntmps8
  go_wp2_with fail
  refine (wakes_any _).mono ?_
  rintro e w1 ⟨rfl, hb1⟩
  have hB1 : Below w.heap.size w w1 := under (below_alloc w _) hb1
  have c0 : w1.cell? ⟨w.heap.size, 0, none⟩ = some (.int .u64 a) := (hb1.cell (p := ⟨w.heap.size, 0, none⟩) (by simp)).trans (by simp [go_sem])
  have c1 : w1.cell? ⟨w.heap.size, 1, none⟩ = some (.int .u64 b) := (hb1.cell (p := ⟨w.heap.size, 1, none⟩) (by simp)).trans (by simp [go_sem])
  have c2 : w1.cell? ⟨w.heap.size, 2, none⟩ = some (.int .i64 m) := (hb1.cell (p := ⟨w.heap.size, 2, none⟩) (by simp)).trans (by simp [go_sem])
  have c3 : w1.cell? ⟨w.heap.size, 3, none⟩ = some (.int .i64 n) := (hb1.cell (p := ⟨w.heap.size, 3, none⟩) (by simp)).trans (by simp [go_sem])
  have HB1 := Lib.hid hB1
  clear hb1 hB1
  go_wp2_with fail
  go_quiet (fail)
  clear c0 c1 c2 c3
  go_wp2_with fail
  refine (far_any m y1 HY1.out hm1 hm2 _).mono ?_
  rintro e w2 ⟨rfl, rfl⟩
  go_wp2_with fail
  refine (far_any n y2 HY2.out hn1 hn2 _).mono ?_
  rintro e w2 ⟨rfl, rfl⟩
  have HB2 := Lib.hid (below_drewN HB1.out nq)
  generalize w1.drewN nq = w3 at *
  clear HB1
  go_wp2_with fail
  refine (SA.out _).mono ?_
  rintro e w4 ⟨rfl, hb4⟩
  have B4 := Lib.hid (under HB2.out hb4)
  clear hb4 HB2
  go_wp2_with fail
  refine (SB.out _).mono ?_
  rintro e w5 ⟨rfl, hb5⟩
  have B5 := Lib.hid (under B4.out hb5)
  clear hb5 B4
  go_wp2_with fail
  refine (SA.out _).mono ?_
  rintro e w6 ⟨rfl, hb6⟩
  have B6 := Lib.hid (under B5.out hb6)
  clear hb6 B5
  go_wp2_with fail
  refine (SB.out _).mono ?_
  rintro e w7 ⟨rfl, hb7⟩
  have B7 := Lib.hid (under B6.out hb7)
  clear hb7 B6
  go_wp2_with fail
  refine (far_any n y2 HY2.out hn1 hn2 _).mono ?_
  rintro e w8 ⟨rfl, rfl⟩
  go_wp2_with fail
  refine (far_any m y1 HY1.out hm1 hm2 _).mono ?_
  rintro e w8 ⟨rfl, rfl⟩
  go_wp2_with fail
  refine (SN.out _).mono ?_
  rintro e w8 ⟨rfl, hb8⟩
  have B8 := Lib.hid (under B7.out hb8)
  clear hb8 B7
  go_wp2_with fail
  refine (SM.out _).mono ?_
  rintro e w9 ⟨rfl, hb9⟩
  have B9 := Lib.hid (under B8.out hb9)
  clear hb9 B8
  go_wp2_with fail
  refine (PS.out _).mono ?_
  rintro e w10 ⟨v10, rfl, hb10, ho10⟩
  obtain ⟨A10, c10, rfl⟩ := made_len ho10
  have B10 := Lib.hid (under B9.out hb10)
  have L10 := Lib.hid (show ([] ++ digs (Lib.zigzag m)).length = lm from HLM.out)
  rw [L10.out]
  clear hb10 ho10 B9 L10
  go_wp2_with fail
  refine (SM.out _).mono ?_
  rintro e w11 ⟨rfl, hb11⟩
  have B11 := Lib.hid (under B10.out hb11)
  clear hb11 B10
  go_wp2_with fail
  refine (PU.out _).mono ?_
  rintro e w12 ⟨v12, rfl, hb12, ho12⟩
  obtain ⟨A12, c12, rfl⟩ := made_len ho12
  have B12 := Lib.hid (under B11.out hb12)
  have L12 := Lib.hid (show ([] ++ digs b).length = lb from HLB.out)
  rw [L12.out]
  clear hb12 ho12 B11 L12
  go_wp2_with fail
  refine (SB.out _).mono ?_
  rintro e w13 ⟨rfl, hb13⟩
  have B13 := Lib.hid (under B12.out hb13)
  clear hb13 B12
  go_wp2_with fail
  go_ret
  exact ⟨rfl, B13.out⟩

set_option maxRecDepth 100000 in
set_option maxHeartbeats 4000000 in
theorem short_100 (a b : Nat) (m n : Int) (ha : a < 18446744073709551616) (hb : b < 18446744073709551616) (hm1 : -9223372036854775808 ≤ m) (hm2 : m ≤ 9223372036854775807) (hn1 : -9223372036854775808 ≤ n) (hn2 : n ≤ 9223372036854775807)
    (y1 y2 : Nat) (hy1 : m.natAbs = y1) (hy2 : n.natAbs = y2) (gab : b < a) (gmn : y1 < y2) (w : World) :
    Calls Try.prog 8 #[.agg #[.int .u64 a, .int .u64 b, .int .i64 m, .int .i64 n]] w (Ret w (.bool true)) := by
  have HY1 := Lib.hid hy1
  have HY2 := Lib.hid hy2
  have dl := digs_le (a := b) (b := a) ha (by omega)
  have d1 := digs_ten ha
  have d2 := digs_ten hb
  have zm := Lib.zigzag_lt hm1 hm2
  have zn := Lib.zigzag_lt hn1 hn2
  have e1 := digs_ten zm
  have e2 := digs_ten zn
  have zl := digs_le (a := Lib.zigzag m) (b := Lib.zigzag n) zn (zig_le (by omega))
  obtain ⟨la, hla⟩ : ∃ k, (digs a).length = k := ⟨_, rfl⟩
  obtain ⟨lb, hlb⟩ : ∃ k, (digs b).length = k := ⟨_, rfl⟩
  obtain ⟨lm, hlm⟩ : ∃ k, (digs (Lib.zigzag m)).length = k := ⟨_, rfl⟩
  obtain ⟨ln, hln⟩ : ∃ k, (digs (Lib.zigzag n)).length = k := ⟨_, rfl⟩
  have SA := Lib.hid (fun W => hla ▸ sizeU_any a ha W)
  have SB := Lib.hid (fun W => hlb ▸ sizeU_any b hb W)
  have SM := Lib.hid (fun W => hlm ▸ size_any m hm1 hm2 W)
  have SN := Lib.hid (fun W => hln ▸ size_any n hn1 hn2 W)
  have PU := Lib.hid (fun W => putU_any [] (by simp) a ha _ W (Reads.nil (k := .u8)))
  have PS := Lib.hid (fun W => put_any [] (by simp) n hn1 hn2 _ W (Reads.nil (k := .u8)))
  rw [hla, hlb] at dl
  rw [hla] at d1
  rw [hlb] at d2
  rw [hlm] at e1
  rw [hln] at e2
  rw [hlm, hln] at zl
  have HLA := Lib.hid hla
  have HLB := Lib.hid hlb
  have HLM := Lib.hid hlm
  have HLN := Lib.hid hln
  clear hla hlb hlm hln hy1 hy2 zm zn
  have tE : ((y1 : Int) == (y2 : Int)) = false := beq_eq_false_iff_ne.2 (by omega)
  have tE' : (y1 == y2) = false := beq_eq_false_iff_ne.2 (by omega)
  go_enter Try.func8, Try.ntmps8
  go_wp2_with fail
  refine (wakes_any _).mono ?_
  rintro e w1 ⟨rfl, hb1⟩
  have hB1 : Below w.heap.size w w1 := under (below_alloc w _) hb1
  have c0 : w1.cell? ⟨w.heap.size, 0, none⟩ = some (.int .u64 a) := (hb1.cell (p := ⟨w.heap.size, 0, none⟩) (by simp)).trans (by simp [go_sem])
  have c1 : w1.cell? ⟨w.heap.size, 1, none⟩ = some (.int .u64 b) := (hb1.cell (p := ⟨w.heap.size, 1, none⟩) (by simp)).trans (by simp [go_sem])
  have c2 : w1.cell? ⟨w.heap.size, 2, none⟩ = some (.int .i64 m) := (hb1.cell (p := ⟨w.heap.size, 2, none⟩) (by simp)).trans (by simp [go_sem])
  have c3 : w1.cell? ⟨w.heap.size, 3, none⟩ = some (.int .i64 n) := (hb1.cell (p := ⟨w.heap.size, 3, none⟩) (by simp)).trans (by simp [go_sem])
  have HB1 := Lib.hid hB1
  clear hb1 hB1
  go_wp2_with fail
  go_quiet (fail)
  clear c0 c1 c2 c3
  go_wp2_with fail
  refine (far_any m y1 HY1.out hm1 hm2 _).mono ?_
  rintro e w2 ⟨rfl, rfl⟩
  go_wp2_with fail
  refine (far_any n y2 HY2.out hn1 hn2 _).mono ?_
  rintro e w2 ⟨rfl, rfl⟩
  have HB2 := Lib.hid (below_drewN HB1.out nq)
  generalize w1.drewN nq = w3 at *
  clear HB1
  go_wp2_with fail
  refine (SB.out _).mono ?_
  rintro e w4 ⟨rfl, hb4⟩
  have B4 := Lib.hid (under HB2.out hb4)
  clear hb4 HB2
  go_wp2_with fail
  refine (SA.out _).mono ?_
  rintro e w5 ⟨rfl, hb5⟩
  have B5 := Lib.hid (under B4.out hb5)
  clear hb5 B4
  go_wp2_with fail
  refine (SB.out _).mono ?_
  rintro e w6 ⟨rfl, hb6⟩
  have B6 := Lib.hid (under B5.out hb6)
  clear hb6 B5
  go_wp2_with fail
  refine (SA.out _).mono ?_
  rintro e w7 ⟨rfl, hb7⟩
  have B7 := Lib.hid (under B6.out hb7)
  clear hb7 B6
  go_wp2_with fail
  refine (far_any m y1 HY1.out hm1 hm2 _).mono ?_
  rintro e w8 ⟨rfl, rfl⟩
  go_wp2_with fail
  refine (far_any n y2 HY2.out hn1 hn2 _).mono ?_
  rintro e w8 ⟨rfl, rfl⟩
  go_wp2_with fail
  refine (SM.out _).mono ?_
  rintro e w8 ⟨rfl, hb8⟩
  have B8 := Lib.hid (under B7.out hb8)
  clear hb8 B7
  go_wp2_with fail
  refine (SN.out _).mono ?_
  rintro e w9 ⟨rfl, hb9⟩
  have B9 := Lib.hid (under B8.out hb9)
  clear hb9 B8
  go_wp2_with fail
  refine (PS.out _).mono ?_
  rintro e w10 ⟨v10, rfl, hb10, ho10⟩
  obtain ⟨A10, c10, rfl⟩ := made_len ho10
  have B10 := Lib.hid (under B9.out hb10)
  have L10 := Lib.hid (show ([] ++ digs (Lib.zigzag n)).length = ln from HLN.out)
  rw [L10.out]
  clear hb10 ho10 B9 L10
  go_wp2_with fail
  refine (SN.out _).mono ?_
  rintro e w11 ⟨rfl, hb11⟩
  have B11 := Lib.hid (under B10.out hb11)
  clear hb11 B10
  go_wp2_with fail
  refine (PU.out _).mono ?_
  rintro e w12 ⟨v12, rfl, hb12, ho12⟩
  obtain ⟨A12, c12, rfl⟩ := made_len ho12
  have B12 := Lib.hid (under B11.out hb12)
  have L12 := Lib.hid (show ([] ++ digs a).length = la from HLA.out)
  rw [L12.out]
  clear hb12 ho12 B11 L12
  go_wp2_with fail
  refine (SA.out _).mono ?_
  rintro e w13 ⟨rfl, hb13⟩
  have B13 := Lib.hid (under B12.out hb13)
  clear hb13 B12
  go_wp2_with fail
  go_ret
  exact ⟨rfl, B13.out⟩

set_option maxRecDepth 100000 in
set_option maxHeartbeats 4000000 in
theorem short_101 (a b : Nat) (m n : Int) (ha : a < 18446744073709551616) (hb : b < 18446744073709551616) (hm1 : -9223372036854775808 ≤ m) (hm2 : m ≤ 9223372036854775807) (hn1 : -9223372036854775808 ≤ n) (hn2 : n ≤ 9223372036854775807)
    (y1 y2 : Nat) (hy1 : m.natAbs = y1) (hy2 : n.natAbs = y2) (gab : b < a) (gmn : y1 = y2) (w : World) :
    Calls Try.prog 8 #[.agg #[.int .u64 a, .int .u64 b, .int .i64 m, .int .i64 n]] w (Ret w (.bool true)) := by
  subst gmn
  have HY1 := Lib.hid hy1
  have HY2 := Lib.hid hy2
  have dl := digs_le (a := b) (b := a) ha (by omega)
  have d1 := digs_ten ha
  have d2 := digs_ten hb
  have zm := Lib.zigzag_lt hm1 hm2
  have zn := Lib.zigzag_lt hn1 hn2
  have e1 := digs_ten zm
  have e2 := digs_ten zn
  obtain ⟨la, hla⟩ : ∃ k, (digs a).length = k := ⟨_, rfl⟩
  obtain ⟨lb, hlb⟩ : ∃ k, (digs b).length = k := ⟨_, rfl⟩
  obtain ⟨lm, hlm⟩ : ∃ k, (digs (Lib.zigzag m)).length = k := ⟨_, rfl⟩
  obtain ⟨ln, hln⟩ : ∃ k, (digs (Lib.zigzag n)).length = k := ⟨_, rfl⟩
  have SA := Lib.hid (fun W => hla ▸ sizeU_any a ha W)
  have SB := Lib.hid (fun W => hlb ▸ sizeU_any b hb W)
  have SM := Lib.hid (fun W => hlm ▸ size_any m hm1 hm2 W)
  have SN := Lib.hid (fun W => hln ▸ size_any n hn1 hn2 W)
  have PU := Lib.hid (fun W => putU_any [] (by simp) a ha _ W (Reads.nil (k := .u8)))
  have PS := Lib.hid (fun W => put_any [] (by simp) n hn1 hn2 _ W (Reads.nil (k := .u8)))
  rw [hla, hlb] at dl
  rw [hla] at d1
  rw [hlb] at d2
  rw [hlm] at e1
  rw [hln] at e2
  have HLA := Lib.hid hla
  have HLB := Lib.hid hlb
  have HLM := Lib.hid hlm
  have HLN := Lib.hid hln
  clear hla hlb hlm hln hy1 hy2 zm zn
  go_enter Try.func8, Try.ntmps8
  go_wp2_with fail
  refine (wakes_any _).mono ?_
  rintro e w1 ⟨rfl, hb1⟩
  have hB1 : Below w.heap.size w w1 := under (below_alloc w _) hb1
  have c0 : w1.cell? ⟨w.heap.size, 0, none⟩ = some (.int .u64 a) := (hb1.cell (p := ⟨w.heap.size, 0, none⟩) (by simp)).trans (by simp [go_sem])
  have c1 : w1.cell? ⟨w.heap.size, 1, none⟩ = some (.int .u64 b) := (hb1.cell (p := ⟨w.heap.size, 1, none⟩) (by simp)).trans (by simp [go_sem])
  have c2 : w1.cell? ⟨w.heap.size, 2, none⟩ = some (.int .i64 m) := (hb1.cell (p := ⟨w.heap.size, 2, none⟩) (by simp)).trans (by simp [go_sem])
  have c3 : w1.cell? ⟨w.heap.size, 3, none⟩ = some (.int .i64 n) := (hb1.cell (p := ⟨w.heap.size, 3, none⟩) (by simp)).trans (by simp [go_sem])
  have HB1 := Lib.hid hB1
  clear hb1 hB1
  go_wp2_with fail
  go_quiet (fail)
  clear c0 c1 c2 c3
  go_wp2_with fail
  refine (far_any m y1 HY1.out hm1 hm2 _).mono ?_
  rintro e w2 ⟨rfl, rfl⟩
  go_wp2_with fail
  refine (far_any n y1 HY2.out hn1 hn2 _).mono ?_
  rintro e w2 ⟨rfl, rfl⟩
  have HB2 := Lib.hid (below_drewN HB1.out nq)
  generalize w1.drewN nq = w3 at *
  clear HB1
  go_wp2_with fail
  refine (SB.out _).mono ?_
  rintro e w4 ⟨rfl, hb4⟩
  have B4 := Lib.hid (under HB2.out hb4)
  clear hb4 HB2
  go_wp2_with fail
  refine (SA.out _).mono ?_
  rintro e w5 ⟨rfl, hb5⟩
  have B5 := Lib.hid (under B4.out hb5)
  clear hb5 B4
  go_wp2_with fail
  refine (SB.out _).mono ?_
  rintro e w6 ⟨rfl, hb6⟩
  have B6 := Lib.hid (under B5.out hb6)
  clear hb6 B5
  go_wp2_with fail
  refine (SA.out _).mono ?_
  rintro e w7 ⟨rfl, hb7⟩
  have B7 := Lib.hid (under B6.out hb7)
  clear hb7 B6
  go_wp2_with fail
  refine (far_any m y1 HY1.out hm1 hm2 _).mono ?_
  rintro e w8 ⟨rfl, rfl⟩
  go_wp2_with fail
  refine (far_any n y1 HY2.out hn1 hn2 _).mono ?_
  rintro e w8 ⟨rfl, rfl⟩
  go_wp2_with fail
  refine (PS.out _).mono ?_
  rintro e w10 ⟨v10, rfl, hb10, ho10⟩
  obtain ⟨A10, c10, rfl⟩ := made_len ho10
  have B10 := Lib.hid (under B7.out hb10)
  have L10 := Lib.hid (show ([] ++ digs (Lib.zigzag n)).length = ln from HLN.out)
  rw [L10.out]
  clear hb10 ho10 B7 L10
  go_wp2_with fail
  refine (SN.out _).mono ?_
  rintro e w11 ⟨rfl, hb11⟩
  have B11 := Lib.hid (under B10.out hb11)
  clear hb11 B10
  go_wp2_with fail
  refine (PU.out _).mono ?_
  rintro e w12 ⟨v12, rfl, hb12, ho12⟩
  obtain ⟨A12, c12, rfl⟩ := made_len ho12
  have B12 := Lib.hid (under B11.out hb12)
  have L12 := Lib.hid (show ([] ++ digs a).length = la from HLA.out)
  rw [L12.out]
  clear hb12 ho12 B11 L12
  go_wp2_with fail
  refine (SA.out _).mono ?_
  rintro e w13 ⟨rfl, hb13⟩
  have B13 := Lib.hid (under B12.out hb13)
  clear hb13 B12
  go_wp2_with fail
  go_ret
  exact ⟨rfl, B13.out⟩

set_option maxRecDepth 100000 in
set_option maxHeartbeats 4000000 in
theorem short_110 (a b : Nat) (m n : Int) (ha : a < 18446744073709551616) (hb : b < 18446744073709551616) (hm1 : -9223372036854775808 ≤ m) (hm2 : m ≤ 9223372036854775807) (hn1 : -9223372036854775808 ≤ n) (hn2 : n ≤ 9223372036854775807)
    (y1 y2 : Nat) (hy1 : m.natAbs = y1) (hy2 : n.natAbs = y2) (gab : b < a) (gmn : y2 < y1) (w : World) :
    Calls Try.prog 8 #[.agg #[.int .u64 a, .int .u64 b, .int .i64 m, .int .i64 n]] w (Ret w (.bool true)) := by
  have HY1 := Lib.hid hy1
  have HY2 := Lib.hid hy2
  have dl := digs_le (a := b) (b := a) ha (by omega)
  have d1 := digs_ten ha
  have d2 := digs_ten hb
  have zm := Lib.zigzag_lt hm1 hm2
  have zn := Lib.zigzag_lt hn1 hn2
  have e1 := digs_ten zm
  have e2 := digs_ten zn
  have zl := digs_le (a := Lib.zigzag n) (b := Lib.zigzag m) zm (zig_le (by omega))
  obtain ⟨la, hla⟩ : ∃ k, (digs a).length = k := ⟨_, rfl⟩
  obtain ⟨lb, hlb⟩ : ∃ k, (digs b).length = k := ⟨_, rfl⟩
  obtain ⟨lm, hlm⟩ : ∃ k, (digs (Lib.zigzag m)).length = k := ⟨_, rfl⟩
  obtain ⟨ln, hln⟩ : ∃ k, (digs (Lib.zigzag n)).length = k := ⟨_, rfl⟩
  have SA := Lib.hid (fun W => hla ▸ sizeU_any a ha W)
  have SB := Lib.hid (fun W => hlb ▸ sizeU_any b hb W)
  have SM := Lib.hid (fun W => hlm ▸ size_any m hm1 hm2 W)
  have SN := Lib.hid (fun W => hln ▸ size_any n hn1 hn2 W)
  have PU := Lib.hid (fun W => putU_any [] (by simp) a ha _ W (Reads.nil (k := .u8)))
  have PS := Lib.hid (fun W => put_any [] (by simp) m hm1 hm2 _ W (Reads.nil (k := .u8)))
  rw [hla, hlb] at dl
  rw [hla] at d1
  rw [hlb] at d2
  rw [hlm] at e1
  rw [hln] at e2
  rw [hlm, hln] at zl
  have HLA := Lib.hid hla
  have HLB := Lib.hid hlb
  have HLM := Lib.hid hlm
  have HLN := Lib.hid hln
  clear hla hlb hlm hln hy1 hy2 zm zn
  have tE : ((y2 : Int) == (y1 : Int)) = false := beq_eq_false_iff_ne.2 (by omega)
  have tE' : (y2 == y1) = false := beq_eq_false_iff_ne.2 (by omega)
  go_enter Try.func8, Try.ntmps8
  go_wp2_with fail
  refine (wakes_any _).mono ?_
  rintro e w1 ⟨rfl, hb1⟩
  have hB1 : Below w.heap.size w w1 := under (below_alloc w _) hb1
  have c0 : w1.cell? ⟨w.heap.size, 0, none⟩ = some (.int .u64 a) := (hb1.cell (p := ⟨w.heap.size, 0, none⟩) (by simp)).trans (by simp [go_sem])
  have c1 : w1.cell? ⟨w.heap.size, 1, none⟩ = some (.int .u64 b) := (hb1.cell (p := ⟨w.heap.size, 1, none⟩) (by simp)).trans (by simp [go_sem])
  have c2 : w1.cell? ⟨w.heap.size, 2, none⟩ = some (.int .i64 m) := (hb1.cell (p := ⟨w.heap.size, 2, none⟩) (by simp)).trans (by simp [go_sem])
  have c3 : w1.cell? ⟨w.heap.size, 3, none⟩ = some (.int .i64 n) := (hb1.cell (p := ⟨w.heap.size, 3, none⟩) (by simp)).trans (by simp [go_sem])
  have HB1 := Lib.hid hB1
  clear hb1 hB1
  go_wp2_with fail
  go_quiet (fail)
  clear c0 c1 c2 c3
  go_wp2_with fail
  refine (far_any m y1 HY1.out hm1 hm2 _).mono ?_
  rintro e w2 ⟨rfl, rfl⟩
  go_wp2_with fail
  refine (far_any n y2 HY2.out hn1 hn2 _).mono ?_
  rintro e w2 ⟨rfl, rfl⟩
  have HB2 := Lib.hid (below_drewN HB1.out nq)
  generalize w1.drewN nq = w3 at *
  clear HB1
  go_wp2_with fail
  refine (SB.out _).mono ?_
  rintro e w4 ⟨rfl, hb4⟩
  have B4 := Lib.hid (under HB2.out hb4)
  clear hb4 HB2
  go_wp2_with fail
  refine (SA.out _).mono ?_
  rintro e w5 ⟨rfl, hb5⟩
  have B5 := Lib.hid (under B4.out hb5)
  clear hb5 B4
  go_wp2_with fail
  refine (SB.out _).mono ?_
  rintro e w6 ⟨rfl, hb6⟩
  have B6 := Lib.hid (under B5.out hb6)
  clear hb6 B5
  go_wp2_with fail
  refine (SA.out _).mono ?_
  rintro e w7 ⟨rfl, hb7⟩
  have B7 := Lib.hid (under B6.out hb7)
  clear hb7 B6
  go_wp2_with fail
  refine (far_any n y2 HY2.out hn1 hn2 _).mono ?_
  rintro e w8 ⟨rfl, rfl⟩
  go_wp2_with fail
  refine (far_any m y1 HY1.out hm1 hm2 _).mono ?_
  rintro e w8 ⟨rfl, rfl⟩
  go_wp2_with fail
  refine (SN.out _).mono ?_
  rintro e w8 ⟨rfl, hb8⟩
  have B8 := Lib.hid (under B7.out hb8)
  clear hb8 B7
  go_wp2_with fail
  refine (SM.out _).mono ?_
  rintro e w9 ⟨rfl, hb9⟩
  have B9 := Lib.hid (under B8.out hb9)
  clear hb9 B8
  go_wp2_with fail
  refine (PS.out _).mono ?_
  rintro e w10 ⟨v10, rfl, hb10, ho10⟩
  obtain ⟨A10, c10, rfl⟩ := made_len ho10
  have B10 := Lib.hid (under B9.out hb10)
  have L10 := Lib.hid (show ([] ++ digs (Lib.zigzag m)).length = lm from HLM.out)
  rw [L10.out]
  clear hb10 ho10 B9 L10
  go_wp2_with fail
  refine (SM.out _).mono ?_
  rintro e w11 ⟨rfl, hb11⟩
  have B11 := Lib.hid (under B10.out hb11)
  clear hb11 B10
  go_wp2_with fail
  refine (PU.out _).mono ?_
  rintro e w12 ⟨v12, rfl, hb12, ho12⟩
  obtain ⟨A12, c12, rfl⟩ := made_len ho12
  have B12 := Lib.hid (under B11.out hb12)
  have L12 := Lib.hid (show ([] ++ digs a).length = la from HLA.out)
  rw [L12.out]
  clear hb12 ho12 B11 L12
  go_wp2_with fail
  refine (SA.out _).mono ?_
  rintro e w13 ⟨rfl, hb13⟩
  have B13 := Lib.hid (under B12.out hb13)
  clear hb13 B12
  go_wp2_with fail
  go_ret
  exact ⟨rfl, B13.out⟩

theorem short_any (a b : Nat) (m n : Int) (ha : a < 18446744073709551616) (hb : b < 18446744073709551616) (hm1 : -9223372036854775808 ≤ m) (hm2 : m ≤ 9223372036854775807) (hn1 : -9223372036854775808 ≤ n) (hn2 : n ≤ 9223372036854775807) (w : World) :
    Calls Try.prog 8 #[.agg #[.int .u64 a, .int .u64 b, .int .i64 m, .int .i64 n]] w (Ret w (.bool true)) := by
  rcases Nat.lt_or_ge b a with gab | gab
  · rcases Nat.lt_trichotomy m.natAbs n.natAbs with g | g | g
    · exact short_100 a b m n ha hb hm1 hm2 hn1 hn2 _ _ rfl rfl gab g w
    · exact short_101 a b m n ha hb hm1 hm2 hn1 hn2 _ _ rfl rfl gab g w
    · exact short_110 a b m n ha hb hm1 hm2 hn1 hn2 _ _ rfl rfl gab g w
  · rcases Nat.lt_trichotomy m.natAbs n.natAbs with g | g | g
    · exact short_000 a b m n ha hb hm1 hm2 hn1 hn2 _ _ rfl rfl gab g w
    · exact short_001 a b m n ha hb hm1 hm2 hn1 hn2 _ _ rfl rfl gab g w
    · exact short_010 a b m n ha hb hm1 hm2 hn1 hn2 _ _ rfl rfl gab g w
end Go.Proofs.Ytahfopednhmbiaa
