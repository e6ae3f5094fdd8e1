/-
  Layer 2: the law VaryPuts, its walk. Conditions: those written at each fact.
-/
import Derived.Test.YtahfopednhmbiaaRefV
import Derived.Test.YtahfopednhmbiaaKept
import Derived.Test.YtahfopednhmbiaaKitX
import Derived.Test.YtahfopednhmbiaaGuard
namespace Go.Proofs.Ytahfopednhmbiaa
open Go.RowKit Go.Shelf

theorem owns_parts {w : World} {t : TypeId} {v : Value} {l : List Int} {B k : Nat} (h : w.ownsRow B t 1 v l.length (l.map (Value.int .u8))) (hk : l.length = k) (hne : 1 ≤ k) : ∃ g c, v = .slice (some ⟨g, 0, none⟩) k c ∧ k ≤ c ∧ g < w.heap.size ∧ Lie w g 0 l ∧ B ≤ g ∧ ∀ i, w.frozen? ⟨g, i, none⟩ = false := by
  have hn : l ≠ [] := by intro e; rw [e] at hk; simp at hk; omega
  obtain ⟨g, c, e, h2, h3, h4, h5⟩ := made_parts h hn
  subst e
  refine ⟨g, c, by rw [hk], by omega, h3, h4, h5, fun i => ?_⟩
  rcases h.2 with ⟨e, _⟩ | ⟨g', cap', cur, e, _, hg, _⟩
  · cases e
  · cases e
    simp [World.frozen?, hg]
theorem Near.below {s : Nat} {w W w' : World} (h : Near s W w') (hb : Below w.heap.size w W) (hs : w.heap.size ≤ s) : Below w.heap.size w w' :=
  hb.trans ⟨h.os, h.tape, h.output, h.size, fun k hk => h.block k (Nat.lt_of_lt_of_le hk hb.size) (by omega)⟩
theorem Lie.near {s : Nat} {W w' : World} {g off : Nat} {l : List Int} (h : Lie W g off l) (hn : Near s W w') (hg : g < W.heap.size) (hne : g ≠ s) : Lie w' g off l := fun i z hz => (World.cell?_of_block (w := W) (hn.block g hg hne)).trans (h i z hz)

set_option maxRecDepth 100000 in
set_option maxHeartbeats 8000000 in
theorem puts_any (b : List Int) (hbl : b.length ≤ 9223372036854775807) (hbb : ∀ z ∈ b, 0 ≤ z ∧ z < 256) (n : Nat) (hn : n < 18446744073709551616) (m : Int) (hm1 : -9223372036854775808 ≤ m) (hm2 : m ≤ 9223372036854775807) (v : Value) (w : World) (h : Reads .u8 w v b) :
    Calls Try.prog 3 #[v, .int .u64 n, .int .i64 m] w (Ret w (.bool true)) := by
  have hz := Lib.zigzag_lt hm1 hm2
  have d1 := digs_ten hn
  have d2 := digs_ten hz
  obtain ⟨i0, hi, hz0, hz1, hz2⟩ := info_parts infoU8
  have HH := Lib.hid (fun W (hb : Below w.heap.size w W) => head_any b hbl v W (h.below hb))
  have HKP := Lib.hid (fun W (hb : Below w.heap.size w W) g cap hg hc hl => kept_any b hbl v W (h.below hb) g cap hg hc hl)
  have hl4 : (b.take 400).length ≤ 400 := by simp; omega
  have hlb : ∀ z ∈ b.take 400, 0 ≤ z ∧ z < 256 := fun z hz => hbb z (List.mem_of_mem_take hz)
  generalize b.take 400 = l at *
  have PU := Lib.hid (fun v W (hr : Reads .u8 W v l) => putU_any l (by omega) n hn v W hr)
  have PS := Lib.hid (fun v W (hr : Reads .u8 W v l) => put_any l (by omega) m hm1 hm2 v W hr)
  have CL := Lib.hid (fun v W (hr : Reads .u8 W v l) => cloneB l (by omega) v W hr)
  have BY := Lib.hid (fun W => bytesR n hn W)
  have SG := Lib.hid (fun W => signedR m hm1 hm2 W)
  have SU := Lib.hid (fun W => sizeU_any n hn W)
  have SZ := Lib.hid (fun W => size_any m hm1 hm2 W)
  have PR : Hid (∀ z ∈ l ++ digs n, 0 ≤ z ∧ z < 256) := Lib.hid (fun z hz' => by
    rcases List.mem_append.1 hz' with hz' | hz'
    · exact hlb z hz'
    · exact digs_b hn z hz')
  have QR : Hid (∀ z ∈ l ++ digs (Lib.zigzag m), 0 ≤ z ∧ z < 256) := Lib.hid (fun z hz' => by
    rcases List.mem_append.1 hz' with hz' | hz'
    · exact hlb z hz'
    · exact digs_b hz z hz')
  generalize digs (Lib.zigzag m) = D2 at *
  generalize digs n = D1 at *
  generalize hD1 : D1.length = k1 at *
  generalize hD2 : D2.length = k2 at *
  have EQ1 := Lib.hid (fun v v2 W (h1 : Reads .u8 W v (l ++ D1)) (h2 : Reads .u8 W v2 (l ++ D1)) => equalB (l ++ D1) (l ++ D1) (by simp; omega) v v2 W h1 h2)
  have EQ2 := Lib.hid (fun v v2 W (h1 : Reads .u8 W v (l ++ D2)) (h2 : Reads .u8 W v2 (l ++ D2)) => equalB (l ++ D2) (l ++ D2) (by simp; omega) v v2 W h1 h2)
  rw [eqB_true rfl] at EQ1 EQ2
  have PL : Hid ((l ++ D1).length = l.length + k1) := Lib.hid (by simp [hD1])
  have QL : Hid ((l ++ D2).length = l.length + k2) := Lib.hid (by simp [hD2])
  have HD1 := Lib.hid hD1
  have HD2 := Lib.hid hD2
  clear h hbb hbl hlb hz hD1 hD2
  go_enter Try.func3, Try.ntmps3
  go_wp2_with fail
  refine (wakes_any _).mono ?_
  rintro e w1 ⟨rfl, hb1⟩
  have B1 := Lib.hid hb1
  clear hb1
  go_wp2_with fail
  refine (HH.out _ B1.out).mono ?_
  intro e w2 hhead
  obtain ⟨g, cap, rfl, hb2, hg, hcap, hlie, _⟩ := head_parts hhead
  have B2 := Lib.hid (under B1.out hb2)
  have LI := Lib.hid hlie
  clear hb2 hhead hlie B1
  go_wp2_with fail
  refine (PU.out _ _ (reads_lie LI.out.left hg (by omega))).mono ?_
  rintro e w3 ⟨v3, rfl, hb3, ho3⟩
  obtain ⟨gu, cu, rfl, hcu, hgu, liu, hgu2, fru⟩ := owns_parts ho3 PL.out (by omega)
  have B3 := Lib.hid (under B2.out hb3)
  have LI3 := Lib.hid (LI.out.below hg hb3)
  have U3 := Lib.hid liu
  have UF := Lib.hid fru
  have hg3 : g < w3.heap.size := Nat.lt_of_lt_of_le hg hb3.size
  have hggu : g < gu := by omega
  have hwgu : w.heap.size ≤ gu := Nat.le_trans B2.out.size hgu2
  clear hb3 B2 LI ho3 liu fru hgu2
  go_wp2_with fail
  refine (PS.out _ _ (reads_lie LI3.out.left hg3 (by omega))).mono ?_
  rintro e w4 ⟨v4, rfl, hb4, ho4⟩
  obtain ⟨gs, cs, rfl, hcs, hgs, lis, hgs2, frs⟩ := owns_parts ho4 QL.out (by omega)
  have B4 := Lib.hid (under B3.out hb4)
  have LI4 := Lib.hid (LI3.out.below hg3 hb4)
  have U4 := Lib.hid (U3.out.below hgu hb4)
  have UF4 := Lib.hid (fun i => (hb4.frozen (p := ⟨gu, i, none⟩) hgu).trans (UF.out i))
  have S4 := Lib.hid lis
  have SF := Lib.hid frs
  have hg4 : g < w4.heap.size := Nat.lt_of_lt_of_le hg3 hb4.size
  have hgu4 : gu < w4.heap.size := Nat.lt_of_lt_of_le hgu hb4.size
  have hgugs : gu < gs := by omega
  clear hb4 B3 LI3 U3 UF ho4 lis frs hg3 hgu hgs2
  go_wp2_with fail
  refine (BY.out _).mono ?_
  rintro e w5 ⟨v5, rfl, hb5, ho5⟩
  obtain ⟨gw, cw, rfl, hcw, hgw, liw, _, _⟩ := owns_parts ho5 HD1.out (by omega)
  have B5 := Lib.hid (under B4.out hb5)
  have LI5 := Lib.hid (LI4.out.below hg4 hb5)
  have U5 := Lib.hid (U4.out.below hgu4 hb5)
  have UF5 := Lib.hid (fun i => (hb5.frozen (p := ⟨gu, i, none⟩) hgu4).trans (UF4.out i))
  have S5 := Lib.hid (S4.out.below hgs hb5)
  have SF5 := Lib.hid (fun i => (hb5.frozen (p := ⟨gs, i, none⟩) hgs).trans (SF.out i))
  have W5 := Lib.hid liw
  have i5 : g < w5.heap.size ∧ gu < w5.heap.size ∧ gs < w5.heap.size := ⟨Nat.lt_of_lt_of_le hg4 hb5.size, Nat.lt_of_lt_of_le hgu4 hb5.size, Nat.lt_of_lt_of_le hgs hb5.size⟩
  clear hb5 B4 LI4 U4 UF4 S4 SF ho5 liw hg4 hgu4 hgs
  go_wp2_with fail
  refine (SG.out _).mono ?_
  rintro e w6 ⟨v6, rfl, hb6, ho6⟩
  obtain ⟨gx, cx, rfl, hcx, hgx, lix, _, _⟩ := owns_parts ho6 HD2.out (by omega)
  have B6 := Lib.hid (under B5.out hb6)
  have LI6 := Lib.hid (LI5.out.below i5.1 hb6)
  have U6 := Lib.hid (U5.out.below i5.2.1 hb6)
  have UF6 := Lib.hid (fun i => (hb6.frozen (p := ⟨gu, i, none⟩) i5.2.1).trans (UF5.out i))
  have S6 := Lib.hid (S5.out.below i5.2.2 hb6)
  have SF6 := Lib.hid (fun i => (hb6.frozen (p := ⟨gs, i, none⟩) i5.2.2).trans (SF5.out i))
  have W6 := Lib.hid (W5.out.below hgw hb6)
  have X6 := Lib.hid lix
  have i6 : g < w6.heap.size ∧ gu < w6.heap.size ∧ gs < w6.heap.size ∧ gw < w6.heap.size := ⟨Nat.lt_of_lt_of_le i5.1 hb6.size, Nat.lt_of_lt_of_le i5.2.1 hb6.size, Nat.lt_of_lt_of_le i5.2.2 hb6.size, Nat.lt_of_lt_of_le hgw hb6.size⟩
  clear hb6 B5 LI5 U5 UF5 S5 SF5 W5 ho6 lix hgw i5
  go_wp2_with fail
  refine (CL.out _ _ (reads_lie LI6.out.left i6.1 (by omega))).mono ?_
  rintro e w7 ⟨v7, rfl, hb7, ho7⟩
  have i6z : g < w6.heap.size ∧ gu < w6.heap.size ∧ gs < w6.heap.size ∧ gw < w6.heap.size ∧ gx < w6.heap.size := ⟨i6.1, i6.2.1, i6.2.2.1, i6.2.2.2, hgx⟩
  clear i6 hgx
  have i6 := i6z
  clear i6z
  have S7x := Lib.hid (W6.out.below i6.2.2.2.1 hb7)
  have j7 : gw < w7.heap.size := Nat.lt_of_lt_of_le i6.2.2.2.1 hb7.size
  have HB7 := Lib.hid hb7
  have HO7 := Lib.hid ho7
  clear hb7 ho7
  go_wp2_with (at_builtin; refine wpList_append_own _ rfl _ _ 22 rfl w6.heap.size 5 i0 (.int .u8 0) 1 1 Try.underlying22 hi hz0 hz1 hz2 rfl (by decide) _ _ _ rfl HO7.out ⟨gw, 0, none⟩ k1 cw (D1.map (Value.int .u8)) rfl ?qa7 ?qb7 ?qc7 ?qd7 ?qe7 ?qf7 ?_)
  case qa7 => simp [HD1.out]
  case qb7 => exact fun j u hj => reads_add (reads_lie (c := cw) S7x.out j7 (by rw [HD1.out]; omega)) hj
  case qc7 => intro u hu; obtain ⟨x, _, rfl⟩ := List.mem_map.1 hu; rfl
  case qd7 => unfold maxLen; omega
  case qe7 => omega
  case qf7 => exact HB7.out.size
  intro v8 w8 hown8 hgrow8 _
  have hb8 : Below w6.heap.size w6 w8 := HB7.out.grown hgrow8 HB7.out.size (fun j hj => (HO7.out.lt j hj).1)
  have RA8 : Hid (Reads .u8 w8 v8 (l ++ D1)) := Lib.hid (reads_own (B := w6.heap.size) (t := 5) (by rw [PL.out, List.map_append]; exact hown8))
  clear hown8 hgrow8 HB7 HO7 S7x j7
  have B8 := Lib.hid (under B6.out hb8)
  have LI8 := Lib.hid (LI6.out.below i6.1 hb8)
  have U8 := Lib.hid (U6.out.below i6.2.1 hb8)
  have UF8 := Lib.hid (fun i => (hb8.frozen (p := ⟨gu, i, none⟩) i6.2.1).trans (UF6.out i))
  have S8 := Lib.hid (S6.out.below i6.2.2.1 hb8)
  have SF8 := Lib.hid (fun i => (hb8.frozen (p := ⟨gs, i, none⟩) i6.2.2.1).trans (SF6.out i))
  have W8 := Lib.hid (W6.out.below i6.2.2.2.1 hb8)
  have X8 := Lib.hid (X6.out.below i6.2.2.2.2 hb8)
  have i8 : g < w8.heap.size ∧ gu < w8.heap.size ∧ gs < w8.heap.size ∧ gw < w8.heap.size ∧ gx < w8.heap.size := ⟨Nat.lt_of_lt_of_le i6.1 hb8.size, Nat.lt_of_lt_of_le i6.2.1 hb8.size, Nat.lt_of_lt_of_le i6.2.2.1 hb8.size, Nat.lt_of_lt_of_le i6.2.2.2.1 hb8.size, Nat.lt_of_lt_of_le i6.2.2.2.2 hb8.size⟩
  clear hb8 B6 LI6 U6 UF6 S6 SF6 W6 X6 i6
  go_wp2_with fail
  refine (EQ1.out _ _ _ (by rw [← PL.out]; exact reads_lie U8.out i8.2.1 (by rw [PL.out]; omega)) RA8.out).mono ?_
  rintro e w9 ⟨rfl, hb9⟩
  clear RA8
  have B9 := Lib.hid (under B8.out hb9)
  have LI9 := Lib.hid (LI8.out.below i8.1 hb9)
  have U9 := Lib.hid (U8.out.below i8.2.1 hb9)
  have UF9 := Lib.hid (fun i => (hb9.frozen (p := ⟨gu, i, none⟩) i8.2.1).trans (UF8.out i))
  have S9 := Lib.hid (S8.out.below i8.2.2.1 hb9)
  have SF9 := Lib.hid (fun i => (hb9.frozen (p := ⟨gs, i, none⟩) i8.2.2.1).trans (SF8.out i))
  have W9 := Lib.hid (W8.out.below i8.2.2.2.1 hb9)
  have X9 := Lib.hid (X8.out.below i8.2.2.2.2 hb9)
  have i9 : g < w9.heap.size ∧ gu < w9.heap.size ∧ gs < w9.heap.size ∧ gw < w9.heap.size ∧ gx < w9.heap.size := ⟨Nat.lt_of_lt_of_le i8.1 hb9.size, Nat.lt_of_lt_of_le i8.2.1 hb9.size, Nat.lt_of_lt_of_le i8.2.2.1 hb9.size, Nat.lt_of_lt_of_le i8.2.2.2.1 hb9.size, Nat.lt_of_lt_of_le i8.2.2.2.2 hb9.size⟩
  clear hb9 B8 LI8 U8 UF8 S8 SF8 W8 X8 i8
  go_wp2_with fail
  refine (CL.out _ _ (reads_lie LI9.out.left i9.1 (by omega))).mono ?_
  rintro e w10 ⟨v10, rfl, hb10, ho10⟩
  have S10x := Lib.hid (X9.out.below i9.2.2.2.2 hb10)
  have j10 : gx < w10.heap.size := Nat.lt_of_lt_of_le i9.2.2.2.2 hb10.size
  have HB10 := Lib.hid hb10
  have HO10 := Lib.hid ho10
  clear hb10 ho10
  go_wp2_with (refine wpList_append_own_g (o := ⟨some 40, _, _, _, _, _⟩) _ (by rfl) _ _ 22 rfl w9.heap.size 5 i0 (.int .u8 0) 1 1 Try.underlying22 hi hz0 hz1 hz2 rfl (by decide) _ _ _ rfl HO10.out ⟨gx, 0, none⟩ k2 cx (D2.map (Value.int .u8)) rfl ?qa10 ?qb10 ?qc10 ?qd10 ?qe10 ?qf10 ?_)
  case qa10 => simp [HD2.out]
  case qb10 => exact fun j u hj => reads_add (reads_lie (c := cx) S10x.out j10 (by rw [HD2.out]; omega)) hj
  case qc10 => intro u hu; obtain ⟨x, _, rfl⟩ := List.mem_map.1 hu; rfl
  case qd10 => unfold maxLen; omega
  case qe10 => omega
  case qf10 => exact HB10.out.size
  intro v11 w11 hown11 hgrow11 _
  have hb11 : Below w9.heap.size w9 w11 := HB10.out.grown hgrow11 HB10.out.size (fun j hj => (HO10.out.lt j hj).1)
  have RA11 : Hid (Reads .u8 w11 v11 (l ++ D2)) := Lib.hid (reads_own (B := w9.heap.size) (t := 5) (by rw [QL.out, List.map_append]; exact hown11))
  clear hown11 hgrow11 HB10 HO10 S10x j10
  have B11 := Lib.hid (under B9.out hb11)
  have LI11 := Lib.hid (LI9.out.below i9.1 hb11)
  have U11 := Lib.hid (U9.out.below i9.2.1 hb11)
  have UF11 := Lib.hid (fun i => (hb11.frozen (p := ⟨gu, i, none⟩) i9.2.1).trans (UF9.out i))
  have S11 := Lib.hid (S9.out.below i9.2.2.1 hb11)
  have SF11 := Lib.hid (fun i => (hb11.frozen (p := ⟨gs, i, none⟩) i9.2.2.1).trans (SF9.out i))
  have W11 := Lib.hid (W9.out.below i9.2.2.2.1 hb11)
  have X11 := Lib.hid (X9.out.below i9.2.2.2.2 hb11)
  have i11 : g < w11.heap.size ∧ gu < w11.heap.size ∧ gs < w11.heap.size ∧ gw < w11.heap.size ∧ gx < w11.heap.size := ⟨Nat.lt_of_lt_of_le i9.1 hb11.size, Nat.lt_of_lt_of_le i9.2.1 hb11.size, Nat.lt_of_lt_of_le i9.2.2.1 hb11.size, Nat.lt_of_lt_of_le i9.2.2.2.1 hb11.size, Nat.lt_of_lt_of_le i9.2.2.2.2 hb11.size⟩
  clear hb11 B9 LI9 U9 UF9 S9 SF9 W9 X9 i9
  go_wp2_with fail
  refine (EQ2.out _ _ _ (by rw [← QL.out]; exact reads_lie S11.out i11.2.2.1 (by rw [QL.out]; omega)) RA11.out).mono ?_
  rintro e w12 ⟨rfl, hb12⟩
  clear RA11
  have B12 := Lib.hid (under B11.out hb12)
  have LI12 := Lib.hid (LI11.out.below i11.1 hb12)
  have U12 := Lib.hid (U11.out.below i11.2.1 hb12)
  have UF12 := Lib.hid (fun i => (hb12.frozen (p := ⟨gu, i, none⟩) i11.2.1).trans (UF11.out i))
  have S12 := Lib.hid (S11.out.below i11.2.2.1 hb12)
  have SF12 := Lib.hid (fun i => (hb12.frozen (p := ⟨gs, i, none⟩) i11.2.2.1).trans (SF11.out i))
  have W12 := Lib.hid (W11.out.below i11.2.2.2.1 hb12)
  have X12 := Lib.hid (X11.out.below i11.2.2.2.2 hb12)
  have i12 : g < w12.heap.size ∧ gu < w12.heap.size ∧ gs < w12.heap.size ∧ gw < w12.heap.size ∧ gx < w12.heap.size := ⟨Nat.lt_of_lt_of_le i11.1 hb12.size, Nat.lt_of_lt_of_le i11.2.1 hb12.size, Nat.lt_of_lt_of_le i11.2.2.1 hb12.size, Nat.lt_of_lt_of_le i11.2.2.2.1 hb12.size, Nat.lt_of_lt_of_le i11.2.2.2.2 hb12.size⟩
  clear hb12 B11 LI11 U11 UF11 S11 SF11 W11 X11 i11
  go_wp2_with fail
  go_loopw [46] (fun i wr => ∃ k : Nat, i = .int .i64 k ∧ k ≤ (l.length + k1) ∧ Hid (Near gu w12 wr ∧ (∀ i z, k ≤ i → (l ++ D1)[i]? = some z → wr.cell? ⟨gu, i, none⟩ = some (.int .u8 z)) ∧ ∀ i, wr.frozen? ⟨gu, i, none⟩ = false)) (fun i _ => (l.length + k1) - (intOf i).toNat)
  case atStart => exact ⟨0, rfl, by omega, Lib.hid ⟨Near.refl _ _, fun i z _ hz => by have := U12.out i z hz; rwa [Nat.zero_add] at this, UF12.out⟩⟩
  case round =>
    obtain ⟨k, rfl, hk, hN⟩ := hrel
    by_cases gk : k < (l.length + k1)
    · obtain ⟨z, hz⟩ : ∃ z, (l ++ D1)[k]? = some z := ⟨_, List.getElem?_eq_getElem (by have := PL.out; omega)⟩
      have hc := hN.out.2.1 k z (Nat.le_refl _) hz
      have hf := hN.out.2.2 k
      have hzr := PR.out z (List.mem_of_getElem? hz)
      clear hz
      go_wp2_with fail
      go_roundw
      case rel => exact ⟨k + 1, by simp, by omega, Lib.hid ⟨hN.out.1.set (.inl rfl) _, fun i z' hi hz' => (World.cell?_setCell_other _ _ _ _ (fun e => by injection e with _ e2 _; omega)).trans (hN.out.2.1 i z' (by omega) hz'), fun i => by rw [World.frozen?_setCell]; exact hN.out.2.2 i⟩⟩
      case measure => simp [intOf]; omega
    · have hNr := hN.out.1
      clear hN
      have B13 := Lib.hid (hNr.below B12.out hwgu)
      have LI13 := Lib.hid (LI12.out.near hNr i12.1 (by omega))
      have S13 := Lib.hid (S12.out.near hNr i12.2.2.1 (by omega))
      have SF13 : Hid (∀ i, wr.frozen? ⟨gs, i, none⟩ = false) := Lib.hid (fun i => (World.frozen?_of_block (w := w12) (hNr.block gs i12.2.2.1 (by omega))).trans (SF12.out i))
      have i13 : g < wr.heap.size ∧ gs < wr.heap.size := ⟨Nat.lt_of_lt_of_le i12.1 hNr.size, Nat.lt_of_lt_of_le i12.2.2.1 hNr.size⟩
      clear B12 LI12 S12 SF12 U12 UF12 i12 hNr
      obtain ⟨wm, hwm⟩ : ∃ x, x = wr := ⟨_, rfl⟩
      subst hwm
      go_wp2_with fail
      go_loopw [58] (fun i wr => ∃ k : Nat, i = .int .i64 k ∧ k ≤ (l.length + k2) ∧ Hid (Near gs wm wr ∧ (∀ i z, k ≤ i → (l ++ D2)[i]? = some z → wr.cell? ⟨gs, i, none⟩ = some (.int .u8 z)) ∧ ∀ i, wr.frozen? ⟨gs, i, none⟩ = false)) (fun i _ => (l.length + k2) - (intOf i).toNat)
      case atStart => exact ⟨0, rfl, by omega, Lib.hid ⟨Near.refl _ _, fun i z _ hz => by have := S13.out i z hz; rwa [Nat.zero_add] at this, SF13.out⟩⟩
      case round =>
        obtain ⟨k, rfl, hk, hN⟩ := hrel
        by_cases gk : k < (l.length + k2)
        · obtain ⟨z, hz⟩ : ∃ z, (l ++ D2)[k]? = some z := ⟨_, List.getElem?_eq_getElem (by have := QL.out; omega)⟩
          have hc := hN.out.2.1 k z (Nat.le_refl _) hz
          have hf := hN.out.2.2 k
          have hzr := QR.out z (List.mem_of_getElem? hz)
          clear hz
          go_wp2_with fail
          go_roundw
          case rel => exact ⟨k + 1, by simp, by omega, Lib.hid ⟨hN.out.1.set (.inl rfl) _, fun i z' hi hz' => (World.cell?_setCell_other _ _ _ _ (fun e => by injection e with _ e2 _; omega)).trans (hN.out.2.1 i z' (by omega) hz'), fun i => by rw [World.frozen?_setCell]; exact hN.out.2.2 i⟩⟩
          case measure => simp [intOf]; omega
        · have hNr := hN.out.1
          clear hN
          have B14 := Lib.hid (hNr.below B13.out (by omega))
          have LI14 := Lib.hid (LI13.out.near hNr i13.1 (by omega))
          have i14 : g < wr.heap.size := Nat.lt_of_lt_of_le i13.1 hNr.size
          clear B13 LI13 S13 SF13 i13 hNr
          go_wp2_with fail
          refine (HKP.out _ B14.out g cap i14 hcap LI14.out).mono ?_
          rintro e w15 ⟨rfl, hb15⟩
          have B15 := Lib.hid (under B14.out hb15)
          clear hb15 B14 LI14
          go_wp2_with fail
          refine (SU.out _).mono ?_
          rintro e w16 ⟨rfl, hb16⟩
          have B16 := Lib.hid (under B15.out hb16)
          clear hb16 B15
          go_wp2_with fail
          refine (SZ.out _).mono ?_
          rintro e w17 ⟨rfl, hb17⟩
          have B17 := Lib.hid (under B16.out hb17)
          clear hb17 B16
          go_wp2_with fail
          go_ret
          exact ⟨rfl, B17.out⟩
end Go.Proofs.Ytahfopednhmbiaa
