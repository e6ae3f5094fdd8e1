/-
 SegcodeAlone: what is got has just its bytes, and no other segment's begin with them: of any bytes and any segment. Conditions: those written at each fact.
-/
import Derived.Test.YtcfidimnbamnkaaGreatBK
import Derived.Test.YtcfidimnbamnkaaGreatSmL
namespace Go.Proofs.YtcfidimnbamnkaaGreat.P12
open Go.RowKit Go.Shelf Go.Proofs.YtcfidimnbamnkaaGreat.P2 Go.Proofs.YtcfidimnbamnkaaGreat.P7 Go.Proofs.YtcfidimnbamnkaaGreat.P11

def emptyS : Sg := ⟨0, [], 0, 0, 0, 0, [], 0⟩
theorem same_refl (s : Sg) : sameB s s = true := by unfold sameB; simp
theorem made_lie {w : World} {t : TypeId} {v : Value} {l : List Int} {B : Nat} (h : w.ownsRow B t 1 v l.length (l.map (Value.int .u8))) (hne : 1 ≤ l.length) : ∃ g c, v = .slice (some ⟨g, 0, none⟩) l.length c ∧ l.length ≤ c ∧ g < w.heap.size ∧ Lie w g 0 l := by
 have hr := reads_own (k := .u8) h
 obtain ⟨_, _, _, hc, _⟩ := id hr
 have h' := h
 rcases h.2 with ⟨_, h0⟩ | ⟨g, cap, cur, e, _⟩
 ·omega
 ·subst e
  obtain ⟨A, c, e1, hc, hk⟩ := hr
  cases e1
  obtain ⟨z, hz⟩ : ∃ z, l[0]? = some z := ⟨_, List.getElem?_eq_getElem hne⟩
  obtain ⟨b, off, e2, hb, _⟩ := hk 0 z hz
  cases e2
  refine ⟨g, cap, rfl, hc, hb, fun i z hz => ?_⟩
  obtain ⟨b, off, e2, _, h3⟩ := hk i z hz
  cases e2
  exact h3
theorem lie_below {w w' : World} {g : Nat} {l : List Int} (h : Lie w g 0 l) (hg : g < w.heap.size) (hb : Below w.heap.size w w') : Lie w' g 0 l := fun i z hz => (hb.cell (p := ⟨g, 0 + i, none⟩) hg).trans (h i z hz)
theorem same_iff {s t : Sg} : sameB s t = true ↔ s = t := by
 obtain ⟨k, R, a, r, n, d, V, e⟩ := s
 obtain ⟨k2, R2, a2, r2, n2, d2, V2, e2⟩ := t
 unfold sameB
 simp only [decide_eq_true_eq, Sg.mk.injEq]
 constructor
 ·rintro ⟨rfl, rfl, rfl, rfl, rfl, rfl, rfl, rfl⟩
  exact ⟨rfl, rfl, rfl, rfl, rfl, rfl, rfl, rfl⟩
 ·rintro ⟨rfl, rfl, rfl, rfl, rfl, rfl, rfl, rfl⟩
  exact ⟨rfl, rfl, rfl, rfl, rfl, rfl, rfl, rfl⟩
theorem pref_not {s t : Sg} (hs : segB s = true) (ht : segB t = true) (h : sameB s t = false) : prefB (segBytes t) (segBytes s) = false := by
 unfold prefB
 refine decide_eq_false fun hp => ?_
 obtain ⟨B, hB⟩ := hp
 rw [same_iff.2 (seg_prefix hs ht hB.symm)] at h
 cases h
theorem pref_not2 {s t : Sg} (hs : segB s = true) (ht : segB t = true) (h : sameB s t = false) : prefB (segBytes s) (segBytes t) = false := by
 unfold prefB
 refine decide_eq_false fun hp => ?_
 obtain ⟨B, hB⟩ := hp
 rw [same_iff.2 (seg_prefix ht hs hB.symm).symm] at h
 cases h
theorem u_b {z : Int} (h : z ≤ 9223372036854775807) : ∀ x ∈ uBytes z, 0 ≤ x ∧ x < 256 := digs_b (by omega)
theorem s_b {z : Int} (h : sOk z) : ∀ x ∈ sBytes z, 0 ≤ x ∧ x < 256 := digs_b (by have := h.1; have := h.2; unfold Lib.zigzag; split <;> omega)
theorem encR_b : ∀ (l : List Rn) (a : Int), Goes a l → ∀ x ∈ encR a l, 0 ≤ x ∧ x < 256
 | [], _, _, x, hx => by rw [encR] at hx; cases hx
 | r :: l, a, h, x, hx => by
  obtain ⟨⟨r1, r2, r3, r4, r5, r6, r7⟩, ha, haf, h1, hg⟩ := h
  rw [encR] at hx
  rcases List.mem_append.1 hx with hx | hx
  ·exact u_b (by omega) x hx
  rcases List.mem_append.1 hx with hx | hx
  ·exact u_b (by omega) x hx
  ·split at hx
   ·cases hx
   ·rcases List.mem_append.1 hx with hx | hx
    ·exact u_b (by omega) x hx
    ·exact encR_b l _ hg x hx
theorem seg_b {s : Sg} (h : segB s = true) : ∀ x ∈ segBytes s, 0 ≤ x ∧ x < 256 := by
 obtain ⟨h1, h2, h3, h4, h5⟩ := (segB_iff s).1 h
 obtain ⟨_, _, _, f4⟩ := P7.okB_facts h1
 have hk : s.k ≤ 4 := by rcases segB_kind h with ⟨g, _⟩ | ⟨g, _⟩ <;> omega
 intro x hx
 unfold segBytes at hx
 rcases List.mem_append.1 hx with hx | hx
 ·rcases List.mem_append.1 hx with hx | hx
  ·rcases List.mem_append.1 hx with hx | hx
   ·exact u_b (by omega) x hx
   ·rcases List.mem_append.1 hx with hx | hx
    ·exact u_b (by omega) x hx
    ·exact u_b (by omega) x hx
  ·exact encR_b s.R 0 (goes_ok h1) x hx
 ·unfold restBytes at hx
  rcases segB_kind h with ⟨g, _, hv⟩ | ⟨g, g4, hl, _⟩
  ·rw [g, if_neg (by decide), if_neg (by decide), if_neg (by decide)] at hx
   obtain ⟨z, hz, hx⟩ := List.mem_flatMap.1 hx
   exact s_b (diffs_ok s.V 0 (by unfold Near61; omega) (fun v hv' => backB_near.1 (h5 v (by rw [hv]; exact hv'))) z hz) x hx
  ·obtain ⟨_, hb, _⟩ := (lineOk_iff s).1 hl
   obtain ⟨oa, or, on, od⟩ := line_oks hb
   have q1 := s_b oa
   have q2 := s_b on
   have q3 := u_b od.2
   have q4 := u_b or.2
   split at hx
   ·exact q1 x hx
   split at hx
   ·rcases List.mem_append.1 hx with hx | hx
    ·exact q2 x hx
    rcases List.mem_append.1 hx with hx | hx
    ·exact q3 x hx
    ·exact q1 x hx
   split at hx
   ·rcases List.mem_append.1 hx with hx | hx
    ·exact q4 x hx
    rcases List.mem_append.1 hx with hx | hx
    ·exact q2 x hx
    rcases List.mem_append.1 hx with hx | hx
    ·exact q3 x hx
    ·exact q1 x hx
   ·exact absurd g (by omega)
theorem readsR_nil12 {w : World} : ReadsR w (.slice none 0 0) [] := ⟨none, 0, rfl, Nat.le_refl _, fun i r hi => by simp at hi⟩
set_option maxRecDepth 100000 in
set_option maxHeartbeats 8000000 in
theorem alone12_any (b : List Int) (hbl : b.length ≤ 9223372036854775807) (hbb : ∀ z ∈ b, 0 ≤ z ∧ z < 256) (s : Sg) (hR : s.R.length ≤ 9223372036854775807) (hV : s.V.length ≤ 9223372036854775807) (bv v u : Value) (w : World) (hb : Reads .u8 w bv b) (h : ReadsR w v s.R) (hu : Reads .i64 w u s.V) :
  Calls Tryz.prog 12 #[bv, sgV s.k v s.a s.r s.n s.d u s.e] w (Ret w (.bool true)) := by
 have WK := Lib.hid (fun W => wakes12_any W)
 have FW := Lib.hid (fun W (hB : Below w.heap.size w W) => few_any b hbl bv W (hb.below hB))
 have OW := Lib.hid (fun W (hB : Below w.heap.size w W) => own12_any s hR hV v u W (h.below hB) (hu.below hB))
 have hLb : ∀ z ∈ b.take 3000, 0 ≤ z ∧ z < 256 := fun z hz => hbb z (List.mem_of_mem_take hz)
 have hLl : (b.take 3000).length ≤ 3000 := by rw [List.length_take]; omega
 have t1 : (cutS s).R.length ≤ 257 := by simp [cutS]; omega
 have t2 : (cutS s).V.length ≤ 257 := by simp [cutS]; omega
 have EN := Lib.hid (fun v u W hv hu => encode_any (cutS s) (by omega) (by omega) v u W hv hu)
 have GT := Lib.hid (fun v W hr => sget_any (b.take 3000) (by omega) hLb 0 v W hr)
 unfold Own12 at OW
 unfold EncS at EN
 generalize cutS s = t at *
 generalize b.take 3000 = L at *
 obtain ⟨k0, R0, a0, r0, nn0, d0, V0, e0⟩ := s
 obtain ⟨Av, cv, rfl, _, _⟩ := id h
 obtain ⟨Au, cu, rfl, _, _⟩ := id hu
 obtain ⟨Ab, cb, rfl, _, _⟩ := id hb
 simp only at *
 clear h hu hb hR hV hbl hbb
 go_enter Tryz.func12, Tryz.ntmps12
 go_wp2_with fail
 refine (WK.out _).mono ?_
 rintro e w1 ⟨rfl, hb1⟩
 have K1 := (new_seg (Below.refl _ w) 27 k0 (.slice Av R0.length cv) a0 r0 nn0 d0 (.slice Au V0.length cu) e0).next hb1
 clear hb1 WK
 go_wp2_with fail
 refine (FW.out _ K1.1).mono ?_
 rintro e w2 ⟨fv, rfl, hb2, ho2⟩
 have rF := reads_own (k := .u8) ho2
 obtain ⟨Af, cf, rfl, hcf, _⟩ := id rF
 replace K1 := K1.next hb2
 clear hb2 ho2 FW
 have G1 := GT.out _ w2 rF
 go_wp2_with fail
 refine G1.mono ?_
 rintro e w3 hq
 obtain ⟨hb3,⟨c,hg,rfl⟩ | ⟨s1,p1,A1,_,c1,A2,_,c2,hg,rfl,hO,hV⟩⟩ := hq.ways
 ·have hc := getS_err hg
  have t0 : (c == 0) = false := by simpa using hc
  replace K1 := (K1.next hb3).next (below_alloc w3 (sgO 27 0 (.slice none 0 0) 0 0 0 0 (.slice none 0 0) 0))
  have K3 := new_seg (Below.refl _ w3) 27 0 (.slice none 0 0) 0 0 0 0 (.slice none 0 0) 0
  have SM := P11.sameS_any emptyS emptyS (by decide) (by decide) (.slice none 0 0) (.slice none 0 0) (.slice none 0 0) (.slice none 0 0) (w3.alloc (sgO 27 0 (.slice none 0 0) 0 0 0 0 (.slice none 0 0) 0)) readsR_nil12 Reads.nil readsR_nil12 Reads.nil
  rw [same_refl] at SM
  clear G1 hq hg GT EN OW hb3
  go_upto_region 5 with (fail)
  generalize w3.alloc (sgO 27 0 (.slice none 0 0) 0 0 0 0 (.slice none 0 0) 0) = w4 at *
  obtain ⟨⟨kz0,kc0,kf0⟩,⟨kz1,kc1,kf1⟩,⟨kz2,kc2,kf2⟩,⟨kz3,kc3,kf3⟩,⟨kz4,kc4,kf4⟩,⟨kz5,kc5,kf5⟩,⟨kz6,kc6,kf6⟩,⟨kz7,kc7,kf7⟩,_⟩ := id K3.2
  go_wp2_with fail
  refine SM.mono ?_
  rintro e w5 ⟨rfl, hb5⟩
  go_wp2_with fail
  go_returns
  exact ⟨rfl, (K1.next hb5).1⟩
 ·obtain ⟨hs1, hp1, h1p, B1, hB1⟩ := getS_has hLb hg
  have hN : (segBytes s1).length ≤ L.length := by rw [hB1, List.length_append]; omega
  have hT : L.take (segBytes s1).length = segBytes s1 := by rw [hB1]; simp
  have rR := readR_own hO
  have rV := reads_own (k := .i64) hV
  obtain ⟨_, _, f1, _⟩ := id rR
  cases f1
  obtain ⟨_, _, f1, _⟩ := id rV
  cases f1
  obtain ⟨m1, m2⟩ : s1.R.length ≤ 256 ∧ s1.V.length ≤ 256 := by
   obtain ⟨g1, _, _, g4, _⟩ := (segB_iff s1).1 hs1
   obtain ⟨_, _, f3, f4⟩ := P7.okB_facts g1
   refine ⟨f4, ?_⟩
   rcases segB_kind hs1 with ⟨_, hr, _⟩ | ⟨_, _, hl, _⟩
   ·have := ((rawOk_iff s1).1 hr).2
    omega
   ·rw [((lineOk_iff s1).1 hl).1]
    simp
  have CK := Lib.hid (fun v u W hv hu => P11.check_any s1 (by omega) (by omega) v u W hv hu)
  have EN1 := Lib.hid (fun v u W hv hu => encode_any s1 (by omega) (by omega) v u W hv hu)
  have SM := Lib.hid (fun v u v2 u2 W hv hu hv2 hu2 => P11.sameS_any s1 t (by omega) (by omega) v u v2 u2 W hv hu hv2 hu2)
  have PF := Lib.hid (fun ht hs => pref_not (s := s1) (t := t) hs1 ht hs)
  have PF2 := Lib.hid (fun ht hs => pref_not2 (s := s1) (t := t) hs1 ht hs)
  have SB1 := Lib.hid (seg_b hs1)
  have SB2 := Lib.hid (fun ht => seg_b (s := t) ht)
  have SL2 := Lib.hid (fun ht => (seg_small (s := t) ht).1)
  have hlb : laidB t = if segB t then segBytes t else [] := rfl
  have hle : layE t = if segB t then 0 else 210 := rfl
  unfold EncS laidB layE at EN1
  rw [hs1] at CK EN1
  simp only [if_true] at CK EN1
  have hx1 : ¬ ((p1 : Int) < 1) := by omega
  have hx2 : ¬ ((L.length : Int) < p1) := by omega
  subst hp1
  obtain ⟨k1, R1, a1, r1, nn1, d1, V1, e1⟩ := s1
  obtain ⟨k2, R2, a2, r2, nn2, d2, V2, e2⟩ := t
  simp only at *
  generalize hq1 : segBytes ⟨k1, R1, a1, r1, nn1, d1, V1, e1⟩ = B1' at *
  generalize hq2 : segBytes ⟨k2, R2, a2, r2, nn2, d2, V2, e2⟩ = B2' at *
  generalize hq3 : segB ⟨k2, R2, a2, r2, nn2, d2, V2, e2⟩ = sb at *
  generalize hq4 : laidB ⟨k2, R2, a2, r2, nn2, d2, V2, e2⟩ = LB at *
  generalize hq5 : layE ⟨k2, R2, a2, r2, nn2, d2, V2, e2⟩ = LE at *
  generalize hq6 : sameB ⟨k1, R1, a1, r1, nn1, d1, V1, e1⟩ ⟨k2, R2, a2, r2, nn2, d2, V2, e2⟩ = sm at *
  replace hlb := Lib.hid hlb
  replace hle := Lib.hid hle
  replace hT := Lib.hid hT
  clear hq1 hq2 hq3 hq4 hq5 hq6 hs1 hB1 hq hg G1 GT hO hV
  have K3 := (K1.next hb3).next (below_alloc w3 (sgO 27 k1 (.slice A1 R1.length c1) a1 r1 nn1 d1 (.slice A2 V1.length c2) e1))
  have K4 := K3.app (new_seg (K1.next hb3).1 27 k1 (.slice A1 R1.length c1) a1 r1 nn1 d1 (.slice A2 V1.length c2) e1)
  replace rF := (rF.below hb3).below (below_alloc w3 (sgO 27 k1 (.slice A1 R1.length c1) a1 r1 nn1 d1 (.slice A2 V1.length c2) e1))
  replace rR := rR.below (below_alloc w3 (sgO 27 k1 (.slice A1 R1.length c1) a1 r1 nn1 d1 (.slice A2 V1.length c2) e1))
  replace rV := rV.below (below_alloc w3 (sgO 27 k1 (.slice A1 R1.length c1) a1 r1 nn1 d1 (.slice A2 V1.length c2) e1))
  clear K1 K3 hb3
  go_upto_region 5 with (fail)
  generalize w3.alloc (sgO 27 k1 (.slice A1 R1.length c1) a1 r1 nn1 d1 (.slice A2 V1.length c2) e1) = w4 at *
  generalize w3.heap.size = b3 at *
  obtain ⟨⟨kz0,kc0,kf0⟩,⟨kz1,kc1,kf1⟩,⟨kz2,kc2,kf2⟩,⟨kz3,kc3,kf3⟩,⟨kz4,kc4,kf4⟩,⟨kz5,kc5,kf5⟩,⟨kz6,kc6,kf6⟩,⟨kz7,kc7,kf7⟩,⟨kz8,kc8,kf8⟩,⟨kz9,kc9,kf9⟩,⟨kz10,kc10,kf10⟩,⟨kz11,kc11,kf11⟩,⟨kz12,kc12,kf12⟩,⟨kz13,kc13,kf13⟩,⟨kz14,kc14,kf14⟩,⟨kz15,kc15,kf15⟩,_⟩ := id K4.2
  have C1 := CK.out _ _ w4 rR rV
  go_wp2_with fail
  refine C1.mono ?_
  rintro e w5 ⟨rfl, hb5⟩
  replace K4 := K4.next hb5
  replace rF := rF.below hb5
  replace rR := rR.below hb5
  replace rV := rV.below hb5
  clear kz0 kc0 kf0 kz1 kc1 kf1 kz2 kc2 kf2 kz3 kc3 kf3 kz4 kc4 kf4 kz5 kc5 kf5 kz6 kc6 kf6 kz7 kc7 kf7 kz8 kc8 kf8 kz9 kc9 kf9 kz10 kc10 kf10 kz11 kc11 kf11 kz12 kc12 kf12 kz13 kc13 kf13 kz14 kc14 kf14 kz15 kc15 kf15 hb5 C1 CK
  obtain ⟨⟨kz0,kc0,kf0⟩,⟨kz1,kc1,kf1⟩,⟨kz2,kc2,kf2⟩,⟨kz3,kc3,kf3⟩,⟨kz4,kc4,kf4⟩,⟨kz5,kc5,kf5⟩,⟨kz6,kc6,kf6⟩,⟨kz7,kc7,kf7⟩,⟨kz8,kc8,kf8⟩,⟨kz9,kc9,kf9⟩,⟨kz10,kc10,kf10⟩,⟨kz11,kc11,kf11⟩,⟨kz12,kc12,kf12⟩,⟨kz13,kc13,kf13⟩,⟨kz14,kc14,kf14⟩,⟨kz15,kc15,kf15⟩,_⟩ := id K4.2
  have E1 := EN1.out _ _ w5 rR rV
  go_wp2_with fail
  refine E1.mono ?_
  rintro e w6 ⟨sv, rfl, hb6, ho6⟩
  replace K4 := K4.next hb6
  replace rF := rF.below hb6
  replace rR := rR.below hb6
  replace rV := rV.below hb6
  clear kz0 kc0 kf0 kz1 kc1 kf1 kz2 kc2 kf2 kz3 kc3 kf3 kz4 kc4 kf4 kz5 kc5 kf5 kz6 kc6 kf6 kz7 kc7 kf7 kz8 kc8 kf8 kz9 kc9 kf9 kz10 kc10 kf10 kz11 kc11 kf11 kz12 kc12 kf12 kz13 kc13 kf13 kz14 kc14 kf14 kz15 kc15 kf15 hb6 E1 EN1
  have r6 := reads_own (k := .u8) ho6
  obtain ⟨g6, c6, rfl, hc6, hg6, hl6⟩ := made_lie ho6 h1p
  have hcN : (B1'.length : Int) ≤ (cf : Int) := by omega
  have h0N : (0 : Int) ≤ (B1'.length : Int) := by omega
  have rT := reads_take rF B1'.length hN
  rw [hT.out] at rT
  have EQ := equalB B1' B1' (by omega) _ _ w6 r6 rT
  rw [eqB_true rfl] at EQ
  clear ho6 rT hT
  obtain ⟨⟨kz0,kc0,kf0⟩,⟨kz1,kc1,kf1⟩,⟨kz2,kc2,kf2⟩,⟨kz3,kc3,kf3⟩,⟨kz4,kc4,kf4⟩,⟨kz5,kc5,kf5⟩,⟨kz6,kc6,kf6⟩,⟨kz7,kc7,kf7⟩,⟨kz8,kc8,kf8⟩,⟨kz9,kc9,kf9⟩,⟨kz10,kc10,kf10⟩,⟨kz11,kc11,kf11⟩,⟨kz12,kc12,kf12⟩,⟨kz13,kc13,kf13⟩,⟨kz14,kc14,kf14⟩,⟨kz15,kc15,kf15⟩,_⟩ := id K4.2
  go_wp2_with fail
  refine EQ.mono ?_
  rintro e w7 ⟨rfl, hb7⟩
  replace K4 := K4.next hb7
  replace rF := rF.below hb7
  replace rR := rR.below hb7
  replace rV := rV.below hb7
  replace hl6 := lie_below hl6 hg6 hb7
  replace hg6 := Nat.lt_of_lt_of_le hg6 hb7.size
  clear kz0 kc0 kf0 kz1 kc1 kf1 kz2 kc2 kf2 kz3 kc3 kf3 kz4 kc4 kf4 kz5 kc5 kf5 kz6 kc6 kf6 kz7 kc7 kf7 kz8 kc8 kf8 kz9 kc9 kf9 kz10 kc10 kf10 kz11 kc11 kf11 kz12 kc12 kf12 kz13 kc13 kf13 kz14 kc14 kf14 kz15 kc15 kf15 hb7 EQ r6 rF hcN h0N hN hcf
  obtain ⟨⟨kz0,kc0,kf0⟩,⟨kz1,kc1,kf1⟩,⟨kz2,kc2,kf2⟩,⟨kz3,kc3,kf3⟩,⟨kz4,kc4,kf4⟩,⟨kz5,kc5,kf5⟩,⟨kz6,kc6,kf6⟩,⟨kz7,kc7,kf7⟩,⟨kz8,kc8,kf8⟩,⟨kz9,kc9,kf9⟩,⟨kz10,kc10,kf10⟩,⟨kz11,kc11,kf11⟩,⟨kz12,kc12,kf12⟩,⟨kz13,kc13,kf13⟩,⟨kz14,kc14,kf14⟩,⟨kz15,kc15,kf15⟩,_⟩ := id K4.2
  go_wp2_with fail
  refine (OW.out _ K4.1).mono ?_
  rintro e w8 ⟨A3, n3, c3, A4, n4, c4, rfl, hb8, hO, hV⟩
  have qR := readR_own hO
  have qV := reads_own (k := .i64) hV
  obtain ⟨_, _, f1, _⟩ := id qR
  cases f1
  obtain ⟨_, _, f1, _⟩ := id qV
  cases f1
  have K5 := (K4.next hb8).next (below_alloc w8 (sgO 27 k2 (.slice A3 R2.length c3) a2 r2 nn2 d2 (.slice A4 V2.length c4) e2))
  have K6 := K5.app (new_seg (K4.next hb8).1 27 k2 (.slice A3 R2.length c3) a2 r2 nn2 d2 (.slice A4 V2.length c4) e2)
  replace rR := (rR.below hb8).below (below_alloc w8 (sgO 27 k2 (.slice A3 R2.length c3) a2 r2 nn2 d2 (.slice A4 V2.length c4) e2))
  replace rV := (rV.below hb8).below (below_alloc w8 (sgO 27 k2 (.slice A3 R2.length c3) a2 r2 nn2 d2 (.slice A4 V2.length c4) e2))
  replace qR := qR.below (below_alloc w8 (sgO 27 k2 (.slice A3 R2.length c3) a2 r2 nn2 d2 (.slice A4 V2.length c4) e2))
  replace qV := qV.below (below_alloc w8 (sgO 27 k2 (.slice A3 R2.length c3) a2 r2 nn2 d2 (.slice A4 V2.length c4) e2))
  replace hl6 := lie_below (lie_below hl6 hg6 hb8) (Nat.lt_of_lt_of_le hg6 hb8.size) (below_alloc w8 (sgO 27 k2 (.slice A3 R2.length c3) a2 r2 nn2 d2 (.slice A4 V2.length c4) e2))
  replace hg6 := Nat.lt_of_lt_of_le (Nat.lt_of_lt_of_le hg6 hb8.size) (below_alloc w8 (sgO 27 k2 (.slice A3 R2.length c3) a2 r2 nn2 d2 (.slice A4 V2.length c4) e2)).size
  clear K4 K5 hb8 hO hV OW kz0 kc0 kf0 kz1 kc1 kf1 kz2 kc2 kf2 kz3 kc3 kf3 kz4 kc4 kf4 kz5 kc5 kf5 kz6 kc6 kf6 kz7 kc7 kf7 kz8 kc8 kf8 kz9 kc9 kf9 kz10 kc10 kf10 kz11 kc11 kf11 kz12 kc12 kf12 kz13 kc13 kf13 kz14 kc14 kf14 kz15 kc15 kf15
  go_upto_region 13 with (fail)
  generalize w8.alloc (sgO 27 k2 (.slice A3 R2.length c3) a2 r2 nn2 d2 (.slice A4 V2.length c4) e2) = w9 at *
  generalize w8.heap.size = b9 at *
  obtain ⟨⟨kz0,kc0,kf0⟩,⟨kz1,kc1,kf1⟩,⟨kz2,kc2,kf2⟩,⟨kz3,kc3,kf3⟩,⟨kz4,kc4,kf4⟩,⟨kz5,kc5,kf5⟩,⟨kz6,kc6,kf6⟩,⟨kz7,kc7,kf7⟩,⟨kz8,kc8,kf8⟩,⟨kz9,kc9,kf9⟩,⟨kz10,kc10,kf10⟩,⟨kz11,kc11,kf11⟩,⟨kz12,kc12,kf12⟩,⟨kz13,kc13,kf13⟩,⟨kz14,kc14,kf14⟩,⟨kz15,kc15,kf15⟩,⟨kz16,kc16,kf16⟩,⟨kz17,kc17,kf17⟩,⟨kz18,kc18,kf18⟩,⟨kz19,kc19,kf19⟩,⟨kz20,kc20,kf20⟩,⟨kz21,kc21,kf21⟩,⟨kz22,kc22,kf22⟩,⟨kz23,kc23,kf23⟩,_⟩ := id K6.2
  have E2 := EN.out _ _ w9 qR qV
  go_wp2_with fail
  refine E2.mono ?_
  rintro e w10 ⟨ov, rfl, hb10, ho10⟩
  replace K6 := K6.next hb10
  replace rR := rR.below hb10
  replace rV := rV.below hb10
  replace qR := qR.below hb10
  replace qV := qV.below hb10
  replace hl6 := lie_below hl6 hg6 hb10
  replace hg6 := Nat.lt_of_lt_of_le hg6 hb10.size
  clear kz0 kc0 kf0 kz1 kc1 kf1 kz2 kc2 kf2 kz3 kc3 kf3 kz4 kc4 kf4 kz5 kc5 kf5 kz6 kc6 kf6 kz7 kc7 kf7 kz8 kc8 kf8 kz9 kc9 kf9 kz10 kc10 kf10 kz11 kc11 kf11 kz12 kc12 kf12 kz13 kc13 kf13 kz14 kc14 kf14 kz15 kc15 kf15 kz16 kc16 kf16 kz17 kc17 kf17 kz18 kc18 kf18 kz19 kc19 kf19 kz20 kc20 kf20 kz21 kc21 kf21 kz22 kc22 kf22 kz23 kc23 kf23 hb10 E2 EN
  obtain ⟨⟨kz0,kc0,kf0⟩,⟨kz1,kc1,kf1⟩,⟨kz2,kc2,kf2⟩,⟨kz3,kc3,kf3⟩,⟨kz4,kc4,kf4⟩,⟨kz5,kc5,kf5⟩,⟨kz6,kc6,kf6⟩,⟨kz7,kc7,kf7⟩,⟨kz8,kc8,kf8⟩,⟨kz9,kc9,kf9⟩,⟨kz10,kc10,kf10⟩,⟨kz11,kc11,kf11⟩,⟨kz12,kc12,kf12⟩,⟨kz13,kc13,kf13⟩,⟨kz14,kc14,kf14⟩,⟨kz15,kc15,kf15⟩,⟨kz16,kc16,kf16⟩,⟨kz17,kc17,kf17⟩,⟨kz18,kc18,kf18⟩,⟨kz19,kc19,kf19⟩,⟨kz20,kc20,kf20⟩,⟨kz21,kc21,kf21⟩,⟨kz22,kc22,kf22⟩,⟨kz23,kc23,kf23⟩,_⟩ := id K6.2
  replace hlb := hlb.out
  replace hle := hle.out
  cases sb
  ·simp only [Bool.false_eq_true, if_false] at hle
   subst hle
   clear hlb ho10
   go_wp2_with fail
   go_returns
   exact ⟨rfl, K6.1⟩
  ·simp only [if_true] at hlb hle
   subst hle
   subst hlb
   have S1 := SM.out _ _ _ _ w10 rR rV qR qV
   cases sm
   ·have q1 := PF.out rfl rfl
    have q2 := PF2.out rfl rfl
    obtain ⟨g9, c9, rfl, hc9, hg9, hl9⟩ := made_lie ho10 (SL2.out rfl)
    clear ho10 PF PF2 SL2 SM
    go_wp2_with fail
    refine S1.mono ?_
    rintro e w11 ⟨rfl, hb11⟩
    have P1 := hasPrefix LB B1' (SB2.out (by trivial)) SB1.out g9 0 c9 g6 0 c6 w11 hc9 (lie_below hl9 hg9 hb11) (lie_below hl6 hg6 hb11)
    rw [q1] at P1
    go_wp2_with fail
    refine P1.mono ?_
    rintro e w12 ⟨rfl, hb12⟩
    have P2 := hasPrefix B1' LB SB1.out (SB2.out (by trivial)) g6 0 c6 g9 0 c9 w12 hc6 (lie_below (lie_below hl6 hg6 hb11) (Nat.lt_of_lt_of_le hg6 hb11.size) hb12) (lie_below (lie_below hl9 hg9 hb11) (Nat.lt_of_lt_of_le hg9 hb11.size) hb12)
    rw [q2] at P2
    go_wp2_with fail
    refine P2.mono ?_
    rintro e w13 ⟨rfl, hb13⟩
    go_wp2_with fail
    go_returns
    exact ⟨rfl, (((K6.next hb11).next hb12).next hb13).1⟩
   ·clear ho10 PF PF2 SL2 SM
    go_wp2_with fail
    refine S1.mono ?_
    rintro e w11 ⟨rfl, hb11⟩
    go_wp2_with fail
    go_returns
    exact ⟨rfl, (K6.next hb11).1⟩
end Go.Proofs.YtcfidimnbamnkaaGreat.P12
